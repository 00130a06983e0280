/- pool.joined: a list of its own, of two. -/
import Derived.Test.YtikolpdedmhljaaTxA
namespace Go.Proofs.Ytikolpdedmhljaa
open Go.RowKit

set_option maxRecDepth 100000 in
set_option maxHeartbeats 1000000 in
theorem joined_any (xs ys : List ByteArray) (sa sb : Option Addr) (n m ca cb : Nat) (w : World) (hn : n = xs.length) (hm : m = ys.length) (hx : TxsAt w sa ca xs) (hy : TxsAt w sb cb ys) (hl : (n + m) * 16 ≤ 140737488355328) :
    Calls Try.prog 33 #[.slice sa n ca, .slice sb m cb] w fun e w' => ∃ v, e = .returned v ∧ w'.ownsRow w.heap.size 9 1 v (n + m) (sv (xs ++ ys)) ∧ Below w.heap.size w w' := by
  obtain ⟨i, hi, hz0, hz1, hz2⟩ := info_parts infoStr
  have Hn : Hid (n = xs.length) := hn
  have Hm : Hid (m = ys.length) := hm
  clear hn hm
  have hnI : (n : Int) + m ≤ 9223372036854775807 := by omega
  go_enter Try.func33, Try.ntmps33
  go_wp2_with (first
    | (at_make; refine wpList_make_own _ rfl _ _ 22 rfl w.heap.size 9 i (.string ByteArray.empty) 1 Try.underlying22 hi hz0 hz1 .i64 .i64 _ (n + m) rfl rfl (by go_num) (by rw [hz2]; omega) (by unfold maxLen; omega) (Nat.le_refl _) ?_; intro w1 ho1 hg1; have b1 := grown_none hg1)
    | (at_builtin; refine wpList_append_txs rfl _ _ rfl w.heap.size v2 (0 + n) xs rfl ho2 sb m cb ys rfl Hm.out (hy.below b2) (by omega) b2.size ?_; intro v3 w3 ho3 hg3; have b3 := Below.grown b2 hg3 b2.size (fun q e => (ho2.lt q e).1))
    | (at_builtin; refine wpList_append_txs rfl _ _ rfl w.heap.size _ 0 [] rfl ho1 sa n ca xs rfl Hn.out (hx.below b1) (by omega) b1.size ?_; intro v2 w2 ho2 hg2; have b2 := Below.grown b1 hg2 b1.size (fun q e => (ho1.lt q e).1)))
  go_ret
  refine ⟨v3, rfl, ?_, b3⟩
  rw [Nat.zero_add] at ho3
  exact ho3
end Go.Proofs.Ytikolpdedmhljaa
