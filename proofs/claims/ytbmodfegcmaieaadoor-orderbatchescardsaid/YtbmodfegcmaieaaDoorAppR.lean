/- wire.appendRound, onto a row that the call owns. -/
import Derived.Test.YtbmodfegcmaieaaDoorGrew
namespace Go.Proofs.YtbmodfegcmaieaaDoor
open Go.RowKit

/-- P2.6: a round, or a number: three bytes, the highest one first. -/
def rd3 (n : Int) : List Int := [n / 65536, n / 256 % 256, n % 256]
set_option maxRecDepth 100000 in
set_option maxHeartbeats 400000 in
theorem appendRound_any (base : Nat) (v : Value) (k : Nat) (bs : List Int) (n : Int) (w : World) (hn : 0 ≤ n ∧ n ≤ 1048576) (ho : w.ownsRow base 5 1 v k (ub bs)) (hB : base ≤ w.heap.size) (hk : k ≤ 100000) :
    Calls Tryd.prog 85 #[v, .int .i64 n] w fun e w' => ∃ v', e = .returned v' ∧ w'.ownsRow base 5 1 v' (k + 3) (ub (bs ++ rd3 n)) ∧ Grew w v w' v' := by
  obtain ⟨i, hi, hz0, hz1, hz2⟩ := info_parts infoU8
  obtain ⟨hn0, hn1⟩ := hn
  go_enter Tryd.func85, Tryd.ntmps85
  go_wp2_with (at_builtin; (refine wpList_append_own_at _ rfl _ _ 46 rfl base 5 i (.int .u8 0) 1 1 Tryd.underlying46 hi hz0 hz1 hz2 rfl (by decide) _ k _ rfl (World.ownsRow.alloc ho _) ⟨w.heap.size, 0, none⟩ 3 3 [.int .u8 (n / 65536), .int .u8 (n / 256 % 256), .int .u8 (n % 256)] rfl rfl (cells_new _ _ _) (u8_one [_, _, _]) (by unfold maxLen; omega) (by omega) (le_alloc hB _) ?_; intro v1 w1 ho1 hg1 _ hat))
  go_ret
  exact ⟨v1, rfl, by simpa [ub, rd3] using ho1, (Grew.of hg1 hat).alloc⟩
end Go.Proofs.YtbmodfegcmaieaaDoor
