/- The document's textsCopy: new memory. -/
import Derived.Test.YtikolpdedmhljaaTxA
import Derived.Test.YtikolpdedmhljaaSx
namespace Go.Proofs.Ytikolpdedmhljaa
open Go.RowKit

set_option maxRecDepth 100000 in
set_option maxHeartbeats 1000000 in
theorem textsCopy_own (ss : List ByteArray) (sa : Option Addr) (n cap : Nat) (w : World) (hn : n = ss.length) (hs : TxsAt w sa cap ss) (hl : n * 16 ≤ 140737488355328) :
    Calls Try.prog 34 #[.slice sa n cap] w fun e w' => ∃ v, e = .returned v ∧ w'.ownsRow w.heap.size 9 1 v n (sv ss) ∧ Below w.heap.size w w' := by
  subst hn
  obtain ⟨i, hi, hz0, hz1, hz2⟩ := info_parts infoStr
  go_enter Try.func34, Try.ntmps34
  go_wp2_with fail
  go_loopw [3, 4] (fun v j wr => ∃ k : Nat, k ≤ ss.length ∧ j = .int .i64 k ∧ Below w.heap.size w wr ∧ wr.ownsRow w.heap.size 9 1 v k (sv (ss.take k))) (fun _ j _ => ss.length - (intOf j).toNat)
  case atStart => exact ⟨0, Nat.zero_le _, rfl, Below.refl _ _, World.ownsRow_nil _ _ _ _⟩
  case round =>
    obtain ⟨k, hk, rfl, hW, ho⟩ := hrel
    by_cases hlt : k < ss.length
    · obtain ⟨sb, so, rfl, hc⟩ : ∃ sb so, sa = some ⟨sb, so, none⟩ ∧ ∀ j, j < ss.length → wr.cell? ⟨sb, so + j, none⟩ = some (.string (ss.getD j ByteArray.empty)) := by
        rcases (hs.strs.below hW).cells with h | h
        · rw [h] at hlt; simp at hlt
        · exact h
      have ck := hc k hlt
      have hltI : (k : Int) < ss.length := by omega
      have hst : Hid (ss.take (k + 1) = ss.take k ++ [ss.getD k ByteArray.empty]) := by show _ = _; rw [List.take_succ_eq_append_getElem hlt]; simp [List.getD, hlt]
      clear hc hs
      generalize ss.getD k ByteArray.empty = x at *
      generalize ss.take k = T at *
      go_wp2_with (at_builtin; refine wpList_append_own _ rfl _ _ 22 rfl w.heap.size 9 i (.string ByteArray.empty) 1 16 Try.underlying22 hi hz0 hz1 hz2 rfl (by decide) _ k (sv T) rfl (World.ownsRow.alloc ho _) ⟨wr.heap.size, 0, none⟩ 1 1 [.string x] rfl rfl (cells_new _ _ _) (sv_one [x]) (by unfold maxLen; omega) (by omega) (le_alloc hW.size _) ?_; intro v1 w1 ho1 hg1 _)
      go_roundw
      case rel => exact ⟨k + 1, by omega, by go_num, Below.grown (hW.alloc hW.size _) hg1 (le_alloc hW.size _) (fun q e => (ho.lt q e).1), by rw [hst.out, sv_app]; exact ho1⟩
      case measure => simp [intOf]; omega
    · obtain rfl : k = ss.length := by omega
      rw [List.take_of_length_le (Nat.le_refl _)] at ho
      have hltI : ¬ (ss.length : Int) < ss.length := by omega
      go_wp2_with fail
      go_ret
      exact ⟨_, rfl, ho, hW⟩
end Go.Proofs.Ytikolpdedmhljaa
