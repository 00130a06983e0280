/- wire.CheckSlot and the document's SlotFault: what they answer, for every slot: the same. -/
import Derived.Test.YtlpaghkofljnfaaDoorIns
namespace Go.Proofs.YtlpaghkofljnfaaDoor
open Go.RowKit

/-- P2.5 -/
def slotF (au rd : Int) (n : Nat) : Int := if ¬ (0 ≤ au ∧ au < 4) ∨ ¬ (1 ≤ rd ∧ rd ≤ 1048576) then 2 else if n ≠ 32 then 4 else 0
set_option maxRecDepth 100000 in
set_option maxHeartbeats 1000000 in
theorem checkSlot_any (au rd : Int) (sa : Option Addr) (n cap : Nat) (w : World) :
    Calls Tryd.prog 24 #[.agg #[.int .i64 au, .int .i64 rd, .slice sa n cap]] w fun e w' => e = .returned (.int .i64 (slotF au rd n)) ∧ Below w.heap.size w w' := by
  by_cases ha : 0 ≤ au ∧ au < 4
  · by_cases hr : 1 ≤ rd ∧ rd ≤ 1048576
    · by_cases hn : n = 32
      · subst hn
        have hF : Hid (slotF au rd 32 = 0) := by show _ = _; simp [slotF, ha, hr]
        go_enter Tryd.func24, Tryd.ntmps24
        go_wp2_with (first | (go_at_call 28; refine (isNode_bool _ true _ (by simp [ha])).mono ?_; rintro e w' ⟨rfl, rfl⟩) | (go_at_call 29; refine (isRound_bool _ true _ (by simp [hr])).mono ?_; rintro e w' ⟨rfl, rfl⟩))
        go_ret
        exact ⟨ret_int hF.out.symm, (Below.refl _ _).alloc (Nat.le_refl _) _⟩
      · have hF : Hid (slotF au rd n = 4) := by show _ = _; simp [slotF, ha, hr, hn]
        have hnI : ¬ (n : Int) = 32 := by omega
        go_enter Tryd.func24, Tryd.ntmps24
        go_wp2_with (first | (go_at_call 28; refine (isNode_bool _ true _ (by simp [ha])).mono ?_; rintro e w' ⟨rfl, rfl⟩) | (go_at_call 29; refine (isRound_bool _ true _ (by simp [hr])).mono ?_; rintro e w' ⟨rfl, rfl⟩))
        go_ret
        exact ⟨ret_int hF.out.symm, (Below.refl _ _).alloc (Nat.le_refl _) _⟩
    · have hF : Hid (slotF au rd n = 2) := by show _ = _; simp [slotF, hr]
      go_enter Tryd.func24, Tryd.ntmps24
      go_wp2_with (first | (go_at_call 28; refine (isNode_bool _ true _ (by simp [ha])).mono ?_; rintro e w' ⟨rfl, rfl⟩) | (go_at_call 29; refine (isRound_bool _ false _ (by simp [hr])).mono ?_; rintro e w' ⟨rfl, rfl⟩))
      go_ret
      exact ⟨ret_int hF.out.symm, (Below.refl _ _).alloc (Nat.le_refl _) _⟩
  · have hF : Hid (slotF au rd n = 2) := by show _ = _; simp [slotF, ha]
    go_enter Tryd.func24, Tryd.ntmps24
    go_wp2_with (first | (go_at_call 28; refine (isNode_bool _ false _ (by simp [ha])).mono ?_; rintro e w' ⟨rfl, rfl⟩) | (go_at_call 29; refine (isRound_bool _ true _ (by simp [hr])).mono ?_; rintro e w' ⟨rfl, rfl⟩))
    go_ret
    exact ⟨ret_int hF.out.symm, (Below.refl _ _).alloc (Nat.le_refl _) _⟩
end Go.Proofs.YtlpaghkofljnfaaDoor
