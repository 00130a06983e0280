/- wire.CheckSlot and the document's SlotFault: what they answer, for every slot: the same. -/
import Derived.Test.YtdjaafnghlcjbaaCSlot
import Derived.Test.YtdjaafnghlcjbaaRIn
namespace Go.Proofs.Ytdjaafnghlcjbaa
open Go.RowKit

set_option maxRecDepth 100000 in
set_option maxHeartbeats 1000000 in
theorem slotFault_any (au rd : Int) (sa : Option Addr) (n cap : Nat) (w : World) :
    Calls Try.prog 30 #[.agg #[.int .i64 au, .int .i64 rd, .slice sa n cap]] w fun e w' => e = .returned (.int .i64 (slotF au rd n)) ∧ Below w.heap.size w w' := by
  by_cases ha : 0 ≤ au ∧ au < 4
  · by_cases hr : 1 ≤ rd ∧ rd ≤ 1048576
    · by_cases hn : n = 32
      · subst hn
        have hF : Hid (slotF au rd 32 = 0) := by show _ = _; simp [slotF, ha, hr]
        go_enter Try.func30, Try.ntmps30
        go_wp2_with (go_at_call 25; first | (refine (in_true _ _ _ _ (by omega)).mono ?_; rintro e w' ⟨rfl, rfl⟩) | (refine (in_false _ _ _ _ (by omega)).mono ?_; rintro e w' ⟨rfl, rfl⟩))
        go_ret
        exact ⟨ret_int hF.out.symm, (Below.refl _ _).alloc (Nat.le_refl _) _⟩
      · have hF : Hid (slotF au rd n = 4) := by show _ = _; simp [slotF, ha, hr, hn]
        have hnI : ¬ (n : Int) = 32 := by omega
        go_enter Try.func30, Try.ntmps30
        go_wp2_with (go_at_call 25; first | (refine (in_true _ _ _ _ (by omega)).mono ?_; rintro e w' ⟨rfl, rfl⟩) | (refine (in_false _ _ _ _ (by omega)).mono ?_; rintro e w' ⟨rfl, rfl⟩))
        go_ret
        exact ⟨ret_int hF.out.symm, (Below.refl _ _).alloc (Nat.le_refl _) _⟩
    · have hF : Hid (slotF au rd n = 2) := by show _ = _; simp [slotF, hr]
      go_enter Try.func30, Try.ntmps30
      go_wp2_with (go_at_call 25; first | (refine (in_true _ _ _ _ (by omega)).mono ?_; rintro e w' ⟨rfl, rfl⟩) | (refine (in_false _ _ _ _ (by omega)).mono ?_; rintro e w' ⟨rfl, rfl⟩))
      go_ret
      exact ⟨ret_int hF.out.symm, (Below.refl _ _).alloc (Nat.le_refl _) _⟩
  · have hF : Hid (slotF au rd n = 2) := by show _ = _; simp [slotF, ha]
    go_enter Try.func30, Try.ntmps30
    go_wp2_with (go_at_call 25; first | (refine (in_true _ _ _ _ (by omega)).mono ?_; rintro e w' ⟨rfl, rfl⟩) | (refine (in_false _ _ _ _ (by omega)).mono ?_; rintro e w' ⟨rfl, rfl⟩))
    go_ret
    exact ⟨ret_int hF.out.symm, (Below.refl _ _).alloc (Nat.le_refl _) _⟩
end Go.Proofs.Ytdjaafnghlcjbaa
