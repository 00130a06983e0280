/- wire.checkCarried of a message that wants a round. -/
import Derived.Test.YtldlknmpkoebbaaCheckM
namespace Go.Proofs.Ytldlknmpkoebbaa
open Go.RowKit

def wantF (ro : Int) : Int := if 1 ≤ ro ∧ ro ≤ 1048576 then 0 else 2
set_option maxRecDepth 100000 in
set_option maxHeartbeats 1000000 in
theorem carry_want (m : Msg) (w : World) (hk : m.ki = 5) :
    Calls Try.prog 75 #[.agg #[.int .i64 m.fr, .int .i64 m.tt, .int .i64 m.ki, .int .i64 m.bau, .int .i64 m.bnu, .slice m.bta m.btn m.btc, .int .i64 m.hau, .int .i64 m.hrd, .slice m.hba m.hbn m.hbc, .slice m.hpa m.hpn m.hpc, .int .i64 m.sau, .int .i64 m.srd, .slice m.sda m.sdn m.sdc, .int .i64 m.cau, .int .i64 m.crd, .slice m.cba m.cbn m.cbc, .slice m.cpa m.cpn m.cpc, .slice m.cva m.cvn m.cvc, .int .i64 m.ro]] w fun e w' => e = .returned (.int .i64 (wantF m.ro)) ∧ Below w.heap.size w w' := by
  rw [hk]
  by_cases hr : 1 ≤ m.ro ∧ m.ro ≤ 1048576
  · have hF : Hid (wantF m.ro = 0) := by show _ = _; simp [wantF, hr]
    go_enter Try.func75, Try.ntmps75
    go_wp2_with (go_at_call 91; first | (refine (isRound_true _ _ (by omega)).mono ?_; rintro e w' ⟨rfl, rfl⟩) | (refine (isRound_false _ _ (by omega)).mono ?_; rintro e w' ⟨rfl, rfl⟩))
    go_ret
    exact ⟨ret_int hF.out.symm, (Below.refl _ _).alloc (Nat.le_refl _) _⟩
  · have hF : Hid (wantF m.ro = 2) := by show _ = _; simp [wantF, hr]
    go_enter Try.func75, Try.ntmps75
    go_wp2_with (go_at_call 91; first | (refine (isRound_true _ _ (by omega)).mono ?_; rintro e w' ⟨rfl, rfl⟩) | (refine (isRound_false _ _ (by omega)).mono ?_; rintro e w' ⟨rfl, rfl⟩))
    go_ret
    exact ⟨ret_int hF.out.symm, (Below.refl _ _).alloc (Nat.le_refl _) _⟩
end Go.Proofs.Ytldlknmpkoebbaa
