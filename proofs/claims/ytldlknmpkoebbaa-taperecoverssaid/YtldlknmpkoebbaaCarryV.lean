/- wire.checkCarried of a message that is a vote. -/
import Derived.Test.YtldlknmpkoebbaaCheckM
import Derived.Test.YtldlknmpkoebbaaCSlot
namespace Go.Proofs.Ytldlknmpkoebbaa
open Go.RowKit

set_option maxRecDepth 100000 in
set_option maxHeartbeats 1000000 in
theorem carry_vote (m : Msg) (w : World) (hk : m.ki = 3) :
    Calls Try.prog 75 #[.agg #[.int .i64 m.fr, .int .i64 m.tt, .int .i64 m.ki, .int .i64 m.bau, .int .i64 m.bnu, .slice m.bta m.btn m.btc, .int .i64 m.hau, .int .i64 m.hrd, .slice m.hba m.hbn m.hbc, .slice m.hpa m.hpn m.hpc, .int .i64 m.sau, .int .i64 m.srd, .slice m.sda m.sdn m.sdc, .int .i64 m.cau, .int .i64 m.crd, .slice m.cba m.cbn m.cbc, .slice m.cpa m.cpn m.cpc, .slice m.cva m.cvn m.cvc, .int .i64 m.ro]] w fun e w' => e = .returned (.int .i64 (slotF m.sau m.srd m.sdn)) ∧ Below w.heap.size w w' := by
  rw [hk]
  go_enter Try.func75, Try.ntmps75
  go_wp2_with fail
  refine (checkSlot_any _ _ _ _ _ _).mono ?_
  rintro e w1 ⟨rfl, hb1⟩
  go_wp2_with fail
  go_ret
  exact ⟨rfl, below_alloc hb1⟩
end Go.Proofs.Ytldlknmpkoebbaa
