/- wire.Check, for every message. -/
import Derived.Test.YtldlknmpkoebbaaMsgF
import Derived.Test.YtldlknmpkoebbaaCheckM
import Derived.Test.YtldlknmpkoebbaaCarryA
import Derived.Test.YtldlknmpkoebbaaCarryV
import Derived.Test.YtldlknmpkoebbaaCarryW
namespace Go.Proofs.Ytldlknmpkoebbaa
open Go.RowKit

set_option maxRecDepth 100000 in
theorem check_any (m : Msg) (ss : List ByteArray) (bl pl cbl cpl : List Part) (vl : List Int) (w : World) (H : MsgAt w m ss bl pl cbl cpl vl) :
    Calls Try.prog 49 #[.agg #[.int .i64 m.fr, .int .i64 m.tt, .int .i64 m.ki, .int .i64 m.bau, .int .i64 m.bnu, .slice m.bta m.btn m.btc, .int .i64 m.hau, .int .i64 m.hrd, .slice m.hba m.hbn m.hbc, .slice m.hpa m.hpn m.hpc, .int .i64 m.sau, .int .i64 m.srd, .slice m.sda m.sdn m.sdc, .int .i64 m.cau, .int .i64 m.crd, .slice m.cba m.cbn m.cbc, .slice m.cpa m.cpn m.cpc, .slice m.cva m.cvn m.cvc, .int .i64 m.ro]] w fun e w' => e = .returned (.int .i64 (checkF m (carriedF m ss bl pl cbl cpl vl))) ∧ Below w.heap.size w w' := by
  refine check_of m (carriedF m ss bl pl cbl cpl vl) w (fun h => ?_) (fun w1 hb1 => ?_)
  · rcases Decidable.em (1 ≤ m.ki ∧ m.ki ≤ 5) with g | g
    · exact g
    · rw [carriedF, if_neg (by omega), if_neg (by omega), if_neg (by omega), if_neg (by omega), if_neg (by omega)] at h
      cases h
  · have H1 := H.below hb1
    by_cases k1 : m.ki = 1
    · rw [carriedF, if_pos k1]
      exact carry_bundle m ss w1 k1 H.e1 (by have := H.s1; have := H.e1; unfold maxLen; omega) H1.txs
    by_cases k2 : m.ki = 2
    · rw [carriedF, if_neg k1, if_pos k2]
      exact carry_offer m bl pl w1 k2 H.e2 H.e3 H1.bat H1.par
    by_cases k3 : m.ki = 3
    · rw [carriedF, if_neg k1, if_neg k2, if_pos k3]
      exact carry_vote m w1 k3
    by_cases k4 : m.ki = 4
    · rw [carriedF, if_neg k1, if_neg k2, if_neg k3, if_pos k4]
      exact carry_proof m cbl cpl vl w1 k4 H.e4 H.e5 H.e6 H.s6 H1.cbat H1.cpar H1.vot
    by_cases k5 : m.ki = 5
    · rw [carriedF, if_neg k1, if_neg k2, if_neg k3, if_neg k4, if_pos k5]
      have hw := carry_want m w1 k5
      rw [wantF] at hw
      exact hw
    · rw [carriedF, if_neg k1, if_neg k2, if_neg k3, if_neg k4, if_neg k5]
      exact carry_none m w1 (by omega)
end Go.Proofs.Ytldlknmpkoebbaa
