/- tape.Check: what it answers, for every message. -/
import Derived.Test.YtldlknmpkoebbaaCheckAny
namespace Go.Proofs.Ytldlknmpkoebbaa
open Go.RowKit

/-- P8.2: what is told of a record; e is what wire's Check tells. -/
def recF (m : Msg) (e : Int) : Int := if e ≠ 0 then e else if m.fr ≠ 0 ∨ m.tt ≠ 0 ∨ m.ki = 5 then 4 else 0
set_option maxRecDepth 100000 in
set_option maxHeartbeats 1000000 in
theorem tapeCheck_any (m : Msg) (ss : List ByteArray) (bl pl cbl cpl : List Part) (vl : List Int) (w : World) (H : MsgAt w m ss bl pl cbl cpl vl) :
    Calls Try.prog 30 #[.agg #[.int .i64 m.fr, .int .i64 m.tt, .int .i64 m.ki, .int .i64 m.bau, .int .i64 m.bnu, .slice m.bta m.btn m.btc, .int .i64 m.hau, .int .i64 m.hrd, .slice m.hba m.hbn m.hbc, .slice m.hpa m.hpn m.hpc, .int .i64 m.sau, .int .i64 m.srd, .slice m.sda m.sdn m.sdc, .int .i64 m.cau, .int .i64 m.crd, .slice m.cba m.cbn m.cbc, .slice m.cpa m.cpn m.cpc, .slice m.cva m.cvn m.cvc, .int .i64 m.ro]] w fun e w' => e = .returned (.int .i64 (recF m (checkF m (carriedF m ss bl pl cbl cpl vl)))) ∧ Below w.heap.size w w' := by
  have hA : Below w.heap.size w (w.alloc (.cells #[.int .i64 m.fr, .int .i64 m.tt, .int .i64 m.ki, .int .i64 m.bau, .int .i64 m.bnu, .slice m.bta m.btn m.btc, .int .i64 m.hau, .int .i64 m.hrd, .slice m.hba m.hbn m.hbc, .slice m.hpa m.hpn m.hpc, .int .i64 m.sau, .int .i64 m.srd, .slice m.sda m.sdn m.sdc, .int .i64 m.cau, .int .i64 m.crd, .slice m.cba m.cbn m.cbc, .slice m.cpa m.cpn m.cpc, .slice m.cva m.cvn m.cvc, .int .i64 m.ro] 53)) := (Below.refl _ _).alloc (Nat.le_refl _) _
  have q0 := heap_alloc_new w (.cells #[.int .i64 m.fr, .int .i64 m.tt, .int .i64 m.ki, .int .i64 m.bau, .int .i64 m.bnu, .slice m.bta m.btn m.btc, .int .i64 m.hau, .int .i64 m.hrd, .slice m.hba m.hbn m.hbc, .slice m.hpa m.hpn m.hpc, .int .i64 m.sau, .int .i64 m.srd, .slice m.sda m.sdn m.sdc, .int .i64 m.cau, .int .i64 m.crd, .slice m.cba m.cbn m.cbc, .slice m.cpa m.cpn m.cpc, .slice m.cva m.cvn m.cvc, .int .i64 m.ro] 53)
  have hC := check_any m ss bl pl cbl cpl vl _ (H.below hA)
  generalize checkF m (carriedF m ss bl pl cbl cpl vl) = R at hC ⊢
  clear H
  have hF : Hid (recF m R = if R ≠ 0 then R else if m.fr ≠ 0 ∨ m.tt ≠ 0 ∨ m.ki = 5 then 4 else 0) := by show _ = _; rfl
  generalize recF m R = X at hF ⊢
  go_enter Try.func30, Try.ntmps30
  go_wp2_with (refine wpList_load_row rfl 53 _ rfl w.heap.size rfl 53 #[.int .i64 m.fr, .int .i64 m.tt, .int .i64 m.ki, .int .i64 m.bau, .int .i64 m.bnu, .slice m.bta m.btn m.btc, .int .i64 m.hau, .int .i64 m.hrd, .slice m.hba m.hbn m.hbc, .slice m.hpa m.hpn m.hpc, .int .i64 m.sau, .int .i64 m.srd, .slice m.sda m.sdn m.sdc, .int .i64 m.cau, .int .i64 m.crd, .slice m.cba m.cbn m.cbc, .slice m.cpa m.cpn m.cpc, .slice m.cva m.cvn m.cvc, .int .i64 m.ro] (0, 0) _ q0 Try.underlying53 rfl sMsg ?_)
  generalize w.alloc (.cells #[.int .i64 m.fr, .int .i64 m.tt, .int .i64 m.ki, .int .i64 m.bau, .int .i64 m.bnu, .slice m.bta m.btn m.btc, .int .i64 m.hau, .int .i64 m.hrd, .slice m.hba m.hbn m.hbc, .slice m.hpa m.hpn m.hpc, .int .i64 m.sau, .int .i64 m.srd, .slice m.sda m.sdn m.sdc, .int .i64 m.cau, .int .i64 m.crd, .slice m.cba m.cbn m.cbc, .slice m.cpa m.cpn m.cpc, .slice m.cva m.cvn m.cvc, .int .i64 m.ro] 53) = W0 at hA q0 hC ⊢
  refine hC.mono ?_
  rintro e w1 ⟨he, hb1⟩
  subst he
  dsimp only
  have q1 := (hb1.block _ (lt_of_heap q0)).trans q0
  have c0 : w1.cell? ⟨w.heap.size, 0, none⟩ = some (.int .i64 m.fr) := cells_at q1 0 _ rfl
  have c1 : w1.cell? ⟨w.heap.size, 1, none⟩ = some (.int .i64 m.tt) := cells_at q1 1 _ rfl
  have c2 : w1.cell? ⟨w.heap.size, 2, none⟩ = some (.int .i64 m.ki) := cells_at q1 2 _ rfl
  have hB := hA.trans (hb1.mono hA.size)
  clear q0 q1 hA hb1 hC
  generalize m.fr = a at c0 hF ⊢
  generalize m.tt = b at c1 hF ⊢
  generalize m.ki = k at c2 hF ⊢
  by_cases hR : R = 0
  · subst hR
    by_cases h0 : a = 0
    · by_cases h1 : b = 0
      · by_cases h2 : k = 5
        · go_wp2_with fail
          go_ret
          exact ⟨ret_int (by rw [hF.out]; simp [h2]), hB⟩
        · go_wp2_with fail
          go_ret
          exact ⟨ret_int (by rw [hF.out]; simp [h0, h1, h2]), hB⟩
      · go_wp2_with fail
        go_ret
        exact ⟨ret_int (by rw [hF.out]; simp [h1]), hB⟩
    · go_wp2_with fail
      go_ret
      exact ⟨ret_int (by rw [hF.out]; simp [h0]), hB⟩
  · go_wp2_with fail
    go_ret
    exact ⟨ret_int (by rw [hF.out]; simp [hR]), hB⟩
end Go.Proofs.Ytldlknmpkoebbaa
