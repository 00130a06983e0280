/- Messages as they lie in memory, with all that they lead to; records. -/
import Derived.Test.YtcmlmmlcebemgaaCheckM
import Derived.Test.YtcmlmmlcebemgaaRecordBadM6
import Derived.Test.YtcmlmmlcebemgaaCSlot
import Derived.Test.YtcmlmmlcebemgaaMsgF
import Derived.Test.YtcmlmmlcebemgaaRecordBadM0
namespace Go.Proofs.Ytcmlmmlcebemgaa
open Go.RowKit

set_option maxRecDepth 100000 in
set_option maxHeartbeats 1000000 in
theorem carry_bundle (m : Msg) (ss : List ByteArray) (w : World) (hk : m.ki = 1) (hn : m.btn = ss.length) (hm : m.btn ≤ maxLen) (hs : StrsAt w m.bta ss) :
    Calls Try.prog 51 #[.agg #[.int .i64 m.fr, .int .i64 m.tt, .int .i64 m.ki, .int .i64 m.bau, .int .i64 m.bnu, .slice m.bta m.btn m.btc, .int .i64 m.hau, .int .i64 m.hrd, .slice m.hba m.hbn m.hbc, .slice m.hpa m.hpn m.hpc, .int .i64 m.sau, .int .i64 m.srd, .slice m.sda m.sdn m.sdc, .int .i64 m.cau, .int .i64 m.crd, .slice m.cba m.cbn m.cbc, .slice m.cpa m.cpn m.cpc, .slice m.cva m.cvn m.cvc, .int .i64 m.ro]] w fun e w' => e = .returned (.int .i64 (batchF m.bau m.bnu ss)) ∧ Below w.heap.size w w' := by
  have hA : Below w.heap.size w (w.alloc (.cells #[.int .i64 m.fr, .int .i64 m.tt, .int .i64 m.ki, .int .i64 m.bau, .int .i64 m.bnu, .slice m.bta m.btn m.btc, .int .i64 m.hau, .int .i64 m.hrd, .slice m.hba m.hbn m.hbc, .slice m.hpa m.hpn m.hpc, .int .i64 m.sau, .int .i64 m.srd, .slice m.sda m.sdn m.sdc, .int .i64 m.cau, .int .i64 m.crd, .slice m.cba m.cbn m.cbc, .slice m.cpa m.cpn m.cpc, .slice m.cva m.cvn m.cvc, .int .i64 m.ro] 47)) := (Below.refl _ _).alloc (Nat.le_refl _) _
  have hC := checkBatch_any m.bau m.bnu m.bta m.btn m.btc ss _ hn hm (hs.below hA)
  rw [hk] at hC ⊢
  clear hn hm
  go_enter Try.func51, Try.ntmps51
  go_wp2_with fail
  refine hC.mono ?_
  rintro e w1 ⟨he, hb1⟩
  subst he
  dsimp only
  go_wp2_with fail
  go_ret
  exact ⟨rfl, below_alloc hb1⟩
set_option maxRecDepth 100000 in
set_option maxHeartbeats 1000000 in
theorem carry_offer (m : Msg) (bl pl : List Part) (w : World) (hk : m.ki = 2) (h1 : m.hbn = bl.length) (h2 : m.hpn = pl.length) (hb : ListAt w m.hba m.hbc bl) (hp : ListAt w m.hpa m.hpc pl) :
    Calls Try.prog 51 #[.agg #[.int .i64 m.fr, .int .i64 m.tt, .int .i64 m.ki, .int .i64 m.bau, .int .i64 m.bnu, .slice m.bta m.btn m.btc, .int .i64 m.hau, .int .i64 m.hrd, .slice m.hba m.hbn m.hbc, .slice m.hpa m.hpn m.hpc, .int .i64 m.sau, .int .i64 m.srd, .slice m.sda m.sdn m.sdc, .int .i64 m.cau, .int .i64 m.crd, .slice m.cba m.cbn m.cbc, .slice m.cpa m.cpn m.cpc, .slice m.cva m.cvn m.cvc, .int .i64 m.ro]] w fun e w' => e = .returned (.int .i64 (headerF m.hau m.hrd bl pl)) ∧ Below w.heap.size w w' := by
  have hA : Below w.heap.size w (w.alloc (.cells #[.int .i64 m.fr, .int .i64 m.tt, .int .i64 m.ki, .int .i64 m.bau, .int .i64 m.bnu, .slice m.bta m.btn m.btc, .int .i64 m.hau, .int .i64 m.hrd, .slice m.hba m.hbn m.hbc, .slice m.hpa m.hpn m.hpc, .int .i64 m.sau, .int .i64 m.srd, .slice m.sda m.sdn m.sdc, .int .i64 m.cau, .int .i64 m.crd, .slice m.cba m.cbn m.cbc, .slice m.cpa m.cpn m.cpc, .slice m.cva m.cvn m.cvc, .int .i64 m.ro] 47)) := (Below.refl _ _).alloc (Nat.le_refl _) _
  have hC := checkHeader_any m.hau m.hrd m.hba m.hbc bl m.hpa m.hpc pl _ (hb.below hA) (hp.below hA)
  rw [hk, ← h1, ← h2] at hC
  rw [hk]
  clear h1 h2
  go_enter Try.func51, Try.ntmps51
  go_wp2_with fail
  refine hC.mono ?_
  rintro e w1 ⟨he, hb1⟩
  subst he
  dsimp only
  go_wp2_with fail
  go_ret
  exact ⟨rfl, below_alloc hb1⟩
set_option maxRecDepth 100000 in
set_option maxHeartbeats 1000000 in
theorem carry_proof (m : Msg) (bl pl : List Part) (vl : List Int) (w : World) (hk : m.ki = 4) (h1 : m.cbn = bl.length) (h2 : m.cpn = pl.length) (h3 : m.cvn = vl.length) (h4 : vl.length ≤ 9000000000000000000) (hb : ListAt w m.cba m.cbc bl) (hp : ListAt w m.cpa m.cpc pl) (hv : IntsAt w m.cva vl) :
    Calls Try.prog 51 #[.agg #[.int .i64 m.fr, .int .i64 m.tt, .int .i64 m.ki, .int .i64 m.bau, .int .i64 m.bnu, .slice m.bta m.btn m.btc, .int .i64 m.hau, .int .i64 m.hrd, .slice m.hba m.hbn m.hbc, .slice m.hpa m.hpn m.hpc, .int .i64 m.sau, .int .i64 m.srd, .slice m.sda m.sdn m.sdc, .int .i64 m.cau, .int .i64 m.crd, .slice m.cba m.cbn m.cbc, .slice m.cpa m.cpn m.cpc, .slice m.cva m.cvn m.cvc, .int .i64 m.ro]] w fun e w' => e = .returned (.int .i64 (certF m.cau m.crd bl pl vl)) ∧ Below w.heap.size w w' := by
  have hA : Below w.heap.size w (w.alloc (.cells #[.int .i64 m.fr, .int .i64 m.tt, .int .i64 m.ki, .int .i64 m.bau, .int .i64 m.bnu, .slice m.bta m.btn m.btc, .int .i64 m.hau, .int .i64 m.hrd, .slice m.hba m.hbn m.hbc, .slice m.hpa m.hpn m.hpc, .int .i64 m.sau, .int .i64 m.srd, .slice m.sda m.sdn m.sdc, .int .i64 m.cau, .int .i64 m.crd, .slice m.cba m.cbn m.cbc, .slice m.cpa m.cpn m.cpc, .slice m.cva m.cvn m.cvc, .int .i64 m.ro] 47)) := (Below.refl _ _).alloc (Nat.le_refl _) _
  have hC := checkCert_any m.cau m.crd m.cba m.cbc bl m.cpa m.cpc pl m.cva m.cvc vl _ (hb.below hA) (hp.below hA) (hv.below hA) h4
  rw [hk, ← h1, ← h2, ← h3] at hC
  rw [hk]
  clear h1 h2 h3
  go_enter Try.func51, Try.ntmps51
  go_wp2_with fail
  refine hC.mono ?_
  rintro e w1 ⟨he, hb1⟩
  subst he
  dsimp only
  go_wp2_with fail
  go_ret
  exact ⟨rfl, below_alloc hb1⟩
set_option maxRecDepth 100000 in
set_option maxHeartbeats 1000000 in
theorem carry_none (m : Msg) (w : World) (hk : ¬ (1 ≤ m.ki ∧ m.ki ≤ 5)) :
    Calls Try.prog 51 #[.agg #[.int .i64 m.fr, .int .i64 m.tt, .int .i64 m.ki, .int .i64 m.bau, .int .i64 m.bnu, .slice m.bta m.btn m.btc, .int .i64 m.hau, .int .i64 m.hrd, .slice m.hba m.hbn m.hbc, .slice m.hpa m.hpn m.hpc, .int .i64 m.sau, .int .i64 m.srd, .slice m.sda m.sdn m.sdc, .int .i64 m.cau, .int .i64 m.crd, .slice m.cba m.cbn m.cbc, .slice m.cpa m.cpn m.cpc, .slice m.cva m.cvn m.cvc, .int .i64 m.ro]] w fun e w' => e = .returned (.int .i64 3) ∧ Below w.heap.size w w' := by
  have k1 : ¬ m.ki = 1 := by omega
  have k2 : ¬ m.ki = 2 := by omega
  have k3 : ¬ m.ki = 3 := by omega
  have k4 : ¬ m.ki = 4 := by omega
  have k5 : ¬ m.ki = 5 := by omega
  go_enter Try.func51, Try.ntmps51
  go_wp2_with fail
  go_ret
  exact ⟨rfl, (Below.refl _ _).alloc (Nat.le_refl _) _⟩
end Go.Proofs.Ytcmlmmlcebemgaa

namespace Go.Proofs.Ytcmlmmlcebemgaa
open Go.RowKit

set_option maxRecDepth 100000 in
set_option maxHeartbeats 1000000 in
theorem carry_vote (m : Msg) (w : World) (hk : m.ki = 3) :
    Calls Try.prog 51 #[.agg #[.int .i64 m.fr, .int .i64 m.tt, .int .i64 m.ki, .int .i64 m.bau, .int .i64 m.bnu, .slice m.bta m.btn m.btc, .int .i64 m.hau, .int .i64 m.hrd, .slice m.hba m.hbn m.hbc, .slice m.hpa m.hpn m.hpc, .int .i64 m.sau, .int .i64 m.srd, .slice m.sda m.sdn m.sdc, .int .i64 m.cau, .int .i64 m.crd, .slice m.cba m.cbn m.cbc, .slice m.cpa m.cpn m.cpc, .slice m.cva m.cvn m.cvc, .int .i64 m.ro]] w fun e w' => e = .returned (.int .i64 (slotF m.sau m.srd m.sdn)) ∧ Below w.heap.size w w' := by
  rw [hk]
  go_enter Try.func51, Try.ntmps51
  go_wp2_with fail
  refine (checkSlot_any _ _ _ _ _ _).mono ?_
  rintro e w1 ⟨rfl, hb1⟩
  go_wp2_with fail
  go_ret
  exact ⟨rfl, below_alloc hb1⟩
end Go.Proofs.Ytcmlmmlcebemgaa

namespace Go.Proofs.Ytcmlmmlcebemgaa
open Go.RowKit

def wantF (ro : Int) : Int := if 1 ≤ ro ∧ ro ≤ 1048576 then 0 else 2
set_option maxRecDepth 100000 in
set_option maxHeartbeats 1000000 in
theorem carry_want (m : Msg) (w : World) (hk : m.ki = 5) :
    Calls Try.prog 51 #[.agg #[.int .i64 m.fr, .int .i64 m.tt, .int .i64 m.ki, .int .i64 m.bau, .int .i64 m.bnu, .slice m.bta m.btn m.btc, .int .i64 m.hau, .int .i64 m.hrd, .slice m.hba m.hbn m.hbc, .slice m.hpa m.hpn m.hpc, .int .i64 m.sau, .int .i64 m.srd, .slice m.sda m.sdn m.sdc, .int .i64 m.cau, .int .i64 m.crd, .slice m.cba m.cbn m.cbc, .slice m.cpa m.cpn m.cpc, .slice m.cva m.cvn m.cvc, .int .i64 m.ro]] w fun e w' => e = .returned (.int .i64 (wantF m.ro)) ∧ Below w.heap.size w w' := by
  rw [hk]
  by_cases hr : 1 ≤ m.ro ∧ m.ro ≤ 1048576
  · have hF : Hid (wantF m.ro = 0) := by show _ = _; simp [wantF, hr]
    go_enter Try.func51, Try.ntmps51
    go_wp2_with (go_at_call 61; first | (refine (isRound_true _ _ (by omega)).mono ?_; rintro e w' ⟨rfl, rfl⟩) | (refine (isRound_false _ _ (by omega)).mono ?_; rintro e w' ⟨rfl, rfl⟩))
    go_ret
    exact ⟨ret_int hF.out.symm, (Below.refl _ _).alloc (Nat.le_refl _) _⟩
  · have hF : Hid (wantF m.ro = 2) := by show _ = _; simp [wantF, hr]
    go_enter Try.func51, Try.ntmps51
    go_wp2_with (go_at_call 61; first | (refine (isRound_true _ _ (by omega)).mono ?_; rintro e w' ⟨rfl, rfl⟩) | (refine (isRound_false _ _ (by omega)).mono ?_; rintro e w' ⟨rfl, rfl⟩))
    go_ret
    exact ⟨ret_int hF.out.symm, (Below.refl _ _).alloc (Nat.le_refl _) _⟩
end Go.Proofs.Ytcmlmmlcebemgaa

namespace Go.Proofs.Ytcmlmmlcebemgaa
open Go.RowKit

set_option maxRecDepth 100000 in
theorem check_any (m : Msg) (ss : List ByteArray) (bl pl cbl cpl : List Part) (vl : List Int) (w : World) (H : MsgAt w m ss bl pl cbl cpl vl) :
    Calls Try.prog 35 #[.agg #[.int .i64 m.fr, .int .i64 m.tt, .int .i64 m.ki, .int .i64 m.bau, .int .i64 m.bnu, .slice m.bta m.btn m.btc, .int .i64 m.hau, .int .i64 m.hrd, .slice m.hba m.hbn m.hbc, .slice m.hpa m.hpn m.hpc, .int .i64 m.sau, .int .i64 m.srd, .slice m.sda m.sdn m.sdc, .int .i64 m.cau, .int .i64 m.crd, .slice m.cba m.cbn m.cbc, .slice m.cpa m.cpn m.cpc, .slice m.cva m.cvn m.cvc, .int .i64 m.ro]] w fun e w' => e = .returned (.int .i64 (checkF m (carriedF m ss bl pl cbl cpl vl))) ∧ Below w.heap.size w w' := by
  refine check_of m (carriedF m ss bl pl cbl cpl vl) w (fun h => ?_) (fun w1 hb1 => ?_)
  · rcases Decidable.em (1 ≤ m.ki ∧ m.ki ≤ 5) with g | g
    · exact g
    · rw [carriedF, if_neg (by omega), if_neg (by omega), if_neg (by omega), if_neg (by omega), if_neg (by omega)] at h
      cases h
  · have H1 := H.below hb1
    by_cases k1 : m.ki = 1
    · rw [carriedF, if_pos k1]
      exact carry_bundle m ss w1 k1 H.e1 (by have := H.s1; have := H.e1; unfold maxLen; omega) H1.txs
    by_cases k2 : m.ki = 2
    · rw [carriedF, if_neg k1, if_pos k2]
      exact carry_offer m bl pl w1 k2 H.e2 H.e3 H1.bat H1.par
    by_cases k3 : m.ki = 3
    · rw [carriedF, if_neg k1, if_neg k2, if_pos k3]
      exact carry_vote m w1 k3
    by_cases k4 : m.ki = 4
    · rw [carriedF, if_neg k1, if_neg k2, if_neg k3, if_pos k4]
      exact carry_proof m cbl cpl vl w1 k4 H.e4 H.e5 H.e6 H.s6 H1.cbat H1.cpar H1.vot
    by_cases k5 : m.ki = 5
    · rw [carriedF, if_neg k1, if_neg k2, if_neg k3, if_neg k4, if_pos k5]
      have hw := carry_want m w1 k5
      rw [wantF] at hw
      exact hw
    · rw [carriedF, if_neg k1, if_neg k2, if_neg k3, if_neg k4, if_neg k5]
      exact carry_none m w1 (by omega)
end Go.Proofs.Ytcmlmmlcebemgaa

namespace Go.Proofs.Ytcmlmmlcebemgaa
open Go.RowKit

/-- P8.2: what is told of a record; e is what wire's Check tells. -/
def recF (m : Msg) (e : Int) : Int := if e ≠ 0 then e else if m.fr ≠ 0 ∨ m.tt ≠ 0 ∨ m.ki = 5 then 4 else 0
set_option maxRecDepth 100000 in
set_option maxHeartbeats 1000000 in
theorem tapeCheck_any (m : Msg) (ss : List ByteArray) (bl pl cbl cpl : List Part) (vl : List Int) (w : World) (H : MsgAt w m ss bl pl cbl cpl vl) :
    Calls Try.prog 24 #[.agg #[.int .i64 m.fr, .int .i64 m.tt, .int .i64 m.ki, .int .i64 m.bau, .int .i64 m.bnu, .slice m.bta m.btn m.btc, .int .i64 m.hau, .int .i64 m.hrd, .slice m.hba m.hbn m.hbc, .slice m.hpa m.hpn m.hpc, .int .i64 m.sau, .int .i64 m.srd, .slice m.sda m.sdn m.sdc, .int .i64 m.cau, .int .i64 m.crd, .slice m.cba m.cbn m.cbc, .slice m.cpa m.cpn m.cpc, .slice m.cva m.cvn m.cvc, .int .i64 m.ro]] w fun e w' => e = .returned (.int .i64 (recF m (checkF m (carriedF m ss bl pl cbl cpl vl)))) ∧ Below w.heap.size w w' := by
  have hA : Below w.heap.size w (w.alloc (.cells #[.int .i64 m.fr, .int .i64 m.tt, .int .i64 m.ki, .int .i64 m.bau, .int .i64 m.bnu, .slice m.bta m.btn m.btc, .int .i64 m.hau, .int .i64 m.hrd, .slice m.hba m.hbn m.hbc, .slice m.hpa m.hpn m.hpc, .int .i64 m.sau, .int .i64 m.srd, .slice m.sda m.sdn m.sdc, .int .i64 m.cau, .int .i64 m.crd, .slice m.cba m.cbn m.cbc, .slice m.cpa m.cpn m.cpc, .slice m.cva m.cvn m.cvc, .int .i64 m.ro] 47)) := (Below.refl _ _).alloc (Nat.le_refl _) _
  have q0 := heap_alloc_new w (.cells #[.int .i64 m.fr, .int .i64 m.tt, .int .i64 m.ki, .int .i64 m.bau, .int .i64 m.bnu, .slice m.bta m.btn m.btc, .int .i64 m.hau, .int .i64 m.hrd, .slice m.hba m.hbn m.hbc, .slice m.hpa m.hpn m.hpc, .int .i64 m.sau, .int .i64 m.srd, .slice m.sda m.sdn m.sdc, .int .i64 m.cau, .int .i64 m.crd, .slice m.cba m.cbn m.cbc, .slice m.cpa m.cpn m.cpc, .slice m.cva m.cvn m.cvc, .int .i64 m.ro] 47)
  have hC := check_any m ss bl pl cbl cpl vl _ (H.below hA)
  generalize checkF m (carriedF m ss bl pl cbl cpl vl) = R at hC ⊢
  clear H
  have hF : Hid (recF m R = if R ≠ 0 then R else if m.fr ≠ 0 ∨ m.tt ≠ 0 ∨ m.ki = 5 then 4 else 0) := by show _ = _; rfl
  generalize recF m R = X at hF ⊢
  go_enter Try.func24, Try.ntmps24
  go_wp2_with (refine wpList_load_row rfl 47 _ rfl w.heap.size rfl 47 #[.int .i64 m.fr, .int .i64 m.tt, .int .i64 m.ki, .int .i64 m.bau, .int .i64 m.bnu, .slice m.bta m.btn m.btc, .int .i64 m.hau, .int .i64 m.hrd, .slice m.hba m.hbn m.hbc, .slice m.hpa m.hpn m.hpc, .int .i64 m.sau, .int .i64 m.srd, .slice m.sda m.sdn m.sdc, .int .i64 m.cau, .int .i64 m.crd, .slice m.cba m.cbn m.cbc, .slice m.cpa m.cpn m.cpc, .slice m.cva m.cvn m.cvc, .int .i64 m.ro] (0, 0) _ q0 Try.underlying47 rfl sMsg ?_)
  generalize w.alloc (.cells #[.int .i64 m.fr, .int .i64 m.tt, .int .i64 m.ki, .int .i64 m.bau, .int .i64 m.bnu, .slice m.bta m.btn m.btc, .int .i64 m.hau, .int .i64 m.hrd, .slice m.hba m.hbn m.hbc, .slice m.hpa m.hpn m.hpc, .int .i64 m.sau, .int .i64 m.srd, .slice m.sda m.sdn m.sdc, .int .i64 m.cau, .int .i64 m.crd, .slice m.cba m.cbn m.cbc, .slice m.cpa m.cpn m.cpc, .slice m.cva m.cvn m.cvc, .int .i64 m.ro] 47) = W0 at hA q0 hC ⊢
  refine hC.mono ?_
  rintro e w1 ⟨he, hb1⟩
  subst he
  dsimp only
  have q1 := (hb1.block _ (lt_of_heap q0)).trans q0
  have c0 : w1.cell? ⟨w.heap.size, 0, none⟩ = some (.int .i64 m.fr) := cells_at q1 0 _ rfl
  have c1 : w1.cell? ⟨w.heap.size, 1, none⟩ = some (.int .i64 m.tt) := cells_at q1 1 _ rfl
  have c2 : w1.cell? ⟨w.heap.size, 2, none⟩ = some (.int .i64 m.ki) := cells_at q1 2 _ rfl
  have hB := hA.trans (hb1.mono hA.size)
  clear q0 q1 hA hb1 hC
  generalize m.fr = a at c0 hF ⊢
  generalize m.tt = b at c1 hF ⊢
  generalize m.ki = k at c2 hF ⊢
  by_cases hR : R = 0
  · subst hR
    by_cases h0 : a = 0
    · by_cases h1 : b = 0
      · by_cases h2 : k = 5
        · go_wp2_with fail
          go_ret
          exact ⟨ret_int (by rw [hF.out]; simp [h2]), hB⟩
        · go_wp2_with fail
          go_ret
          exact ⟨ret_int (by rw [hF.out]; simp [h0, h1, h2]), hB⟩
      · go_wp2_with fail
        go_ret
        exact ⟨ret_int (by rw [hF.out]; simp [h1]), hB⟩
    · go_wp2_with fail
      go_ret
      exact ⟨ret_int (by rw [hF.out]; simp [h0]), hB⟩
  · go_wp2_with fail
    go_ret
    exact ⟨ret_int (by rw [hF.out]; simp [hR]), hB⟩
end Go.Proofs.Ytcmlmmlcebemgaa

namespace Go.Proofs.Ytcmlmmlcebemgaa
open Go.RowKit

/-- A message and what its lists hold. -/
structure MV where
  (m : Msg) (ss : List ByteArray) (bl pl cbl cpl : List Part) (ds vl : List Int)
def MV.car (x : MV) : Int := carriedF x.m x.ss x.bl x.pl x.cbl x.cpl x.vl
/-- P2.9. -/
def MV.bytes (x : MV) : List Int := msgB x.m x.ss x.bl x.pl x.cbl x.cpl x.ds x.vl
/-- A list's blocks, of what is not empty. -/
structure HasL (G : Nat → Prop) (ra : Option Addr) (qs : List Part) : Prop where
  row : ∀ sb so, ra = some ⟨sb, so, none⟩ → qs ≠ [] → G sb
  each : ∀ p ∈ qs, ∀ sb so, p.sa = some ⟨sb, so, none⟩ → p.bs ≠ [] → G sb
/-- A message's blocks, of what is not empty. -/
structure HasM (G : Nat → Prop) (x : MV) : Prop where
  tx : ∀ sb so, x.m.bta = some ⟨sb, so, none⟩ → x.ss ≠ [] → G sb
  hb : HasL G x.m.hba x.bl
  hp : HasL G x.m.hpa x.pl
  sd : ∀ sb so, x.m.sda = some ⟨sb, so, none⟩ → x.ds ≠ [] → G sb
  cb : HasL G x.m.cba x.cbl
  cp : HasL G x.m.cpa x.cpl
  cv : ∀ sb so, x.m.cva = some ⟨sb, so, none⟩ → x.vl ≠ [] → G sb
/-- A message that lies there. -/
structure MAt (w : World) (x : MV) : Prop where
  at' : MsgAt w x.m x.ss x.bl x.pl x.cbl x.cpl x.vl
  dig : SliceAt w x.m.sda x.m.sdc x.ds
  dn : x.m.sdn = x.ds.length
/-- P8.2: a message that is a record. -/
structure IsRec (x : MV) : Prop where
  car : x.car = 0
  emp : msgEmpty (strip x.m) = true
  fr : x.m.fr = 0
  tt : x.m.tt = 0
  ki : x.m.ki ≠ 5
set_option maxRecDepth 100000 in
theorem MAt.below {w w' : World} {x : MV} (h : MAt w x) (hb : Below w.heap.size w w') : MAt w' x := ⟨h.at'.below hb, h.dig.below hb, h.dn⟩
set_option maxRecDepth 100000 in
theorem HasL.mono {G G' : Nat → Prop} {ra : Option Addr} {qs : List Part} (h : HasL G ra qs) (hG : ∀ k, G k → G' k) : HasL G' ra qs := ⟨fun sb so e n => hG _ (h.row sb so e n), fun p hp sb so e n => hG _ (h.each p hp sb so e n)⟩
set_option maxRecDepth 100000 in
theorem HasM.mono {G G' : Nat → Prop} {x : MV} (h : HasM G x) (hG : ∀ k, G k → G' k) : HasM G' x :=
  ⟨fun sb so e n => hG _ (h.tx sb so e n), h.hb.mono hG, h.hp.mono hG, fun sb so e n => hG _ (h.sd sb so e n), h.cb.mono hG, h.cp.mono hG, fun sb so e n => hG _ (h.cv sb so e n)⟩
set_option maxRecDepth 100000 in
theorem NewM.has {B : Nat} {x : MV} (h : NewM B x.m x.bl x.pl x.cbl x.cpl) : HasM (fun k => B ≤ k) x :=
  ⟨fun sb so e _ => h.tx sb so e, ⟨fun sb so e _ => h.hb.row sb so e, fun p hp sb so e _ => h.hb.each p hp sb so e⟩, ⟨fun sb so e _ => h.hp.row sb so e, fun p hp sb so e _ => h.hp.each p hp sb so e⟩, fun sb so e _ => h.sd sb so e, ⟨fun sb so e _ => h.cb.row sb so e, fun p hp sb so e _ => h.cb.each p hp sb so e⟩, ⟨fun sb so e _ => h.cp.row sb so e, fun p hp sb so e _ => h.cp.each p hp sb so e⟩, fun sb so e _ => h.cv sb so e⟩
set_option maxRecDepth 100000 in
theorem length_pos_ne {α : Type} {l : List α} (h : l ≠ []) : 0 < l.length := by cases l with | nil => exact absurd rfl h | cons _ _ => simp
set_option maxRecDepth 100000 in
theorem slice_lt {w : World} {sa : Option Addr} {cap : Nat} {bs : List Int} (h : SliceAt w sa cap bs) (hn : bs ≠ []) {sb so : Nat} (e : sa = some ⟨sb, so, none⟩) : sb < w.heap.size := by
  rcases h.bytes with hb | ⟨sb', so', e', hc⟩
  · exact absurd hb hn
  · rw [e] at e'; cases e'; exact block_lt_of_cell (hc 0 (length_pos_ne hn))
set_option maxRecDepth 100000 in
theorem HasL.lt {w : World} {G : Nat → Prop} {ra : Option Addr} {rc : Nat} {qs : List Part} (h : HasL G ra qs) (H : ListAt w ra rc qs) : HasL (fun k => G k ∧ k < w.heap.size) ra qs := by
  refine ⟨fun sb so e n => ⟨h.row sb so e n, ?_⟩, fun p hp sb so e n => ⟨h.each p hp sb so e n, slice_lt (H.parts.each p hp) n e⟩⟩
  rcases H.parts.cells with hb | ⟨sb', so', e', hc⟩
  · exact absurd hb n
  · rw [e] at e'; cases e'; exact block_lt_of_cell (hc 0 (length_pos_ne n))
set_option maxRecDepth 100000 in
theorem HasM.lt {w : World} {G : Nat → Prop} {x : MV} (h : HasM G x) (H : MAt w x) : HasM (fun k => G k ∧ k < w.heap.size) x := by
  refine ⟨fun sb so e n => ⟨h.tx sb so e n, ?_⟩, h.hb.lt H.at'.bat, h.hp.lt H.at'.par, fun sb so e n => ⟨h.sd sb so e n, slice_lt H.dig n e⟩, h.cb.lt H.at'.cbat, h.cp.lt H.at'.cpar, fun sb so e n => ⟨h.cv sb so e n, ?_⟩⟩
  · rcases H.at'.txs.cells with hb | ⟨sb', so', e', hc⟩
    · exact absurd hb n
    · rw [e] at e'; cases e'; exact block_lt_of_cell (hc 0 (length_pos_ne n))
  · rcases H.at'.vot.cells with hb | ⟨sb', so', e', hc⟩
    · exact absurd hb n
    · rw [e] at e'; cases e'; exact block_lt_of_cell (hc 0 (length_pos_ne n))
set_option maxRecDepth 100000 in
/-- Blocks that stay as they are. -/
theorem slice_stays {w w' : World} {G : Nat → Prop} {sa : Option Addr} {cap : Nat} {bs : List Int} (hk : ∀ k, G k → w'.heap[k]? = w.heap[k]?) (h : SliceAt w sa cap bs) (hG : ∀ sb so, sa = some ⟨sb, so, none⟩ → bs ≠ [] → G sb) : SliceAt w' sa cap bs := by
  refine ⟨h.le, h.max, h.some, h.nil, ?_⟩
  rcases h.bytes with hb | ⟨sb, so, e, hc⟩
  · exact .inl hb
  · by_cases hz : bs = []
    · exact .inl hz
    · exact .inr ⟨sb, so, e, fun j hj => (World.cell?_of_block (hk sb (hG sb so e hz))).trans (hc j hj)⟩
set_option maxRecDepth 100000 in
theorem list_stays {w w' : World} {G : Nat → Prop} {ra : Option Addr} {rc : Nat} {qs : List Part} (hk : ∀ k, G k → w'.heap[k]? = w.heap[k]?) (h : ListAt w ra rc qs) (hG : HasL G ra qs) : ListAt w' ra rc qs := by
  refine ⟨h.le, h.max, h.small, h.some, ⟨?_, fun p hp => slice_stays hk (h.parts.each p hp) (hG.each p hp)⟩⟩
  rcases h.parts.cells with hb | ⟨sb, so, e, hc⟩
  · exact .inl hb
  · by_cases hz : qs = []
    · exact .inl hz
    · exact .inr ⟨sb, so, e, fun j hj => (World.cell?_of_block (hk sb (hG.row sb so e hz))).trans (hc j hj)⟩
set_option maxRecDepth 100000 in
theorem MAt.stays {w w' : World} {G : Nat → Prop} {x : MV} (hk : ∀ k, G k → w'.heap[k]? = w.heap[k]?) (h : MAt w x) (hG : HasM G x) : MAt w' x := by
  refine ⟨⟨h.at'.e1, h.at'.e2, h.at'.e3, h.at'.e4, h.at'.e5, h.at'.e6, h.at'.s1, h.at'.s6, h.at'.s7, ⟨?_, h.at'.txs.size⟩, list_stays hk h.at'.bat hG.hb, list_stays hk h.at'.par hG.hp, list_stays hk h.at'.cbat hG.cb, list_stays hk h.at'.cpar hG.cp, ⟨?_⟩⟩, slice_stays hk h.dig hG.sd, h.dn⟩
  · rcases h.at'.txs.cells with hb | ⟨sb, so, e, hc⟩
    · exact .inl hb
    · by_cases hz : x.ss = []
      · exact .inl hz
      · exact .inr ⟨sb, so, e, fun j hj => (World.cell?_of_block (hk sb (hG.tx sb so e hz))).trans (hc j hj)⟩
  · rcases h.at'.vot.cells with hb | ⟨sb, so, e, hc⟩
    · exact .inl hb
    · by_cases hz : x.vl = []
      · exact .inl hz
      · exact .inr ⟨sb, so, e, fun j hj => (World.cell?_of_block (hk sb (hG.cv sb so e hz))).trans (hc j hj)⟩
set_option maxRecDepth 100000 in
theorem MAt.setRow {w : World} {x : MV} {B b : Nat} {cs : Array Value} (h : MAt w x) (hG : HasM (fun k => B ≤ k) x) (hb : b < B) : MAt (w.setRow b cs) x :=
  h.stays (G := fun k => B ≤ k) (fun k hk => setRow_other w b k cs (by omega)) hG
set_option maxRecDepth 100000 in
theorem MAt.setCell {w : World} {x : MV} {B b j : Nat} {v : Value} (h : MAt w x) (hG : HasM (fun k => B ≤ k) x) (hb : b < B) : MAt (w.setCell ⟨b, j, none⟩ v) x :=
  h.stays (G := fun k => B ≤ k) (fun k hk => heap_setCell_other w ⟨b, j, none⟩ k v (by show k ≠ b; omega)) hG
/-- From nobody, to nobody. -/
def Msg.bare (m : Msg) : Msg := { m with fr := 0, tt := 0 }
def MV.bare (x : MV) : MV := { x with m := x.m.bare }
set_option maxRecDepth 100000 in
theorem MV.bare_at {w : World} {x : MV} (h : MAt w x) : MAt w x.bare := ⟨⟨h.at'.e1, h.at'.e2, h.at'.e3, h.at'.e4, h.at'.e5, h.at'.e6, h.at'.s1, h.at'.s6, h.at'.s7, h.at'.txs, h.at'.bat, h.at'.par, h.at'.cbat, h.at'.cpar, h.at'.vot⟩, h.dig, h.dn⟩
set_option maxRecDepth 100000 in
theorem MV.bare_has {G : Nat → Prop} {x : MV} (h : HasM G x) : HasM G x.bare := ⟨h.tx, h.hb, h.hp, h.sd, h.cb, h.cp, h.cv⟩
set_option maxRecDepth 100000 in
theorem strip_from (m : Msg) (a b : Int) : msgEmpty (strip { m with fr := a, tt := b }) = msgEmpty (strip m) := by
  by_cases k1 : m.ki = 1
  · simp [strip, msgEmpty, k1]
  by_cases k2 : m.ki = 2
  · simp [strip, msgEmpty, k2]
  by_cases k3 : m.ki = 3
  · simp [strip, msgEmpty, k3]
  by_cases k4 : m.ki = 4
  · simp [strip, msgEmpty, k4]
  · simp [strip, msgEmpty, k1, k2, k3, k4]
set_option maxRecDepth 100000 in
theorem MV.bare_rec {x : MV} (hc : x.car = 0) (he : msgEmpty (strip x.m) = true) (hk : x.m.ki ≠ 5) : IsRec x.bare :=
  ⟨hc, (strip_from x.m 0 0).trans he, rfl, rfl, hk⟩
set_option maxRecDepth 100000 in
theorem IsRec.check {x : MV} (h : IsRec x) : checkF x.m x.car = 0 := checkF_zero (by rw [h.fr]; omega) (by rw [h.tt]; omega) h.car h.emp
set_option maxRecDepth 100000 in
theorem IsRec.rec0 {x : MV} (h : IsRec x) : recF x.m (checkF x.m x.car) = 0 := by rw [h.check, recF]; simp [h.fr, h.tt, h.ki]
end Go.Proofs.Ytcmlmmlcebemgaa
