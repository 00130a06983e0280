/- wire.Check, for every message of a kind, by what wire.checkCarried answers. -/
import Derived.Test.YtldlknmpkoebbaaWithout
import Derived.Test.YtldlknmpkoebbaaIns
namespace Go.Proofs.Ytldlknmpkoebbaa
open Go.RowKit

/-- The message without what its kind carries. -/
def strip (m : Msg) : Msg := if m.ki = 1 then { m with bau := 0, bnu := 0, bta := none, btn := 0, btc := 0 } else if m.ki = 2 then { m with hau := 0, hrd := 0, hba := none, hbn := 0, hbc := 0, hpa := none, hpn := 0, hpc := 0 } else if m.ki = 3 then { m with sau := 0, srd := 0, sda := none, sdn := 0, sdc := 0 } else if m.ki = 4 then { m with cau := 0, crd := 0, cba := none, cbn := 0, cbc := 0, cpa := none, cpn := 0, cpc := 0, cva := none, cvn := 0, cvc := 0 } else { m with ro := 0 }
set_option maxRecDepth 100000 in
theorem without_any (m : Msg) (w : World) (hk : 1 ≤ m.ki ∧ m.ki ≤ 5) :
    Calls Try.prog 77 #[.agg #[.int .i64 m.fr, .int .i64 m.tt, .int .i64 m.ki, .int .i64 m.bau, .int .i64 m.bnu, .slice m.bta m.btn m.btc, .int .i64 m.hau, .int .i64 m.hrd, .slice m.hba m.hbn m.hbc, .slice m.hpa m.hpn m.hpc, .int .i64 m.sau, .int .i64 m.srd, .slice m.sda m.sdn m.sdc, .int .i64 m.cau, .int .i64 m.crd, .slice m.cba m.cbn m.cbc, .slice m.cpa m.cpn m.cpc, .slice m.cva m.cvn m.cvc, .int .i64 m.ro]] w fun e w' => e = .returned (.agg #[.int .i64 (strip m).fr, .int .i64 (strip m).tt, .int .i64 (strip m).ki, .int .i64 (strip m).bau, .int .i64 (strip m).bnu, .slice (strip m).bta (strip m).btn (strip m).btc, .int .i64 (strip m).hau, .int .i64 (strip m).hrd, .slice (strip m).hba (strip m).hbn (strip m).hbc, .slice (strip m).hpa (strip m).hpn (strip m).hpc, .int .i64 (strip m).sau, .int .i64 (strip m).srd, .slice (strip m).sda (strip m).sdn (strip m).sdc, .int .i64 (strip m).cau, .int .i64 (strip m).crd, .slice (strip m).cba (strip m).cbn (strip m).cbc, .slice (strip m).cpa (strip m).cpn (strip m).cpc, .slice (strip m).cva (strip m).cvn (strip m).cvc, .int .i64 (strip m).ro]) ∧ Below w.heap.size w w' := by
  have h : m.ki = 1 ∨ m.ki = 2 ∨ m.ki = 3 ∨ m.ki = 4 ∨ m.ki = 5 := by omega
  rcases h with h | h | h | h | h
  · refine (without1 m w h).mono ?_
    rintro e w' ⟨rfl, hb⟩
    exact ⟨by simp [strip, h], hb⟩
  · refine (without2 m w h).mono ?_
    rintro e w' ⟨rfl, hb⟩
    exact ⟨by simp [strip, h], hb⟩
  · refine (without3 m w h).mono ?_
    rintro e w' ⟨rfl, hb⟩
    exact ⟨by simp [strip, h], hb⟩
  · refine (without4 m w h).mono ?_
    rintro e w' ⟨rfl, hb⟩
    exact ⟨by simp [strip, h], hb⟩
  · refine (without5 m w h).mono ?_
    rintro e w' ⟨rfl, hb⟩
    exact ⟨by simp [strip, h], hb⟩
/-- P2.8, by what is told of what the kind carries. -/
def checkF (m : Msg) (e : Int) : Int := if ¬ (0 ≤ m.fr ∧ m.fr < 4) ∨ ¬ (0 ≤ m.tt ∧ m.tt < 4) then 2 else if e ≠ 0 then e else if msgEmpty (strip m) then 0 else 4

set_option maxRecDepth 100000 in
set_option maxHeartbeats 1000000 in
theorem check_of (m : Msg) (ec : Int) (w : World) (hk : ec = 0 → 1 ≤ m.ki ∧ m.ki ≤ 5)
    (hc : ∀ w1, Below w.heap.size w w1 → Calls Try.prog 75 #[.agg #[.int .i64 m.fr, .int .i64 m.tt, .int .i64 m.ki, .int .i64 m.bau, .int .i64 m.bnu, .slice m.bta m.btn m.btc, .int .i64 m.hau, .int .i64 m.hrd, .slice m.hba m.hbn m.hbc, .slice m.hpa m.hpn m.hpc, .int .i64 m.sau, .int .i64 m.srd, .slice m.sda m.sdn m.sdc, .int .i64 m.cau, .int .i64 m.crd, .slice m.cba m.cbn m.cbc, .slice m.cpa m.cpn m.cpc, .slice m.cva m.cvn m.cvc, .int .i64 m.ro]] w1 fun e w' => e = .returned (.int .i64 ec) ∧ Below w1.heap.size w1 w') :
    Calls Try.prog 49 #[.agg #[.int .i64 m.fr, .int .i64 m.tt, .int .i64 m.ki, .int .i64 m.bau, .int .i64 m.bnu, .slice m.bta m.btn m.btc, .int .i64 m.hau, .int .i64 m.hrd, .slice m.hba m.hbn m.hbc, .slice m.hpa m.hpn m.hpc, .int .i64 m.sau, .int .i64 m.srd, .slice m.sda m.sdn m.sdc, .int .i64 m.cau, .int .i64 m.crd, .slice m.cba m.cbn m.cbc, .slice m.cpa m.cpn m.cpc, .slice m.cva m.cvn m.cvc, .int .i64 m.ro]] w fun e w' => e = .returned (.int .i64 (checkF m ec)) ∧ Below w.heap.size w w' := by
  have hq := heap_alloc_new w (.cells #[.int .i64 m.fr, .int .i64 m.tt, .int .i64 m.ki, .int .i64 m.bau, .int .i64 m.bnu, .slice m.bta m.btn m.btc, .int .i64 m.hau, .int .i64 m.hrd, .slice m.hba m.hbn m.hbc, .slice m.hpa m.hpn m.hpc, .int .i64 m.sau, .int .i64 m.srd, .slice m.sda m.sdn m.sdc, .int .i64 m.cau, .int .i64 m.crd, .slice m.cba m.cbn m.cbc, .slice m.cpa m.cpn m.cpc, .slice m.cva m.cvn m.cvc, .int .i64 m.ro] 53)
  have hB : Below w.heap.size w (w.alloc (.cells #[.int .i64 m.fr, .int .i64 m.tt, .int .i64 m.ki, .int .i64 m.bau, .int .i64 m.bnu, .slice m.bta m.btn m.btc, .int .i64 m.hau, .int .i64 m.hrd, .slice m.hba m.hbn m.hbc, .slice m.hpa m.hpn m.hpc, .int .i64 m.sau, .int .i64 m.srd, .slice m.sda m.sdn m.sdc, .int .i64 m.cau, .int .i64 m.crd, .slice m.cba m.cbn m.cbc, .slice m.cpa m.cpn m.cpc, .slice m.cva m.cvn m.cvc, .int .i64 m.ro] 53)) := (Below.refl _ _).alloc (Nat.le_refl _) _
  by_cases hf : 0 ≤ m.fr ∧ m.fr < 4
  · by_cases ht : 0 ≤ m.tt ∧ m.tt < 4
    · by_cases he : ec = 0
      · obtain ⟨hk1, hk2⟩ := hk he
        subst he
        go_enter Try.func49, Try.ntmps49
        go_wp2_with (first | (go_at_call 74; first | (refine (isNode_true _ _ (by omega)).mono ?_; rintro e w' ⟨rfl, rfl⟩) | (refine (isNode_false _ _ (by omega)).mono ?_; rintro e w' ⟨rfl, rfl⟩)) | refine wpList_load_row rfl 53 _ rfl w.heap.size rfl 53 #[.int .i64 m.fr, .int .i64 m.tt, .int .i64 m.ki, .int .i64 m.bau, .int .i64 m.bnu, .slice m.bta m.btn m.btc, .int .i64 m.hau, .int .i64 m.hrd, .slice m.hba m.hbn m.hbc, .slice m.hpa m.hpn m.hpc, .int .i64 m.sau, .int .i64 m.srd, .slice m.sda m.sdn m.sdc, .int .i64 m.cau, .int .i64 m.crd, .slice m.cba m.cbn m.cbc, .slice m.cpa m.cpn m.cpc, .slice m.cva m.cvn m.cvc, .int .i64 m.ro] (0, 0) _ hq Try.underlying53 rfl sMsg ?_)
        refine (hc _ hB).mono ?_
        rintro e w1 ⟨rfl, hb1⟩
        have r1 := row_new hb1
        replace hb1 := below_alloc hb1
        go_wp2_with (first | refine wpList_load_row rfl 53 _ rfl w.heap.size rfl 53 #[.int .i64 m.fr, .int .i64 m.tt, .int .i64 m.ki, .int .i64 m.bau, .int .i64 m.bnu, .slice m.bta m.btn m.btc, .int .i64 m.hau, .int .i64 m.hrd, .slice m.hba m.hbn m.hbc, .slice m.hpa m.hpn m.hpc, .int .i64 m.sau, .int .i64 m.srd, .slice m.sda m.sdn m.sdc, .int .i64 m.cau, .int .i64 m.crd, .slice m.cba m.cbn m.cbc, .slice m.cpa m.cpn m.cpc, .slice m.cva m.cvn m.cvc, .int .i64 m.ro] (0, 0) _ r1 Try.underlying53 rfl sMsg ?_)
        refine (without_any m w1 ⟨hk1, hk2⟩).mono ?_
        rintro e w2 ⟨rfl, hb2⟩
        have hb12 := hb1.trans (hb2.mono hb1.size)
        by_cases hm : msgEmpty (strip m)
        · have hF : Hid (checkF m 0 = 0) := by show _ = _; simp [checkF, hf, ht, hm]
          go_wp2_with fail
          refine (isEmpty_bool (strip m) true w2 hm.symm).mono ?_
          rintro e w3 ⟨rfl, hb3⟩
          go_wp2_with fail
          go_ret
          exact ⟨ret_int hF.out.symm, hb12.trans (hb3.mono hb12.size)⟩
        · have hF : Hid (checkF m 0 = 4) := by show _ = _; simp [checkF, hf, ht, hm]
          go_wp2_with fail
          refine (isEmpty_bool (strip m) false w2 (by simp at hm; exact hm.symm)).mono ?_
          rintro e w3 ⟨rfl, hb3⟩
          go_wp2_with fail
          go_ret
          exact ⟨ret_int hF.out.symm, hb12.trans (hb3.mono hb12.size)⟩
      · have hF : Hid (checkF m ec = ec) := by show _ = _; simp [checkF, hf, ht, he]
        go_enter Try.func49, Try.ntmps49
        go_wp2_with (first | (go_at_call 74; first | (refine (isNode_true _ _ (by omega)).mono ?_; rintro e w' ⟨rfl, rfl⟩) | (refine (isNode_false _ _ (by omega)).mono ?_; rintro e w' ⟨rfl, rfl⟩)) | refine wpList_load_row rfl 53 _ rfl w.heap.size rfl 53 #[.int .i64 m.fr, .int .i64 m.tt, .int .i64 m.ki, .int .i64 m.bau, .int .i64 m.bnu, .slice m.bta m.btn m.btc, .int .i64 m.hau, .int .i64 m.hrd, .slice m.hba m.hbn m.hbc, .slice m.hpa m.hpn m.hpc, .int .i64 m.sau, .int .i64 m.srd, .slice m.sda m.sdn m.sdc, .int .i64 m.cau, .int .i64 m.crd, .slice m.cba m.cbn m.cbc, .slice m.cpa m.cpn m.cpc, .slice m.cva m.cvn m.cvc, .int .i64 m.ro] (0, 0) _ hq Try.underlying53 rfl sMsg ?_)
        refine (hc _ hB).mono ?_
        rintro e w1 ⟨rfl, hb1⟩
        replace hb1 := below_alloc hb1
        go_wp2_with fail
        go_ret
        exact ⟨ret_int hF.out.symm, hb1⟩
    · have hF : Hid (checkF m ec = 2) := by show _ = _; simp [checkF, ht]
      go_enter Try.func49, Try.ntmps49
      go_wp2_with (go_at_call 74; first | (refine (isNode_true _ _ (by omega)).mono ?_; rintro e w' ⟨rfl, rfl⟩) | (refine (isNode_false _ _ (by omega)).mono ?_; rintro e w' ⟨rfl, rfl⟩))
      go_ret
      exact ⟨ret_int hF.out.symm, hB⟩
  · have hF : Hid (checkF m ec = 2) := by show _ = _; simp [checkF, hf]
    go_enter Try.func49, Try.ntmps49
    go_wp2_with (go_at_call 74; first | (refine (isNode_true _ _ (by omega)).mono ?_; rintro e w' ⟨rfl, rfl⟩) | (refine (isNode_false _ _ (by omega)).mono ?_; rintro e w' ⟨rfl, rfl⟩))
    go_ret
    exact ⟨ret_int hF.out.symm, hB⟩
end Go.Proofs.Ytldlknmpkoebbaa
