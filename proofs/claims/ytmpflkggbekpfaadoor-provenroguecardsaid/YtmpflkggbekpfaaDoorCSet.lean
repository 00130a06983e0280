/- seal.checkSetting, for all signs. -/
import Derived.Test.YtmpflkggbekpfaaDoorCSeal
import Derived.Test.YtmpflkggbekpfaaDoorSignF
namespace Go.Proofs.YtmpflkggbekpfaaDoor
open Go.RowKit

set_option maxRecDepth 100000 in
set_option maxHeartbeats 1000000 in
theorem setting_any (ls : List Sg) (sa : Option Addr) (n cap : Nat) (bad : Int) (w : World) (hn : n = ls.length) (hl : ls.length ≤ 2932031007400) (hp : SignsAt w sa ls) :
    Calls Tryd.prog 17 #[.slice sa n cap, .int .i64 bad] w fun e w' => e = .returned (.int .i64 (setF (gvs ls) bad)) ∧ Below w.heap.size w w' := by
  subst hn
  have HC := sealCheck_any ls sa _ cap w rfl hl hp
  rcases signsF_or (gvs ls) with h0 | h0
  · rw [h0] at HC
    by_cases hb : -1 ≤ bad ∧ bad ≤ 3
    · have hF : Hid (setF (gvs ls) bad = 0) := setF_ok h0 hb
      by_cases h1 : bad = -1
      · subst h1
        clear h0
        go_enter Tryd.func17, Tryd.ntmps17
        go_wp2_with fail
        refine HC.mono ?_
        rintro e w1 ⟨he, hb1⟩
        subst he
        dsimp only
        go_wp2_with fail
        go_ret
        exact ⟨ret_int hF.out.symm, hb1⟩
      · clear h0
        go_enter Tryd.func17, Tryd.ntmps17
        go_wp2_with fail
        refine HC.mono ?_
        rintro e w1 ⟨he, hb1⟩
        subst he
        dsimp only
        have h2 : (bad != -1) = true := by simpa using h1
        go_wp2_with (go_at_call 33; refine (gNode_bool _ true _ (by rw [decide_eq_true (by omega)])).mono ?_; rintro e w' ⟨rfl, rfl⟩)
        go_ret
        exact ⟨ret_int hF.out.symm, hb1⟩
    · have hF : Hid (setF (gvs ls) bad = 2) := setF_range h0 hb
      clear h0
      go_enter Tryd.func17, Tryd.ntmps17
      go_wp2_with fail
      refine HC.mono ?_
      rintro e w1 ⟨he, hb1⟩
      subst he
      dsimp only
      have h2 : (bad != -1) = true := by simp; omega
      go_wp2_with (go_at_call 33; refine (gNode_bool _ false _ (by rw [decide_eq_false (by omega)])).mono ?_; rintro e w' ⟨rfl, rfl⟩)
      go_ret
      exact ⟨ret_int hF.out.symm, hb1⟩
  · have hF : Hid (setF (gvs ls) bad = 12) := setF_bad h0
    rw [h0] at HC
    clear h0
    go_enter Tryd.func17, Tryd.ntmps17
    go_wp2_with fail
    refine HC.mono ?_
    rintro e w1 ⟨he, hb1⟩
    subst he
    dsimp only
    go_wp2_with fail
    go_ret
    exact ⟨ret_int hF.out.symm, hb1⟩
set_option maxRecDepth 100000 in
theorem setF_vals (l : List GV) (bad : Int) (h : setF l bad ≠ 0) : setF l bad = 12 ∨ setF l bad = 2 := by
  unfold setF at *
  split
  · exact .inl rfl
  · rename_i g
    rw [if_neg g] at h
    split
    · exact .inr rfl
    · rename_i g2
      rw [if_neg g2] at h
      exact absurd rfl h
end Go.Proofs.YtmpflkggbekpfaaDoor
