/- seal.checkSetting, seal.Signed, for all signs. -/
import Derived.Test.YtmpflkggbekpfaaCSet
namespace Go.Proofs.Ytmpflkggbekpfaa
open Go.RowKit

set_option maxRecDepth 100000 in
set_option maxHeartbeats 1000000 in
theorem signed_any (ls : List Sg) (sa : Option Addr) (n cap : Nat) (bad : Int) (t : Sg) (w : World) (hn : n = ls.length) (hl : ls.length ≤ 2932031007400) (hp : SignsAt w sa ls) (ht : SliceAt w t.p.sa t.p.cap t.p.bs ∧ AllU8 t.p.bs) :
    Calls Try.prog 11 #[.slice sa n cap, .int .i64 bad, .agg #[.int .i64 t.nd, .int .i64 t.au, .int .i64 t.rd, .slice t.p.sa t.p.bs.length t.p.cap]] w fun e w' => e = .returned (.tuple #[.bool (signedF (gvs ls) bad t.v).1, .int .i64 (signedF (gvs ls) bad t.v).2]) ∧ Below w.heap.size w w' := by
  subst hn
  have hA := (Below.refl w.heap.size w).alloc (Nat.le_refl _) (.cells #[.int .i64 t.nd, .int .i64 t.au, .int .i64 t.rd, .slice t.p.sa t.p.bs.length t.p.cap] 31)
  have r0 := heap_alloc_new w (.cells #[.int .i64 t.nd, .int .i64 t.au, .int .i64 t.rd, .slice t.p.sa t.p.bs.length t.p.cap] 31)
  go_enter Try.func11, Try.ntmps11
  go_wp2_with fail
  generalize w.alloc (.cells #[.int .i64 t.nd, .int .i64 t.au, .int .i64 t.rd, .slice t.p.sa t.p.bs.length t.p.cap] 31) = W0 at hA r0 ⊢
  have HC := setting_any ls sa _ cap bad W0 rfl hl (hp.below hA)
  by_cases hs : setF (gvs ls) bad = 0
  · rw [hs] at HC
    refine HC.mono ?_
    rintro e w1 ⟨he, hb1⟩
    subst he
    dsimp only
    have hB1 := hA.trans (hb1.mono hA.size)
    have r1 := (hb1.block _ (lt_of_heap r0)).trans r0
    have c0 := cells_at r1 0 _ rfl
    have c1 := cells_at r1 1 _ rfl
    have c2 := cells_at r1 2 _ rfl
    have c3 := cells_at r1 3 _ rfl
    have HF := checkSign_any t.nd t.au t.rd t.p.sa t.p.bs.length t.p.cap w1
    change Calls _ _ _ _ fun e w' => e = .returned (.int .i64 (gF t.v)) ∧ _ at HF
    have HSet : Hid (setF (gvs ls) bad = 0) := hs
    clear hs HC
    by_cases hg : gF t.v = 0
    · rw [hg] at HF
      have HG : Hid (gF t.v = 0) := hg
      clear hg
      go_wp2_with fail
      refine HF.mono ?_
      rintro e w2 ⟨he, hb2⟩
      subst he
      dsimp only
      clear c0 c1 c2 c3 HF
      have r2 := (hb2.block _ (lt_of_heap r1)).trans r1
      have c0 := cells_at r2 0 _ rfl
      have c1 := cells_at r2 1 _ rfl
      have c2 := cells_at r2 2 _ rfl
      have c3 := cells_at r2 3 _ rfl
      have hB2 := hB1.trans (hb2.mono hB1.size)
      by_cases hn : t.nd = bad
      · have hF : Hid (signedF (gvs ls) bad t.v = (true, 0)) := by
          show _ = _
          rw [signedF_ok HSet.out HG.out]
          simp [Sg.v, hn]
        have hnb : (t.nd == bad) = true := by simpa using hn
        clear hn
        go_wp2_with fail
        go_ret2
        exact ⟨by rw [hF.out]; rfl, hB2⟩
      · have HH := has_any ls sa _ cap t w2 rfl hl (hp.below hB2) ⟨ht.1.below hB2, ht.2⟩
        have hF : Hid (signedF (gvs ls) bad t.v = (decide (t.v ∈ gvs ls), 0)) := by
          show _ = _
          rw [signedF_ok HSet.out HG.out]
          have : ¬ t.v.1 = bad := hn
          simp [this]
        have hnb : (t.nd == bad) = false := by simpa using hn
        generalize decide (t.v ∈ gvs ls) = r at HH hF
        clear hn
        go_wp2_with fail
        refine HH.mono ?_
        rintro e w3 ⟨he, hb3⟩
        subst he
        dsimp only
        go_wp2_with fail
        go_ret2
        exact ⟨by rw [hF.out]; rfl, hB2.trans (hb3.mono hB2.size)⟩
    · have hF : Hid (signedF (gvs ls) bad t.v = (false, gF t.v)) := signedF_form HSet.out hg
      generalize gF t.v = x at *
      have hx : (x != 0) = true := by simpa using hg
      go_wp2_with fail
      refine HF.mono ?_
      rintro e w2 ⟨he, hb2⟩
      subst he
      dsimp only
      go_wp2_with fail
      go_ret2
      exact ⟨by rw [hF.out]; rfl, hB1.trans (hb2.mono hB1.size)⟩
  · have hF : Hid (signedF (gvs ls) bad t.v = (false, setF (gvs ls) bad)) := signedF_set hs
    generalize setF (gvs ls) bad = x at *
    have hx : (x != 0) = true := by simpa using hs
    refine HC.mono ?_
    rintro e w1 ⟨he, hb1⟩
    subst he
    dsimp only
    go_wp2_with fail
    go_ret2
    exact ⟨by rw [hF.out]; rfl, hA.trans (hb1.mono hA.size)⟩
end Go.Proofs.Ytmpflkggbekpfaa
