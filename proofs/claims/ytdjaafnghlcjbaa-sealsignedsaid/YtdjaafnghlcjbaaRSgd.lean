/- The document's SignedBy, for all signs. -/
import Derived.Test.YtdjaafnghlcjbaaRSigs
import Derived.Test.YtdjaafnghlcjbaaSignF
namespace Go.Proofs.Ytdjaafnghlcjbaa
open Go.RowKit

set_option maxRecDepth 100000 in
set_option maxHeartbeats 1000000 in
theorem signedBy_any (ls : List Sg) (sa : Option Addr) (n cap : Nat) (bad : Int) (t : Sg) (w : World) (hn : n = ls.length) (hp : GTab w sa cap ls) (ht : SliceAt w t.p.sa t.p.cap t.p.bs ∧ AllU8 t.p.bs) :
    Calls Try.prog 13 #[.slice sa n cap, .int .i64 bad, .agg #[.int .i64 t.nd, .int .i64 t.au, .int .i64 t.rd, .slice t.p.sa t.p.bs.length t.p.cap]] w fun e w' => e = .returned (.tuple #[.bool (signedF (gvs ls) bad t.v).1, .int .i64 (signedF (gvs ls) bad t.v).2]) ∧ Below w.heap.size w w' := by
  subst hn
  have hA := (Below.refl w.heap.size w).alloc (Nat.le_refl _) (.cells #[.int .i64 t.nd, .int .i64 t.au, .int .i64 t.rd, .slice t.p.sa t.p.bs.length t.p.cap] 31)
  have r0 := heap_alloc_new w (.cells #[.int .i64 t.nd, .int .i64 t.au, .int .i64 t.rd, .slice t.p.sa t.p.bs.length t.p.cap] 31)
  go_enter Try.func13, Try.ntmps13
  go_wp2_with fail
  generalize w.alloc (.cells #[.int .i64 t.nd, .int .i64 t.au, .int .i64 t.rd, .slice t.p.sa t.p.bs.length t.p.cap] 31) = W0 at hA r0 ⊢
  have HC := signsFault_any ls sa _ cap W0 rfl (hp.below hA)
  rcases signsF_or (gvs ls) with h0 | h0
  · rw [h0] at HC
    refine HC.mono ?_
    rintro e w1 ⟨he, hb1⟩
    subst he
    dsimp only
    have hB1 := hA.trans (hb1.mono hA.size)
    have r1 := (hb1.block _ (lt_of_heap r0)).trans r0
    have c0 := cells_at r1 0 _ rfl
    have c1 := cells_at r1 1 _ rfl
    have c2 := cells_at r1 2 _ rfl
    have c3 := cells_at r1 3 _ rfl
    by_cases hbad : -1 ≤ bad ∧ bad ≤ 3
    · have HF := signFault_any t.nd t.au t.rd t.p.sa t.p.bs.length t.p.cap w1
      change Calls _ _ _ _ fun e w' => e = .returned (.int .i64 (gF t.v)) ∧ _ at HF
      have HSet : Hid (setF (gvs ls) bad = 0) := setF_ok h0 hbad
      clear h0 HC
      by_cases hg : gF t.v = 0
      · rw [hg] at HF
        have HG : Hid (gF t.v = 0) := hg
        clear hg
        go_wp2_with (go_at_call 25; refine (in_true _ _ _ _ hbad).mono ?_; rintro e w' ⟨rfl, rfl⟩)
        refine HF.mono ?_
        rintro e w2 ⟨he, hb2⟩
        subst he
        dsimp only
        clear c0 c1 c2 c3 HF
        have r2 := (hb2.block _ (lt_of_heap r1)).trans r1
        have c0 := cells_at r2 0 _ rfl
        have c1 := cells_at r2 1 _ rfl
        have c2 := cells_at r2 2 _ rfl
        have c3 := cells_at r2 3 _ rfl
        have hB2 := hB1.trans (hb2.mono hB1.size)
        by_cases hn : t.nd = bad
        · have hF : Hid (signedF (gvs ls) bad t.v = (true, 0)) := by
            show _ = _
            rw [signedF_ok HSet.out HG.out]
            simp [Sg.v, hn]
          have hnb : (t.nd == bad) = true := by simpa using hn
          clear hn
          go_wp2_with fail
          go_ret2
          exact ⟨by rw [hF.out]; rfl, hB2⟩
        · have HH := hasSign_any ls sa ls.length cap t _ w2 rfl (Nat.le_refl _) hp.small (hp.slots.below hB2) (ht.1.below hB2) ht.2
          rw [List.take_of_length_le (by rw [gvs_length]; exact Nat.le_refl _)] at HH
          have hF : Hid (signedF (gvs ls) bad t.v = (decide (t.v ∈ gvs ls), 0)) := by
            show _ = _
            rw [signedF_ok HSet.out HG.out]
            have : ¬ t.v.1 = bad := hn
            simp [this]
          have hnb : (t.nd == bad) = false := by simpa using hn
          generalize decide (t.v ∈ gvs ls) = r at HH hF
          clear hn
          go_wp2_with fail
          refine HH.mono ?_
          rintro e w3 ⟨he, hb3⟩
          subst he
          dsimp only
          go_wp2_with fail
          go_ret2
          exact ⟨by rw [hF.out]; rfl, hB2.trans (hb3.mono hB2.size)⟩
      · have hF : Hid (signedF (gvs ls) bad t.v = (false, gF t.v)) := signedF_form HSet.out hg
        generalize gF t.v = x at *
        have hx : (x != 0) = true := by simpa using hg
        go_wp2_with (go_at_call 25; refine (in_true _ _ _ _ hbad).mono ?_; rintro e w' ⟨rfl, rfl⟩)
        refine HF.mono ?_
        rintro e w2 ⟨he, hb2⟩
        subst he
        dsimp only
        go_wp2_with fail
        go_ret2
        exact ⟨by rw [hF.out]; rfl, hB1.trans (hb2.mono hB1.size)⟩
    · have hF : Hid (signedF (gvs ls) bad t.v = (false, 2)) := by
        show _ = _
        rw [signedF_set (by rw [setF_range h0 hbad]; decide), setF_range h0 hbad]
      clear h0 HC
      go_wp2_with (go_at_call 25; refine (in_false _ _ _ _ hbad).mono ?_; rintro e w' ⟨rfl, rfl⟩)
      go_ret2
      exact ⟨by rw [hF.out]; rfl, hB1⟩
  · have hF : Hid (signedF (gvs ls) bad t.v = (false, 12)) := by
      show _ = _
      rw [signedF_set (by rw [setF_bad h0]; decide), setF_bad h0]
    rw [h0] at HC
    clear h0
    refine HC.mono ?_
    rintro e w1 ⟨he, hb1⟩
    subst he
    dsimp only
    go_wp2_with fail
    go_ret2
    exact ⟨by rw [hF.out]; rfl, hA.trans (hb1.mono hA.size)⟩
end Go.Proofs.Ytdjaafnghlcjbaa
