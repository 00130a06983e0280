/- The document's TapeCrashed: what it answers, for every argument. -/
import Derived.Test.YtchmfbhdnhaleaaRTap
import Derived.Deep.CutRange
import Derived.Deep.DeepCutAuto
namespace Go.Proofs.Ytchmfbhdnhaleaa
open Go.RowKit

set_option maxRecDepth 100000 in
set_option maxHeartbeats 1000000 in
theorem tapeCrashed_any (bs : List Int) (sa : Option Addr) (n cap : Nat) (sy keep : Int) (w : World) (hn : n = bs.length) (hs : SliceAt w sa cap bs) (hl : bs.length ≤ 140737488355328) (hk1 : keep ≤ 9223372036854775807) (hk0 : -9223372036854775808 ≤ keep) :
    Calls Try.prog 17 #[.agg #[.slice sa n cap, .int .i64 sy], .int .i64 keep] w fun e w' => TapeIs w w' e (bs.take (crashN bs.length sy keep)) (crashN bs.length sy keep) (crashF bs.length sy keep) := by
  subst hn
  have hA : Below w.heap.size w ((w.alloc (.cells #[.slice sa bs.length cap, .int .i64 sy] 41)).alloc (.cells #[.slice none 0 0, .int .i64 0] 41)) := ((Below.refl _ _).alloc (Nat.le_refl _) _).alloc (by simp) _
  have r0 := heap_alloc2_old w (.cells #[.slice sa bs.length cap, .int .i64 sy] 41) (.cells #[.slice none 0 0, .int .i64 0] 41)
  have r1 := heap_alloc2_new w (.cells #[.slice sa bs.length cap, .int .i64 sy] 41) (.cells #[.slice none 0 0, .int .i64 0] 41)
  have hM := tapeMay_any sa bs.length cap sy ((w.alloc (.cells #[.slice sa bs.length cap, .int .i64 sy] 41)).alloc (.cells #[.slice none 0 0, .int .i64 0] 41)) hl
  have HS : Hid (∀ (W : World) (k : Nat), Below w.heap.size w W → k ≤ bs.length → Calls Try.prog 28 #[.slice sa k cap, .slice none 0 0] W fun e w' => ∃ ra rc, e = .returned (.slice ra k rc) ∧ SliceAt w' ra rc (bs.take k) ∧ (∀ sb so, ra = some ⟨sb, so, none⟩ → W.heap.size ≤ sb ∧ sb < w'.heap.size) ∧ Below W.heap.size W w') := by
    show ∀ _, _
    intro W k hW hk
    have hL : (bs.take k).length = k := by rw [List.length_take]; omega
    have := joined_nil (bs.take k) sa k cap W hL.symm ((hs.below hW).takeT k cap hk (by have := hs.le; omega) (Nat.le_refl _) hs.nil) (by omega)
    rw [hL] at this
    exact this
  have hcap := hs.le
  clear hs
  cases ht : tapeOk bs.length sy with
  | false =>
    have hF : Hid (crashF bs.length sy keep = 12 ∧ crashN bs.length sy keep = 0) := by show _ ∧ _; simp [crashF, crashN, ht]
    rw [ht] at hM
    clear ht
    go_enter Try.func17, Try.ntmps17
    go_wp2_with fail
    generalize (w.alloc (.cells #[.slice sa bs.length cap, .int .i64 sy] 41)).alloc (.cells #[.slice none 0 0, .int .i64 0] 41) = W0 at hA r0 r1 hM ⊢
    refine hM.mono ?_
    rintro e w1 ⟨he, hb1⟩
    subst he
    dsimp only
    have p1 := (hb1.block _ (lt_of_heap r1)).trans r1
    have d0 : w1.cell? ⟨w.heap.size + 1, 0, none⟩ = some (.slice none 0 0) := cells_at p1 0 _ rfl
    have d1 : w1.cell? ⟨w.heap.size + 1, 1, none⟩ = some (.int .i64 0) := cells_at p1 1 _ rfl
    have f0 := frozen_at p1 0
    have f1 := frozen_at p1 1
    go_wp2_with fail
    rw [hF.out.1, hF.out.2]
    refine bodyPost_ret (v := .tuple #[.agg #[.slice none 0 0, .int .i64 0], .int .i64 12]) (by simp [results, Try.results17, go_sem, d0, d1]) rfl (TapeIs.bad _ ?_)
    exact ((hA.trans (hb1.mono hA.size)).setCell (by simp) _).setCell (by simp) _
  | true =>
    obtain ⟨t1, t2, t3⟩ := tapeOk_iff.1 ht
    rw [ht] at hM
    by_cases hk : keep < 0
    · have hF : Hid (crashF bs.length sy keep = 2 ∧ crashN bs.length sy keep = 0) := by show _ ∧ _; simp [crashF, crashN, ht, hk]; omega
      clear ht
      go_enter Try.func17, Try.ntmps17
      go_wp2_with fail
      generalize (w.alloc (.cells #[.slice sa bs.length cap, .int .i64 sy] 41)).alloc (.cells #[.slice none 0 0, .int .i64 0] 41) = W0 at hA r0 r1 hM ⊢
      refine hM.mono ?_
      rintro e w1 ⟨he, hb1⟩
      subst he
      dsimp only
      have p1 := (hb1.block _ (lt_of_heap r1)).trans r1
      have d0 : w1.cell? ⟨w.heap.size + 1, 0, none⟩ = some (.slice none 0 0) := cells_at p1 0 _ rfl
      have d1 : w1.cell? ⟨w.heap.size + 1, 1, none⟩ = some (.int .i64 0) := cells_at p1 1 _ rfl
      have f0 := frozen_at p1 0
      have f1 := frozen_at p1 1
      go_wp2_with fail
      rw [hF.out.1, hF.out.2]
      refine bodyPost_ret (v := .tuple #[.agg #[.slice none 0 0, .int .i64 0], .int .i64 2]) (by simp [results, Try.results17, go_sem, d0, d1]) rfl (TapeIs.bad _ ?_)
      exact ((hA.trans (hb1.mono hA.size)).setCell (by simp) _).setCell (by simp) _
    · have hF0 : Hid (crashF bs.length sy keep = 0 ∧ crashN bs.length sy keep = leftN bs.length sy keep) := by show _ ∧ _; simp [crashF, crashN, ht, hk]
      have hLe := leftN_le (n := bs.length) (sy := sy) (keep := keep) t2
      clear ht
      go_enter Try.func17, Try.ntmps17
      go_wp2_with fail
      generalize (w.alloc (.cells #[.slice sa bs.length cap, .int .i64 sy] 41)).alloc (.cells #[.slice none 0 0, .int .i64 0] 41) = W0 at hA r0 r1 hM ⊢
      refine hM.mono ?_
      rintro e w1 ⟨he, hb1⟩
      subst he
      dsimp only
      have hB1 := hA.trans (hb1.mono hA.size)
      have p0 := (hb1.block _ (lt_of_heap r0)).trans r0
      have p1 := (hb1.block _ (lt_of_heap r1)).trans r1
      have c0 : w1.cell? ⟨w.heap.size, 0, none⟩ = some (.slice sa bs.length cap) := cells_at p0 0 _ rfl
      have c1 : w1.cell? ⟨w.heap.size, 1, none⟩ = some (.int .i64 sy) := cells_at p0 1 _ rfl
      have hlt : w.heap.size + 1 < w1.heap.size := lt_of_heap p1
      have hw1 : IntKind.i64.wrap ((bs.length : Int) - sy) = (bs.length : Int) - sy := by rw [IntKind.wrap_i64]; omega
      generalize hK : leftN bs.length sy keep = K at hF0 hLe
      by_cases hm : keep < (bs.length : Int) - sy
      · have hE : Hid (sy + keep = (K : Int)) := by show _ = _; rw [← hK, leftN]; split <;> omega
        have hw2 : IntKind.i64.wrap (sy + keep) = sy + keep := by rw [IntKind.wrap_i64]; omega
        have hKc : sy + keep ≤ (cap : Int) := by omega
        have hK0 : 0 ≤ sy + keep := by omega
        have hKn : (sy + keep).toNat = K := by have := hE.out; omega
        clear hK
        go_wp2_with fail
        refine (HS.out w1 K hB1 hLe).mono ?_
        rintro e w2 ⟨ra, rc, he, hs2, hfr, hb2⟩
        subst he
        dsimp only
        have q1 := (hb2.block _ hlt).trans p1
        have d0 : w2.cell? ⟨w.heap.size + 1, 0, none⟩ = some (.slice none 0 0) := cells_at q1 0 _ rfl
        have d1 : w2.cell? ⟨w.heap.size + 1, 1, none⟩ = some (.int .i64 0) := cells_at q1 1 _ rfl
        have f0 := frozen_at q1 0
        have f1 := frozen_at q1 1
        clear c0 c1
        go_wp2_with fail
        rw [hF0.out.1, hF0.out.2]
        have hLK : (bs.take K).length = K := by rw [List.length_take]; omega
        refine bodyPost_ret (v := .tuple #[.agg #[.slice ra K rc, .int .i64 (K : Int)], .int .i64 0]) (by simp [results, Try.results17, go_sem, d0, d1, hE.out]) rfl ⟨ra, rc, by rw [hLK], ?_, ?_, ?_⟩
        · exact (hs2.setCellT _ _ _ (fun sb so e => by have := (hfr sb so e).1; omega)).setCellT _ _ _ (fun sb so e => by have := (hfr sb so e).1; omega)
        · intro sb so e
          obtain ⟨g1, g2⟩ := hfr sb so e
          have := hB1.size
          exact ⟨by omega, by simpa using g2⟩
        · exact ((hB1.trans (hb2.mono hB1.size)).setCell (by simp) _).setCell (by simp) _
      · have hE : Hid ((bs.length : Int) = (K : Int)) := by show _ = _; rw [← hK, leftN]; split <;> omega
        have hw2 : IntKind.i64.wrap ((bs.length : Int)) = (bs.length : Int) := by rw [IntKind.wrap_i64]; omega
        have hKc : (bs.length : Int) ≤ (cap : Int) := by omega
        have hK0 : 0 ≤ (bs.length : Int) := by omega
        have hKn : ((bs.length : Int)).toNat = K := by have := hE.out; omega
        clear hK
        go_wp2_with fail
        refine (HS.out w1 K hB1 hLe).mono ?_
        rintro e w2 ⟨ra, rc, he, hs2, hfr, hb2⟩
        subst he
        dsimp only
        have q1 := (hb2.block _ hlt).trans p1
        have d0 : w2.cell? ⟨w.heap.size + 1, 0, none⟩ = some (.slice none 0 0) := cells_at q1 0 _ rfl
        have d1 : w2.cell? ⟨w.heap.size + 1, 1, none⟩ = some (.int .i64 0) := cells_at q1 1 _ rfl
        have f0 := frozen_at q1 0
        have f1 := frozen_at q1 1
        clear c0 c1
        go_wp2_with fail
        rw [hF0.out.1, hF0.out.2]
        have hLK : (bs.take K).length = K := by rw [List.length_take]; omega
        refine bodyPost_ret (v := .tuple #[.agg #[.slice ra K rc, .int .i64 (K : Int)], .int .i64 0]) (by simp [results, Try.results17, go_sem, d0, d1, hE.out]) rfl ⟨ra, rc, by rw [hLK], ?_, ?_, ?_⟩
        · exact (hs2.setCellT _ _ _ (fun sb so e => by have := (hfr sb so e).1; omega)).setCellT _ _ _ (fun sb so e => by have := (hfr sb so e).1; omega)
        · intro sb so e
          obtain ⟨g1, g2⟩ := hfr sb so e
          have := hB1.size
          exact ⟨by omega, by simpa using g2⟩
        · exact ((hB1.trans (hb2.mono hB1.size)).setCell (by simp) _).setCell (by simp) _
end Go.Proofs.Ytchmfbhdnhaleaa
