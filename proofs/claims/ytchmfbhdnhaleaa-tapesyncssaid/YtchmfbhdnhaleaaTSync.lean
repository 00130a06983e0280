/- tape.Sync and tape.Crash: what they answer, for every argument. -/
import Derived.Test.YtchmfbhdnhaleaaTCut
import Derived.Deep.CutRange
import Derived.Deep.DeepCutAuto
namespace Go.Proofs.Ytchmfbhdnhaleaa
open Go.RowKit

set_option maxRecDepth 100000 in
set_option maxHeartbeats 1000000 in
theorem tapeSync_any (bs : List Int) (sa : Option Addr) (n cap : Nat) (sy : Int) (w : World) (hn : n = bs.length) (hs : SliceAt w sa cap bs) (hl : bs.length ≤ 140737488355328) :
    Calls Try.prog 14 #[.agg #[.slice sa n cap, .int .i64 sy]] w fun e w' => TapeIs w w' e (bs.take (syncN bs.length sy)) (syncN bs.length sy) (syncF bs.length sy) := by
  subst hn
  have hA : Below w.heap.size w ((w.alloc (.cells #[.slice sa bs.length cap, .int .i64 sy] 41)).alloc (.cells #[.slice none 0 0, .int .i64 0] 41)) := ((Below.refl _ _).alloc (Nat.le_refl _) _).alloc (by simp) _
  have r0 := heap_alloc2_old w (.cells #[.slice sa bs.length cap, .int .i64 sy] 41) (.cells #[.slice none 0 0, .int .i64 0] 41)
  have r1 := heap_alloc2_new w (.cells #[.slice sa bs.length cap, .int .i64 sy] 41) (.cells #[.slice none 0 0, .int .i64 0] 41)
  have hM := mayBe_any sa bs.length cap sy ((w.alloc (.cells #[.slice sa bs.length cap, .int .i64 sy] 41)).alloc (.cells #[.slice none 0 0, .int .i64 0] 41)) hl
  have HS : Hid (∀ W : World, Below w.heap.size w W → Calls Try.prog 29 #[.agg #[.slice sa bs.length cap, .int .i64 sy], .int .i64 (bs.length : Int), .int .i64 (bs.length : Int)] W fun e w' => ∃ ra rc, e = .returned (.agg #[.slice ra bs.length rc, .int .i64 (bs.length : Int)]) ∧ SliceAt w' ra rc (bs.take bs.length) ∧ (∀ sb so, ra = some ⟨sb, so, none⟩ → W.heap.size ≤ sb ∧ sb < w'.heap.size) ∧ Below W.heap.size W w') := by
    show ∀ _, _
    intro W hW
    exact cut_any bs sa _ cap bs.length sy _ W rfl (hs.below hW) (Nat.le_refl _) hl
  clear hs
  cases ht : tapeOk bs.length sy with
  | false =>
    have hF : Hid (syncF bs.length sy = 12 ∧ syncN bs.length sy = 0) := by show _ ∧ _; simp [syncF, syncN, ht]
    rw [ht] at hM
    clear ht
    go_enter Try.func14, Try.ntmps14
    go_wp2_with fail
    generalize (w.alloc (.cells #[.slice sa bs.length cap, .int .i64 sy] 41)).alloc (.cells #[.slice none 0 0, .int .i64 0] 41) = W0 at hA r0 r1 hM ⊢
    refine hM.mono ?_
    rintro e w1 ⟨he, hb1⟩
    subst he
    dsimp only
    have p1 := (hb1.block _ (lt_of_heap r1)).trans r1
    have d0 : w1.cell? ⟨w.heap.size + 1, 0, none⟩ = some (.slice none 0 0) := cells_at p1 0 _ rfl
    have d1 : w1.cell? ⟨w.heap.size + 1, 1, none⟩ = some (.int .i64 0) := cells_at p1 1 _ rfl
    have f0 := frozen_at p1 0
    have f1 := frozen_at p1 1
    go_wp2_with fail
    rw [hF.out.1, hF.out.2]
    refine bodyPost_ret (v := .tuple #[.agg #[.slice none 0 0, .int .i64 0], .int .i64 12]) (by simp [results, Try.results14, go_sem, d0, d1]) rfl (TapeIs.bad _ ?_)
    exact ((hA.trans (hb1.mono hA.size)).setCell (by simp) _).setCell (by simp) _
  | true =>
    have hF : Hid (syncF bs.length sy = 0 ∧ syncN bs.length sy = bs.length) := by show _ ∧ _; simp [syncF, syncN, ht]
    rw [ht] at hM
    clear ht
    go_enter Try.func14, Try.ntmps14
    go_wp2_with fail
    generalize (w.alloc (.cells #[.slice sa bs.length cap, .int .i64 sy] 41)).alloc (.cells #[.slice none 0 0, .int .i64 0] 41) = W0 at hA r0 r1 hM ⊢
    refine hM.mono ?_
    rintro e w1 ⟨he, hb1⟩
    subst he
    dsimp only
    have hB1 := hA.trans (hb1.mono hA.size)
    have p0 := (hb1.block _ (lt_of_heap r0)).trans r0
    have p1 := (hb1.block _ (lt_of_heap r1)).trans r1
    have c0 : w1.cell? ⟨w.heap.size, 0, none⟩ = some (.slice sa bs.length cap) := cells_at p0 0 _ rfl
    have c1 : w1.cell? ⟨w.heap.size, 1, none⟩ = some (.int .i64 sy) := cells_at p0 1 _ rfl
    go_wp2_with fail
    refine (HS.out w1 hB1).mono ?_
    rintro e w2 ⟨ra, rc, he, hs2, hfr, hb2⟩
    subst he
    dsimp only
    have hlt : w.heap.size + 1 < w1.heap.size := lt_of_heap p1
    have q1 := (hb2.block _ hlt).trans p1
    have d0 : w2.cell? ⟨w.heap.size + 1, 0, none⟩ = some (.slice none 0 0) := cells_at q1 0 _ rfl
    have d1 : w2.cell? ⟨w.heap.size + 1, 1, none⟩ = some (.int .i64 0) := cells_at q1 1 _ rfl
    have f0 := frozen_at q1 0
    have f1 := frozen_at q1 1
    clear c0 c1
    go_wp2_with fail
    rw [hF.out.1, hF.out.2]
    rw [List.take_of_length_le (Nat.le_refl _)] at hs2 ⊢
    refine bodyPost_ret (v := .tuple #[.agg #[.slice ra bs.length rc, .int .i64 (bs.length : Int)], .int .i64 0]) (by simp [results, Try.results14, go_sem, d0, d1]) rfl ⟨ra, rc, rfl, ?_, ?_, ?_⟩
    · exact (hs2.setCellT _ _ _ (fun sb so e => by have := (hfr sb so e).1; omega)).setCellT _ _ _ (fun sb so e => by have := (hfr sb so e).1; omega)
    · intro sb so e
      obtain ⟨g1, g2⟩ := hfr sb so e
      have := hB1.size
      exact ⟨by omega, by simpa using g2⟩
    · exact ((hB1.trans (hb2.mono hB1.size)).setCell (by simp) _).setCell (by simp) _
end Go.Proofs.Ytchmfbhdnhaleaa
