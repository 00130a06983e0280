/- tape.mayBe and tape.cut. -/
import Derived.Test.YtchmfbhdnhaleaaTapF
import Derived.Test.YtchmfbhdnhaleaaClone
namespace Go.Proofs.Ytchmfbhdnhaleaa
open Go.RowKit

set_option maxRecDepth 100000 in
set_option maxHeartbeats 400000 in
theorem mayBe_any (sa : Option Addr) (n cap : Nat) (sy : Int) (w : World) (hn : n ≤ 140737488355328) :
    Calls Try.prog 24 #[.agg #[.slice sa n cap, .int .i64 sy]] w fun e w' => e = .returned (.bool (tapeOk n sy)) ∧ Below w.heap.size w w' := by
  have hA : Below w.heap.size w (w.alloc (.cells #[.slice sa n cap, .int .i64 sy] 41)) := (Below.refl _ _).alloc (Nat.le_refl _) _
  by_cases h1 : (n : Int) ≤ 400000
  · by_cases h2 : 0 ≤ sy
    · by_cases h3 : sy ≤ n
      · have hF : Hid (tapeOk n sy = true) := tapeOk_iff.2 ⟨by omega, h2, h3⟩
        go_enter Try.func24, Try.ntmps24
        go_wp2_with fail
        go_ret
        exact ⟨by rw [hF.out]; rfl, hA⟩
      · have hF : Hid (tapeOk n sy = false) := tapeOk_not (by omega)
        go_enter Try.func24, Try.ntmps24
        go_wp2_with fail
        go_ret
        exact ⟨by rw [hF.out]; rfl, hA⟩
    · have hF : Hid (tapeOk n sy = false) := tapeOk_not (by omega)
      go_enter Try.func24, Try.ntmps24
      go_wp2_with fail
      go_ret
      exact ⟨by rw [hF.out]; rfl, hA⟩
  · have hF : Hid (tapeOk n sy = false) := tapeOk_not (by omega)
    go_enter Try.func24, Try.ntmps24
    go_wp2_with fail
    go_ret
    exact ⟨by rw [hF.out]; rfl, hA⟩
set_option maxRecDepth 100000 in
set_option maxHeartbeats 400000 in
theorem cut_any (bs : List Int) (sa : Option Addr) (n cap k : Nat) (s0 sy : Int) (w : World) (hn : n = bs.length) (hs : SliceAt w sa cap bs) (hk : k ≤ bs.length) (hl : bs.length ≤ 140737488355328) :
    Calls Try.prog 29 #[.agg #[.slice sa n cap, .int .i64 s0], .int .i64 k, .int .i64 sy] w fun e w' => ∃ ra rc, e = .returned (.agg #[.slice ra k rc, .int .i64 sy]) ∧ SliceAt w' ra rc (bs.take k) ∧ (∀ sb so, ra = some ⟨sb, so, none⟩ → w.heap.size ≤ sb ∧ sb < w'.heap.size) ∧ Below w.heap.size w w' := by
  subst hn
  have hle := hs.le
  have hA : Below w.heap.size w ((w.alloc (.cells #[.slice sa bs.length cap, .int .i64 s0] 41)).alloc (.cells #[.slice none 0 0, .int .i64 0] 41)) := ((Below.refl _ _).alloc (Nat.le_refl _) _).alloc (by simp) _
  have r0 := heap_alloc2_old w (.cells #[.slice sa bs.length cap, .int .i64 s0] 41) (.cells #[.slice none 0 0, .int .i64 0] 41)
  have r1 := heap_alloc2_new w (.cells #[.slice sa bs.length cap, .int .i64 s0] 41) (.cells #[.slice none 0 0, .int .i64 0] 41)
  have hkn : sa = none → k = 0 := fun h => by have := hs.nil h; omega
  have hT := clone_any (bs.take k) sa k k _ (by simp; omega) ((hs.below hA).takeT k k hk (Nat.le_refl _) (by omega) hkn) (by rw [List.length_take]; omega)
  have hL : Hid ((bs.take k).length = k) := by show _ = _; rw [List.length_take]; omega
  rw [hL.out] at hT
  have hkc : (k : Int) ≤ cap := by omega
  have hk0 : (0 : Int) ≤ k := by omega
  clear hkn hs
  go_enter Try.func29, Try.ntmps29
  go_wp2_with fail
  generalize (w.alloc (.cells #[.slice sa bs.length cap, .int .i64 s0] 41)).alloc (.cells #[.slice none 0 0, .int .i64 0] 41) = W0 at hA r0 r1 hT ⊢
  refine hT.mono ?_
  rintro e w1 ⟨ra, rc, he, hs1, hfr, hb1⟩
  subst he
  dsimp only
  have p1 := (hb1.block _ (lt_of_heap r1)).trans r1
  have d0 : w1.cell? ⟨w.heap.size + 1, 0, none⟩ = some (.slice none 0 0) := cells_at p1 0 _ rfl
  have d1 : w1.cell? ⟨w.heap.size + 1, 1, none⟩ = some (.int .i64 0) := cells_at p1 1 _ rfl
  have f0 := frozen_at p1 0
  have f1 := frozen_at p1 1
  have hlt := lt_of_heap r1
  go_wp2_with fail
  refine bodyPost_ret (v := .agg #[.slice ra k rc, .int .i64 sy]) (by simp [results, Try.results29, go_sem, d0, d1]) rfl ⟨ra, rc, rfl, ?_, ?_, ?_⟩
  · exact (hs1.setCellT _ _ _ (fun sb so e => by have := (hfr sb so e).1; omega)).setCellT _ _ _ (fun sb so e => by have := (hfr sb so e).1; omega)
  · intro sb so e
    obtain ⟨g1, g2⟩ := hfr sb so e
    exact ⟨by omega, by simpa using g2⟩
  · exact ((hA.trans (hb1.mono hA.size)).setCell (by simp) _).setCell (by simp) _
end Go.Proofs.Ytchmfbhdnhaleaa
