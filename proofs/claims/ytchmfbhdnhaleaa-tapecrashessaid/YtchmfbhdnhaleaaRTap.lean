/- The document's TapeMay, TapeSynced: what they answer, for every tape. -/
import Derived.Test.YtchmfbhdnhaleaaTapF
import Derived.Test.YtchmfbhdnhaleaaRIn
import Derived.Test.YtchmfbhdnhaleaaJoined
import Derived.Test.YtchmfbhdnhaleaaRawU
import Derived.Deep.RegionHeld3
namespace Go.Proofs.Ytchmfbhdnhaleaa
open Go.RowKit

set_option maxRecDepth 100000 in
set_option maxHeartbeats 400000 in
theorem tapeMay_any (sa : Option Addr) (n cap : Nat) (sy : Int) (w : World) (hn : n ≤ 140737488355328) :
    Calls Try.prog 26 #[.agg #[.slice sa n cap, .int .i64 sy]] w fun e w' => e = .returned (.bool (tapeOk n sy)) ∧ Below w.heap.size w w' := by
  have hA : Below w.heap.size w (w.alloc (.cells #[.slice sa n cap, .int .i64 sy] 41)) := (Below.refl _ _).alloc (Nat.le_refl _) _
  by_cases h1 : (n : Int) ≤ 400000
  · have hI : Hid (∀ W : World, Calls Try.prog 36 #[.int .i64 sy, .int .i64 0, .int .i64 (n : Int)] W fun e w' => e = .returned (.bool (tapeOk n sy)) ∧ W = w') := by
      show ∀ _, _
      intro W
      exact in_bool sy 0 n _ W (by rw [tapeOk]; exact decide_eq_decide.2 (by omega))
    go_enter Try.func26, Try.ntmps26
    go_wp2_with (go_at_call 36; refine (hI.out _).mono ?_; rintro e w' ⟨rfl, rfl⟩)
    go_ret
    exact ⟨rfl, hA⟩
  · have hF : Hid (tapeOk n sy = false) := tapeOk_not (by omega)
    go_enter Try.func26, Try.ntmps26
    go_wp2_with fail
    go_ret
    exact ⟨by rw [hF.out]; rfl, hA⟩
set_option maxRecDepth 100000 in
theorem joined_nil (xs : List Int) (sa : Option Addr) (n c : Nat) (w : World) (hn : n = xs.length) (ha : SliceAt w sa c xs) (hl : xs.length ≤ 140737488355328) :
    Calls Try.prog 28 #[.slice sa n c, .slice none 0 0] w fun e w' => ∃ ra rc, e = .returned (.slice ra xs.length rc) ∧ SliceAt w' ra rc xs ∧ (∀ sb so, ra = some ⟨sb, so, none⟩ → w.heap.size ≤ sb ∧ sb < w'.heap.size) ∧ Below w.heap.size w w' := by
  refine (joined_any xs [] sa none n 0 c 0 w hn rfl ha (nilSliceT _) (by simpa using hl)).mono ?_
  rintro e w1 ⟨v, he, ho, hb⟩
  simp only [List.append_nil, List.length_nil, Nat.add_zero] at ho
  obtain ⟨ra, rc, hv, _, hs⟩ := owns_form ho
  have hlt := ho.lt
  subst hv
  exact ⟨ra, rc, he, hs, fun sb so e => hlt sb (by rw [e]; rfl), hb⟩
set_option maxRecDepth 100000 in
set_option maxHeartbeats 1000000 in
theorem tapeSynced_any (bs : List Int) (sa : Option Addr) (n cap : Nat) (sy : Int) (w : World) (hn : n = bs.length) (hs : SliceAt w sa cap bs) (hl : bs.length ≤ 140737488355328) :
    Calls Try.prog 15 #[.agg #[.slice sa n cap, .int .i64 sy]] w fun e w' => TapeIs w w' e (bs.take (syncN bs.length sy)) (syncN bs.length sy) (syncF bs.length sy) := by
  subst hn
  have hA : Below w.heap.size w ((w.alloc (.cells #[.slice sa bs.length cap, .int .i64 sy] 41)).alloc (.cells #[.slice none 0 0, .int .i64 0] 41)) := ((Below.refl _ _).alloc (Nat.le_refl _) _).alloc (by simp) _
  have r0 := heap_alloc2_old w (.cells #[.slice sa bs.length cap, .int .i64 sy] 41) (.cells #[.slice none 0 0, .int .i64 0] 41)
  have r1 := heap_alloc2_new w (.cells #[.slice sa bs.length cap, .int .i64 sy] 41) (.cells #[.slice none 0 0, .int .i64 0] 41)
  have hM := tapeMay_any sa bs.length cap sy ((w.alloc (.cells #[.slice sa bs.length cap, .int .i64 sy] 41)).alloc (.cells #[.slice none 0 0, .int .i64 0] 41)) hl
  have HS : Hid (∀ W : World, Below w.heap.size w W → Calls Try.prog 28 #[.slice sa bs.length cap, .slice none 0 0] W fun e w' => ∃ ra rc, e = .returned (.slice ra bs.length rc) ∧ SliceAt w' ra rc bs ∧ (∀ sb so, ra = some ⟨sb, so, none⟩ → W.heap.size ≤ sb ∧ sb < w'.heap.size) ∧ Below W.heap.size W w') := by
    show ∀ _, _
    intro W hW
    exact joined_nil bs sa _ cap W rfl (hs.below hW) hl
  clear hs
  cases ht : tapeOk bs.length sy with
  | false =>
    have hF : Hid (syncF bs.length sy = 12 ∧ syncN bs.length sy = 0) := by show _ ∧ _; simp [syncF, syncN, ht]
    rw [ht] at hM
    clear ht
    go_enter Try.func15, Try.ntmps15
    go_wp2_with fail
    generalize (w.alloc (.cells #[.slice sa bs.length cap, .int .i64 sy] 41)).alloc (.cells #[.slice none 0 0, .int .i64 0] 41) = W0 at hA r0 r1 hM ⊢
    refine hM.mono ?_
    rintro e w1 ⟨he, hb1⟩
    subst he
    dsimp only
    have p1 := (hb1.block _ (lt_of_heap r1)).trans r1
    have d0 : w1.cell? ⟨w.heap.size + 1, 0, none⟩ = some (.slice none 0 0) := cells_at p1 0 _ rfl
    have d1 : w1.cell? ⟨w.heap.size + 1, 1, none⟩ = some (.int .i64 0) := cells_at p1 1 _ rfl
    have f0 := frozen_at p1 0
    have f1 := frozen_at p1 1
    go_wp2_with fail
    rw [hF.out.1, hF.out.2]
    refine bodyPost_ret (v := .tuple #[.agg #[.slice none 0 0, .int .i64 0], .int .i64 12]) (by simp [results, Try.results15, go_sem, d0, d1]) rfl (TapeIs.bad _ ?_)
    exact ((hA.trans (hb1.mono hA.size)).setCell (by simp) _).setCell (by simp) _
  | true =>
    have hF : Hid (syncF bs.length sy = 0 ∧ syncN bs.length sy = bs.length) := by show _ ∧ _; simp [syncF, syncN, ht]
    rw [ht] at hM
    clear ht
    go_enter Try.func15, Try.ntmps15
    go_wp2_with fail
    generalize (w.alloc (.cells #[.slice sa bs.length cap, .int .i64 sy] 41)).alloc (.cells #[.slice none 0 0, .int .i64 0] 41) = W0 at hA r0 r1 hM ⊢
    refine hM.mono ?_
    rintro e w1 ⟨he, hb1⟩
    subst he
    dsimp only
    have hB1 := hA.trans (hb1.mono hA.size)
    have p0 := (hb1.block _ (lt_of_heap r0)).trans r0
    have p1 := (hb1.block _ (lt_of_heap r1)).trans r1
    have c0 : w1.cell? ⟨w.heap.size, 0, none⟩ = some (.slice sa bs.length cap) := cells_at p0 0 _ rfl
    have hlt : w.heap.size + 1 < w1.heap.size := lt_of_heap p1
    go_wp2_with fail
    go_region_held3 (fun w' => w'.cell? ⟨w.heap.size, 0, none⟩ = some (.slice sa bs.length cap)) (go_keep) ((go_at_call 28; refine (HS.out _ hB1.drew).mono ?_; rintro e w2 ⟨ra, rc, rfl, hs2, hfr, hb2⟩; replace hb2 := below_drew hb2; have s0 := (hb2.block _ (lt_of_heap p0)).trans p0; have s1 := (hb2.block _ (lt_of_heap p1)).trans p1; have g0 : w2.cell? ⟨w.heap.size, 0, none⟩ = some (.slice sa bs.length cap) := cells_at s0 0 _ rfl; have e0 : w2.cell? ⟨w.heap.size + 1, 0, none⟩ = some (.slice none 0 0) := cells_at s1 0 _ rfl; have e1 : w2.cell? ⟨w.heap.size + 1, 1, none⟩ = some (.int .i64 0) := cells_at s1 1 _ rfl; have k0 := frozen_at s1 0; have k1 := frozen_at s1 1))
    all_goals
      go_wp2_with fail
      rw [hF.out.1, hF.out.2]
      rw [List.take_of_length_le (Nat.le_refl _)]
      refine bodyPost_ret (v := .tuple #[.agg #[.slice ra bs.length rc, .int .i64 (bs.length : Int)], .int .i64 0]) (by simp [results, Try.results15, go_sem, e0, e1]) rfl ⟨ra, rc, rfl, ?_, ?_, ?_⟩
      · exact (hs2.setCellT _ _ _ (fun sb so e => by have := (hfr sb so e).1; simp at this; omega)).setCellT _ _ _ (fun sb so e => by have := (hfr sb so e).1; simp at this; omega)
      · intro sb so e
        obtain ⟨g1, g2⟩ := hfr sb so e
        have := hB1.size
        simp at g1
        exact ⟨by omega, by simpa using g2⟩
      · exact ((hB1.trans (hb2.mono hB1.size)).setCell (by simp) _).setCell (by simp) _
end Go.Proofs.Ytchmfbhdnhaleaa
