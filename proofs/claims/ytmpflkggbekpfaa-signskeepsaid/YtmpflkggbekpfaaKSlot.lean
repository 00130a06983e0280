/- sheaveskeep.slot: a slot of raw numbers. -/
import Derived.Test.YtmpflkggbekpfaaSome
import Derived.Test.YtmpflkggbekpfaaSx
import Derived.Test.YtmpflkggbekpfaaSignsL
import Derived.Deep.RegionHeld3
namespace Go.Proofs.Ytmpflkggbekpfaa
open Go.RowKit

set_option maxRecDepth 100000 in
theorem someL_u8 (n m : Int) : AllU8 (someL n m) := by
  have hp := pk_bounds n 256 (by decide)
  have h2 := Int.emod_nonneg m (show (256 : Int) ≠ 0 by decide)
  have h3 := Int.emod_lt_of_pos m (show (0 : Int) < 256 by decide)
  intro x hx
  unfold someL at hx
  rcases List.mem_or_eq_of_mem_set hx with hx | rfl
  · rcases List.mem_or_eq_of_mem_set hx with hx | rfl
    · rcases List.mem_or_eq_of_mem_set hx with hx | rfl
      · rw [List.mem_replicate] at hx; omega
      · omega
    · omega
  · omega
set_option maxRecDepth 100000 in
theorem someL_get (n m : Int) : (someL n m).getD 1 0 = m % 256 := by simp [someL, List.getD]
set_option maxRecDepth 100000 in
set_option maxHeartbeats 2000000 in
theorem slot_aux (n m x y : Int) (L : List Int) (w : World) (hp5 : 0 ≤ y ∧ y < 5) (H3 : ∀ W, Calls Try.prog 8 #[.int .i64 n, .int .i64 3] W fun e w' => e = .returned (.int .i64 x) ∧ W = w') (H5 : ∀ W, Calls Try.prog 8 #[.int .i64 n, .int .i64 5] W fun e w' => e = .returned (.int .i64 y) ∧ W = w')
    (HS : ∀ w, Calls Try.prog 14 #[.int .i64 n, .int .i64 m] w fun e w' => e = .returned (.slice (some ⟨w.heap.size, 0, none⟩) 32 32) ∧ w'.ownsRow w.heap.size 5 1 (.slice (some ⟨w.heap.size, 0, none⟩) 32 32) 32 (ub L) ∧ Below w.heap.size w w') :
    Calls Try.prog 9 #[.int .i64 n, .int .i64 m] w fun e w' => ∃ b, e = .returned (.agg #[.int .i64 x, .int .i64 (1 + y), .slice (some ⟨b, 0, none⟩) 32 32]) ∧ SliceAt w' (some ⟨b, 0, none⟩) 32 L ∧ w.heap.size ≤ b ∧ Below w.heap.size w w' := by
  have hA := (Below.refl w.heap.size w).alloc (Nat.le_refl _) (.cells #[.int .i64 0, .int .i64 0, .slice none 0 0] 28)
  have r0 := heap_alloc_new w (.cells #[.int .i64 0, .int .i64 0, .slice none 0 0] 28)
  go_enter Try.func9, Try.ntmps9
  go_wp2_with fail
  have hsz : w.heap.size < (w.alloc (.cells #[.int .i64 0, .int .i64 0, .slice none 0 0] 28)).heap.size := by simp
  generalize w.alloc (.cells #[.int .i64 0, .int .i64 0, .slice none 0 0] 28) = W0 at hA r0 hsz ⊢
  have hw : IntKind.i64.wrap (1 + y) = 1 + y := by rw [IntKind.wrap_i64]; omega
  refine (H3 _).mono ?_
  rintro e w1 ⟨he, hw1⟩
  subst he hw1
  dsimp only
  go_wp2_with fail
  refine (H5 _).mono ?_
  rintro e w1 ⟨he, hw1⟩
  subst he hw1
  dsimp only
  go_wp2_with fail
  refine (HS _).mono ?_
  rintro e w1 ⟨he, ho1, hb1⟩
  subst he
  dsimp only
  clear H3 H5 HS
  have r1 := (hb1.block _ (lt_of_heap r0)).trans r0
  have d0 := cells_at r1 0 _ rfl
  have d1 := cells_at r1 1 _ rfl
  have d2 := cells_at r1 2 _ rfl
  have f0 := frozen_at r1 0
  have f1 := frozen_at r1 1
  have f2 := frozen_at r1 2
  obtain ⟨sa, rc, hv, hl, hs⟩ := owns_form ho1
  clear hl
  simp only [Value.slice.injEq] at hv
  obtain ⟨rfl, -, rfl⟩ := hv
  clear ho1
  go_wp2_with fail
  have hB1 := hA.trans (hb1.mono hA.size)
  refine bodyPost_ret (v := .agg #[.int .i64 x, .int .i64 (1 + y), .slice (some ⟨W0.heap.size, 0, none⟩) 32 32]) (by simp [results, Try.results9, go_sem, d0, d1, d2]) rfl ⟨_, rfl, ?_, Nat.le_of_lt hsz, ?_⟩
  · refine ⟨hs.le, hs.max, hs.some, hs.nil, ?_⟩
    rcases hs.bytes with hc | ⟨sb, so, e, hc⟩
    · exact .inl hc
    · have hne : w.heap.size ≠ sb := by
        simp only [Option.some.injEq, Addr.mk.injEq] at e
        omega
      exact .inr ⟨sb, so, e, fun k hk => ((World.cell?_setCell_far _ _ _ _ hne).trans ((World.cell?_setCell_far _ _ _ _ hne).trans (World.cell?_setCell_far _ _ _ _ hne))).trans (hc k hk)⟩
  · exact ((hB1.setCell (Nat.le_refl _) _).setCell (Nat.le_refl _) _).setCell (Nat.le_refl _) _
set_option maxRecDepth 100000 in
theorem slot_any (n m : Int) (w : World) (hn : I64 n) :
    Calls Try.prog 9 #[.int .i64 n, .int .i64 m] w fun e w' => ∃ b, e = .returned (.agg #[.int .i64 (pk n 3), .int .i64 (1 + pk n 5), .slice (some ⟨b, 0, none⟩) 32 32]) ∧ SliceAt w' (some ⟨b, 0, none⟩) 32 (someL n m) ∧ w.heap.size ≤ b ∧ Below w.heap.size w w' :=
  slot_aux n m _ _ _ w (pk_bounds n 5 (by decide)) (fun W => picked_any n 3 W hn.1 hn.2 (by decide) (by decide)) (fun W => picked_any n 5 W hn.1 hn.2 (by decide) (by decide)) (fun W => some_any n m W hn)
end Go.Proofs.Ytmpflkggbekpfaa
