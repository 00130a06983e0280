/- seal.cloneSign: new memory with the same sign. -/
import Derived.Test.YtmpflkggbekpfaaDoorGOwn
import Derived.Deep.RegionHeld3
import Derived.Test.YtmpflkggbekpfaaDoorClone
import Derived.OwnWalk
namespace Go.Proofs.YtmpflkggbekpfaaDoor
open Go.RowKit

set_option maxRecDepth 100000 in
set_option maxHeartbeats 1000000 in
theorem cloneSign_any (nd au rd : Int) (bs : List Int) (sa : Option Addr) (n cap : Nat) (w : World) (hn : n = bs.length) (hs : SliceAt w sa cap bs) (hl : bs.length ≤ 140737488355328) :
    Calls Tryd.prog 50 #[.agg #[.int .i64 nd, .int .i64 au, .int .i64 rd, .slice sa n cap]] w fun e w' => ∃ ra rc, e = .returned (.agg #[.int .i64 nd, .int .i64 au, .int .i64 rd, .slice ra bs.length rc]) ∧ SliceAt w' ra rc bs ∧ (∀ sb so, ra = some ⟨sb, so, none⟩ → w.heap.size ≤ sb ∧ sb < w'.heap.size) ∧ Below w.heap.size w w' := by
  subst hn
  have hR : Below w.heap.size w ((w.alloc (.cells #[.int .i64 nd, .int .i64 au, .int .i64 rd, .slice sa bs.length cap] 52)).alloc (.cells #[.int .i64 0, .int .i64 0, .int .i64 0, .slice none 0 0] 52)) := ((Below.refl _ _).alloc (Nat.le_refl _) _).alloc (by simp) _
  have q0 := heap_alloc2_old w (.cells #[.int .i64 nd, .int .i64 au, .int .i64 rd, .slice sa bs.length cap] 52) (.cells #[.int .i64 0, .int .i64 0, .int .i64 0, .slice none 0 0] 52)
  have q1 : ((w.alloc (.cells #[.int .i64 nd, .int .i64 au, .int .i64 rd, .slice sa bs.length cap] 52)).alloc (.cells #[.int .i64 0, .int .i64 0, .int .i64 0, .slice none 0 0] 52)).heap[w.heap.size + 1]? = some (.cells #[.int .i64 0, .int .i64 0, .int .i64 0, .slice none 0 0] 52 (0, 0)) := by
    have := heap_alloc_new (w.alloc (.cells #[.int .i64 nd, .int .i64 au, .int .i64 rd, .slice sa bs.length cap] 52)) (.cells #[.int .i64 0, .int .i64 0, .int .i64 0, .slice none 0 0] 52)
    rw [size_alloc] at this; exact this
  go_enter Tryd.func50, Tryd.ntmps50
  go_wp2_with fail
  generalize (w.alloc (.cells #[.int .i64 nd, .int .i64 au, .int .i64 rd, .slice sa bs.length cap] 52)).alloc (.cells #[.int .i64 0, .int .i64 0, .int .i64 0, .slice none 0 0] 52) = W0 at hR q0 q1 ⊢
  refine (clone_any bs sa _ cap W0 rfl (hs.below hR) hl).mono ?_
  rintro e w1 ⟨ra, rc, he, hs1, hrow, hb1⟩
  subst he
  dsimp only
  have hlt1 : w.heap.size + 1 < W0.heap.size := lt_of_heap q1
  have r0 := (hb1.block _ (lt_of_heap q0)).trans q0
  have r1 := (hb1.block _ (lt_of_heap q1)).trans q1
  have c0 : w1.cell? ⟨w.heap.size, 0, none⟩ = some (.int .i64 nd) := cells_at r0 0 _ rfl
  have c1 : w1.cell? ⟨w.heap.size, 1, none⟩ = some (.int .i64 au) := cells_at r0 1 _ rfl
  have c2 : w1.cell? ⟨w.heap.size, 2, none⟩ = some (.int .i64 rd) := cells_at r0 2 _ rfl
  have c3 : w1.cell? ⟨w.heap.size, 3, none⟩ = some (.slice sa bs.length cap) := cells_at r0 3 _ rfl
  have d0 := cells_at r1 0 _ rfl
  have d1 := cells_at r1 1 _ rfl
  have d2 := cells_at r1 2 _ rfl
  have d3 := cells_at r1 3 _ rfl
  have f0 := frozen_at r1 0
  have f1 := frozen_at r1 1
  have f2 := frozen_at r1 2
  have f3 := frozen_at r1 3
  have e3 := frozen_at r0 3
  have hne : w.heap.size ≠ w.heap.size + 1 := by omega
  go_wp2_with fail
  have hW1 := hR.trans (hb1.mono hR.size)
  refine bodyPost_ret (v := .agg #[.int .i64 nd, .int .i64 au, .int .i64 rd, .slice ra bs.length rc]) (by simp [results, Tryd.results50, go_sem, d0, d1, d2, d3]) rfl ⟨ra, rc, rfl, ?_, ?_, ?_⟩
  · refine ⟨hs1.le, hs1.max, hs1.some, hs1.nil, ?_⟩
    rcases hs1.bytes with hc | ⟨sb, so, e, hc⟩
    · exact .inl hc
    · have := (hrow sb so e).1
      exact .inr ⟨sb, so, e, fun k hk => ((World.cell?_setCell_far _ _ _ _ (by show w.heap.size + 1 ≠ sb; omega)).trans <| (World.cell?_setCell_far _ _ _ _ (by show w.heap.size + 1 ≠ sb; omega)).trans ((World.cell?_setCell_far _ _ _ _ (by show w.heap.size + 1 ≠ sb; omega)).trans ((World.cell?_setCell_far _ _ _ _ (by show w.heap.size + 1 ≠ sb; omega)).trans (World.cell?_setCell_far _ _ _ _ (by show w.heap.size ≠ sb; omega))))).trans (hc k hk)⟩
  · intro sb so e
    have := hrow sb so e
    simp; omega
  · exact ((((hW1.setCell (Nat.le_refl _) _).setCell (Nat.le_succ _) _).setCell (Nat.le_succ _) _).setCell (Nat.le_succ _) _).setCell (Nat.le_succ _) _
end Go.Proofs.YtmpflkggbekpfaaDoor
