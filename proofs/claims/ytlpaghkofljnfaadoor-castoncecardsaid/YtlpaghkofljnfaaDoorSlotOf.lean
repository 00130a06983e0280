/- ballot.slotOf. -/
import Derived.Test.YtlpaghkofljnfaaDoorHOff
import Derived.Test.YtlpaghkofljnfaaDoorCastF
import Derived.Deep.RegionHeld3
namespace Go.Proofs.YtlpaghkofljnfaaDoor
open Go.RowKit

set_option maxRecDepth 100000 in
set_option maxHeartbeats 1000000 in
theorem slotOf_bad (au rd : Int) (ba : Option Addr) (bc : Nat) (bl : List Part) (pa : Option Addr) (pc : Nat) (pl : List Part) (ec : Int) (w : World) (h : HAt w ba bc bl pa pc pl) (he : headerF au rd bl pl = ec) (h0 : ec ≠ 0) :
    Calls Tryd.prog 22 #[.agg #[.int .i64 au, .int .i64 rd, .slice ba bl.length bc, .slice pa pl.length pc]] w fun e w' => e = .returned (.tuple #[.agg #[.int .i64 0, .int .i64 0, .slice none 0 0], .int .i64 ec]) ∧ Below w.heap.size w w' := by
  have hR : Below w.heap.size w ((w.alloc (.cells #[.int .i64 au, .int .i64 rd, .slice ba bl.length bc, .slice pa pl.length pc] 31)).alloc (.cells #[.int .i64 0, .int .i64 0, .slice none 0 0] 39)) := ((Below.refl _ _).alloc (Nat.le_refl _) _).alloc (by simp) _
  have q1 : ((w.alloc (.cells #[.int .i64 au, .int .i64 rd, .slice ba bl.length bc, .slice pa pl.length pc] 31)).alloc (.cells #[.int .i64 0, .int .i64 0, .slice none 0 0] 39)).heap[w.heap.size + 1]? = some (.cells #[.int .i64 0, .int .i64 0, .slice none 0 0] 39 (0, 0)) := by
    have := heap_alloc_new (w.alloc (.cells #[.int .i64 au, .int .i64 rd, .slice ba bl.length bc, .slice pa pl.length pc] 31)) (.cells #[.int .i64 0, .int .i64 0, .slice none 0 0] 39)
    rw [size_alloc] at this; exact this
  go_enter Tryd.func22, Tryd.ntmps22
  go_wp2_with fail
  generalize (w.alloc (.cells #[.int .i64 au, .int .i64 rd, .slice ba bl.length bc, .slice pa pl.length pc] 31)).alloc (.cells #[.int .i64 0, .int .i64 0, .slice none 0 0] 39) = W0 at hR q1 ⊢
  refine (headerDigest_bad au rd ba _ bc bl pa _ pc pl ec W0 rfl rfl (h.lb.below hR) (h.lp.below hR) he h0).mono ?_
  rintro e w1 ⟨rfl, hb1⟩
  have r1 := (hb1.block _ (lt_of_heap q1)).trans q1
  have d0 := cells_at r1 0 _ rfl
  have d1 := cells_at r1 1 _ rfl
  have d2 := cells_at r1 2 _ rfl
  have f0 := frozen_at r1 0
  have f1 := frozen_at r1 1
  have f2 := frozen_at r1 2
  have hW1 := hR.trans (hb1.mono hR.size)
  have h0' : (ec != 0) = true := by simpa using h0
  go_wp2_with fail
  refine bodyPost_ret (v := .tuple #[.agg #[.int .i64 0, .int .i64 0, .slice none 0 0], .int .i64 ec]) (by simp [results, Tryd.results22, go_sem, d0, d1, d2]) rfl ⟨rfl, ?_⟩
  exact ((hW1.setCell (Nat.le_succ _) _).setCell (Nat.le_succ _) _).setCell (Nat.le_succ _) _

set_option maxRecDepth 100000 in
set_option maxHeartbeats 1000000 in
theorem slotOf_ok (au rd : Int) (ba : Option Addr) (bc : Nat) (bl : List Part) (pa : Option Addr) (pc : Nat) (pl : List Part) (w : World) (h : HAt w ba bc bl pa pc pl) (hF : headerF au rd bl pl = 0) (hT : Tabs w) :
    Calls Tryd.prog 22 #[.agg #[.int .i64 au, .int .i64 rd, .slice ba bl.length bc, .slice pa pl.length pc]] w fun e w' => ∃ b, e = .returned (.tuple #[.agg #[.int .i64 au, .int .i64 rd, .slice (some ⟨b, 0, none⟩) 32 32], .int .i64 0]) ∧ w.heap.size ≤ b ∧ b < w'.heap.size ∧ SliceAt w' (some ⟨b, 0, none⟩) 32 (hDig au rd bl pl) ∧ Below w.heap.size w w' := by
  have hR : Below w.heap.size w ((w.alloc (.cells #[.int .i64 au, .int .i64 rd, .slice ba bl.length bc, .slice pa pl.length pc] 31)).alloc (.cells #[.int .i64 0, .int .i64 0, .slice none 0 0] 39)) := ((Below.refl _ _).alloc (Nat.le_refl _) _).alloc (by simp) _
  have q0 := heap_alloc2_old w (.cells #[.int .i64 au, .int .i64 rd, .slice ba bl.length bc, .slice pa pl.length pc] 31) (.cells #[.int .i64 0, .int .i64 0, .slice none 0 0] 39)
  have q1 : ((w.alloc (.cells #[.int .i64 au, .int .i64 rd, .slice ba bl.length bc, .slice pa pl.length pc] 31)).alloc (.cells #[.int .i64 0, .int .i64 0, .slice none 0 0] 39)).heap[w.heap.size + 1]? = some (.cells #[.int .i64 0, .int .i64 0, .slice none 0 0] 39 (0, 0)) := by
    have := heap_alloc_new (w.alloc (.cells #[.int .i64 au, .int .i64 rd, .slice ba bl.length bc, .slice pa pl.length pc] 31)) (.cells #[.int .i64 0, .int .i64 0, .slice none 0 0] 39)
    rw [size_alloc] at this; exact this
  go_enter Tryd.func22, Tryd.ntmps22
  go_wp2_with fail
  generalize (w.alloc (.cells #[.int .i64 au, .int .i64 rd, .slice ba bl.length bc, .slice pa pl.length pc] 31)).alloc (.cells #[.int .i64 0, .int .i64 0, .slice none 0 0] 39) = W0 at hR q0 q1 ⊢
  refine (headerDigest_hat (h.below hR) hF (hT.below hR)).mono ?_
  rintro e w1 ⟨b, rfl, hbb, hb1, hs1⟩
  have hlt1 : w.heap.size + 1 < W0.heap.size := lt_of_heap q1
  have r0 := (hb1.block _ (lt_of_heap q0)).trans q0
  have r1 := (hb1.block _ (lt_of_heap q1)).trans q1
  have c0 : w1.cell? ⟨w.heap.size, 0, none⟩ = some (.int .i64 au) := cells_at r0 0 _ rfl
  have c1 : w1.cell? ⟨w.heap.size, 1, none⟩ = some (.int .i64 rd) := cells_at r0 1 _ rfl
  have d0 := cells_at r1 0 _ rfl
  have d1 := cells_at r1 1 _ rfl
  have d2 := cells_at r1 2 _ rfl
  have f0 := frozen_at r1 0
  have f1 := frozen_at r1 1
  have f2 := frozen_at r1 2
  have hW1 := hR.trans (hb1.mono hR.size)
  have hbl : b < w1.heap.size := by
    rcases hs1.bytes with hc | ⟨sb, so, e, hc⟩
    · have := hDig_length au rd bl pl; rw [hc] at this; simp at this
    · cases e; exact block_lt_of_cell (hc 0 (by rw [hDig_length]; decide))
  clear hF
  go_wp2_with fail
  refine bodyPost_ret (v := .tuple #[.agg #[.int .i64 au, .int .i64 rd, .slice (some ⟨b, 0, none⟩) 32 32], .int .i64 0]) (by simp [results, Tryd.results22, go_sem, d0, d1, d2]) rfl ⟨b, rfl, Nat.le_trans hR.size hbb, by simpa using hbl, ?_, ?_⟩
  · have hr : ∀ sb so, (some ⟨b, 0, none⟩ : Option Addr) = some ⟨sb, so, none⟩ → W0.heap.size ≤ sb := fun sb so e => by cases e; exact hbb
    exact slice_far (slice_far (slice_far hs1 hr _ _ _ hlt1) hr _ _ _ hlt1) hr _ _ _ hlt1
  · exact ((hW1.setCell (Nat.le_succ _) _).setCell (Nat.le_succ _) _).setCell (Nat.le_succ _) _
end Go.Proofs.YtlpaghkofljnfaaDoor
