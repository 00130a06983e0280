/- sheaveskeep.grown, for every list of steps. -/
import Derived.Test.YtbmodfegcmaieaaDoorGKDag
import Derived.Test.YtbmodfegcmaieaaDoorGGrowG
namespace Go.Proofs.YtbmodfegcmaieaaDoor
open Go.RowKit

set_option maxRecDepth 100000 in
theorem steps_lit {w : World} {g base : Nat} (h : w.heap[g]? = some (.cells #[.int .i64 0, .int .i64 0, .int .i64 1] 86 (0, 0))) (hb : base ≤ g) : w.ownsRow base 86 3 (.slice (some ⟨g, 0, none⟩) 1 1) 1 (stv [s0]) :=
  ⟨rfl, .inr ⟨g, 1, _, rfl, hb, h, Nat.le_refl _, by decide, rfl, rfl⟩⟩
set_option maxRecDepth 100000 in
set_option maxHeartbeats 2000000 in
theorem grown_wide (l : List Stp) (sa : Option Addr) (n cap : Nat) (w : World) (hn : n = l.length) (hl : StepsAt w sa l) (hnil : sa = none → n = 0 ∧ cap = 0) (hlen : l.length * 24 ≤ 140737488355000) (hT : Tabs w) :
    Calls Tryd.prog 33 #[.slice sa n cap] w fun e w' => GrownIs w w' e (s0 :: l) (min (l.length + 1) 24) := by
  subst hn
  have hA := (Below.refl w.heap.size w).alloc (Nat.le_refl _) (.cells #[.slice none 0 0] 51)
  have q0 := heap_alloc_new w (.cells #[.slice none 0 0] 51)
  have hA2 := hA.alloc hA.size (.cells #[.int .i64 0, .int .i64 0, .int .i64 1] 86)
  have q1 := heap_alloc_new (w.alloc (.cells #[.slice none 0 0] 51)) (.cells #[.int .i64 0, .int .i64 0, .int .i64 1] 86)
  have q0' := heap_keep (o := .cells #[.int .i64 0, .int .i64 0, .int .i64 1] 86) q0
  have hl2 := hl.below hA2
  have hsz : (w.alloc (.cells #[.slice none 0 0] 51)).heap.size = w.heap.size + 1 := size_alloc _ _
  rw [hsz] at q1
  have hown := steps_lit (base := w.heap.size + 1) q1 (Nat.le_refl _)
  have hbs : w.heap.size + 1 ≤ ((w.alloc (.cells #[.slice none 0 0] 51)).alloc (.cells #[.int .i64 0, .int .i64 0, .int .i64 1] 86)).heap.size := by rw [size_alloc, size_alloc]; omega
  go_enter Tryd.func33, Tryd.ntmps33
  go_wp2_with (at_builtin; refine wpList_append_steps rfl _ _ rfl (w.heap.size + 1) _ 1 [s0] rfl hown sa l.length cap l rfl rfl hl2 hnil (by omega) hbs ?_; intro v1 w1 ho1 hg1; have hX : ∃ xa xc, v1 = .slice xa (1 + l.length) xc := owns_shape ho1; obtain ⟨xa, xc, hxe⟩ := hX; subst hxe)
  have hb1 : Below (w.heap.size + 1) _ w1 := Below.grown (Below.refl _ _) hg1 hbs (fun q e => (hown.lt q e).1)
  have hB1 : Below w.heap.size w w1 := hA2.trans (hb1.mono (by omega))
  have q01 := (hb1.block w.heap.size (by omega)).trans q0'
  have HSN : Hid (StepsAt w1 xa (s0 :: l)) := by
    obtain ⟨xa', xc', e, h⟩ := steps_of_owns ho1 (fun s hs => by
      rcases List.mem_append.1 hs with h | h
      · obtain rfl : s = s0 := by simpa using h
        exact ⟨by unfold s0 I64; decide, by unfold s0 I64; decide, by unfold s0 I64; decide⟩
      · exact hl.each s h)
    simp at e
    rw [e.1]
    exact h
  have HLE : Hid ((s0 :: l).length = 1 + l.length) := by show _ = _; simp; omega
  clear hg1 hb1 ho1 hown hl2 q0' q1 hA2 hbs
  have H := kdag_any (s0 :: l) xa (1 + l.length) xc w1 HLE.out.symm HSN.out (hT.below hB1)
  refine H.mono ?_
  rintro e w2 ⟨ka, kc, ks, ba, bc, bl, he, hG, hd, hnew, ho, hoff, hV, hb2⟩
  subst he
  dsimp only
  have hB2 := hB1.trans (hb2.mono hB1.size)
  have q02 := (hb2.block _ (lt_of_heap q01)).trans q01
  have r0 := cells_at q02 0 _ rfl
  have r1 := frozen_at q02 0
  have hlt : w.heap.size < w1.heap.size := lt_of_heap q01
  have HG : Hid (GrownTo (s0 :: l) (min (l.length + 1) 24) (cvs ks) ∧ bl.map (·.v) = bvTo (s0 :: l) (min (l.length + 1) 24)) := ⟨hG, hV⟩
  clear hG hV H
  go_wp2_with fail
  refine bodyPost_ret (v := .tuple #[.agg #[.slice ka ks.length kc], .slice ba bl.length bc]) (by simp [results, Tryd.results33, go_sem, r0]) rfl ?_
  refine ⟨ka, kc, ks, ba, bc, bl, rfl, HG.out.1, dag_setCell hd _ 0 _ (fun sb so e => by have := hnew.1 sb so e; omega) (fun c hc q hq => by have := hnew.2 c hc q hq; omega), ⟨fun sb so e => by have := hnew.1 sb so e; omega, fun c hc q hq => by have := hnew.2 c hc q hq; omega⟩, ?_, hoff, HG.out.2, hB2.setCell (p := ⟨w.heap.size, 0, none⟩) (Nat.le_refl _) _⟩
  have h1 := ho.setCell w.heap.size 0 (.slice ka ks.length kc) _ _ q02 (by decide) (by decide)
  exact ⟨⟨h1.row.1, h1.row.2.imp id (fun ⟨g, c, cur, e1, e2, r⟩ => ⟨g, c, cur, e1, by omega, r⟩)⟩, h1.each⟩
set_option maxRecDepth 100000 in
theorem grown_any (l : List Stp) (sa : Option Addr) (n cap : Nat) (w : World) (hn : n = l.length) (hl : StepsAt w sa l) (hnil : sa = none → n = 0 ∧ cap = 0) (hlen : l.length * 24 ≤ 140737488351232) (hT : Tabs w) :
    Calls Tryd.prog 33 #[.slice sa n cap] w fun e w' => GrownIs w w' e (s0 :: l) (min (l.length + 1) 24) := grown_wide l sa n cap w hn hl hnil (by omega) hT
end Go.Proofs.YtbmodfegcmaieaaDoor
