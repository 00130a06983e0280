/- slices.SortFunc of signs by seal.compare: the same signs, in an order. -/
import Derived.Test.YteeiomcgdgehfaaDoorSortE
import Derived.Test.YteeiomcgdgehfaaDoorCCmp
namespace Go.Proofs.YteeiomcgdgehfaaDoor
open Go.RowKit Go.Sort

set_option maxRecDepth 100000 in
theorem sorted_below {α : Type} [Inhabited α] (enc : α → List Value) (k : Nat) {w0 w : World} (blk off m : Nat) (dk : Array α) (os : Array Obj) (hb : Go.RowKit.Below w0.heap.size w0 w) (h : w0.heap.size ≤ blk) : Go.RowKit.Below w0.heap.size w0 (sortWorldK enc k w blk off m dk os) := by
  have hs : w.heap.size ≤ (sortWorldK enc k w blk off m dk os).heap.size := size_sortWorldK_c enc k w blk off m dk os
  refine hb.trans ⟨rfl, rfl, rfl, hs, fun j hj => ?_⟩
  unfold sortWorldK
  rw [heap_grow_old _ _ (by rw [size_putRowK]; exact Nat.lt_of_lt_of_le hj hb.size)]
  show ((Sort.ahead w m).heap.modify blk _)[j]? = _
  rw [Array.getElem?_modify, if_neg (by omega)]
  rfl
/-- A sign that is read in a world. -/
structure Rdb (w0 : World) where
  s : Sg
  ok : SliceAt w0 s.p.sa s.p.cap s.p.bs ∧ AllU8 s.p.bs
def encR {w0 : World} (x : Rdb w0) : List Value := x.s.cs
def dOf {w0 : World} (ls : List Sg) (h : ∀ s ∈ ls, SliceAt w0 s.p.sa s.p.cap s.p.bs ∧ AllU8 s.p.bs) : List (Rdb w0) := ls.attach.map fun x => ⟨x.1, h x.1 x.2⟩
set_option maxRecDepth 100000 in
theorem dOf_val {w0 : World} (ls : List Sg) (h : ∀ s ∈ ls, SliceAt w0 s.p.sa s.p.cap s.p.bs ∧ AllU8 s.p.bs) : (dOf ls h).map Rdb.s = ls := by
  rw [dOf, List.map_map]
  exact List.attach_map_subtype_val ls
set_option maxRecDepth 100000 in
theorem flat_signs {w0 : World} [Inhabited (Rdb w0)] (ds : List (Rdb w0)) : flatK encR 4 ds.toArray = (gv (ds.map Rdb.s)).toArray := by
  refine ext_get! (by simp [gv_length]) fun t ht => ?_
  have ht' : t < ds.length * 4 := by simpa using ht
  rw [get_flatK _ _ _ _ (by simpa using ht')]
  have hq : t / 4 < ds.length := by omega
  have hg := gv_get (ds.map Rdb.s) (t / 4) (t % 4) (by simpa using hq) (by omega)
  have ej : t / 4 * 4 + t % 4 = t := by omega
  rw [ej] at hg
  have e1 : (gv (ds.map Rdb.s)).toArray[t]! = ((gv (ds.map Rdb.s))[t]?).getD default := by simp [Array.getElem!_eq_getD, Array.getD_eq_getD_getElem?]
  rw [e1, hg]
  have e2 : ds.toArray[t / 4]! = ds[t / 4] := by simp [hq]
  rw [e2]
  simp [encR, List.getElem!_eq_getElem?_getD]
set_option maxRecDepth 100000 in
set_option maxHeartbeats 1000000 in
theorem sortSigns_aux {w0 : World} [Inhabited (Rdb w0)] (ls : List Sg) (g cap : Nat) (w : World) (hb : Go.RowKit.Below w0.heap.size w0 w) (hl : ls.length ≤ 2932031007400) (ho : w.ownsRow w0.heap.size 52 4 (.slice (some ⟨g, 0, none⟩) ls.length cap) ls.length (gv ls)) (he : ∀ s ∈ ls, SliceAt w0 s.p.sa s.p.cap s.p.bs ∧ AllU8 s.p.bs) :
    Calls Tryd.prog 71 #[.slice (some ⟨g, 0, none⟩) ls.length cap, .func (.func 37) #[] #[]] w fun e w' => e = .returned (.tuple #[]) ∧ ∃ ks : List Sg, ks.Perm ls ∧ (∀ i j (hi : i < j) (hj : j < ks.length), ¬ cmpG (ks[j]).v (ks[i]).v < 0) ∧ SignsAt w' (some ⟨g, 0, none⟩) ks ∧ Go.RowKit.Below w0.heap.size w0 w' := by
  have hlt := ho.lt g rfl
  have hfr : ∀ j, w.frozen? ⟨g, j, none⟩ = false := by
    intro j
    rcases ho.2 with ⟨h, _⟩ | ⟨g', cap', cur, h, _, hh, _⟩
    · cases h
    · cases h; exact frozen_at hh j
  have hv := dOf_val ls he
  have hds : (dOf ls he).length = ls.length := by simp [dOf]
  generalize dOf ls he = ds at hv hds
  have hH : HoldsK (encR (w0 := w0)) 4 w g 0 ds.toArray := by
    intro j hj
    rw [flat_signs, hv] at hj ⊢
    have hj' : j < (gv ls).length := by simpa using hj
    rw [Nat.zero_add]
    refine ⟨?_, hfr j⟩
    rw [World.ownsRow.cellAt ho j (by rw [gv_length] at hj'; exact hj')]
    simp [hj']
  have hC : CmpLays Tryd.prog 37 #[] (encR (w0 := w0)) 4 (fun x y => cmpG x.s.v y.s.v) g 0 ds.toArray.size w := by
    intro m os dk hdk x y
    have hB := sorted_below (encR (w0 := w0)) 4 g 0 m dk os hb hlt.1
    exact compare_any x.s y.s _ (x.ok.1.below hB) (y.ok.1.below hB)
  have hs := AnyQ.slices_SortFunc sortG 4 Tryd.isAgg52 Tryd.sizeOf52 (encR (w0 := w0)) (fun _ => rfl) (fun x v hv => by simp [encR, Sg.cs] at hv; rcases hv with rfl | rfl | rfl | rfl <;> rfl) (fun x y => cmpG x.s.v y.s.v) (lin_cmpK.swo (fun x : Rdb w0 => gk x.s.v)) 37 #[] g 0 cap ds.toArray w (enters_of Tryd.func37 (by kernel_rfl) rfl) hC hH hlt.2 (by simp; omega)
  have hz : ds.toArray.size = ls.length := by simpa using hds
  rw [hz] at hs
  refine hs.mono ?_
  rintro e w' ⟨rfl, d', n, os, hp, hso, rfl⟩
  have hd' : d'.size = ls.length := by rw [hp.1]; exact hz
  have hperm : d'.toList.Perm ds := by
    have h3 := hp.2.2
    have e1 : d'.extract 0 ls.length = d' := by rw [← hd']; simp
    have e2 : ds.toArray.extract 0 ls.length = ds.toArray := by rw [← hz]; simp
    rw [e1, e2] at h3
    simpa using h3
  refine ⟨rfl, d'.toList.map Rdb.s, ?_, ?_, ?_, sorted_below _ _ _ _ _ _ _ hb hlt.1⟩
  · rw [← hv]; exact hperm.map _
  · intro i j hi hj
    have hj2 : j < d'.size := by simpa using hj
    have h := hso i j (Nat.zero_le _) hi (by omega)
    rw [getElem!_pos d' j hj2, getElem!_pos d' i (by omega)] at h
    simp only [ltOf, decide_eq_false_iff_not] at h
    simpa using h
  · have hH' := holdsK_sortWorldK_c (encR (w0 := w0)) 4 w g 0 ds.toArray d' n os hH hlt.2 (by rw [hd', hz])
    refine ⟨.inr ⟨g, 0, rfl, fun j hj => ?_⟩, ?_⟩
    · have hj2 : j < d'.size := by simpa using hj
      have c := fun c (hc : c < 4) => (hH'.cell (i := j) (c := c) hj2 hc).1
      have c0 := c 0 (by omega)
      have c1 := c 1 (by omega)
      have c2 := c 2 (by omega)
      have c3 := c 3 (by omega)
      rw [getElem!_pos d' j hj2] at c0 c1 c2 c3
      simp only [List.getElem_map, Array.getElem_toList]
      exact ⟨c0, c1, c2, c3⟩
    · intro s hs
      obtain ⟨x, _, rfl⟩ := List.mem_map.1 hs
      exact ⟨x.ok.1.below (sorted_below _ _ _ _ _ _ _ hb hlt.1), x.ok.2⟩
set_option maxRecDepth 100000 in
theorem sortSigns_any (ls : List Sg) (g cap : Nat) (w0 w : World) (hb : Go.RowKit.Below w0.heap.size w0 w) (hl : ls.length ≤ 2932031007400) (hne : ls ≠ []) (ho : w.ownsRow w0.heap.size 52 4 (.slice (some ⟨g, 0, none⟩) ls.length cap) ls.length (gv ls)) (he : ∀ s ∈ ls, SliceAt w0 s.p.sa s.p.cap s.p.bs ∧ AllU8 s.p.bs) :
    Calls Tryd.prog 71 #[.slice (some ⟨g, 0, none⟩) ls.length cap, .func (.func 37) #[] #[]] w fun e w' => e = .returned (.tuple #[]) ∧ ∃ ks : List Sg, ks.Perm ls ∧ (∀ i j (hi : i < j) (hj : j < ks.length), ¬ cmpG (ks[j]).v (ks[i]).v < 0) ∧ SignsAt w' (some ⟨g, 0, none⟩) ks ∧ Go.RowKit.Below w0.heap.size w0 w' := by
  obtain ⟨s0, hs0⟩ := List.exists_mem_of_ne_nil ls hne
  exact @sortSigns_aux w0 ⟨⟨s0, he s0 hs0⟩⟩ ls g cap w hb hl ho he
end Go.Proofs.YteeiomcgdgehfaaDoor
