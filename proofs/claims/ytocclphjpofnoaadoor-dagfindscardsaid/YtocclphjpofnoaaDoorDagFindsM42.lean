/- The document's DagCopy: new memory with the same certificates. -/
import Derived.Test.YtocclphjpofnoaaDoorDagFindsM36
import Derived.Test.YtocclphjpofnoaaDoorDagFindsM0
import Derived.Deep.CutRange
import Derived.Deep.DeepCutAuto
import Derived.Deep.RegionLaw
import Derived.Test.YtocclphjpofnoaaDoorOwnL
import Derived.Test.YtocclphjpofnoaaDoorSx
import Derived.RegionTactic
import Derived.Test.YtocclphjpofnoaaDoorCerts
import Derived.Test.YtocclphjpofnoaaDoorCtFar
import Derived.Test.YtocclphjpofnoaaDoorDagFindsM6
import Derived.Test.YtocclphjpofnoaaDoorCalls
namespace Go.Proofs.YtocclphjpofnoaaDoor
open Go.RowKit

set_option maxRecDepth 100000 in
set_option maxHeartbeats 1000000 in
theorem certCopyU_any (au rd : Int) (ba : Option Addr) (bc : Nat) (bl : List Part) (pa : Option Addr) (pc : Nat) (pl : List Part) (va : Option Addr) (vc : Nat) (vl : List Int) (w : World) (hb : ReadAt w ba bc bl) (hp : ReadAt w pa pc pl) (hv : IntsAt w va vl) (hvr : vl.length * 8 ≤ 140737488355328) :
    Calls Tryd.prog 21 #[.agg #[.int .i64 au, .int .i64 rd, .slice ba bl.length bc, .slice pa pl.length pc, .slice va vl.length vc]] w fun e w' => ∃ xa xc xs ya yc ys za zc, e = .returned (.agg #[.int .i64 au, .int .i64 rd, .slice xa bl.length xc, .slice ya pl.length yc, .slice za vl.length zc]) ∧ Same xs bl ∧ Same ys pl ∧ ListAt w' xa xc xs ∧ ListAt w' ya yc ys ∧ IntsAt w' za vl ∧ Below w.heap.size w w' ∧ Fresh w.heap.size xa xs ∧ Fresh w.heap.size ya ys ∧ (∀ sb so, za = some ⟨sb, so, none⟩ → w.heap.size ≤ sb) ∧ (∀ sb so, xa = some ⟨sb, so, none⟩ → sb < w'.heap.size) ∧ (∀ sb so, ya = some ⟨sb, so, none⟩ → sb < w'.heap.size) := by
  go_enter Tryd.func21, Tryd.ntmps21
  go_wp2_with fail
  have hR : Below w.heap.size w ((w.alloc (.cells #[.int .i64 au, .int .i64 rd, .slice ba bl.length bc, .slice pa pl.length pc, .slice va vl.length vc] 35)).alloc (.cells #[.int .i64 0, .int .i64 0, .slice none 0 0, .slice none 0 0, .slice none 0 0] 35)) := ((Below.refl _ _).alloc (Nat.le_refl _) _).alloc (by simp) _
  refine (headerCopyU_any au rd ba bc bl pa pc pl _ (hb.below hR) (hp.below hR)).mono ?_
  rintro e w1 ⟨xa, xc, xs, ya, yc, ys, he, hS1, hS2, hL1, hL2, hb1, hF1, hF2, hU1, hU2⟩
  subst he
  dsimp only
  have r1 := row_new hb1
  have r0 := row_new (below_alloc hb1)
  rw [size_alloc] at r1
  rw [size_alloc, size_alloc] at hF1 hF2
  have hW1 := below_alloc (below_alloc hb1)
  have hlt1 : w.heap.size + 1 < w1.heap.size := lt_of_heap r1
  have hv1 := hv.below hW1
  clear hb1 hR
  obtain ⟨i, hi, hz0, hz1, hz2⟩ := info_parts infoInt2
  go_wp2_with fail
  go_loopw [4] (fun j wr => ∃ (k : Nat) (v : Value), k ≤ vl.length ∧ j = .int .i64 k ∧ Below w1.heap.size w1 wr ∧ wr.heap[w1.heap.size]? = some (.cells #[.int .i64 au, .int .i64 rd, .slice xa bl.length xc, .slice ya pl.length yc, v] 35 (0, 0)) ∧ wr.ownsRow (w1.heap.size + 1) 3 1 v k (iv (vl.take k))) (fun j _ => vl.length - (intOf j).toNat)
  case atStart => exact ⟨0, _, Nat.zero_le _, rfl, (Below.refl _ _).alloc (Nat.le_refl _) _, heap_alloc_new _ _, World.ownsRow_nil _ _ _ _⟩
  case round =>
    obtain ⟨k, v, hk, rfl, hbw, hro, ho⟩ := hrel
    have hrc := (hbw.block _ (lt_of_heap r0)).trans r0
    have c4 : wr.cell? ⟨w.heap.size, 4, none⟩ = some (.slice va vl.length vc) := cells_at hrc 4 _ rfl
    have o4 : wr.cell? ⟨w1.heap.size, 4, none⟩ = some v := cells_at hro 4 _ rfl
    have of4 := frozen_at hro 4
    have hsz : w1.heap.size < wr.heap.size := lt_of_heap hro
    by_cases hlt : k < vl.length
    · obtain ⟨sb, so, rfl, hc⟩ : ∃ sb so, va = some ⟨sb, so, none⟩ ∧ ∀ j, j < vl.length → wr.cell? ⟨sb, so + j, none⟩ = some (.int .i64 (vl.getD j 0)) := by
        rcases (hv1.below hbw).cells with h | h
        · rw [h] at hlt; simp at hlt
        · exact h
      have ck := hc k hlt
      have hltI : (k : Int) < vl.length := by omega
      have hst : Hid (vl.take (k + 1) = vl.take k ++ [vl.getD k 0]) := by
        show _ = _
        rw [List.take_succ_eq_append_getElem hlt]
        simp [List.getD, hlt]
      have hvb : v.ownBlock ≠ some w1.heap.size := fun e => by have := (ho.lt _ e).1; omega
      clear hc
      generalize vl.getD k 0 = x at ck hst
      have hroA : (wr.alloc (.cells #[.int .i64 x] 3)).drew.heap[w1.heap.size]? = some (.cells #[.int .i64 au, .int .i64 rd, .slice xa bl.length xc, .slice ya pl.length yc, v] 35 (0, 0)) := row_old (w1 := wr.alloc (.cells #[.int .i64 x] 3)) hro (Below.refl _ _)
      have hszA : w1.heap.size < (wr.alloc (.cells #[.int .i64 x] 3)).drew.heap.size := lt_of_heap hroA
      go_wp2_with fail
      go_region_law (refine step_append_own rfl _ _ 33 rfl (w1.heap.size + 1) 3 i (.int .i64 0) 1 8 Tryd.underlying33 hi hz0 hz1 hz2 rfl (by decide) _ k _ rfl (World.ownsRow.alloc ho.drew _) ⟨wr.heap.size, 0, none⟩ 1 1 [.int .i64 x] rfl rfl (cells_new _ _ _) (iv_one [_]) (by unfold maxLen; omega) (by omega) (le_alloc hsz _) ?_; intro v1 w2 ho1 hg1; have hr2 := (hg1.block w1.heap.size hszA (fun e => hvb e.symm)).trans hroA; have p4 : w2.cell? ⟨w1.heap.size, 4, none⟩ = some v := cells_at hr2 4 _ rfl; have pf4 := frozen_at hr2 4; obtain ⟨qa, qc, hq⟩ := owns_shape ho1; subst hq)
      all_goals
        go_wp2_with fail
        go_roundw
        case rel =>
          have hb2 : Below w1.heap.size w1 w2 := Below.grown (hbw.drew.alloc hbw.size _) hg1 (le_alloc hbw.size _) (fun q e => Nat.le_trans (Nat.le_succ _) (ho.lt q e).1)
          have hR : ∃ (k' : Nat) (v' : Value), k' ≤ vl.length ∧ (Value.int .i64 ((k : Int) + 1)) = .int .i64 k' ∧ Below w1.heap.size w1 (w2.setCell ⟨w1.heap.size, 4, none⟩ (.slice qa (k + 1) qc)) ∧ (w2.setCell ⟨w1.heap.size, 4, none⟩ (.slice qa (k + 1) qc)).heap[w1.heap.size]? = some (.cells #[.int .i64 au, .int .i64 rd, .slice xa bl.length xc, .slice ya pl.length yc, v'] 35 (0, 0)) ∧ (w2.setCell ⟨w1.heap.size, 4, none⟩ (.slice qa (k + 1) qc)).ownsRow (w1.heap.size + 1) 3 1 v' k' (iv (vl.take k')) :=
            ⟨k + 1, .slice qa (k + 1) qc, by omega, by go_num, hb2.setCell (Nat.le_refl _) _, by simpa using heap_setCell_same _ _ 4 _ _ (.slice qa (k + 1) qc) hr2, by rw [hst.out]; exact owns_far (by simpa [iv] using ho1) _ _ _ (by omega)⟩
          first | exact hR | ((repeat apply Exists.intro); exact ⟨hR, rfl⟩)
        case measure => simp [intOf]; omega
    · obtain rfl : k = vl.length := by omega
      rw [List.take_of_length_le (Nat.le_refl _)] at ho
      obtain ⟨za, zc, hz, _, hZ, hzf⟩ := intsAt_of_owns ho
      subst hz
      have s1 := (hbw.block _ (lt_of_heap r1)).trans r1
      have d0 := cells_at s1 0 _ rfl
      have d1 := cells_at s1 1 _ rfl
      have d2 := cells_at s1 2 _ rfl
      have d3 := cells_at s1 3 _ rfl
      have d4 := cells_at s1 4 _ rfl
      have f0 := frozen_at s1 0
      have f1 := frozen_at s1 1
      have f2 := frozen_at s1 2
      have f3 := frozen_at s1 3
      have f4 := frozen_at s1 4
      have o0 : wr.cell? ⟨w1.heap.size, 0, none⟩ = some (.int .i64 au) := cells_at hro 0 _ rfl
      have o1 : wr.cell? ⟨w1.heap.size, 1, none⟩ = some (.int .i64 rd) := cells_at hro 1 _ rfl
      have o2 : wr.cell? ⟨w1.heap.size, 2, none⟩ = some (.slice xa bl.length xc) := cells_at hro 2 _ rfl
      have o3 : wr.cell? ⟨w1.heap.size, 3, none⟩ = some (.slice ya pl.length yc) := cells_at hro 3 _ rfl
      have g1 : w.heap.size + 1 < w.heap.size + 1 + 1 := Nat.lt_succ_self _
      have hne : ∀ sb so, za = some ⟨sb, so, none⟩ → w.heap.size + 1 ≠ sb := fun sb so e => by have := hzf sb so e; omega
      have hWr := hW1.trans (hbw.mono hW1.size)
      have hL1r := hL1.below hbw
      have hL2r := hL2.below hbw
      go_wp2_with fail
      refine bodyPost_ret (v := .agg #[.int .i64 au, .int .i64 rd, .slice xa bl.length xc, .slice ya pl.length yc, .slice za vl.length zc]) (by simp [results, Tryd.results21, go_sem, d0, d1, d2, d3, d4]) rfl ?_
      refine ⟨xa, xc, xs, ya, yc, ys, za, ⟨zc, rfl⟩, hS1, hS2, ?_, ?_, ?_, ?_, hF1.mono (by omega), hF2.mono (by omega), fun sb so e => by have := hzf sb so e; omega, fun sb so e => by simpa using Nat.lt_of_lt_of_le (hU1 sb so e) hbw.size, fun sb so e => by simpa using Nat.lt_of_lt_of_le (hU2 sb so e) hbw.size⟩
      · exact ((((hL1r.setCell hF1 _ _ _ g1).setCell hF1 _ _ _ g1).setCell hF1 _ _ _ g1).setCell hF1 _ _ _ g1).setCell hF1 _ _ _ g1
      · exact ((((hL2r.setCell hF2 _ _ _ g1).setCell hF2 _ _ _ g1).setCell hF2 _ _ _ g1).setCell hF2 _ _ _ g1).setCell hF2 _ _ _ g1
      · exact ((((hZ.setCell _ _ _ hne).setCell _ _ _ hne).setCell _ _ _ hne).setCell _ _ _ hne).setCell _ _ _ hne
      · exact ((((hWr.setCell (Nat.le_succ _) _).setCell (Nat.le_succ _) _).setCell (Nat.le_succ _) _).setCell (Nat.le_succ _) _).setCell (Nat.le_succ _) _
end Go.Proofs.YtocclphjpofnoaaDoor

namespace Go.Proofs.YtocclphjpofnoaaDoor
open Go.RowKit

set_option maxRecDepth 100000 in
set_option maxHeartbeats 1000000 in
theorem sameListsL_eq (ps qs : List Part) (sa sb : Option Addr) (c d : Nat) (w : World) (hS : Same ps qs) (ha : ListAt w sa c ps) (hb : ListAt w sb d qs) :
    Calls Tryd.prog 19 #[.slice sa qs.length c, .slice sb qs.length d] w fun e w' => e = .returned (.bool true) ∧ Below w.heap.size w w' := by
  have hl := hS.length
  have hF : Hid (ps.length = qs.length) := hl
  have HS : Hid _ := hS
  have hsm := hb.small
  clear hl hS
  go_enter Tryd.func19, Tryd.ntmps19
  go_wp2_with fail
  go_loopw [5] (fun j wr => ∃ k : Nat, k ≤ qs.length ∧ j = .int .i64 k ∧ Below w.heap.size w wr) (fun j _ => qs.length - (intOf j).toNat)
  case atStart => exact ⟨0, Nat.zero_le _, rfl, Below.refl _ _⟩
  case round =>
    obtain ⟨k, hk, rfl, hbw⟩ := hrel
    by_cases hlt2 : k < qs.length
    · have hlt : k < ps.length := by have := hF.out; omega
      obtain ⟨ab, ao, rfl, hca⟩ : ∃ ab ao, sa = some ⟨ab, ao, none⟩ ∧ ∀ j (h : j < ps.length), w.cell? ⟨ab, ao + j, none⟩ = some (.slice (ps[j]).sa (ps[j]).bs.length (ps[j]).cap) := by
        rcases ha.parts.cells with h | h
        · subst h; simp at hlt
        · exact h
      obtain ⟨bb, bo, rfl, hcb⟩ : ∃ bb bo, sb = some ⟨bb, bo, none⟩ ∧ ∀ j (h : j < qs.length), w.cell? ⟨bb, bo + j, none⟩ = some (.slice (qs[j]).sa (qs[j]).bs.length (qs[j]).cap) := by
        rcases hb.parts.cells with h | h
        · subst h; simp at hlt2
        · exact h
      have ka := (hbw.cell (p := ⟨ab, ao + k, none⟩) (block_lt_of_cell (hca k hlt))).trans (hca k hlt)
      have kb := (hbw.cell (p := ⟨bb, bo + k, none⟩) (block_lt_of_cell (hcb k hlt2))).trans (hcb k hlt2)
      have hpa := ((ha.parts.each ps[k] (List.getElem_mem hlt)).below hbw).below (Below.refl _ _).drew
      have hpb := ((hb.parts.each qs[k] (List.getElem_mem hlt2)).below hbw).below (Below.refl _ _).drew
      have hpq : (ps[k]).bs = (qs[k]).bs := by
        have h1 : (ps.map (·.bs))[k]? = (qs.map (·.bs))[k]? := by rw [show ps.map (·.bs) = qs.map (·.bs) from HS.out]
        simpa [hlt, hlt2] using h1
      have hltI : (k : Int) < qs.length := by omega
      have h0 : (0 : Int) ≤ k := by omega
      clear hca hcb
      generalize ps[k] = p at *
      generalize qs[k] = q at *
      obtain ⟨pa, pc, pb⟩ := p
      obtain ⟨qa, qc, qb⟩ := q
      simp only at hpq ka kb hpa hpb
      subst hpq
      have t1 := run_text wr.drew pa pb.length pc pb rfl hpa
      have t2 := run_text wr.drew qa pb.length qc pb rfl hpb
      generalize bstr pb = S at *
      go_wp2_with fail
      go_region
      all_goals
        go_wp2_with fail
        go_roundw
        case rel =>
          have hR : ∃ k' : Nat, k' ≤ qs.length ∧ (Value.int .i64 ((k : Int) + 1)) = .int .i64 k' ∧ Below w.heap.size w wr.drew := ⟨k + 1, by omega, by go_num, hbw.drew⟩
          first | exact hR | ((repeat apply Exists.intro); exact ⟨hR, rfl⟩)
        case measure => simp [intOf]; omega
    · obtain rfl : k = qs.length := by omega
      have hltI : ¬ (qs.length : Int) < qs.length := by omega
      go_wp2_with fail
      go_ret
      exact ⟨rfl, hbw⟩
set_option maxRecDepth 100000 in
set_option maxHeartbeats 1000000 in
theorem sameHeaderL_eq (au rd : Int) (xa : Option Addr) (xc : Nat) (xl : List Part) (ya : Option Addr) (yc : Nat) (yl : List Part) (ba : Option Addr) (bc : Nat) (bl : List Part) (pa : Option Addr) (pc : Nat) (pl : List Part) (w : World) (s1 : Same xl bl) (s2 : Same yl pl) (h1 : ListAt w xa xc xl) (h2 : ListAt w ya yc yl) (h3 : ListAt w ba bc bl) (h4 : ListAt w pa pc pl) :
    Calls Tryd.prog 36 #[.agg #[.int .i64 au, .int .i64 rd, .slice xa bl.length xc, .slice ya pl.length yc], .agg #[.int .i64 au, .int .i64 rd, .slice ba bl.length bc, .slice pa pl.length pc]] w fun e w' => e = .returned (.bool true) ∧ Below w.heap.size w w' := by
  have hA : Below w.heap.size w ((w.alloc (.cells #[.int .i64 au, .int .i64 rd, .slice xa bl.length xc, .slice ya pl.length yc] 32)).alloc (.cells #[.int .i64 au, .int .i64 rd, .slice ba bl.length bc, .slice pa pl.length pc] 32)) := ((Below.refl _ _).alloc (Nat.le_refl _) _).alloc (by simp) _
  have hB : ∀ wx, Below w.heap.size w wx → _ := fun wx h => sameListsL_eq xl bl xa ba xc bc wx s1 (h1.below h) (h3.below h)
  have hP : ∀ wx, Below w.heap.size w wx → _ := fun wx h => sameListsL_eq yl pl ya pa yc pc wx s2 (h2.below h) (h4.below h)
  have HB : Hid _ := hB
  have HP : Hid _ := hP
  clear hB hP h1 h2 h3 h4 s1 s2
  go_enter Tryd.func36, Tryd.ntmps36
  go_wp2_with fail
  refine (HB.out _ hA).mono ?_
  rintro e w1 ⟨rfl, hb1⟩
  have r1 := row_new hb1
  have r0 := row_new (below_alloc hb1)
  rw [size_alloc] at r1
  replace hb1 := below_alloc (below_alloc hb1)
  have c3 : w1.cell? ⟨w.heap.size, 3, none⟩ = some (.slice ya pl.length yc) := cells_at r0 3 _ rfl
  have d3 : w1.cell? ⟨w.heap.size + 1, 3, none⟩ = some (.slice pa pl.length pc) := cells_at r1 3 _ rfl
  go_wp2_with fail
  refine (HP.out _ hb1).mono ?_
  rintro e w2 ⟨rfl, hb2⟩
  go_wp2_with fail
  go_ret
  exact ⟨rfl, hb1.trans (hb2.mono hb1.size)⟩
end Go.Proofs.YtocclphjpofnoaaDoor

namespace Go.Proofs.YtocclphjpofnoaaDoor
open Go.RowKit

set_option maxRecDepth 100000 in
set_option maxHeartbeats 1000000 in
theorem sameIntsL_eq (vl : List Int) (sa sb : Option Addr) (c d : Nat) (w : World) (hl : vl.length ≤ 9000000000000000000) (ha : IntsAt w sa vl) (hb : IntsAt w sb vl) :
    Calls Tryd.prog 37 #[.slice sa vl.length c, .slice sb vl.length d] w fun e w' => e = .returned (.bool true) ∧ Below w.heap.size w w' := by
  go_enter Tryd.func37, Tryd.ntmps37
  go_wp2_with fail
  go_loopw [5] (fun j wr => ∃ k : Nat, k ≤ vl.length ∧ j = .int .i64 k ∧ Below w.heap.size w wr) (fun j _ => vl.length - (intOf j).toNat)
  case atStart => exact ⟨0, Nat.zero_le _, rfl, Below.refl _ _⟩
  case round =>
    obtain ⟨k, hk, rfl, hbw⟩ := hrel
    by_cases hlt2 : k < vl.length
    · obtain ⟨ab, ao, rfl, hca⟩ : ∃ ab ao, sa = some ⟨ab, ao, none⟩ ∧ ∀ j, j < vl.length → wr.cell? ⟨ab, ao + j, none⟩ = some (.int .i64 (vl.getD j 0)) := by
        rcases (ha.below hbw).cells with h | h
        · subst h; simp at hlt2
        · exact h
      obtain ⟨bb, bo, rfl, hcb⟩ : ∃ bb bo, sb = some ⟨bb, bo, none⟩ ∧ ∀ j, j < vl.length → wr.cell? ⟨bb, bo + j, none⟩ = some (.int .i64 (vl.getD j 0)) := by
        rcases (hb.below hbw).cells with h | h
        · subst h; simp at hlt2
        · exact h
      have ka := hca k hlt2
      have kb := hcb k hlt2
      have hltI : (k : Int) < vl.length := by omega
      have h0 : (0 : Int) ≤ k := by omega
      clear hca hcb
      generalize vl.getD k 0 = x at *
      go_wp2_with fail
      go_region
      all_goals
        go_wp2_with fail
        go_roundw
        case rel =>
          have hR : ∃ k' : Nat, k' ≤ vl.length ∧ (Value.int .i64 ((k : Int) + 1)) = .int .i64 k' ∧ Below w.heap.size w wr.drew := ⟨k + 1, by omega, by go_num, hbw.drew⟩
          first | exact hR | ((repeat apply Exists.intro); exact ⟨hR, rfl⟩)
        case measure => simp [intOf]; omega
    · obtain rfl : k = vl.length := by omega
      have hltI : ¬ (vl.length : Int) < vl.length := by omega
      go_wp2_with fail
      go_ret
      exact ⟨rfl, hbw⟩
/-- A certificate whose lists are read. -/
structure CtLs (w : World) (c : Ct) : Prop where
  lb : ListAt w c.ba c.bc c.bl
  lp : ListAt w c.pa c.pc c.pl
  ints : IntsAt w c.va c.vl
set_option maxRecDepth 100000 in
theorem CtLs.below {w w' : World} {c : Ct} (h : CtLs w c) (hb : Below w.heap.size w w') : CtLs w' c := ⟨h.lb.below hb, h.lp.below hb, h.ints.below hb⟩
set_option maxRecDepth 100000 in
theorem CtAt.ls {w : World} {c : Ct} (h : CtAt w c) : CtLs w c := ⟨h.hat.lb, h.hat.lp, h.ints⟩
set_option maxRecDepth 100000 in
set_option maxHeartbeats 1000000 in
theorem sameCertL_eq (c d : Ct) (w : World) (hv : c.v = d.v) (hl : d.vl.length ≤ 9000000000000000000) (hc : CtLs w c) (hd : CtLs w d) :
    Calls Tryd.prog 15 #[.agg #[.int .i64 c.au, .int .i64 c.rd, .slice c.ba c.bl.length c.bc, .slice c.pa c.pl.length c.pc, .slice c.va c.vl.length c.vc], .agg #[.int .i64 d.au, .int .i64 d.rd, .slice d.ba d.bl.length d.bc, .slice d.pa d.pl.length d.pc, .slice d.va d.vl.length d.vc]] w fun e w' => e = .returned (.bool true) ∧ Below w.heap.size w w' := by
  obtain ⟨au, rd, xa, xc, xl, ya, yc, yl, za, zc, zl⟩ := c
  obtain ⟨au', rd', ba, bc, bl, pa, pc, pl, va, vc, vl⟩ := d
  simp only [Ct.v, CV.mk.injEq] at hv
  obtain ⟨rfl, rfl, s1, s2, rfl⟩ := hv
  have S1 : Same xl bl := s1
  have S2 : Same yl pl := s2
  obtain ⟨a1, a2, a3⟩ := hc
  obtain ⟨b1, b2, b3⟩ := hd
  simp only at a1 a2 a3 b1 b2 b3 hl ⊢
  rw [S1.length, S2.length]
  have hA : Below w.heap.size w ((w.alloc (.cells #[.int .i64 au, .int .i64 rd, .slice xa bl.length xc, .slice ya pl.length yc, .slice za zl.length zc] 35)).alloc (.cells #[.int .i64 au, .int .i64 rd, .slice ba bl.length bc, .slice pa pl.length pc, .slice va zl.length vc] 35)) := ((Below.refl _ _).alloc (Nat.le_refl _) _).alloc (by rw [size_alloc]; omega) _
  have q0 := heap_alloc2_old w (.cells #[.int .i64 au, .int .i64 rd, .slice xa bl.length xc, .slice ya pl.length yc, .slice za zl.length zc] 35) (.cells #[.int .i64 au, .int .i64 rd, .slice ba bl.length bc, .slice pa pl.length pc, .slice va zl.length vc] 35)
  have q1 : ((w.alloc (.cells #[.int .i64 au, .int .i64 rd, .slice xa bl.length xc, .slice ya pl.length yc, .slice za zl.length zc] 35)).alloc (.cells #[.int .i64 au, .int .i64 rd, .slice ba bl.length bc, .slice pa pl.length pc, .slice va zl.length vc] 35)).heap[w.heap.size + 1]? = some (.cells #[.int .i64 au, .int .i64 rd, .slice ba bl.length bc, .slice pa pl.length pc, .slice va zl.length vc] 35 (0, 0)) := by
    have := heap_alloc_new (w.alloc (.cells #[.int .i64 au, .int .i64 rd, .slice xa bl.length xc, .slice ya pl.length yc, .slice za zl.length zc] 35)) (.cells #[.int .i64 au, .int .i64 rd, .slice ba bl.length bc, .slice pa pl.length pc, .slice va zl.length vc] 35)
    rw [size_alloc] at this; exact this
  have HS1 : Hid _ := S1
  have HS2 : Hid _ := S2
  clear s1 s2 S1 S2
  go_enter Tryd.func15, Tryd.ntmps15
  go_wp2_with fail
  generalize (w.alloc (.cells #[.int .i64 au, .int .i64 rd, .slice xa bl.length xc, .slice ya pl.length yc, .slice za zl.length zc] 35)).alloc (.cells #[.int .i64 au, .int .i64 rd, .slice ba bl.length bc, .slice pa pl.length pc, .slice va zl.length vc] 35) = W0 at hA q0 q1 ⊢
  refine (sameHeaderL_eq au rd xa xc xl ya yc yl ba bc bl pa pc pl W0 HS1.out HS2.out (a1.below hA) (a2.below hA) (b1.below hA) (b2.below hA)).mono ?_
  rintro e w1 ⟨he, hb1⟩
  subst he
  dsimp only
  have r0 := (hb1.block _ (lt_of_heap q0)).trans q0
  have r1 := (hb1.block _ (lt_of_heap q1)).trans q1
  have k4 := cells_at r0 4 _ rfl
  have m4 := cells_at r1 4 _ rfl
  have hB1 := hA.trans (hb1.mono hA.size)
  go_wp2_with fail
  refine (sameIntsL_eq zl za va zc vc w1 hl (a3.below hB1) (b3.below hB1)).mono ?_
  rintro e w2 ⟨he, hb2⟩
  subst he
  dsimp only
  go_wp2_with fail
  go_ret
  exact ⟨rfl, hB1.trans (hb2.mono hB1.size)⟩
end Go.Proofs.YtocclphjpofnoaaDoor

namespace Go.Proofs.YtocclphjpofnoaaDoor
open Go.RowKit

/-- What Find answers. -/
def FndAt (w' : World) (e : Ending) (l : List CV) (k : List Int) : Prop :=
  (∃ ec : Int, e = .returned (.tuple #[.agg #[.int .i64 0, .int .i64 0, .slice none 0 0, .slice none 0 0, .slice none 0 0], .int .i64 ec]) ∧ ((dagF l = 12 ∧ ec = 12) ∨ (dagF l = 0 ∧ pOf l k = -1 ∧ ec = 8))) ∨ (dagF l = 0 ∧ 0 ≤ pOf l k ∧ ∃ c : Ct, e = .returned (.tuple #[.agg #[.int .i64 c.au, .int .i64 c.rd, .slice c.ba c.bl.length c.bc, .slice c.pa c.pl.length c.pc, .slice c.va c.vl.length c.vc], .int .i64 0]) ∧ c.v = cvAt l (pOf l k).toNat ∧ CtLs w' c ∧ c.vl.length ≤ 4)
set_option maxRecDepth 100000 in
theorem f_small {c : CV} (h : c.f = 0) : c.bl.length ≤ 3 ∧ c.pl.length ≤ 4 ∧ c.vl.length ≤ 4 ∧ (∀ b ∈ c.bl, b.length = 32) ∧ (∀ b ∈ c.pl, b.length = 32) := by
  obtain ⟨_, _, y3, y4, y5, y6⟩ := headerF_ok (certF_head (vl := c.vl) h)
  refine ⟨by simpa [pz] using y3, by simpa [pz] using y4, ?_, fun b hb => ?_, fun b hb => ?_⟩
  · rw [CV.f, certF] at h
    split at h
    · rename_i g; exact absurd h g
    · split at h
      · cases h
      · omega
  · exact y5 ⟨none, 0, b⟩ (by simp [pz, hb])
  · exact y6 ⟨none, 0, b⟩ (by simp [pz, hb])
set_option maxRecDepth 100000 in
theorem ct_small {c : Ct} (h : c.v.f = 0) : c.bl.length ≤ 1000 ∧ c.pl.length ≤ 1000 ∧ c.vl.length ≤ 4 ∧ (∀ p ∈ c.bl, p.bs.length ≤ 140737488355328) ∧ (∀ p ∈ c.pl, p.bs.length ≤ 140737488355328) := by
  obtain ⟨a1, a2, a3, a4, a5⟩ := f_small h
  simp only [Ct.v, bss_length] at a1 a2 a3
  refine ⟨by omega, by omega, a3, fun p hp => ?_, fun p hp => ?_⟩
  · rw [a4 p.bs (List.mem_map.2 ⟨p, hp, rfl⟩)]; decide
  · rw [a5 p.bs (List.mem_map.2 ⟨p, hp, rfl⟩)]; decide
set_option maxRecDepth 100000 in
set_option maxHeartbeats 1000000 in
theorem dagFind_any (ls : List Ct) (sa : Option Addr) (n cap : Nat) (bs : List Int) (ka : Option Addr) (kn kc : Nat) (w : World) (hn : n = ls.length) (hkn : kn = bs.length) (hd : DagAt w sa cap ls) (hk : SliceAt w ka kc bs) (hT : Tabs w) :
    Calls Tryd.prog 12 #[.agg #[.slice sa n cap], .slice ka kn kc] w fun e w' => FndAt w' e (cvs ls) bs ∧ Below w.heap.size w w' := by
  subst hn hkn
  have hA : Below w.heap.size w ((w.alloc (.cells #[.slice sa ls.length cap] 24)).alloc (.cells #[.int .i64 0, .int .i64 0, .slice none 0 0, .slice none 0 0, .slice none 0 0] 35)) := ((Below.refl _ _).alloc (Nat.le_refl _) _).alloc (by rw [size_alloc]; omega) _
  have q1 : ((w.alloc (.cells #[.slice sa ls.length cap] 24)).alloc (.cells #[.int .i64 0, .int .i64 0, .slice none 0 0, .slice none 0 0, .slice none 0 0] 35)).heap[w.heap.size + 1]? = some (.cells #[.int .i64 0, .int .i64 0, .slice none 0 0, .slice none 0 0, .slice none 0 0] 35 (0, 0)) := by
    have := heap_alloc_new (w.alloc (.cells #[.slice sa ls.length cap] 24)) (.cells #[.int .i64 0, .int .i64 0, .slice none 0 0, .slice none 0 0, .slice none 0 0] 35)
    rw [size_alloc] at this; exact this
  go_enter Tryd.func12, Tryd.ntmps12
  go_wp2_with fail
  generalize (w.alloc (.cells #[.slice sa ls.length cap] 24)).alloc (.cells #[.int .i64 0, .int .i64 0, .slice none 0 0, .slice none 0 0, .slice none 0 0] 35) = W0 at hA q1 ⊢
  refine (open_any ls sa _ cap W0 rfl (hd.below hA) (hT.below hA)).mono ?_
  rintro e w1 ⟨hO, hb1⟩
  have hB1 := hA.trans (hb1.mono hA.size)
  have r1 := (hb1.block _ (lt_of_heap q1)).trans q1
  rcases hO with ⟨hF, he⟩ | ⟨hF, ca, cc, da, dc, ds, he, hs⟩
  · have HF : Hid _ := hF
    clear hF
    subst he
    dsimp only
    have rA := heap_keep (o := .cells #[.slice none 0 0, .slice none 0 0] 56) r1
    have d0 := cells_at rA 0 _ rfl
    have d1 := cells_at rA 1 _ rfl
    have d2 := cells_at rA 2 _ rfl
    have d3 := cells_at rA 3 _ rfl
    have d4 := cells_at rA 4 _ rfl
    have f0 := frozen_at rA 0
    have f1 := frozen_at rA 1
    have f2 := frozen_at rA 2
    have f3 := frozen_at rA 3
    have f4 := frozen_at rA 4
    go_wp2_with fail
    refine bodyPost_ret (v := .tuple #[.agg #[.int .i64 0, .int .i64 0, .slice none 0 0, .slice none 0 0, .slice none 0 0], .int .i64 12]) (by simp [results, Tryd.results12, go_sem, d0, d1, d2, d3, d4]) rfl ⟨.inl ⟨12, rfl, .inl ⟨HF.out, rfl⟩⟩, ?_⟩
    have hB1A := hB1.alloc hB1.size (.cells #[.slice none 0 0, .slice none 0 0] 56)
    exact ((((hB1A.setCell (Nat.le_succ _) _).setCell (Nat.le_succ _) _).setCell (Nat.le_succ _) _).setCell (Nat.le_succ _) _).setCell (Nat.le_succ _) _
  · have HF : Hid _ := hF
    clear hF
    subst he
    dsimp only
    have hA1 := (Below.refl w1.heap.size w1).alloc (Nat.le_refl _) (.cells #[.slice ca ls.length cc, .slice da ls.length dc] 56)
    have p1 := heap_alloc_new w1 (.cells #[.slice ca ls.length cc, .slice da ls.length dc] 56)
    have rA := heap_keep (o := .cells #[.slice ca ls.length cc, .slice da ls.length dc] 56) r1
    go_wp2_with fail
    generalize w1.alloc (.cells #[.slice ca ls.length cc, .slice da ls.length dc] 56) = W1 at hA1 p1 rA ⊢
    have hB1A := hB1.trans (hA1.mono hB1.size)
    refine (withDigest_any ls ca _ cc da _ dc ds bs ka _ kc W1 rfl (hs.below hA1) rfl (hk.below hB1A)).mono ?_
    rintro e w2 ⟨he, hb2⟩
    subst he
    dsimp only
    have hB2 := hB1A.trans (hb2.mono hB1A.size)
    have r2 := (hb2.block _ (lt_of_heap rA)).trans rA
    have p2 := (hb2.block _ (lt_of_heap p1)).trans p1
    have hbd := pOf_bounds (cvs ls) bs
    rw [cvs_length] at hbd
    have hs2 := (hs.below hA1).below hb2
    by_cases hr : pOf (cvs ls) bs < 0
    · have HP : Hid (pOf (cvs ls) bs = -1) := by
        show _ = _
        omega
      rw [HP.out]
      have d0 := cells_at r2 0 _ rfl
      have d1 := cells_at r2 1 _ rfl
      have d2 := cells_at r2 2 _ rfl
      have d3 := cells_at r2 3 _ rfl
      have d4 := cells_at r2 4 _ rfl
      have f0 := frozen_at r2 0
      have f1 := frozen_at r2 1
      have f2 := frozen_at r2 2
      have f3 := frozen_at r2 3
      have f4 := frozen_at r2 4
      clear hr hbd
      go_wp2_with fail
      refine bodyPost_ret (v := .tuple #[.agg #[.int .i64 0, .int .i64 0, .slice none 0 0, .slice none 0 0, .slice none 0 0], .int .i64 8]) (by simp [results, Tryd.results12, go_sem, d0, d1, d2, d3, d4]) rfl ⟨.inl ⟨8, rfl, .inr ⟨HF.out, HP.out, rfl⟩⟩, ?_⟩
      exact ((((hB2.setCell (Nat.le_succ _) _).setCell (Nat.le_succ _) _).setCell (Nat.le_succ _) _).setCell (Nat.le_succ _) _).setCell (Nat.le_succ _) _
    · obtain ⟨k, hke⟩ : ∃ k : Nat, pOf (cvs ls) bs = k := ⟨(pOf (cvs ls) bs).toNat, by omega⟩
      have HP : Hid (pOf (cvs ls) bs = k) := hke
      rw [hke] at hbd hr
      rw [hke]
      have hkl : k < ls.length := by omega
      have hkI : (k : Int) < ls.length := by omega
      have h0 : ¬ (k : Int) < 0 := by omega
      clear hke
      obtain ⟨sb, so, rfl, c0, c1, c2, c3, c4⟩ := hs2.certs.at k hkl
      have hct := (hd.each (ls[k]) (List.getElem_mem hkl)).below hB2
      obtain ⟨m1, m2, m3, m4, m5⟩ := ct_small (all_f HF.out (ls[k]) (List.getElem_mem hkl))
      have HCC := cloneCert_any (ls[k]) w2 hct m1 m2 (by omega) m4 m5
      have HV : Hid ((ls[k]).v = cvAt (cvs ls) k) := (cvAt_get ls k hkl).symm
      have HV4 : Hid ((ls[k]).vl.length ≤ 4) := m3
      have b0 := cells_at p2 0 _ rfl
      clear hct m1 m2 m3 m4 m5 hs2
      generalize ls[k] = s at *
      go_wp2_with fail
      refine HCC.mono ?_
      rintro e w3 ⟨x, he, hxv, hxa, hxin, hb3⟩
      subst he
      dsimp only
      clear HCC b0 c0 c1 c2 c3 c4
      have r3 := (hb3.block _ (lt_of_heap r2)).trans r2
      have d0 := cells_at r3 0 _ rfl
      have d1 := cells_at r3 1 _ rfl
      have d2 := cells_at r3 2 _ rfl
      have d3 := cells_at r3 3 _ rfl
      have d4 := cells_at r3 4 _ rfl
      have f0 := frozen_at r3 0
      have f1 := frozen_at r3 1
      have f2 := frozen_at r3 2
      have f3 := frozen_at r3 3
      have f4 := frozen_at r3 4
      have hB3 := hB2.trans (hb3.mono hB2.size)
      have hlt : w.heap.size + 1 < w2.heap.size := lt_of_heap r2
      have HXV : Hid (x.v = s.v) := hxv
      have HIN : Hid (∀ b, CtIn x b → w2.heap.size ≤ b) := hxin
      clear hxv hxin
      go_wp2_with fail
      refine bodyPost_ret (v := .tuple #[.agg #[.int .i64 x.au, .int .i64 x.rd, .slice x.ba x.bl.length x.bc, .slice x.pa x.pl.length x.pc, .slice x.va x.vl.length x.vc], .int .i64 0]) (by simp [results, Tryd.results12, go_sem, d0, d1, d2, d3, d4]) rfl ⟨.inr ⟨HF.out, by rw [HP.out]; omega, x, rfl, ?_, ?_, ?_⟩, ?_⟩
      · rw [HP.out, HXV.out, HV.out]; rfl
      · refine (CtAt.keep hxa (by simp) (fun b hb => ?_)).ls
        have hge := HIN.out b hb
        have hne : b ≠ w.heap.size + 1 := by omega
        rw [heap_setCell_other _ _ b _ hne, heap_setCell_other _ _ b _ hne, heap_setCell_other _ _ b _ hne, heap_setCell_other _ _ b _ hne, heap_setCell_other _ _ b _ hne]
      · have : x.vl = s.vl := congrArg CV.vl HXV.out
        rw [this]; exact HV4.out
      · exact ((((hB3.setCell (Nat.le_succ _) _).setCell (Nat.le_succ _) _).setCell (Nat.le_succ _) _).setCell (Nat.le_succ _) _).setCell (Nat.le_succ _) _
end Go.Proofs.YtocclphjpofnoaaDoor

namespace Go.Proofs.YtocclphjpofnoaaDoor
open Go.RowKit

set_option maxRecDepth 100000 in
set_option maxHeartbeats 1000000 in
theorem foundIn_any (ls : List Ct) (sa : Option Addr) (n cap : Nat) (bs : List Int) (ka : Option Addr) (kn kc : Nat) (w : World) (hn : n = ls.length) (hkn : kn = bs.length) (hd : DagRd w sa cap ls) (hk : SliceAt w ka kc bs) :
    Calls Tryd.prog 14 #[.agg #[.slice sa n cap], .slice ka kn kc] w fun e w' => FndAt w' e (cvs ls) bs ∧ Below w.heap.size w w' := by
  subst hn hkn
  have hA : Below w.heap.size w ((w.alloc (.cells #[.slice sa ls.length cap] 24)).alloc (.cells #[.int .i64 0, .int .i64 0, .slice none 0 0, .slice none 0 0, .slice none 0 0] 35)) := ((Below.refl _ _).alloc (Nat.le_refl _) _).alloc (by rw [size_alloc]; omega) _
  have q0 := heap_alloc2_old w (.cells #[.slice sa ls.length cap] 24) (.cells #[.int .i64 0, .int .i64 0, .slice none 0 0, .slice none 0 0, .slice none 0 0] 35)
  have q1 : ((w.alloc (.cells #[.slice sa ls.length cap] 24)).alloc (.cells #[.int .i64 0, .int .i64 0, .slice none 0 0, .slice none 0 0, .slice none 0 0] 35)).heap[w.heap.size + 1]? = some (.cells #[.int .i64 0, .int .i64 0, .slice none 0 0, .slice none 0 0, .slice none 0 0] 35 (0, 0)) := by
    have := heap_alloc_new (w.alloc (.cells #[.slice sa ls.length cap] 24)) (.cells #[.int .i64 0, .int .i64 0, .slice none 0 0, .slice none 0 0, .slice none 0 0] 35)
    rw [size_alloc] at this; exact this
  go_enter Tryd.func14, Tryd.ntmps14
  go_wp2_with fail
  generalize (w.alloc (.cells #[.slice sa ls.length cap] 24)).alloc (.cells #[.int .i64 0, .int .i64 0, .slice none 0 0, .slice none 0 0, .slice none 0 0] 35) = W0 at hA q0 q1 ⊢
  refine (dagFault_any ls sa _ cap W0 rfl (hd.below hA)).mono ?_
  rintro e w1 ⟨he, hb1⟩
  subst he
  dsimp only
  have hB1 := hA.trans (hb1.mono hA.size)
  have r0 := (hb1.block _ (lt_of_heap q0)).trans q0
  have r1 := (hb1.block _ (lt_of_heap q1)).trans q1
  rcases dagF_or (cvs ls) with h | h
  · have HF : Hid _ := h
    have hd1 := hd.below hB1
    have HD := digestsOf_any ls sa _ cap w1 rfl (dag_le h) hd1.certs hd1.each (all_f h)
    have hle := dag_le h
    rw [h]
    clear h hd1
    have b0 := cells_at r0 0 _ rfl
    go_wp2_with fail
    refine HD.mono ?_
    rintro e w2 ⟨ra, rc, ds, he, hM, hL, hb2⟩
    subst he
    dsimp only
    clear HD b0
    have hB2 := hB1.trans (hb2.mono hB1.size)
    have hdl : ls.length = ds.length := by rw [digs_length hM, cvs_length]
    have HPL := placeOf_any (cvs ls) ds ra ls.length rc bs ka bs.length kc w2 hdl hM (by omega) hL.parts rfl (hk.below hB2)
    clear hM hdl
    go_wp2_with fail
    refine HPL.mono ?_
    rintro e w2' ⟨he, hw⟩
    subst he hw
    dsimp only
    clear HPL
    have s0 := (hb2.block _ (lt_of_heap r0)).trans r0
    have s1 := (hb2.block _ (lt_of_heap r1)).trans r1
    have hbd := pOf_bounds (cvs ls) bs
    rw [cvs_length] at hbd
    by_cases hr : pOf (cvs ls) bs < 0
    · have HP : Hid (pOf (cvs ls) bs = -1) := by
        show _ = _
        omega
      rw [HP.out]
      have d0 := cells_at s1 0 _ rfl
      have d1 := cells_at s1 1 _ rfl
      have d2 := cells_at s1 2 _ rfl
      have d3 := cells_at s1 3 _ rfl
      have d4 := cells_at s1 4 _ rfl
      have f0 := frozen_at s1 0
      have f1 := frozen_at s1 1
      have f2 := frozen_at s1 2
      have f3 := frozen_at s1 3
      have f4 := frozen_at s1 4
      clear hr hbd
      go_wp2_with fail
      refine bodyPost_ret (v := .tuple #[.agg #[.int .i64 0, .int .i64 0, .slice none 0 0, .slice none 0 0, .slice none 0 0], .int .i64 8]) (by simp [results, Tryd.results14, go_sem, d0, d1, d2, d3, d4]) rfl ⟨.inl ⟨8, rfl, .inr ⟨HF.out, HP.out, rfl⟩⟩, ?_⟩
      exact ((((hB2.setCell (Nat.le_succ _) _).setCell (Nat.le_succ _) _).setCell (Nat.le_succ _) _).setCell (Nat.le_succ _) _).setCell (Nat.le_succ _) _
    · obtain ⟨k, hke⟩ : ∃ k : Nat, pOf (cvs ls) bs = k := ⟨(pOf (cvs ls) bs).toNat, by omega⟩
      have HP : Hid (pOf (cvs ls) bs = k) := hke
      rw [hke] at hbd hr
      rw [hke]
      have hkl : k < ls.length := by omega
      have hkI : (k : Int) < ls.length := by omega
      have h0 : ¬ (k : Int) < 0 := by omega
      clear hke
      obtain ⟨sb, so, rfl, c0, c1, c2, c3, c4⟩ := (hd.certs.below hB2).at k hkl
      have hct := (hd.each (ls[k]) (List.getElem_mem hkl)).below hB2
      obtain ⟨_, _, m3, _, _⟩ := ct_small (all_f HF.out (ls[k]) (List.getElem_mem hkl))
      have HCC := certCopyU_any (ls[k]).au (ls[k]).rd (ls[k]).ba (ls[k]).bc (ls[k]).bl (ls[k]).pa (ls[k]).pc (ls[k]).pl (ls[k]).va (ls[k]).vc (ls[k]).vl w2 hct.rb hct.rp hct.nums.ints (by omega)
      have HV : Hid ((ls[k]).v = cvAt (cvs ls) k) := (cvAt_get ls k hkl).symm
      have HV4 : Hid ((ls[k]).vl.length ≤ 4) := m3
      have b0 := cells_at s0 0 _ rfl
      clear hct m3
      generalize ls[k] = s at *
      go_wp2_with fail
      refine HCC.mono ?_
      rintro e w3 ⟨xa, xc, xs, ya, yc, ys, za, zc, he, hS1, hS2, hL1, hL2, hZ, hb3, hF1, hF2, hF3, _, _⟩
      subst he
      dsimp only
      clear HCC b0 c0 c1 c2 c3 c4
      have r3 := (hb3.block _ (lt_of_heap s1)).trans s1
      have d0 := cells_at r3 0 _ rfl
      have d1 := cells_at r3 1 _ rfl
      have d2 := cells_at r3 2 _ rfl
      have d3 := cells_at r3 3 _ rfl
      have d4 := cells_at r3 4 _ rfl
      have f0 := frozen_at r3 0
      have f1 := frozen_at r3 1
      have f2 := frozen_at r3 2
      have f3 := frozen_at r3 3
      have f4 := frozen_at r3 4
      have hB3 := hB2.trans (hb3.mono hB2.size)
      have hlt : w.heap.size + 1 < w2.heap.size := lt_of_heap s1
      have E1 : Hid (xs.length = s.bl.length) := hS1.length
      have E2 : Hid (ys.length = s.pl.length) := hS2.length
      have HXV : Hid ((⟨s.au, s.rd, xa, xc, xs, ya, yc, ys, za, zc, s.vl⟩ : Ct).v = s.v) := by
        show Ct.v _ = _
        simp only [Ct.v]
        rw [bss_same hS1, bss_same hS2]
      have hzn : ∀ sb so, za = some ⟨sb, so, none⟩ → w.heap.size + 1 ≠ sb := fun sb so e => by have := hF3 sb so e; omega
      clear hS1 hS2
      go_wp2_with fail
      refine bodyPost_ret (v := .tuple #[.agg #[.int .i64 s.au, .int .i64 s.rd, .slice xa s.bl.length xc, .slice ya s.pl.length yc, .slice za s.vl.length zc], .int .i64 0]) (by simp [results, Tryd.results14, go_sem, d0, d1, d2, d3, d4]) rfl ⟨.inr ⟨HF.out, by rw [HP.out]; omega, ⟨s.au, s.rd, xa, xc, xs, ya, yc, ys, za, zc, s.vl⟩, by rw [E1.out, E2.out], ?_, ⟨?_, ?_, ?_⟩, HV4.out⟩, ?_⟩
      · rw [HP.out, HXV.out, HV.out]; rfl
      · exact ((((hL1.setCell hF1 _ _ _ hlt).setCell hF1 _ _ _ hlt).setCell hF1 _ _ _ hlt).setCell hF1 _ _ _ hlt).setCell hF1 _ _ _ hlt
      · exact ((((hL2.setCell hF2 _ _ _ hlt).setCell hF2 _ _ _ hlt).setCell hF2 _ _ _ hlt).setCell hF2 _ _ _ hlt).setCell hF2 _ _ _ hlt
      · exact ((((hZ.setCell _ _ _ hzn).setCell _ _ _ hzn).setCell _ _ _ hzn).setCell _ _ _ hzn).setCell _ _ _ hzn
      · exact ((((hB3.setCell (Nat.le_succ _) _).setCell (Nat.le_succ _) _).setCell (Nat.le_succ _) _).setCell (Nat.le_succ _) _).setCell (Nat.le_succ _) _
  · have HF : Hid _ := h
    rw [h]
    clear h
    have d0 := cells_at r1 0 _ rfl
    have d1 := cells_at r1 1 _ rfl
    have d2 := cells_at r1 2 _ rfl
    have d3 := cells_at r1 3 _ rfl
    have d4 := cells_at r1 4 _ rfl
    have f0 := frozen_at r1 0
    have f1 := frozen_at r1 1
    have f2 := frozen_at r1 2
    have f3 := frozen_at r1 3
    have f4 := frozen_at r1 4
    go_wp2_with fail
    refine bodyPost_ret (v := .tuple #[.agg #[.int .i64 0, .int .i64 0, .slice none 0 0, .slice none 0 0, .slice none 0 0], .int .i64 12]) (by simp [results, Tryd.results14, go_sem, d0, d1, d2, d3, d4]) rfl ⟨.inl ⟨12, rfl, .inl ⟨HF.out, rfl⟩⟩, ?_⟩
    exact ((((hB1.setCell (Nat.le_succ _) _).setCell (Nat.le_succ _) _).setCell (Nat.le_succ _) _).setCell (Nat.le_succ _) _).setCell (Nat.le_succ _) _
end Go.Proofs.YtocclphjpofnoaaDoor

namespace Go.Proofs.YtocclphjpofnoaaDoor
open Go.RowKit

set_option maxRecDepth 100000 in
set_option maxHeartbeats 1000000 in
theorem dagCopy_any (ls : List Ct) (sa : Option Addr) (n cap : Nat) (w : World) (hn : n = ls.length) (hd : DagRd w sa cap ls) :
    Calls Tryd.prog 10 #[.agg #[.slice sa n cap]] w fun e w' => ∃ ra rc ks, e = .returned (.agg #[.slice ra ls.length rc]) ∧ cvs ks = cvs ls ∧ DagAt w' ra rc ks ∧ Below w.heap.size w w' := by
  subst hn
  obtain ⟨i, hi, hz0, hz1, hz2⟩ := info_parts infoCert
  have hreach := hd.reach
  have hA : Below w.heap.size w (((w.alloc (.cells #[.slice sa ls.length cap] 24)).alloc (.cells #[.slice none 0 0] 24)).alloc (.cells #[.slice none 0 0] 24)) := (((Below.refl _ _).alloc (Nat.le_refl _) _).alloc (by rw [size_alloc]; omega) _).alloc (by rw [size_alloc, size_alloc]; omega) _
  have r0 : (((w.alloc (.cells #[.slice sa ls.length cap] 24)).alloc (.cells #[.slice none 0 0] 24)).alloc (.cells #[.slice none 0 0] 24)).heap[w.heap.size]? = some (.cells #[.slice sa ls.length cap] 24 (0, 0)) := heap_keep (heap_keep (heap_alloc_new w _))
  have r1 : (((w.alloc (.cells #[.slice sa ls.length cap] 24)).alloc (.cells #[.slice none 0 0] 24)).alloc (.cells #[.slice none 0 0] 24)).heap[w.heap.size + 1]? = some (.cells #[.slice none 0 0] 24 (0, 0)) := heap_keep (by have := heap_alloc_new (w.alloc (.cells #[.slice sa ls.length cap] 24)) (.cells #[.slice none 0 0] 24); rw [size_alloc] at this; exact this)
  have r2 : (((w.alloc (.cells #[.slice sa ls.length cap] 24)).alloc (.cells #[.slice none 0 0] 24)).alloc (.cells #[.slice none 0 0] 24)).heap[w.heap.size + 1 + 1]? = some (.cells #[.slice none 0 0] 24 (0, 0)) := by
    have := heap_alloc_new ((w.alloc (.cells #[.slice sa ls.length cap] 24)).alloc (.cells #[.slice none 0 0] 24)) (.cells #[.slice none 0 0] 24)
    rw [size_alloc, size_alloc] at this; exact this
  have hz : (((w.alloc (.cells #[.slice sa ls.length cap] 24)).alloc (.cells #[.slice none 0 0] 24)).alloc (.cells #[.slice none 0 0] 24)).heap.size = w.heap.size + 3 := by rw [size_alloc, size_alloc, size_alloc]
  go_enter Tryd.func10, Tryd.ntmps10
  go_wp2_with fail
  generalize ((w.alloc (.cells #[.slice sa ls.length cap] 24)).alloc (.cells #[.slice none 0 0] 24)).alloc (.cells #[.slice none 0 0] 24) = W0 at hA r0 r1 r2 hz ⊢
  have HZ : Hid (W0.heap.size = w.heap.size + 3) := hz
  clear hz
  generalize hO : w.heap.size + 1 + 1 = O at r2 ⊢
  have HO : Hid (w.heap.size + 1 + 1 = O) := hO
  clear hO
  go_loopw [4] (fun j wr => ∃ (k : Nat) (v : Value) (ks : List Ct), k ≤ ls.length ∧ j = .int .i64 k ∧ cvs ks = (cvs ls).take k ∧ wr.heap[w.heap.size]? = some (.cells #[.slice sa ls.length cap] 24 (0, 0)) ∧ wr.heap[w.heap.size + 1]? = some (.cells #[.slice none 0 0] 24 (0, 0)) ∧ wr.heap[O]? = some (.cells #[v] 24 (0, 0)) ∧ wr.ownsRow W0.heap.size 35 5 v k (ctv ks) ∧ ApartC wr W0.heap.size v ks ∧ Below w.heap.size w wr ∧ W0.heap.size ≤ wr.heap.size) (fun j _ => ls.length - (intOf j).toNat)
  case atStart => exact ⟨0, _, [], Nat.zero_le _, rfl, rfl, r0, r1, r2, World.ownsRow_nil _ _ _ _, (fun p hp => by cases hp), hA, Nat.le_refl _⟩
  case round =>
    clear r0 r1 r2 hA
    obtain ⟨k, v, ks, hk, rfl, hS, s0, s1, s2, ho, hap, hb, hsz⟩ := hrel
    obtain ⟨ea, ec, hve⟩ := owns_shape ho
    subst hve
    have b0 : wr.cell? ⟨w.heap.size, 0, none⟩ = some (.slice sa ls.length cap) := cells_at s0 0 _ rfl
    have o0 : wr.cell? ⟨O, 0, none⟩ = some (.slice ea k ec) := cells_at s2 0 _ rfl
    have of0 := frozen_at s2 0
    have HS : Hid (cvs ks = (cvs ls).take k) := hS
    clear hS
    by_cases hlt : k < ls.length
    · obtain ⟨sb, so, rfl, c0, c1, c2, c3, c4⟩ := (hd.certs.below hb).at k hlt
      have hR := (hd.each (ls[k]) (List.getElem_mem hlt)).below hb
      have hst : Hid ((cvs ls).take (k + 1) = (cvs ls).take k ++ [(ls[k]).v]) := by
        show _ = _
        rw [List.take_succ_eq_append_getElem (by rw [cvs_length]; exact hlt)]
        simp [cvs]
      have hltI : (k : Int) < ls.length := by omega
      generalize ls[k] = s at *
      have hvr : s.vl.length * 8 ≤ 140737488355328 := by have := hR.nums.le; have := hR.nums.reach; omega
      have HD := certCopyU_any s.au s.rd s.ba s.bc s.bl s.pa s.pc s.pl s.va s.vc s.vl wr hR.rb hR.rp hR.nums.ints hvr
      have hvl : s.vl.length ≤ 9000000000000000000 := by omega
      clear hR hvr
      go_wp2_with fail
      refine HD.mono ?_
      rintro e w2 ⟨xa, xc, xs, ya, yc, ys, za, zc, he, hS1, hS2, hL1, hL2, hZ, hb2, hF1, hF2, hF3, hU1, hU2⟩
      subst he
      dsimp only
      clear HD
      have E1 := hS1.length
      have E2 := hS2.length
      have hct : CtAt w2 ⟨s.au, s.rd, xa, xc, xs, ya, yc, ys, za, zc, s.vl⟩ := ⟨⟨hL1, hL2, hU1, hU2⟩, hZ, hvl⟩
      have hin : ∀ b, CtIn ⟨s.au, s.rd, xa, xc, xs, ya, yc, ys, za, zc, s.vl⟩ b → wr.heap.size ≤ b := by
        rintro b (⟨so, e⟩ | ⟨so, e⟩ | ⟨p, hp, _, so, e⟩ | ⟨_, so, e⟩)
        · exact hF1.row b so e
        · exact hF2.row b so e
        · rcases List.mem_append.1 hp with hp | hp
          · exact hF1.each p hp b so e
          · exact hF2.each p hp b so e
        · exact hF3 b so e
      have HV : Hid ((⟨s.au, s.rd, xa, xc, xs, ya, yc, ys, za, zc, s.vl⟩ : Ct).v = s.v) := by
        show Ct.v _ = _
        simp only [Ct.v]
        rw [bss_same hS1, bss_same hS2]
      have HC : Hid ((⟨s.au, s.rd, xa, xc, xs, ya, yc, ys, za, zc, s.vl⟩ : Ct).cs = [.int .i64 s.au, .int .i64 s.rd, .slice xa s.bl.length xc, .slice ya s.pl.length yc, .slice za s.vl.length zc]) := by
        show Ct.cs _ = _
        simp only [Ct.cs]
        rw [E1, E2]
      generalize hcte : (⟨s.au, s.rd, xa, xc, xs, ya, yc, ys, za, zc, s.vl⟩ : Ct) = ct at hct hin HV HC
      clear hcte hS1 hS2 hL1 hL2 hZ hF1 hF2 hF3 hU1 hU2 E1 E2
      have hob := owns_keep ho hb2
      have hB2 := hb.trans (hb2.mono hb.size)
      have hlt2 : O < wr.heap.size := lt_of_heap s2
      have t0 := (hb2.block _ (lt_of_heap s0)).trans s0
      have t1 := (hb2.block _ (lt_of_heap s1)).trans s1
      have t2 := (hb2.block _ (lt_of_heap s2)).trans s2
      have q0 : w2.cell? ⟨O, 0, none⟩ = some (.slice ea k ec) := cells_at t2 0 _ rfl
      have qf := frozen_at t2 0
      clear c0 c1 c2 c3 c4 b0 o0 of0
      have hvb : (Value.slice ea k ec).ownBlock ≠ some O := fun e => by have := (ho.lt _ e).1; have := HZ.out; have := HO.out; omega
      have hvb1 : (Value.slice ea k ec).ownBlock ≠ some (w.heap.size + 1) := fun e => by have := (ho.lt _ e).1; have := HZ.out; omega
      have hvb0 : (Value.slice ea k ec).ownBlock ≠ some (w.heap.size) := fun e => by have := (ho.lt _ e).1; have := HZ.out; omega
      have hbase : W0.heap.size ≤ w2.heap.size := Nat.le_trans hsz hb2.size
      have hne2 : O ≠ w2.heap.size := by have := lt_of_heap t2; omega
      have t2A := heap_keep (o := .cells #[.int .i64 s.au, .int .i64 s.rd, .slice xa s.bl.length xc, .slice ya s.pl.length yc, .slice za s.vl.length zc] 35) t2
      have q0A := cells_at t2A 0 _ rfl
      have hA2 : Below w2.heap.size w2 (w2.alloc (.cells #[.int .i64 s.au, .int .i64 s.rd, .slice xa s.bl.length xc, .slice ya s.pl.length yc, .slice za s.vl.length zc] 35)) := (Below.refl _ _).alloc (Nat.le_refl _) _
      have hnew := cells_new (w2.alloc (.cells #[.int .i64 s.au, .int .i64 s.rd, .slice xa s.bl.length xc, .slice ya s.pl.length yc, .slice za s.vl.length zc] 35)) [.int .i64 s.au, .int .i64 s.rd, .slice xa s.bl.length xc, .slice ya s.pl.length yc, .slice za s.vl.length zc] 35
      rw [size_alloc] at hnew
      have hob2 := owns_keep hob hA2
      have hbA : W0.heap.size ≤ (w2.alloc (.cells #[.int .i64 s.au, .int .i64 s.rd, .slice xa s.bl.length xc, .slice ya s.pl.length yc, .slice za s.vl.length zc] 35)).heap.size := Nat.le_trans hbase hA2.size
      go_wp2_with (at_builtin; refine wpList_append_own_at _ rfl _ _ 22 rfl W0.heap.size 35 i (.agg #[.int .i64 0, .int .i64 0, .slice none 0 0, .slice none 0 0, .slice none 0 0]) 5 88 Tryd.underlying22 hi hz0 hz1 hz2 rfl (by decide) _ k _ rfl (World.ownsRow.alloc hob2 _) ⟨w2.heap.size + 1, 0, none⟩ 1 1 [.int .i64 s.au, .int .i64 s.rd, .slice xa s.bl.length xc, .slice ya s.pl.length yc, .slice za s.vl.length zc] rfl rfl hnew (by intro u hu; simp at hu; rcases hu with rfl | rfl | rfl | rfl | rfl <;> rfl) (by unfold maxLen; omega) (by omega) (le_alloc hbA _) ?_; intro v1 w3 ho3 hg3 _ hat; obtain ⟨fa, fc, hvf⟩ := owns_shape ho3; subst hvf; have u2 := Grew.row (Grew.of hg3 hat) (heap_keep t2A) hvb; have q3 := cells_at u2 0 _ rfl; have qf3 := frozen_at u2 0)
      have G := Grew.of hg3 hat
      have u0 := Grew.row G (heap_keep (heap_keep t0)) hvb0
      have u1 := Grew.row G (heap_keep (heap_keep t1)) hvb1
      have hB2A := hB2.trans (hA2.mono hB2.size)
      have hw0 : w.heap.size ≤ W0.heap.size := by have := HZ.out; omega
      have hOlt : O < W0.heap.size := by have := HZ.out; have := HO.out; omega
      have hOge : w.heap.size ≤ O := by have := HO.out; omega
      have hap3 := hap.more (c := ct) hsz ho (hb2.trans (hA2.mono hb2.size)) hin (hct.below hA2) G
      have hB4 := Below.grown (hB2A.alloc hB2A.size _) hg3 (le_alloc hB2A.size _) (fun q e => Nat.le_trans hw0 (hob.lt q e).1)
      go_roundw
      case rel =>
        have hR : ∃ (k' : Nat) (v' : Value) (ks' : List Ct), k' ≤ ls.length ∧ (Value.int .i64 ((k : Int) + 1)) = .int .i64 k' ∧ cvs ks' = (cvs ls).take k' ∧ (w3.setCell ⟨O, 0, none⟩ (.slice fa (k + 1) fc)).heap[w.heap.size]? = some (.cells #[.slice (some ⟨sb, so, none⟩) ls.length cap] 24 (0, 0)) ∧ (w3.setCell ⟨O, 0, none⟩ (.slice fa (k + 1) fc)).heap[w.heap.size + 1]? = some (.cells #[.slice none 0 0] 24 (0, 0)) ∧ (w3.setCell ⟨O, 0, none⟩ (.slice fa (k + 1) fc)).heap[O]? = some (.cells #[v'] 24 (0, 0)) ∧ (w3.setCell ⟨O, 0, none⟩ (.slice fa (k + 1) fc)).ownsRow W0.heap.size 35 5 v' k' (ctv ks') ∧ ApartC (w3.setCell ⟨O, 0, none⟩ (.slice fa (k + 1) fc)) W0.heap.size v' ks' ∧ Below w.heap.size w (w3.setCell ⟨O, 0, none⟩ (.slice fa (k + 1) fc)) ∧ W0.heap.size ≤ (w3.setCell ⟨O, 0, none⟩ (.slice fa (k + 1) fc)).heap.size :=
          ⟨k + 1, .slice fa (k + 1) fc, ks ++ [ct], by omega, by go_num, by rw [hst.out, ← HS.out]; simp [cvs, HV.out], heap_far u0 (by have := HO.out; omega), heap_far u1 (by have := HO.out; omega), by simpa using heap_setCell_same _ _ 0 _ _ (.slice fa (k + 1) fc) u2, owns_far (by rw [ctv_snoc, HC.out]; exact ho3) _ _ _ hOlt, hap3.setCell _ _ _ hOlt, hB4.setCell hOge _, by have := hg3.size; rw [size_alloc, size_alloc] at this; simp; omega⟩
        first | exact hR | ((repeat apply Exists.intro); exact ⟨hR, rfl⟩)
      case measure => simp [intOf]; omega
    · obtain rfl : k = ls.length := by omega
      have hS := HS.out
      rw [List.take_of_length_le (by rw [cvs_length]; exact Nat.le_refl _)] at hS
      clear HS
      have HS : Hid _ := hS
      clear hS
      have y0 := cells_at s1 0 _ rfl
      have yf := frozen_at s1 0
      have hw1 : w.heap.size + 1 < W0.heap.size := by have := HZ.out; omega
      obtain ⟨ra, rc, hv, hl, hL, hfr⟩ := dag_of_owns (owns_far ho (w.heap.size + 1) 0 (.slice ea ls.length ec) hw1) (hap.setCell (w.heap.size + 1) 0 (.slice ea ls.length ec) hw1)
      clear hl
      cases hv
      have hLL := hL (by omega)
      go_wp2_with fail
      refine bodyPost_ret (v := .agg #[.slice ea ls.length ec]) (by simp [results, Tryd.results10, go_sem, y0]) rfl ⟨ea, ec, ks, rfl, HS.out, hLL, hb.setCell (Nat.le_succ _) _⟩
end Go.Proofs.YtocclphjpofnoaaDoor
