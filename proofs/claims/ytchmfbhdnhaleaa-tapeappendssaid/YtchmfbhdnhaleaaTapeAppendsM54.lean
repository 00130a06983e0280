/- The same message elsewhere in memory: what is told of it is the same. -/
import Derived.Test.YtchmfbhdnhaleaaOpenB
import Derived.Test.YtchmfbhdnhaleaaTapeAppendsM48
import Derived.Deep.Strs
import Derived.Test.YtchmfbhdnhaleaaCertF
import Derived.Test.YtchmfbhdnhaleaaTapeAppendsM18
import Derived.Test.YtchmfbhdnhaleaaTapeAppendsM42
import Derived.Deep.CutRange
import Derived.Deep.DeepCutAuto
import Derived.Deep.RegionLaw
import Derived.Test.YtchmfbhdnhaleaaMsg
import Derived.Test.YtchmfbhdnhaleaaClone0
import Derived.Deep.RegionHeld3
import Derived.Laws.Rows
import Derived.Laws.Tables
import Derived.Test.YtchmfbhdnhaleaaCheckAny
namespace Go.Proofs.Ytchmfbhdnhaleaa
open Go.ChangeShapes Go.WideShapes Go.ChangeAt Go.RowKit Go.Deep

set_option maxRecDepth 100000 in
theorem cBatch : Try.prog.cellsOf 24 = 3 := by kernel_rfl
set_option maxRecDepth 100000 in
theorem cStrs : Try.prog.cellsOf 22 = 1 := by kernel_rfl
set_option maxRecDepth 100000 in
theorem cInt' : Try.prog.cellsOf 3 = 1 := by kernel_rfl
set_option maxRecDepth 100000 in
theorem open_batch_cells {H : Type} {enc : TypeId × Value → H} {W : World} {fuel : Nat} {cs : List Value} {x : DataW H × List MemPlace}
    (hf : DataW.trod enc Try.prog W 0 (fun _ => true) true fuel 24 cs = some x) (hfit : ∀ n ∈ x.1.weights Try.prog 24, n ≤ reachBytes) :
    ∃ au nu sa cap ss, cs = [.int .i64 au, .int .i64 nu, .slice sa (List.length ss) cap] ∧ I64 au ∧ I64 nu ∧ TextsAt W sa cap ss := by
  obtain ⟨y0, y1, y2, n, rfl, hl, h0, h1, h2⟩ := trod_struct3 Try.underlying24 hf
  rw [cBatch] at hl
  match cs, hl with
  | [c0, c1, c2], _ =>
  obtain ⟨a, e0, rfl, wa⟩ := DataW.trod_int Try.underlying3 h0
  obtain ⟨b, e1, rfl, wb⟩ := DataW.trod_int Try.underlying3 h1
  obtain ⟨sa, cap, ss, e2, hs⟩ := open_texts_cells h2 (fun n hn => hfit n (by simp [DataW.weights, DataW.weightsEach, Try.underlying24, hn]))
  simp [cInt', cStrs] at e0 e1 e2
  subst e0 e1 e2
  exact ⟨a, b, sa, cap, ss, rfl, bounds_i64 wa, bounds_i64 wb, hs⟩
set_option maxRecDepth 100000 in
theorem open_batch {H : Type} {enc : TypeId × Value → H} {W : World} {base : Nat} {v : Value} {d : DataW H} {p : List MemPlace}
    (hv : Value.okWide Try.prog W .any base 24 v) (h : DataW.Trod enc Try.prog W 0 (fun _ => true) true 24 v d p) (hfit : ∀ n ∈ d.weights Try.prog 24, n ≤ reachBytes) :
    ∃ au nu sa cap ss, v = .agg #[.int .i64 au, .int .i64 nu, .slice sa (List.length ss) cap] ∧ I64 au ∧ I64 nu ∧ TextsAt W sa cap ss := by
  obtain ⟨cs, rfl, _⟩ := okWide_struct Try.underlying24 hv
  obtain ⟨fuel, hf⟩ := h
  obtain ⟨au, nu, sa, cap, ss, hcs, h1, h2, h3⟩ := open_batch_cells hf hfit
  refine ⟨au, nu, sa, cap, ss, ?_, h1, h2, h3⟩
  have : cs.toList = _ := hcs
  rw [← this]
end Go.Proofs.Ytchmfbhdnhaleaa

namespace Go.Proofs.Ytchmfbhdnhaleaa
open Go.RowKit

set_option maxRecDepth 100000 in
theorem infoInt2 : (Try.prog.info? 3).map (fun i => (i.zero, i.size, i.bytes)) = some (some (.int .i64 0), 1, 8) := by kernel_rfl
def iv (vl : List Int) : List Value := vl.map (Value.int .i64)
set_option maxRecDepth 100000 in
theorem iv_length (vl : List Int) : (iv vl).length = vl.length := by simp [iv]
set_option maxRecDepth 100000 in
theorem iv_one (vl : List Int) : ∀ u ∈ iv vl, u.oneCell' = true := by
  intro u hu; simp [iv] at hu; obtain ⟨x, _, rfl⟩ := hu; rfl
set_option maxRecDepth 100000 in
theorem intsAt_of_owns {w : World} {base n : Nat} {v : Value} {vl : List Int} (h : w.ownsRow base 3 1 v n (iv vl)) : ∃ za zc, v = .slice za n zc ∧ n = vl.length ∧ IntsAt w za vl ∧ ∀ sb so, za = some ⟨sb, so, none⟩ → base ≤ sb := by
  have hl : n = vl.length := by have := h.1; rw [iv_length] at this; omega
  rcases h.2 with ⟨rfl, hn⟩ | ⟨g, cap, cur, rfl, _⟩
  · have hb : vl = [] := List.eq_nil_of_length_eq_zero (by omega)
    subst hn hb
    exact ⟨none, 0, rfl, rfl, ⟨.inl rfl⟩, fun _ _ e => by cases e⟩
  · refine ⟨some ⟨g, 0, none⟩, cap, rfl, hl, ⟨.inr ⟨g, 0, rfl, fun j hj => ?_⟩⟩, fun sb so e => by cases e; exact (h.lt _ rfl).1⟩
    rw [Nat.zero_add, World.ownsRow.cellAt h j (by omega)]
    simp [iv, hj]
set_option maxRecDepth 100000 in
theorem IntsAt.setCell {w : World} {va : Option Addr} {vl : List Int} (h : IntsAt w va vl) (b j : Nat) (v : Value) (hne : ∀ sb so, va = some ⟨sb, so, none⟩ → b ≠ sb) : IntsAt (w.setCell ⟨b, j, none⟩ v) va vl := by
  refine ⟨?_⟩
  rcases h.cells with h | ⟨sb, so, rfl, hc⟩
  · exact .inl h
  · exact .inr ⟨sb, so, rfl, fun k hk => (World.cell?_setCell_far _ _ _ _ (hne sb so rfl)).trans (hc k hk)⟩
end Go.Proofs.Ytchmfbhdnhaleaa

namespace Go.Proofs.Ytchmfbhdnhaleaa
open Go.RowKit

set_option maxRecDepth 100000 in
set_option maxHeartbeats 1000000 in
theorem certCopy_any2 (au rd : Int) (ba : Option Addr) (bc : Nat) (bl : List Part) (pa : Option Addr) (pc : Nat) (pl : List Part) (va : Option Addr) (vc : Nat) (vl : List Int) (w : World) (hb : ReadAt w ba bc bl) (hp : ReadAt w pa pc pl) (hv : IntsAt w va vl) (hvr : vl.length * 8 ≤ 140737488355328) :
    Calls Try.prog 22 #[.agg #[.int .i64 au, .int .i64 rd, .slice ba bl.length bc, .slice pa pl.length pc, .slice va vl.length vc]] w fun e w' => ∃ xa xc xs ya yc ys za zc, e = .returned (.agg #[.int .i64 au, .int .i64 rd, .slice xa bl.length xc, .slice ya pl.length yc, .slice za vl.length zc]) ∧ Same xs bl ∧ Same ys pl ∧ ListAt w' xa xc xs ∧ ListAt w' ya yc ys ∧ IntsAt w' za vl ∧ Below w.heap.size w w' ∧ Fresh w.heap.size xa xs ∧ Fresh w.heap.size ya ys ∧ (∀ sb so, za = some ⟨sb, so, none⟩ → w.heap.size ≤ sb) := by
  go_enter Try.func22, Try.ntmps22
  go_wp2_with fail
  have hR : Below w.heap.size w ((w.alloc (.cells #[.int .i64 au, .int .i64 rd, .slice ba bl.length bc, .slice pa pl.length pc, .slice va vl.length vc] 33)).alloc (.cells #[.int .i64 0, .int .i64 0, .slice none 0 0, .slice none 0 0, .slice none 0 0] 33)) := ((Below.refl _ _).alloc (Nat.le_refl _) _).alloc (by simp) _
  refine (headerCopy_any au rd ba bc bl pa pc pl _ (hb.below hR) (hp.below hR)).mono ?_
  rintro e w1 ⟨xa, xc, xs, ya, yc, ys, he, hS1, hS2, hL1, hL2, hb1, hF1, hF2⟩
  subst he
  dsimp only
  have r1 := row_new hb1
  have r0 := row_new (below_alloc hb1)
  rw [size_alloc] at r1
  rw [size_alloc, size_alloc] at hF1 hF2
  have hW1 := below_alloc (below_alloc hb1)
  have hlt1 : w.heap.size + 1 < w1.heap.size := lt_of_heap r1
  have hv1 := hv.below hW1
  clear hb1 hR
  obtain ⟨i, hi, hz0, hz1, hz2⟩ := info_parts infoInt2
  go_wp2_with fail
  go_loopw [4] (fun j wr => ∃ (k : Nat) (v : Value), k ≤ vl.length ∧ j = .int .i64 k ∧ Below w1.heap.size w1 wr ∧ wr.heap[w1.heap.size]? = some (.cells #[.int .i64 au, .int .i64 rd, .slice xa bl.length xc, .slice ya pl.length yc, v] 33 (0, 0)) ∧ wr.ownsRow (w1.heap.size + 1) 3 1 v k (iv (vl.take k))) (fun j _ => vl.length - (intOf j).toNat)
  case atStart => exact ⟨0, _, Nat.zero_le _, rfl, (Below.refl _ _).alloc (Nat.le_refl _) _, heap_alloc_new _ _, World.ownsRow_nil _ _ _ _⟩
  case round =>
    obtain ⟨k, v, hk, rfl, hbw, hro, ho⟩ := hrel
    have hrc := (hbw.block _ (lt_of_heap r0)).trans r0
    have c4 : wr.cell? ⟨w.heap.size, 4, none⟩ = some (.slice va vl.length vc) := cells_at hrc 4 _ rfl
    have o4 : wr.cell? ⟨w1.heap.size, 4, none⟩ = some v := cells_at hro 4 _ rfl
    have of4 := frozen_at hro 4
    have hsz : w1.heap.size < wr.heap.size := lt_of_heap hro
    by_cases hlt : k < vl.length
    · obtain ⟨sb, so, rfl, hc⟩ : ∃ sb so, va = some ⟨sb, so, none⟩ ∧ ∀ j, j < vl.length → wr.cell? ⟨sb, so + j, none⟩ = some (.int .i64 (vl.getD j 0)) := by
        rcases (hv1.below hbw).cells with h | h
        · rw [h] at hlt; simp at hlt
        · exact h
      have ck := hc k hlt
      have hltI : (k : Int) < vl.length := by omega
      have hst : Hid (vl.take (k + 1) = vl.take k ++ [vl.getD k 0]) := by
        show _ = _
        rw [List.take_succ_eq_append_getElem hlt]
        simp [List.getD, hlt]
      have hvb : v.ownBlock ≠ some w1.heap.size := fun e => by have := (ho.lt _ e).1; omega
      clear hc
      generalize vl.getD k 0 = x at ck hst
      have hroA : (wr.alloc (.cells #[.int .i64 x] 3)).drew.heap[w1.heap.size]? = some (.cells #[.int .i64 au, .int .i64 rd, .slice xa bl.length xc, .slice ya pl.length yc, v] 33 (0, 0)) := row_old (w1 := wr.alloc (.cells #[.int .i64 x] 3)) hro (Below.refl _ _)
      have hszA : w1.heap.size < (wr.alloc (.cells #[.int .i64 x] 3)).drew.heap.size := lt_of_heap hroA
      go_wp2_with fail
      go_region_law (refine step_append_own rfl _ _ 31 rfl (w1.heap.size + 1) 3 i (.int .i64 0) 1 8 Try.underlying31 hi hz0 hz1 hz2 rfl (by decide) _ k _ rfl (World.ownsRow.alloc ho.drew _) ⟨wr.heap.size, 0, none⟩ 1 1 [.int .i64 x] rfl rfl (cells_new _ _ _) (iv_one [_]) (by unfold maxLen; omega) (by omega) (le_alloc hsz _) ?_; intro v1 w2 ho1 hg1; have hr2 := (hg1.block w1.heap.size hszA (fun e => hvb e.symm)).trans hroA; have p4 : w2.cell? ⟨w1.heap.size, 4, none⟩ = some v := cells_at hr2 4 _ rfl; have pf4 := frozen_at hr2 4; obtain ⟨qa, qc, hq⟩ := owns_shape ho1; subst hq)
      all_goals
        go_wp2_with fail
        go_roundw
        case rel =>
          have hb2 : Below w1.heap.size w1 w2 := Below.grown (hbw.drew.alloc hbw.size _) hg1 (le_alloc hbw.size _) (fun q e => Nat.le_trans (Nat.le_succ _) (ho.lt q e).1)
          have hR : ∃ (k' : Nat) (v' : Value), k' ≤ vl.length ∧ (Value.int .i64 ((k : Int) + 1)) = .int .i64 k' ∧ Below w1.heap.size w1 (w2.setCell ⟨w1.heap.size, 4, none⟩ (.slice qa (k + 1) qc)) ∧ (w2.setCell ⟨w1.heap.size, 4, none⟩ (.slice qa (k + 1) qc)).heap[w1.heap.size]? = some (.cells #[.int .i64 au, .int .i64 rd, .slice xa bl.length xc, .slice ya pl.length yc, v'] 33 (0, 0)) ∧ (w2.setCell ⟨w1.heap.size, 4, none⟩ (.slice qa (k + 1) qc)).ownsRow (w1.heap.size + 1) 3 1 v' k' (iv (vl.take k')) :=
            ⟨k + 1, .slice qa (k + 1) qc, by omega, by go_num, hb2.setCell (Nat.le_refl _) _, by simpa using heap_setCell_same _ _ 4 _ _ (.slice qa (k + 1) qc) hr2, by rw [hst.out]; exact owns_far (by simpa [iv] using ho1) _ _ _ (by omega)⟩
          first | exact hR | ((repeat apply Exists.intro); exact ⟨hR, rfl⟩)
        case measure => simp [intOf]; omega
    · obtain rfl : k = vl.length := by omega
      rw [List.take_of_length_le (Nat.le_refl _)] at ho
      obtain ⟨za, zc, hz, _, hZ, hzf⟩ := intsAt_of_owns ho
      subst hz
      have s1 := (hbw.block _ (lt_of_heap r1)).trans r1
      have d0 := cells_at s1 0 _ rfl
      have d1 := cells_at s1 1 _ rfl
      have d2 := cells_at s1 2 _ rfl
      have d3 := cells_at s1 3 _ rfl
      have d4 := cells_at s1 4 _ rfl
      have f0 := frozen_at s1 0
      have f1 := frozen_at s1 1
      have f2 := frozen_at s1 2
      have f3 := frozen_at s1 3
      have f4 := frozen_at s1 4
      have o0 : wr.cell? ⟨w1.heap.size, 0, none⟩ = some (.int .i64 au) := cells_at hro 0 _ rfl
      have o1 : wr.cell? ⟨w1.heap.size, 1, none⟩ = some (.int .i64 rd) := cells_at hro 1 _ rfl
      have o2 : wr.cell? ⟨w1.heap.size, 2, none⟩ = some (.slice xa bl.length xc) := cells_at hro 2 _ rfl
      have o3 : wr.cell? ⟨w1.heap.size, 3, none⟩ = some (.slice ya pl.length yc) := cells_at hro 3 _ rfl
      have g1 : w.heap.size + 1 < w.heap.size + 1 + 1 := Nat.lt_succ_self _
      have hne : ∀ sb so, za = some ⟨sb, so, none⟩ → w.heap.size + 1 ≠ sb := fun sb so e => by have := hzf sb so e; omega
      have hWr := hW1.trans (hbw.mono hW1.size)
      have hL1r := hL1.below hbw
      have hL2r := hL2.below hbw
      go_wp2_with fail
      refine bodyPost_ret (v := .agg #[.int .i64 au, .int .i64 rd, .slice xa bl.length xc, .slice ya pl.length yc, .slice za vl.length zc]) (by simp [results, Try.results22, go_sem, d0, d1, d2, d3, d4]) rfl ?_
      refine ⟨xa, xc, xs, ya, yc, ys, za, ⟨zc, rfl⟩, hS1, hS2, ?_, ?_, ?_, ?_, hF1.mono (by omega), hF2.mono (by omega), fun sb so e => by have := hzf sb so e; omega⟩
      · exact ((((hL1r.setCell hF1 _ _ _ g1).setCell hF1 _ _ _ g1).setCell hF1 _ _ _ g1).setCell hF1 _ _ _ g1).setCell hF1 _ _ _ g1
      · exact ((((hL2r.setCell hF2 _ _ _ g1).setCell hF2 _ _ _ g1).setCell hF2 _ _ _ g1).setCell hF2 _ _ _ g1).setCell hF2 _ _ _ g1
      · exact ((((hZ.setCell _ _ _ hne).setCell _ _ _ hne).setCell _ _ _ hne).setCell _ _ _ hne).setCell _ _ _ hne
      · exact ((((hWr.setCell (Nat.le_succ _) _).setCell (Nat.le_succ _) _).setCell (Nat.le_succ _) _).setCell (Nat.le_succ _) _).setCell (Nat.le_succ _) _
set_option maxRecDepth 100000 in
theorem certCopy_any (au rd : Int) (ba : Option Addr) (bc : Nat) (bl : List Part) (pa : Option Addr) (pc : Nat) (pl : List Part) (va : Option Addr) (vc : Nat) (vl : List Int) (w : World) (hb : ReadAt w ba bc bl) (hp : ReadAt w pa pc pl) (hv : IntsAt w va vl) (hvr : vl.length * 8 ≤ 140737488355328) :
    Calls Try.prog 22 #[.agg #[.int .i64 au, .int .i64 rd, .slice ba bl.length bc, .slice pa pl.length pc, .slice va vl.length vc]] w fun e w' => ∃ xa xc xs ya yc ys za zc, e = .returned (.agg #[.int .i64 au, .int .i64 rd, .slice xa bl.length xc, .slice ya pl.length yc, .slice za vl.length zc]) ∧ Same xs bl ∧ Same ys pl ∧ ListAt w' xa xc xs ∧ ListAt w' ya yc ys ∧ IntsAt w' za vl ∧ Below w.heap.size w w' := by
  refine (certCopy_any2 au rd ba bc bl pa pc pl va vc vl w hb hp hv hvr).mono ?_
  rintro e w' ⟨xa, xc, xs, ya, yc, ys, za, zc, he, h1, h2, h3, h4, h5, h6, _⟩
  exact ⟨xa, xc, xs, ya, yc, ys, za, zc, he, h1, h2, h3, h4, h5, h6⟩
end Go.Proofs.Ytchmfbhdnhaleaa

namespace Go.Proofs.Ytchmfbhdnhaleaa
open Go.RowKit

/-- What is read of a message that came in. -/
structure MsgIn (w : World) (m : Msg) (ss : List ByteArray) (bl pl cbl cpl : List Part) (ds vl : List Int) : Prop where
  e1 : m.btn = ss.length
  e2 : m.hbn = bl.length
  e3 : m.hpn = pl.length
  e4 : m.cbn = cbl.length
  e5 : m.cpn = cpl.length
  e6 : m.cvn = vl.length
  e7 : m.sdn = ds.length
  txs : TextsAt w m.bta m.btc ss
  bat : ReadAt w m.hba m.hbc bl
  par : ReadAt w m.hpa m.hpc pl
  cbat : ReadAt w m.cba m.cbc cbl
  cpar : ReadAt w m.cpa m.cpc cpl
  dig : SliceAt w m.sda m.sdc ds
  digr : m.sdc ≤ 140737488351232
  vot : IntsAt w m.cva vl
  votr : vl.length * 8 ≤ 140737488355328
set_option maxRecDepth 100000 in
theorem MsgIn.below {w w' : World} {m : Msg} {ss : List ByteArray} {bl pl cbl cpl : List Part} {ds vl : List Int} (h : MsgIn w m ss bl pl cbl cpl ds vl) (hb : Below w.heap.size w w') : MsgIn w' m ss bl pl cbl cpl ds vl :=
  ⟨h.e1, h.e2, h.e3, h.e4, h.e5, h.e6, h.e7, h.txs.below hb, h.bat.below hb, h.par.below hb, h.cbat.below hb, h.cpar.below hb, h.dig.below hb, h.digr, h.vot.below hb, h.votr⟩
set_option maxRecDepth 100000 in
theorem sMsg' : (Try.prog.info? 35).map (·.size) = some 19 := by kernel_rfl
set_option maxRecDepth 100000 in
/-- A struct that is stored as a row, as the one operation that comes up. -/
theorem step_store_row {ops : Array Oper} {o : Oper} {a : Act} {w : World} {K : Act → World → Prop} {Q : Exit → Act → World → Prop} {E : Prop}
    (hg : o.guard = none) (hd : o.dst = none) (ty : TypeId) (x y : Operand) (ho : o.op = .store ty x y) (g : Nat) (cells : Array Value) (hx : a.eval x = .pointer (some ⟨g, 0, none⟩)) (hy : a.eval y = .agg cells)
    (t : TypeId) (old : Array Value) (hh : w.heap[g]? = some (.cells old t (0, 0))) (hi : (Try.prog.info? ty).map (·.size) = some cells.size) (hold : old.size = cells.size) (h1 : cells.all (·.oneCell') = true) (hK : K a (w.setRow g cells)) :
    if Region.wanted o (yielded ops a.tmps) = true then Oper.wp Try.prog o a w K Q else E := by
  rw [if_pos (by simp [Region.wanted, hg])]
  exact wp_store_row ty x y ho g cells hx hy t old hh hi hold h1 (by rw [hd]; exact hK)
set_option maxRecDepth 100000 in
theorem cell_row {w : World} {b : Nat} {cs : Array Value} {k j : Nat} (h : k ≠ b) : (w.setRow b cs).cell? ⟨k, j, none⟩ = w.cell? ⟨k, j, none⟩ := World.cell?_of_block (setRow_other w b k cs h)
set_option maxRecDepth 100000 in
theorem StrsAt.setRow {w : World} {sa : Option Addr} {ss : List ByteArray} (h : StrsAt w sa ss) (b : Nat) (cs : Array Value) (hne : ∀ sb so, sa = some ⟨sb, so, none⟩ → sb ≠ b) : StrsAt (w.setRow b cs) sa ss := by
  refine ⟨?_, h.size⟩
  rcases h.cells with h | ⟨sb, so, rfl, hc⟩
  · exact .inl h
  · exact .inr ⟨sb, so, rfl, fun k hk => (cell_row (hne sb so rfl)).trans (hc k hk)⟩
set_option maxRecDepth 100000 in
theorem slice_setRow {w : World} {sa : Option Addr} {cap : Nat} {bs : List Int} (h : SliceAt w sa cap bs) (b : Nat) (cs : Array Value) (hne : ∀ sb so, sa = some ⟨sb, so, none⟩ → sb ≠ b) : SliceAt (w.setRow b cs) sa cap bs := by
  refine ⟨h.le, h.max, h.some, h.nil, ?_⟩
  rcases h.bytes with hc | ⟨sb, so, e, hc⟩
  · exact .inl hc
  · exact .inr ⟨sb, so, e, fun k hk => (cell_row (hne sb so e)).trans (hc k hk)⟩
set_option maxRecDepth 100000 in
theorem list_setRow {w : World} {ra : Option Addr} {rc B : Nat} {qs : List Part} (h : ListAt w ra rc qs) (hf : Fresh B ra qs) (b : Nat) (cs : Array Value) (hb : b < B) : ListAt (w.setRow b cs) ra rc qs := by
  refine ⟨h.le, h.max, h.small, h.some, ⟨?_, fun p hp => ?_⟩⟩
  · rcases h.parts.cells with hc | ⟨sb, so, rfl, hc⟩
    · exact .inl hc
    · exact .inr ⟨sb, so, rfl, fun k hk => (cell_row (by have := hf.row sb so rfl; omega)).trans (hc k hk)⟩
  · exact slice_setRow (h.parts.each p hp) b cs (fun sb so e => by have := hf.each p hp sb so e; omega)
set_option maxRecDepth 100000 in
theorem ints_setRow {w : World} {va : Option Addr} {vl : List Int} (h : IntsAt w va vl) (b : Nat) (cs : Array Value) (hne : ∀ sb so, va = some ⟨sb, so, none⟩ → sb ≠ b) : IntsAt (w.setRow b cs) va vl := by
  refine ⟨?_⟩
  rcases h.cells with h | ⟨sb, so, rfl, hc⟩
  · exact .inl h
  · exact .inr ⟨sb, so, rfl, fun k hk => (cell_row (hne sb so rfl)).trans (hc k hk)⟩
set_option maxRecDepth 100000 in
theorem fresh_le {B C : Nat} {ra : Option Addr} {qs : List Part} (h : Fresh C ra qs) (hb : B ≤ C) : Fresh B ra qs := ⟨fun sb so e => Nat.le_trans hb (h.row sb so e), fun p hp sb so e => Nat.le_trans hb (h.each p hp sb so e)⟩
set_option maxRecDepth 100000 in
set_option maxHeartbeats 8000000 in
theorem messages_any (m : Msg) (ss : List ByteArray) (bl pl cbl cpl : List Part) (ds vl : List Int) (w : World) (H : MsgIn w m ss bl pl cbl cpl ds vl) :
    Calls Try.prog 8 #[.agg #[.int .i64 m.fr, .int .i64 m.tt, .int .i64 m.ki, .int .i64 m.bau, .int .i64 m.bnu, .slice m.bta m.btn m.btc, .int .i64 m.hau, .int .i64 m.hrd, .slice m.hba m.hbn m.hbc, .slice m.hpa m.hpn m.hpc, .int .i64 m.sau, .int .i64 m.srd, .slice m.sda m.sdn m.sdc, .int .i64 m.cau, .int .i64 m.crd, .slice m.cba m.cbn m.cbc, .slice m.cpa m.cpn m.cpc, .slice m.cva m.cvn m.cvc, .int .i64 m.ro]] w fun e w' => ∃ xa xc ya yc yl za zc zl ua uc va vc xl qa qc ql ra rc, e = .returned (.agg #[.int .i64 m.fr, .int .i64 m.tt, .int .i64 m.ki, .int .i64 m.bau, .int .i64 m.bnu, .slice xa ss.length xc, .int .i64 m.hau, .int .i64 m.hrd, .slice ya bl.length yc, .slice za pl.length zc, .int .i64 m.sau, .int .i64 m.srd, .slice ua ds.length uc, .int .i64 m.cau, .int .i64 m.crd, .slice va cbl.length vc, .slice qa cpl.length qc, .slice ra vl.length rc, .int .i64 m.ro]) ∧ Same yl bl ∧ Same zl pl ∧ Same xl cbl ∧ Same ql cpl ∧ StrsAt w' xa ss ∧ ListAt w' ya yc yl ∧ ListAt w' za zc zl ∧ SliceAt w' ua uc ds ∧ ListAt w' va vc xl ∧ ListAt w' qa qc ql ∧ IntsAt w' ra vl ∧ Below w.heap.size w w' := by
  have hR : Below w.heap.size w ((w.alloc (.cells #[.int .i64 m.fr, .int .i64 m.tt, .int .i64 m.ki, .int .i64 m.bau, .int .i64 m.bnu, .slice m.bta m.btn m.btc, .int .i64 m.hau, .int .i64 m.hrd, .slice m.hba m.hbn m.hbc, .slice m.hpa m.hpn m.hpc, .int .i64 m.sau, .int .i64 m.srd, .slice m.sda m.sdn m.sdc, .int .i64 m.cau, .int .i64 m.crd, .slice m.cba m.cbn m.cbc, .slice m.cpa m.cpn m.cpc, .slice m.cva m.cvn m.cvc, .int .i64 m.ro] 35)).alloc (.cells #[.int .i64 0, .int .i64 0, .int .i64 0, .int .i64 0, .int .i64 0, .slice none 0 0, .int .i64 0, .int .i64 0, .slice none 0 0, .slice none 0 0, .int .i64 0, .int .i64 0, .slice none 0 0, .int .i64 0, .int .i64 0, .slice none 0 0, .slice none 0 0, .slice none 0 0, .int .i64 0] 35)) := ((Below.refl _ _).alloc (Nat.le_refl _) _).alloc (by simp) _
  have q0 := heap_alloc2_old w (.cells #[.int .i64 m.fr, .int .i64 m.tt, .int .i64 m.ki, .int .i64 m.bau, .int .i64 m.bnu, .slice m.bta m.btn m.btc, .int .i64 m.hau, .int .i64 m.hrd, .slice m.hba m.hbn m.hbc, .slice m.hpa m.hpn m.hpc, .int .i64 m.sau, .int .i64 m.srd, .slice m.sda m.sdn m.sdc, .int .i64 m.cau, .int .i64 m.crd, .slice m.cba m.cbn m.cbc, .slice m.cpa m.cpn m.cpc, .slice m.cva m.cvn m.cvc, .int .i64 m.ro] 35) (.cells #[.int .i64 0, .int .i64 0, .int .i64 0, .int .i64 0, .int .i64 0, .slice none 0 0, .int .i64 0, .int .i64 0, .slice none 0 0, .slice none 0 0, .int .i64 0, .int .i64 0, .slice none 0 0, .int .i64 0, .int .i64 0, .slice none 0 0, .slice none 0 0, .slice none 0 0, .int .i64 0] 35)
  have q1 : ((w.alloc (.cells #[.int .i64 m.fr, .int .i64 m.tt, .int .i64 m.ki, .int .i64 m.bau, .int .i64 m.bnu, .slice m.bta m.btn m.btc, .int .i64 m.hau, .int .i64 m.hrd, .slice m.hba m.hbn m.hbc, .slice m.hpa m.hpn m.hpc, .int .i64 m.sau, .int .i64 m.srd, .slice m.sda m.sdn m.sdc, .int .i64 m.cau, .int .i64 m.crd, .slice m.cba m.cbn m.cbc, .slice m.cpa m.cpn m.cpc, .slice m.cva m.cvn m.cvc, .int .i64 m.ro] 35)).alloc (.cells #[.int .i64 0, .int .i64 0, .int .i64 0, .int .i64 0, .int .i64 0, .slice none 0 0, .int .i64 0, .int .i64 0, .slice none 0 0, .slice none 0 0, .int .i64 0, .int .i64 0, .slice none 0 0, .int .i64 0, .int .i64 0, .slice none 0 0, .slice none 0 0, .slice none 0 0, .int .i64 0] 35)).heap[w.heap.size + 1]? = some (.cells #[.int .i64 0, .int .i64 0, .int .i64 0, .int .i64 0, .int .i64 0, .slice none 0 0, .int .i64 0, .int .i64 0, .slice none 0 0, .slice none 0 0, .int .i64 0, .int .i64 0, .slice none 0 0, .int .i64 0, .int .i64 0, .slice none 0 0, .slice none 0 0, .slice none 0 0, .int .i64 0] 35 (0, 0)) := by
    have := heap_alloc_new (w.alloc (.cells #[.int .i64 m.fr, .int .i64 m.tt, .int .i64 m.ki, .int .i64 m.bau, .int .i64 m.bnu, .slice m.bta m.btn m.btc, .int .i64 m.hau, .int .i64 m.hrd, .slice m.hba m.hbn m.hbc, .slice m.hpa m.hpn m.hpc, .int .i64 m.sau, .int .i64 m.srd, .slice m.sda m.sdn m.sdc, .int .i64 m.cau, .int .i64 m.crd, .slice m.cba m.cbn m.cbc, .slice m.cpa m.cpn m.cpc, .slice m.cva m.cvn m.cvc, .int .i64 m.ro] 35)) (.cells #[.int .i64 0, .int .i64 0, .int .i64 0, .int .i64 0, .int .i64 0, .slice none 0 0, .int .i64 0, .int .i64 0, .slice none 0 0, .slice none 0 0, .int .i64 0, .int .i64 0, .slice none 0 0, .int .i64 0, .int .i64 0, .slice none 0 0, .slice none 0 0, .slice none 0 0, .int .i64 0] 35)
    rw [size_alloc] at this; exact this
  go_enter Try.func8, Try.ntmps8
  go_wp2_with fail
  generalize (w.alloc (.cells #[.int .i64 m.fr, .int .i64 m.tt, .int .i64 m.ki, .int .i64 m.bau, .int .i64 m.bnu, .slice m.bta m.btn m.btc, .int .i64 m.hau, .int .i64 m.hrd, .slice m.hba m.hbn m.hbc, .slice m.hpa m.hpn m.hpc, .int .i64 m.sau, .int .i64 m.srd, .slice m.sda m.sdn m.sdc, .int .i64 m.cau, .int .i64 m.crd, .slice m.cba m.cbn m.cbc, .slice m.cpa m.cpn m.cpc, .slice m.cva m.cvn m.cvc, .int .i64 m.ro] 35)).alloc (.cells #[.int .i64 0, .int .i64 0, .int .i64 0, .int .i64 0, .int .i64 0, .slice none 0 0, .int .i64 0, .int .i64 0, .slice none 0 0, .slice none 0 0, .int .i64 0, .int .i64 0, .slice none 0 0, .int .i64 0, .int .i64 0, .slice none 0 0, .slice none 0 0, .slice none 0 0, .int .i64 0] 35) = W0 at hR q0 q1 ⊢
  have hlt1 : w.heap.size + 1 < W0.heap.size := lt_of_heap q1
  have H1 : Hid (∀ W : World, Below W0.heap.size W0 W → Calls Try.prog 19 #[.agg #[.int .i64 m.bau, .int .i64 m.bnu, .slice m.bta m.btn m.btc]] W fun e w' => ∃ ra rc, e = .returned (.agg #[.int .i64 m.bau, .int .i64 m.bnu, .slice ra ss.length rc]) ∧ StrsAt w' ra ss ∧ Below W.heap.size W w' ∧ (∀ sb so, ra = some ⟨sb, so, none⟩ → W.heap.size ≤ sb)) := by
    show ∀ W, _
    intro W hW
    exact batch_any2 _ _ ss _ _ _ W H.e1 ((H.txs.below hR).below hW)
  have H2 : Hid (∀ W : World, Below W0.heap.size W0 W → Calls Try.prog 20 #[.agg #[.int .i64 m.hau, .int .i64 m.hrd, .slice m.hba m.hbn m.hbc, .slice m.hpa m.hpn m.hpc]] W fun e w' => ∃ xa xc xs ya yc ys, e = .returned (.agg #[.int .i64 m.hau, .int .i64 m.hrd, .slice xa bl.length xc, .slice ya pl.length yc]) ∧ Same xs bl ∧ Same ys pl ∧ ListAt w' xa xc xs ∧ ListAt w' ya yc ys ∧ Below W.heap.size W w' ∧ Fresh W.heap.size xa xs ∧ Fresh W.heap.size ya ys) := by
    show ∀ W, _
    intro W hW
    rw [H.e2, H.e3]
    exact headerCopy_any _ _ _ _ bl _ _ pl W ((H.bat.below hR).below hW) ((H.par.below hR).below hW)
  have H3 : Hid (∀ W : World, Below W0.heap.size W0 W → Calls Try.prog 21 #[.slice m.sda m.sdn m.sdc] W fun e w' => ∃ ra rc, e = .returned (.slice ra ds.length rc) ∧ SliceAt w' ra rc ds ∧ Below W.heap.size W w' ∧ (∀ sb so, ra = some ⟨sb, so, none⟩ → W.heap.size ≤ sb)) := by
    show ∀ W, _
    intro W hW
    exact octets_any2 ds _ _ _ W H.e7 ((H.dig.below hR).below hW) H.digr
  have H4 : Hid (∀ W : World, Below W0.heap.size W0 W → Calls Try.prog 22 #[.agg #[.int .i64 m.cau, .int .i64 m.crd, .slice m.cba m.cbn m.cbc, .slice m.cpa m.cpn m.cpc, .slice m.cva m.cvn m.cvc]] W fun e w' => ∃ xa xc xs ya yc ys za zc, e = .returned (.agg #[.int .i64 m.cau, .int .i64 m.crd, .slice xa cbl.length xc, .slice ya cpl.length yc, .slice za vl.length zc]) ∧ Same xs cbl ∧ Same ys cpl ∧ ListAt w' xa xc xs ∧ ListAt w' ya yc ys ∧ IntsAt w' za vl ∧ Below W.heap.size W w' ∧ Fresh W.heap.size xa xs ∧ Fresh W.heap.size ya ys ∧ (∀ sb so, za = some ⟨sb, so, none⟩ → W.heap.size ≤ sb)) := by
    show ∀ W, _
    intro W hW
    rw [H.e4, H.e5, H.e6]
    exact certCopy_any2 _ _ _ _ cbl _ _ cpl _ _ vl W ((H.cbat.below hR).below hW) ((H.cpar.below hR).below hW) ((H.vot.below hR).below hW) H.votr
  clear H
  have HLT : Hid (w.heap.size + 1 < W0.heap.size) := hlt1
  have qd : W0.drew.heap[w.heap.size]? = some (.cells #[.int .i64 m.fr, .int .i64 m.tt, .int .i64 m.ki, .int .i64 m.bau, .int .i64 m.bnu, .slice m.bta m.btn m.btc, .int .i64 m.hau, .int .i64 m.hrd, .slice m.hba m.hbn m.hbc, .slice m.hpa m.hpn m.hpc, .int .i64 m.sau, .int .i64 m.srd, .slice m.sda m.sdn m.sdc, .int .i64 m.cau, .int .i64 m.crd, .slice m.cba m.cbn m.cbc, .slice m.cpa m.cpn m.cpc, .slice m.cva m.cvn m.cvc, .int .i64 m.ro] 35 (0, 0)) := q0
  refine wp_region_held_drew (S := (fun w' => w'.cell? ⟨w.heap.size, 0, none⟩ = some (.int .i64 m.fr) ∧ w'.cell? ⟨w.heap.size, 1, none⟩ = some (.int .i64 m.tt) ∧ w'.cell? ⟨w.heap.size, 2, none⟩ = some (.int .i64 m.ki) ∧ w'.cell? ⟨w.heap.size, 3, none⟩ = some (.int .i64 m.bau) ∧ w'.cell? ⟨w.heap.size, 4, none⟩ = some (.int .i64 m.bnu) ∧ w'.cell? ⟨w.heap.size, 5, none⟩ = some (.slice m.bta m.btn m.btc) ∧ w'.cell? ⟨w.heap.size, 6, none⟩ = some (.int .i64 m.hau) ∧ w'.cell? ⟨w.heap.size, 7, none⟩ = some (.int .i64 m.hrd) ∧ w'.cell? ⟨w.heap.size, 8, none⟩ = some (.slice m.hba m.hbn m.hbc) ∧ w'.cell? ⟨w.heap.size, 9, none⟩ = some (.slice m.hpa m.hpn m.hpc) ∧ w'.cell? ⟨w.heap.size, 10, none⟩ = some (.int .i64 m.sau) ∧ w'.cell? ⟨w.heap.size, 11, none⟩ = some (.int .i64 m.srd) ∧ w'.cell? ⟨w.heap.size, 12, none⟩ = some (.slice m.sda m.sdn m.sdc) ∧ w'.cell? ⟨w.heap.size, 13, none⟩ = some (.int .i64 m.cau) ∧ w'.cell? ⟨w.heap.size, 14, none⟩ = some (.int .i64 m.crd) ∧ w'.cell? ⟨w.heap.size, 15, none⟩ = some (.slice m.cba m.cbn m.cbc) ∧ w'.cell? ⟨w.heap.size, 16, none⟩ = some (.slice m.cpa m.cpn m.cpc) ∧ w'.cell? ⟨w.heap.size, 17, none⟩ = some (.slice m.cva m.cvn m.cvc) ∧ w'.cell? ⟨w.heap.size, 18, none⟩ = some (.int .i64 m.ro))) (by kernel_rfl) ⟨cells_at qd 0 _ rfl, cells_at qd 1 _ rfl, cells_at qd 2 _ rfl, cells_at qd 3 _ rfl, cells_at qd 4 _ rfl, cells_at qd 5 _ rfl, cells_at qd 6 _ rfl, cells_at qd 7 _ rfl, cells_at qd 8 _ rfl, cells_at qd 9 _ rfl, cells_at qd 10 _ rfl, cells_at qd 11 _ rfl, cells_at qd 12 _ rfl, cells_at qd 13 _ rfl, cells_at qd 14 _ rfl, cells_at qd 15 _ rfl, cells_at qd 16 _ rfl, cells_at qd 17 _ rfl, cells_at qd 18 _ rfl⟩ (fun hHeld => ?_)
  refine take_dst (i := 0) (d := 3) (v := .pointer (some ⟨w.heap.size, 0, none⟩)) rfl rfl (by kernel_rfl) (by kernel_rfl) (by kernel_rfl) (fun _ _ _ h => h) (Or.inl ⟨by rfl, ?_⟩) hHeld ?_
  · (intro w0 hSw; (try dsimp only at hSw); go_simp)
  simp only [Act.put, List.setIfInBounds_toArray, List.set_cons_zero, List.set_cons_succ]
  refine take_dst (i := 1) (d := 4) (v := .int .i64 m.fr) rfl rfl (by kernel_rfl) (by kernel_rfl) (by kernel_rfl) (fun _ _ _ h => h) (Or.inl ⟨by rfl, ?_⟩) hHeld ?_
  · (intro w0 hSw; (try dsimp only at hSw); go_simp)
  simp only [Act.put, List.setIfInBounds_toArray, List.set_cons_zero, List.set_cons_succ]
  refine take_dst (i := 2) (d := 5) (v := .pointer (some ⟨w.heap.size, 1, none⟩)) rfl rfl (by kernel_rfl) (by kernel_rfl) (by kernel_rfl) (fun _ _ _ h => h) (Or.inl ⟨by rfl, ?_⟩) hHeld ?_
  · (intro w0 hSw; (try dsimp only at hSw); go_simp)
  simp only [Act.put, List.setIfInBounds_toArray, List.set_cons_zero, List.set_cons_succ]
  refine take_dst (i := 3) (d := 6) (v := .int .i64 m.tt) rfl rfl (by kernel_rfl) (by kernel_rfl) (by kernel_rfl) (fun _ _ _ h => h) (Or.inl ⟨by rfl, ?_⟩) hHeld ?_
  · (intro w0 hSw; (try dsimp only at hSw); go_simp)
  simp only [Act.put, List.setIfInBounds_toArray, List.set_cons_zero, List.set_cons_succ]
  refine take_dst (i := 4) (d := 7) (v := .pointer (some ⟨w.heap.size, 2, none⟩)) rfl rfl (by kernel_rfl) (by kernel_rfl) (by kernel_rfl) (fun _ _ _ h => h) (Or.inl ⟨by rfl, ?_⟩) hHeld ?_
  · (intro w0 hSw; (try dsimp only at hSw); go_simp)
  simp only [Act.put, List.setIfInBounds_toArray, List.set_cons_zero, List.set_cons_succ]
  refine take_dst (i := 5) (d := 8) (v := .int .i64 m.ki) rfl rfl (by kernel_rfl) (by kernel_rfl) (by kernel_rfl) (fun _ _ _ h => h) (Or.inl ⟨by rfl, ?_⟩) hHeld ?_
  · (intro w0 hSw; (try dsimp only at hSw); go_simp)
  simp only [Act.put, List.setIfInBounds_toArray, List.set_cons_zero, List.set_cons_succ]
  refine take_dst (i := 6) (d := 9) (v := .pointer (some ⟨w.heap.size, 3, none⟩)) rfl rfl (by kernel_rfl) (by kernel_rfl) (by kernel_rfl) (fun _ _ _ h => h) (Or.inl ⟨by rfl, ?_⟩) hHeld ?_
  · (intro w0 hSw; (try dsimp only at hSw); go_simp)
  simp only [Act.put, List.setIfInBounds_toArray, List.set_cons_zero, List.set_cons_succ]
  refine take_dst (i := 7) (d := 10) (v := .agg #[.int .i64 m.bau, .int .i64 m.bnu, .slice m.bta m.btn m.btc]) rfl rfl (by kernel_rfl) (by kernel_rfl) (by kernel_rfl) (fun _ _ _ h => h) (Or.inl ⟨by rfl, ?_⟩) hHeld ?_
  · (intro w0 hSw; (try dsimp only at hSw); go_simp)
  simp only [Act.put, List.setIfInBounds_toArray, List.set_cons_zero, List.set_cons_succ]
  refine take_dst (i := 9) (d := 12) (v := .pointer (some ⟨w.heap.size, 6, none⟩)) rfl rfl (by kernel_rfl) (by kernel_rfl) (by kernel_rfl) (fun _ _ _ h => h) (Or.inl ⟨by rfl, ?_⟩) hHeld ?_
  · (intro w0 hSw; (try dsimp only at hSw); go_simp)
  simp only [Act.put, List.setIfInBounds_toArray, List.set_cons_zero, List.set_cons_succ]
  refine take_dst (i := 10) (d := 13) (v := .agg #[.int .i64 m.hau, .int .i64 m.hrd, .slice m.hba m.hbn m.hbc, .slice m.hpa m.hpn m.hpc]) rfl rfl (by kernel_rfl) (by kernel_rfl) (by kernel_rfl) (fun _ _ _ h => h) (Or.inl ⟨by rfl, ?_⟩) hHeld ?_
  · (intro w0 hSw; (try dsimp only at hSw); go_simp)
  simp only [Act.put, List.setIfInBounds_toArray, List.set_cons_zero, List.set_cons_succ]
  refine take_dst (i := 12) (d := 15) (v := .pointer (some ⟨w.heap.size, 10, none⟩)) rfl rfl (by kernel_rfl) (by kernel_rfl) (by kernel_rfl) (fun _ _ _ h => h) (Or.inl ⟨by rfl, ?_⟩) hHeld ?_
  · (intro w0 hSw; (try dsimp only at hSw); go_simp)
  simp only [Act.put, List.setIfInBounds_toArray, List.set_cons_zero, List.set_cons_succ]
  refine take_dst (i := 13) (d := 16) (v := .pointer (some ⟨w.heap.size, 10, none⟩)) rfl rfl (by kernel_rfl) (by kernel_rfl) (by kernel_rfl) (fun _ _ _ h => h) (Or.inl ⟨by rfl, ?_⟩) hHeld ?_
  · (intro w0 hSw; (try dsimp only at hSw); go_simp)
  simp only [Act.put, List.setIfInBounds_toArray, List.set_cons_zero, List.set_cons_succ]
  refine take_dst (i := 14) (d := 17) (v := .int .i64 m.sau) rfl rfl (by kernel_rfl) (by kernel_rfl) (by kernel_rfl) (fun _ _ _ h => h) (Or.inl ⟨by rfl, ?_⟩) hHeld ?_
  · (intro w0 hSw; (try dsimp only at hSw); go_simp)
  simp only [Act.put, List.setIfInBounds_toArray, List.set_cons_zero, List.set_cons_succ]
  refine take_dst (i := 15) (d := 18) (v := .pointer (some ⟨w.heap.size, 10, none⟩)) rfl rfl (by kernel_rfl) (by kernel_rfl) (by kernel_rfl) (fun _ _ _ h => h) (Or.inl ⟨by rfl, ?_⟩) hHeld ?_
  · (intro w0 hSw; (try dsimp only at hSw); go_simp)
  simp only [Act.put, List.setIfInBounds_toArray, List.set_cons_zero, List.set_cons_succ]
  refine take_dst (i := 16) (d := 19) (v := .pointer (some ⟨w.heap.size, 11, none⟩)) rfl rfl (by kernel_rfl) (by kernel_rfl) (by kernel_rfl) (fun _ _ _ h => h) (Or.inl ⟨by rfl, ?_⟩) hHeld ?_
  · (intro w0 hSw; (try dsimp only at hSw); go_simp)
  simp only [Act.put, List.setIfInBounds_toArray, List.set_cons_zero, List.set_cons_succ]
  refine take_dst (i := 17) (d := 20) (v := .int .i64 m.srd) rfl rfl (by kernel_rfl) (by kernel_rfl) (by kernel_rfl) (fun _ _ _ h => h) (Or.inl ⟨by rfl, ?_⟩) hHeld ?_
  · (intro w0 hSw; (try dsimp only at hSw); go_simp)
  simp only [Act.put, List.setIfInBounds_toArray, List.set_cons_zero, List.set_cons_succ]
  refine take_dst (i := 18) (d := 21) (v := .pointer (some ⟨w.heap.size, 10, none⟩)) rfl rfl (by kernel_rfl) (by kernel_rfl) (by kernel_rfl) (fun _ _ _ h => h) (Or.inl ⟨by rfl, ?_⟩) hHeld ?_
  · (intro w0 hSw; (try dsimp only at hSw); go_simp)
  simp only [Act.put, List.setIfInBounds_toArray, List.set_cons_zero, List.set_cons_succ]
  refine take_dst (i := 19) (d := 22) (v := .pointer (some ⟨w.heap.size, 12, none⟩)) rfl rfl (by kernel_rfl) (by kernel_rfl) (by kernel_rfl) (fun _ _ _ h => h) (Or.inl ⟨by rfl, ?_⟩) hHeld ?_
  · (intro w0 hSw; (try dsimp only at hSw); go_simp)
  simp only [Act.put, List.setIfInBounds_toArray, List.set_cons_zero, List.set_cons_succ]
  refine take_dst (i := 20) (d := 23) (v := .slice m.sda m.sdn m.sdc) rfl rfl (by kernel_rfl) (by kernel_rfl) (by kernel_rfl) (fun _ _ _ h => h) (Or.inl ⟨by rfl, ?_⟩) hHeld ?_
  · (intro w0 hSw; (try dsimp only at hSw); go_simp)
  simp only [Act.put, List.setIfInBounds_toArray, List.set_cons_zero, List.set_cons_succ]
  refine take_dst (i := 23) (d := 26) (v := .pointer (some ⟨w.heap.size, 13, none⟩)) rfl rfl (by kernel_rfl) (by kernel_rfl) (by kernel_rfl) (fun _ _ _ h => h) (Or.inl ⟨by rfl, ?_⟩) hHeld ?_
  · (intro w0 hSw; (try dsimp only at hSw); go_simp)
  simp only [Act.put, List.setIfInBounds_toArray, List.set_cons_zero, List.set_cons_succ]
  refine take_dst (i := 24) (d := 27) (v := .agg #[.int .i64 m.cau, .int .i64 m.crd, .slice m.cba m.cbn m.cbc, .slice m.cpa m.cpn m.cpc, .slice m.cva m.cvn m.cvc]) rfl rfl (by kernel_rfl) (by kernel_rfl) (by kernel_rfl) (fun _ _ _ h => h) (Or.inl ⟨by rfl, ?_⟩) hHeld ?_
  · (intro w0 hSw; (try dsimp only at hSw); go_simp)
  simp only [Act.put, List.setIfInBounds_toArray, List.set_cons_zero, List.set_cons_succ]
  refine take_dst (i := 26) (d := 29) (v := .pointer (some ⟨w.heap.size, 18, none⟩)) rfl rfl (by kernel_rfl) (by kernel_rfl) (by kernel_rfl) (fun _ _ _ h => h) (Or.inl ⟨by rfl, ?_⟩) hHeld ?_
  · (intro w0 hSw; (try dsimp only at hSw); go_simp)
  simp only [Act.put, List.setIfInBounds_toArray, List.set_cons_zero, List.set_cons_succ]
  refine take_dst (i := 27) (d := 30) (v := .int .i64 m.ro) rfl rfl (by kernel_rfl) (by kernel_rfl) (by kernel_rfl) (fun _ _ _ h => h) (Or.inl ⟨by rfl, ?_⟩) hHeld ?_
  · (intro w0 hSw; (try dsimp only at hSw); go_simp)
  simp only [Act.put, List.setIfInBounds_toArray, List.set_cons_zero, List.set_cons_succ]
  refine wpAnyH_ready (rs := [8]) (by kernel_rfl) (by simp) (AllReadyH.cons rfl (fun K hK => ?_) AllReadyH.nil)
  refine step_calls_dst rfl 11 rfl 19 [.tmp 10] #[24] rfl [.agg #[.int .i64 m.bau, .int .i64 m.bnu, .slice m.bta m.btn m.btc]] rfl (enters_of Try.func19 (by kernel_rfl) rfl) (fun v w' => ∃ xa xc, v = .agg #[.int .i64 m.bau, .int .i64 m.bnu, .slice xa ss.length xc] ∧ StrsAt w' xa ss ∧ Below W0.heap.size W0 w' ∧ (∀ sb so, xa = some ⟨sb, so, none⟩ → W0.heap.size ≤ sb)) ((H1.out _ ((Below.refl _ _).drew)).mono (fun e w2 h => by obtain ⟨xa, xc, he, h1, h2, h3⟩ := h; exact ⟨_, he, xa, xc, rfl, h1, below_drew h2, h3⟩)) ?_
  rintro v w1 ⟨xa, xc, rfl, hs1, hb1w, hf1⟩
  have s1 := (hb1w.block _ (lt_of_heap q0)).trans q0
  refine hK.out _ _ ⟨cells_at s1 0 _ rfl, cells_at s1 1 _ rfl, cells_at s1 2 _ rfl, cells_at s1 3 _ rfl, cells_at s1 4 _ rfl, cells_at s1 5 _ rfl, cells_at s1 6 _ rfl, cells_at s1 7 _ rfl, cells_at s1 8 _ rfl, cells_at s1 9 _ rfl, cells_at s1 10 _ rfl, cells_at s1 11 _ rfl, cells_at s1 12 _ rfl, cells_at s1 13 _ rfl, cells_at s1 14 _ rfl, cells_at s1 15 _ rfl, cells_at s1 16 _ rfl, cells_at s1 17 _ rfl, cells_at s1 18 _ rfl⟩ (fun hHeld => ?_)
  simp only [Act.put, List.setIfInBounds_toArray, List.set_cons_zero, List.set_cons_succ]
  refine wpAnyH_ready (rs := [11]) (by kernel_rfl) (by simp) (AllReadyH.cons rfl (fun K hK => ?_) AllReadyH.nil)
  refine step_calls_dst rfl 14 rfl 20 [.tmp 13] #[27] rfl [.agg #[.int .i64 m.hau, .int .i64 m.hrd, .slice m.hba m.hbn m.hbc, .slice m.hpa m.hpn m.hpc]] rfl (enters_of Try.func20 (by kernel_rfl) rfl) (fun v w' => ∃ ya yc yl za zc zl, v = .agg #[.int .i64 m.hau, .int .i64 m.hrd, .slice ya bl.length yc, .slice za pl.length zc] ∧ Same yl bl ∧ Same zl pl ∧ ListAt w' ya yc yl ∧ ListAt w' za zc zl ∧ Below w1.heap.size w1 w' ∧ Fresh w1.heap.size ya yl ∧ Fresh w1.heap.size za zl) ((H2.out _ hb1w).mono (fun e w2 h => by obtain ⟨ya, yc, yl, za, zc, zl, he, h1⟩ := h; exact ⟨_, he, ya, yc, yl, za, zc, zl, rfl, h1⟩)) ?_
  rintro v w2 ⟨ya, yc, yl, za, zc, zl, rfl, hS1, hS2, hL1, hL2, hb2, hF1, hF2⟩
  have hb2w := hb1w.trans (hb2.mono hb1w.size)
  have s2 := (hb2w.block _ (lt_of_heap q0)).trans q0
  refine hK.out _ _ ⟨cells_at s2 0 _ rfl, cells_at s2 1 _ rfl, cells_at s2 2 _ rfl, cells_at s2 3 _ rfl, cells_at s2 4 _ rfl, cells_at s2 5 _ rfl, cells_at s2 6 _ rfl, cells_at s2 7 _ rfl, cells_at s2 8 _ rfl, cells_at s2 9 _ rfl, cells_at s2 10 _ rfl, cells_at s2 11 _ rfl, cells_at s2 12 _ rfl, cells_at s2 13 _ rfl, cells_at s2 14 _ rfl, cells_at s2 15 _ rfl, cells_at s2 16 _ rfl, cells_at s2 17 _ rfl, cells_at s2 18 _ rfl⟩ (fun hHeld => ?_)
  simp only [Act.put, List.setIfInBounds_toArray, List.set_cons_zero, List.set_cons_succ]
  refine wpAnyH_ready (rs := [21]) (by kernel_rfl) (by simp) (AllReadyH.cons rfl (fun K hK => ?_) AllReadyH.nil)
  refine step_calls_dst rfl 24 rfl 21 [.tmp 23] #[28] rfl [.slice m.sda m.sdn m.sdc] rfl (enters_of Try.func21 (by kernel_rfl) rfl) (fun v w' => ∃ ua uc, v = .slice ua ds.length uc ∧ SliceAt w' ua uc ds ∧ Below w2.heap.size w2 w' ∧ (∀ sb so, ua = some ⟨sb, so, none⟩ → w2.heap.size ≤ sb)) ((H3.out _ hb2w).mono (fun e w2 h => by obtain ⟨ua, uc, he, h1⟩ := h; exact ⟨_, he, ua, uc, rfl, h1⟩)) ?_
  rintro v w3 ⟨ua, uc, rfl, hs3, hb3, hf3⟩
  have hb3w := hb2w.trans (hb3.mono hb2w.size)
  have s3 := (hb3w.block _ (lt_of_heap q0)).trans q0
  refine hK.out _ _ ⟨cells_at s3 0 _ rfl, cells_at s3 1 _ rfl, cells_at s3 2 _ rfl, cells_at s3 3 _ rfl, cells_at s3 4 _ rfl, cells_at s3 5 _ rfl, cells_at s3 6 _ rfl, cells_at s3 7 _ rfl, cells_at s3 8 _ rfl, cells_at s3 9 _ rfl, cells_at s3 10 _ rfl, cells_at s3 11 _ rfl, cells_at s3 12 _ rfl, cells_at s3 13 _ rfl, cells_at s3 14 _ rfl, cells_at s3 15 _ rfl, cells_at s3 16 _ rfl, cells_at s3 17 _ rfl, cells_at s3 18 _ rfl⟩ (fun hHeld => ?_)
  simp only [Act.put, List.setIfInBounds_toArray, List.set_cons_zero, List.set_cons_succ]
  refine take_dst (i := 22) (d := 25) (v := .agg #[.int .i64 m.sau, .int .i64 m.srd, .slice ua ds.length uc]) rfl rfl (by kernel_rfl) (by kernel_rfl) (by kernel_rfl) (fun _ _ _ h => h) (Or.inl ⟨by rfl, ?_⟩) hHeld ?_
  · (intro w0 hSw; (try dsimp only at hSw); go_simp)
  simp only [Act.put, List.setIfInBounds_toArray, List.set_cons_zero, List.set_cons_succ]
  refine wpAnyH_ready (rs := [25]) (by kernel_rfl) (by simp) (AllReadyH.cons rfl (fun K hK => ?_) AllReadyH.nil)
  refine step_calls_dst rfl 28 rfl 22 [.tmp 27] #[33] rfl [.agg #[.int .i64 m.cau, .int .i64 m.crd, .slice m.cba m.cbn m.cbc, .slice m.cpa m.cpn m.cpc, .slice m.cva m.cvn m.cvc]] rfl (enters_of Try.func22 (by kernel_rfl) rfl) (fun v w' => ∃ va vc xl qa qc ql ra rc, v = .agg #[.int .i64 m.cau, .int .i64 m.crd, .slice va cbl.length vc, .slice qa cpl.length qc, .slice ra vl.length rc] ∧ Same xl cbl ∧ Same ql cpl ∧ ListAt w' va vc xl ∧ ListAt w' qa qc ql ∧ IntsAt w' ra vl ∧ Below w3.heap.size w3 w' ∧ Fresh w3.heap.size va xl ∧ Fresh w3.heap.size qa ql ∧ (∀ sb so, ra = some ⟨sb, so, none⟩ → w3.heap.size ≤ sb)) ((H4.out _ hb3w).mono (fun e w2 h => by obtain ⟨va, vc, xl, qa, qc, ql, ra, rc, he, h1⟩ := h; exact ⟨_, he, va, vc, xl, qa, qc, ql, ra, rc, rfl, h1⟩)) ?_
  rintro v w4 ⟨va, vc, xl, qa, qc, ql, ra, rc, rfl, hS3, hS4, hL3, hL4, hI4, hb4, hF3, hF4, hf4⟩
  have hb4w := hb3w.trans (hb4.mono hb3w.size)
  have s4 := (hb4w.block _ (lt_of_heap q0)).trans q0
  have t1 := (hb4w.block _ (lt_of_heap q1)).trans q1
  refine hK.out _ _ ⟨cells_at s4 0 _ rfl, cells_at s4 1 _ rfl, cells_at s4 2 _ rfl, cells_at s4 3 _ rfl, cells_at s4 4 _ rfl, cells_at s4 5 _ rfl, cells_at s4 6 _ rfl, cells_at s4 7 _ rfl, cells_at s4 8 _ rfl, cells_at s4 9 _ rfl, cells_at s4 10 _ rfl, cells_at s4 11 _ rfl, cells_at s4 12 _ rfl, cells_at s4 13 _ rfl, cells_at s4 14 _ rfl, cells_at s4 15 _ rfl, cells_at s4 16 _ rfl, cells_at s4 17 _ rfl, cells_at s4 18 _ rfl⟩ (fun hHeld => ?_)
  simp only [Act.put, List.setIfInBounds_toArray, List.set_cons_zero, List.set_cons_succ]
  refine take_dst (i := 28) (d := 31) (v := .agg #[.int .i64 m.fr, .int .i64 m.tt, .int .i64 m.ki, .int .i64 m.bau, .int .i64 m.bnu, .slice xa ss.length xc, .int .i64 m.hau, .int .i64 m.hrd, .slice ya bl.length yc, .slice za pl.length zc, .int .i64 m.sau, .int .i64 m.srd, .slice ua ds.length uc, .int .i64 m.cau, .int .i64 m.crd, .slice va cbl.length vc, .slice qa cpl.length qc, .slice ra vl.length rc, .int .i64 m.ro]) rfl rfl (by kernel_rfl) (by kernel_rfl) (by kernel_rfl) (fun _ _ _ h => h) (Or.inl ⟨by rfl, ?_⟩) hHeld ?_
  · (intro w0 hSw; (try dsimp only at hSw); go_simp)
  simp only [Act.put, List.setIfInBounds_toArray, List.set_cons_zero, List.set_cons_succ]
  refine wpAnyH_ready (rs := [29]) (by kernel_rfl) (by simp) (AllReadyH.cons rfl (fun K hK => ?_) AllReadyH.nil)
  refine step_store_row rfl rfl 35 (.tmp 2) (.tmp 31) rfl (w.heap.size + 1) #[.int .i64 m.fr, .int .i64 m.tt, .int .i64 m.ki, .int .i64 m.bau, .int .i64 m.bnu, .slice xa ss.length xc, .int .i64 m.hau, .int .i64 m.hrd, .slice ya bl.length yc, .slice za pl.length zc, .int .i64 m.sau, .int .i64 m.srd, .slice ua ds.length uc, .int .i64 m.cau, .int .i64 m.crd, .slice va cbl.length vc, .slice qa cpl.length qc, .slice ra vl.length rc, .int .i64 m.ro] rfl rfl 35 _ t1 sMsg' rfl (by simp [Value.oneCell']) ?_
  have hne : w.heap.size ≠ w.heap.size + 1 := by omega
  have s5 := (setRow_other w4 (w.heap.size + 1) w.heap.size #[.int .i64 m.fr, .int .i64 m.tt, .int .i64 m.ki, .int .i64 m.bau, .int .i64 m.bnu, .slice xa ss.length xc, .int .i64 m.hau, .int .i64 m.hrd, .slice ya bl.length yc, .slice za pl.length zc, .int .i64 m.sau, .int .i64 m.srd, .slice ua ds.length uc, .int .i64 m.cau, .int .i64 m.crd, .slice va cbl.length vc, .slice qa cpl.length qc, .slice ra vl.length rc, .int .i64 m.ro] hne).trans s4
  have t2 := setRow_heap w4 (w.heap.size + 1) _ #[.int .i64 m.fr, .int .i64 m.tt, .int .i64 m.ki, .int .i64 m.bau, .int .i64 m.bnu, .slice xa ss.length xc, .int .i64 m.hau, .int .i64 m.hrd, .slice ya bl.length yc, .slice za pl.length zc, .int .i64 m.sau, .int .i64 m.srd, .slice ua ds.length uc, .int .i64 m.cau, .int .i64 m.crd, .slice va cbl.length vc, .slice qa cpl.length qc, .slice ra vl.length rc, .int .i64 m.ro] _ _ t1
  refine hK.out _ _ ⟨cells_at s5 0 _ rfl, cells_at s5 1 _ rfl, cells_at s5 2 _ rfl, cells_at s5 3 _ rfl, cells_at s5 4 _ rfl, cells_at s5 5 _ rfl, cells_at s5 6 _ rfl, cells_at s5 7 _ rfl, cells_at s5 8 _ rfl, cells_at s5 9 _ rfl, cells_at s5 10 _ rfl, cells_at s5 11 _ rfl, cells_at s5 12 _ rfl, cells_at s5 13 _ rfl, cells_at s5 14 _ rfl, cells_at s5 15 _ rfl, cells_at s5 16 _ rfl, cells_at s5 17 _ rfl, cells_at s5 18 _ rfl⟩ (fun hHeld => ?_)
  refine wpAnyH_done (by kernel_rfl) ?_ _
  have a1 := hb1w.size
  have a2 := hb2.size
  have a3 := hb3.size
  have hlt := HLT.out
  have hs1' := (((hs1.below hb2).below hb3).below hb4).setRow (w.heap.size + 1) #[.int .i64 m.fr, .int .i64 m.tt, .int .i64 m.ki, .int .i64 m.bau, .int .i64 m.bnu, .slice xa ss.length xc, .int .i64 m.hau, .int .i64 m.hrd, .slice ya bl.length yc, .slice za pl.length zc, .int .i64 m.sau, .int .i64 m.srd, .slice ua ds.length uc, .int .i64 m.cau, .int .i64 m.crd, .slice va cbl.length vc, .slice qa cpl.length qc, .slice ra vl.length rc, .int .i64 m.ro] (fun sb so e => by have := hf1 sb so e; omega)
  have hL1' := list_setRow ((hL1.below hb3).below hb4) hF1 (w.heap.size + 1) #[.int .i64 m.fr, .int .i64 m.tt, .int .i64 m.ki, .int .i64 m.bau, .int .i64 m.bnu, .slice xa ss.length xc, .int .i64 m.hau, .int .i64 m.hrd, .slice ya bl.length yc, .slice za pl.length zc, .int .i64 m.sau, .int .i64 m.srd, .slice ua ds.length uc, .int .i64 m.cau, .int .i64 m.crd, .slice va cbl.length vc, .slice qa cpl.length qc, .slice ra vl.length rc, .int .i64 m.ro] (by omega)
  have hL2' := list_setRow ((hL2.below hb3).below hb4) hF2 (w.heap.size + 1) #[.int .i64 m.fr, .int .i64 m.tt, .int .i64 m.ki, .int .i64 m.bau, .int .i64 m.bnu, .slice xa ss.length xc, .int .i64 m.hau, .int .i64 m.hrd, .slice ya bl.length yc, .slice za pl.length zc, .int .i64 m.sau, .int .i64 m.srd, .slice ua ds.length uc, .int .i64 m.cau, .int .i64 m.crd, .slice va cbl.length vc, .slice qa cpl.length qc, .slice ra vl.length rc, .int .i64 m.ro] (by omega)
  have hs3' := slice_setRow (hs3.below hb4) (w.heap.size + 1) #[.int .i64 m.fr, .int .i64 m.tt, .int .i64 m.ki, .int .i64 m.bau, .int .i64 m.bnu, .slice xa ss.length xc, .int .i64 m.hau, .int .i64 m.hrd, .slice ya bl.length yc, .slice za pl.length zc, .int .i64 m.sau, .int .i64 m.srd, .slice ua ds.length uc, .int .i64 m.cau, .int .i64 m.crd, .slice va cbl.length vc, .slice qa cpl.length qc, .slice ra vl.length rc, .int .i64 m.ro] (fun sb so e => by have := hf3 sb so e; omega)
  have hL3' := list_setRow hL3 hF3 (w.heap.size + 1) #[.int .i64 m.fr, .int .i64 m.tt, .int .i64 m.ki, .int .i64 m.bau, .int .i64 m.bnu, .slice xa ss.length xc, .int .i64 m.hau, .int .i64 m.hrd, .slice ya bl.length yc, .slice za pl.length zc, .int .i64 m.sau, .int .i64 m.srd, .slice ua ds.length uc, .int .i64 m.cau, .int .i64 m.crd, .slice va cbl.length vc, .slice qa cpl.length qc, .slice ra vl.length rc, .int .i64 m.ro] (by omega)
  have hL4' := list_setRow hL4 hF4 (w.heap.size + 1) #[.int .i64 m.fr, .int .i64 m.tt, .int .i64 m.ki, .int .i64 m.bau, .int .i64 m.bnu, .slice xa ss.length xc, .int .i64 m.hau, .int .i64 m.hrd, .slice ya bl.length yc, .slice za pl.length zc, .int .i64 m.sau, .int .i64 m.srd, .slice ua ds.length uc, .int .i64 m.cau, .int .i64 m.crd, .slice va cbl.length vc, .slice qa cpl.length qc, .slice ra vl.length rc, .int .i64 m.ro] (by omega)
  have hI4' := ints_setRow hI4 (w.heap.size + 1) #[.int .i64 m.fr, .int .i64 m.tt, .int .i64 m.ki, .int .i64 m.bau, .int .i64 m.bnu, .slice xa ss.length xc, .int .i64 m.hau, .int .i64 m.hrd, .slice ya bl.length yc, .slice za pl.length zc, .int .i64 m.sau, .int .i64 m.srd, .slice ua ds.length uc, .int .i64 m.cau, .int .i64 m.crd, .slice va cbl.length vc, .slice qa cpl.length qc, .slice ra vl.length rc, .int .i64 m.ro] (fun sb so e => by have := hf4 sb so e; omega)
  have hB := (Upd.setRow (cs := #[.int .i64 m.fr, .int .i64 m.tt, .int .i64 m.ki, .int .i64 m.bau, .int .i64 m.bnu, .slice xa ss.length xc, .int .i64 m.hau, .int .i64 m.hrd, .slice ya bl.length yc, .slice za pl.length zc, .int .i64 m.sau, .int .i64 m.srd, .slice ua ds.length uc, .int .i64 m.cau, .int .i64 m.crd, .slice va cbl.length vc, .slice qa cpl.length qc, .slice ra vl.length rc, .int .i64 m.ro]) t1).below (hR.trans (hb4w.mono hR.size)) (Nat.le_trans hR.size hb4w.size) (by omega)
  generalize hWF : w4.setRow (w.heap.size + 1) #[.int .i64 m.fr, .int .i64 m.tt, .int .i64 m.ki, .int .i64 m.bau, .int .i64 m.bnu, .slice xa ss.length xc, .int .i64 m.hau, .int .i64 m.hrd, .slice ya bl.length yc, .slice za pl.length zc, .int .i64 m.sau, .int .i64 m.srd, .slice ua ds.length uc, .int .i64 m.cau, .int .i64 m.crd, .slice va cbl.length vc, .slice qa cpl.length qc, .slice ra vl.length rc, .int .i64 m.ro] = WF at *
  clear hWF hHeld
  go_wp2_with fail
  exact bodyPost_ret (v := .agg #[.int .i64 m.fr, .int .i64 m.tt, .int .i64 m.ki, .int .i64 m.bau, .int .i64 m.bnu, .slice xa ss.length xc, .int .i64 m.hau, .int .i64 m.hrd, .slice ya bl.length yc, .slice za pl.length zc, .int .i64 m.sau, .int .i64 m.srd, .slice ua ds.length uc, .int .i64 m.cau, .int .i64 m.crd, .slice va cbl.length vc, .slice qa cpl.length qc, .slice ra vl.length rc, .int .i64 m.ro]) (results_cell_row (fn := Try.f8) (p := 2) (ty := 35) rfl _ _ (w.heap.size + 1) 35 _ (0, 0) _ rfl t2 Try.underlying35 rfl sMsg') rfl ⟨xa, xc, ya, yc, yl, za, zc, zl, ua, uc, va, vc, xl, qa, qc, ql, ra, rc, rfl, hS1, hS2, hS3, hS4, hs1', hL1', hL2', hs3', hL3', hL4', hI4', hB⟩
end Go.Proofs.Ytchmfbhdnhaleaa

namespace Go.Proofs.Ytchmfbhdnhaleaa
open Go.ChangeShapes Go.WideShapes Go.ChangeAt Go.RowKit Go.Deep

set_option maxRecDepth 100000 in
theorem cMsg : Try.prog.cellsOf 35 = 19 := by kernel_rfl
set_option maxRecDepth 100000 in
theorem cSlotM : Try.prog.cellsOf 30 = 3 := by kernel_rfl
set_option maxRecDepth 100000 in
theorem cBatchM : Try.prog.cellsOf 24 = 3 := by kernel_rfl
set_option maxRecDepth 100000 in
theorem cCertM : Try.prog.cellsOf 33 = 5 := by kernel_rfl
set_option maxRecDepth 100000 in
theorem cHeadM : Try.prog.cellsOf 27 = 4 := by kernel_rfl
set_option maxRecDepth 100000 in
theorem cIntM : Try.prog.cellsOf 3 = 1 := by kernel_rfl
set_option maxRecDepth 100000 in
theorem open_cert_cells {H : Type} {enc : TypeId × Value → H} {W : World} {fuel : Nat} {cs : List Value} {x : DataW H × List MemPlace}
    (hf : DataW.trod enc Try.prog W 0 (fun _ => true) true fuel 33 cs = some x) (hfit : ∀ n ∈ x.1.weights Try.prog 33, n ≤ reachBytes) :
    ∃ au rd ba bc bl pa pc pl va vc vl, cs = [.int .i64 au, .int .i64 rd, .slice ba (List.length bl) bc, .slice pa (List.length pl) pc, .slice va (List.length vl) vc] ∧ ReadAt W ba bc bl ∧ ReadAt W pa pc pl ∧ NumsAt W va vc vl := by
  obtain ⟨y0, y1, n, rfl, hl, h0, h1⟩ := trod_struct2 Try.underlying33 hf
  rw [cCert] at hl
  match cs, hl with
  | [c0, c1, c2, c3, c4], _ =>
  obtain ⟨au, rd, ba, bc, bl, pa, pc, pl, e0, _, _, hb, hp⟩ := open_header_cells h0 (fun n hn => hfit n (by simp [DataW.weights, DataW.weightsEach, Try.underlying33, hn]))
  obtain ⟨va, vc, vl, e1, hn⟩ := open_nums_cells h1 (fun n hn => hfit n (by simp [DataW.weights, DataW.weightsEach, Try.underlying33, hn]))
  simp [cHeaderC, cIntsC] at e0 e1
  obtain ⟨rfl, rfl, rfl, rfl⟩ := e0
  subst e1
  exact ⟨au, rd, ba, bc, bl, pa, pc, pl, va, vc, vl, rfl, hb, hp, hn⟩
set_option maxRecDepth 100000 in
theorem open_message {H : Type} {enc : TypeId × Value → H} {W : World} {base : Nat} {v : Value} {d : DataW H} {p : List MemPlace}
    (hv : Value.okWide Try.prog W .any base 35 v) (h : DataW.Trod enc Try.prog W 0 (fun _ => true) true 35 v d p) (hfit : ∀ n ∈ d.weights Try.prog 35, n ≤ reachBytes) :
    ∃ m ss bl pl cbl cpl ds vl, v = .agg #[.int .i64 m.fr, .int .i64 m.tt, .int .i64 m.ki, .int .i64 m.bau, .int .i64 m.bnu, .slice m.bta m.btn m.btc, .int .i64 m.hau, .int .i64 m.hrd, .slice m.hba m.hbn m.hbc, .slice m.hpa m.hpn m.hpc, .int .i64 m.sau, .int .i64 m.srd, .slice m.sda m.sdn m.sdc, .int .i64 m.cau, .int .i64 m.crd, .slice m.cba m.cbn m.cbc, .slice m.cpa m.cpn m.cpc, .slice m.cva m.cvn m.cvc, .int .i64 m.ro] ∧ MsgIn W m ss bl pl cbl cpl ds vl := by
  obtain ⟨cs, rfl, _⟩ := okWide_struct Try.underlying35 hv
  obtain ⟨fuel, hf⟩ := h
  obtain ⟨xs, n, _, hx, hl, hlen, hg⟩ := DataW.trod_struct Try.underlying35 hf
  rw [cMsg] at hl
  match xs, hlen with
  | [y0, y1, y2, y3, y4, y5, y6, y7], _ =>
  have h0 := hg 0 _ rfl
  have h1 := hg 1 _ rfl
  have h2 := hg 2 _ rfl
  have h3 := hg 3 _ rfl
  have h4 := hg 4 _ rfl
  have h5 := hg 5 _ rfl
  have h6 := hg 6 _ rfl
  have h7 := hg 7 _ rfl
  simp only [Prod.mk.injEq] at hx
  obtain ⟨rfl, rfl⟩ := hx
  obtain ⟨l⟩ := cs
  match l, hl with
  | [c0, c1, c2, c3, c4, c5, c6, c7, c8, c9, c10, c11, c12, c13, c14, c15, c16, c17, c18], _ =>
  obtain ⟨a0, e0, rfl, _⟩ := DataW.trod_int Try.underlying3 h0
  obtain ⟨a1, e1, rfl, _⟩ := DataW.trod_int Try.underlying3 h1
  obtain ⟨a2, e2, rfl, _⟩ := DataW.trod_int Try.underlying3 h2
  obtain ⟨bau, bnu, ta, tc, ss, e3, _, _, ht⟩ := open_batch_cells h3 (fun n hn => hfit n (by simp [DataW.weights, DataW.weightsEach, Try.underlying35, hn]))
  obtain ⟨hau, hrd, ba, bc, bl, pa, pc, pl, e4, _, _, hb, hp⟩ := open_header_cells h4 (fun n hn => hfit n (by simp [DataW.weights, DataW.weightsEach, Try.underlying35, hn]))
  obtain ⟨sau, srd, sa, sc, ds, e5, _, _, hs, _, hsc⟩ := open_slot_cells h5 (fun n hn => hfit n (by simp [DataW.weights, DataW.weightsEach, Try.underlying35, hn]))
  obtain ⟨cau, crd, cba, cbc, cbl, cpa, cpc, cpl, va, vc, vl, e6, hcb, hcp, hn⟩ := open_cert_cells h6 (fun n hn => hfit n (by simp [DataW.weights, DataW.weightsEach, Try.underlying35, hn]))
  obtain ⟨a7, e7, rfl, _⟩ := DataW.trod_int Try.underlying3 h7
  simp [cIntM, cBatchM, cHeadM, cSlotM, cCertM, Value.cells] at e0 e1 e2 e3 e4 e5 e6 e7
  obtain ⟨rfl, rfl, rfl⟩ := e3
  obtain ⟨rfl, rfl, rfl, rfl⟩ := e4
  obtain ⟨rfl, rfl, rfl⟩ := e5
  obtain ⟨rfl, rfl, rfl, rfl, rfl⟩ := e6
  subst e0 e1 e2 e7
  exact ⟨⟨a0, a1, a2, bau, bnu, hau, hrd, sau, srd, cau, crd, a7, ta, ba, pa, sa, cba, cpa, va, ss.length, tc, bl.length, bc, pl.length, pc, ds.length, sc, cbl.length, cbc, cpl.length, cpc, vl.length, vc⟩, ss, bl, pl, cbl, cpl, ds, vl, rfl, ⟨rfl, rfl, rfl, rfl, rfl, rfl, rfl, ht, hb, hp, hcb, hcp, hs, hsc, hn.ints, by have h1 := hn.le; have h2 := hn.reach; omega⟩⟩
end Go.Proofs.Ytchmfbhdnhaleaa

namespace Go.Proofs.Ytchmfbhdnhaleaa
open Go.RowKit

set_option maxRecDepth 100000 in
theorem headerF_sameM {au rd : Int} {xl bl yl pl : List Part} (h1 : Same xl bl) (h2 : Same yl pl) : headerF au rd xl yl = headerF au rd bl pl := by
  rw [headerF, headerF, digF_same h1, digF_same h2, h1.length, h2.length]
set_option maxRecDepth 100000 in
theorem certF_sameM {au rd : Int} {xl bl yl pl : List Part} {vl : List Int} (h1 : Same xl bl) (h2 : Same yl pl) : certF au rd xl yl vl = certF au rd bl pl vl := by
  rw [certF, certF, headerF_sameM h1 h2]
/-- The same message elsewhere in memory. -/
def moved (m : Msg) (xa ya za ua va qa ra : Option Addr) (xc yc zc uc vc qc rc : Nat) : Msg := { m with bta := xa, btc := xc, hba := ya, hbc := yc, hpa := za, hpc := zc, sda := ua, sdc := uc, cba := va, cbc := vc, cpa := qa, cpc := qc, cva := ra, cvc := rc }
set_option maxRecDepth 100000 in
theorem moved_check (m : Msg) (xa ya za ua va qa ra : Option Addr) (xc yc zc uc vc qc rc : Nat) (e : Int) : checkF (moved m xa ya za ua va qa ra xc yc zc uc vc qc rc) e = checkF m e := by
  have h : msgEmpty (strip (moved m xa ya za ua va qa ra xc yc zc uc vc qc rc)) = msgEmpty (strip m) := by
    by_cases k1 : m.ki = 1
    · simp [strip, moved, msgEmpty, k1]
    by_cases k2 : m.ki = 2
    · simp [strip, moved, msgEmpty, k2]
    by_cases k3 : m.ki = 3
    · simp [strip, moved, msgEmpty, k3]
    by_cases k4 : m.ki = 4
    · simp [strip, moved, msgEmpty, k4]
    · simp [strip, moved, msgEmpty, k1, k2, k3, k4]
  rw [checkF, checkF, h]
  rfl
set_option maxRecDepth 100000 in
theorem moved_carried (m : Msg) (xa ya za ua va qa ra : Option Addr) (xc yc zc uc vc qc rc : Nat) (ss : List ByteArray) (yl zl xl ql bl pl cbl cpl : List Part) (vl : List Int) (h1 : Same yl bl) (h2 : Same zl pl) (h3 : Same xl cbl) (h4 : Same ql cpl) :
    carriedF (moved m xa ya za ua va qa ra xc yc zc uc vc qc rc) ss yl zl xl ql vl = carriedF m ss bl pl cbl cpl vl := by
  rw [carriedF, carriedF, headerF_sameM h1 h2, certF_sameM h3 h4]
  rfl
set_option maxRecDepth 100000 in
theorem MsgIn.toAt {w : World} {m : Msg} {ss : List ByteArray} {bl pl cbl cpl : List Part} {ds vl : List Int} (h : MsgIn w m ss bl pl cbl cpl ds vl) : MsgAt w m ss bl pl cbl cpl vl :=
  ⟨h.e1, h.e2, h.e3, h.e4, h.e5, h.e6, by have := h.txs.le; have := h.txs.reach; omega, by have := h.votr; omega, by have := h.e7; have := h.dig.le; have := h.digr; omega, h.txs.strs, h.bat.list, h.par.list, h.cbat.list, h.cpar.list, h.vot⟩
end Go.Proofs.Ytchmfbhdnhaleaa
