/- A certificate of raw numbers that lies in a variable. -/
import Derived.Test.YtcecjdoabnhcgaaRawH
import Derived.Test.YtcecjdoabnhcgaaVoters
import Derived.Test.YtcecjdoabnhcgaaAwayL
namespace Go.Proofs.Ytcecjdoabnhcgaa
open Go.RowKit

set_option maxRecDepth 100000 in
theorem owns_away {w : World} {base n : Nat} {e : TypeId} {s : Nat} {v : Value} {xs : List Value} (h : w.ownsRow base e s v n xs) (b j : Nat) (x : Value) (hb : v.ownBlock ≠ some b) : (w.setCell ⟨b, j, none⟩ x).ownsRow base e s v n xs := by
  obtain ⟨h1, h2⟩ := h
  refine ⟨h1, ?_⟩
  rcases h2 with h2 | ⟨g, cap, cur, rfl, hg, hc, r⟩
  · exact .inl h2
  · exact .inr ⟨g, cap, cur, rfl, hg, (heap_setCell_other w ⟨b, j, none⟩ g x (fun e => hb (by rw [Value.ownBlock]; simpa using e))).trans hc, r⟩
structure CertC (w wx : World) (b : Nat) (ra rb rc : Int) (ba : Option Addr) (bc : Nat) (bl : List Part) (pa : Option Addr) (pc : Nat) (pl : List Part) (va : Option Addr) (vc : Nat) : Prop where
  low : w.heap.size < b
  box : wx.heap[b]? = some (.cells #[.int .i64 (pk ra 4), .int .i64 (1 + pk rb 9), .slice ba bl.length bc, .slice pa pl.length pc, .slice va (votersL rc).length vc] 33 (0, 0))
  bat : ListAt wx ba bc bl
  par : ListAt wx pa pc pl
  offb : Off wx (.slice va (votersL rc).length vc) ba bl
  offp : Off wx (.slice va (votersL rc).length vc) pa pl
  awb : Away b ba bl
  awp : Away b pa pl
  ebs : bl.map (·.bs) = hBats rc
  eps : pl.map (·.bs) = hPars ra rb rc
  own : wx.ownsRow (w.heap.size + 1) 3 1 (.slice va (votersL rc).length vc) (votersL rc).length (iv (votersL rc))
  vne : ∀ sb so, va = some ⟨sb, so, none⟩ → sb ≠ b
  below : Below w.heap.size w wx
set_option maxRecDepth 100000 in
theorem CertC.mk' {w w1 w2 wx : World} {b : Nat} {ra rb rc : Int} {ba : Option Addr} {bc : Nat} {bl : List Part} {pa : Option Addr} {pc : Nat} {pl : List Part} {va : Option Addr} {vc : Nat} (hlow : w.heap.size < b)
    (hbox : wx.heap[b]? = some (.cells #[.int .i64 (pk ra 4), .int .i64 (1 + pk rb 9), .slice ba bl.length bc, .slice pa pl.length pc, .slice va (votersL rc).length vc] 33 (0, 0)))
    (h1 : ListAt wx ba bc bl) (h2 : ListAt wx pa pc pl) (o1 : Off w1 (.slice none 0 0) ba bl) (o2 : Off w1 (.slice none 0 0) pa pl) (a1 : Away b ba bl) (a2 : Away b pa pl) (e1 : bl.map (·.bs) = hBats rc) (e2 : pl.map (·.bs) = hPars ra rb rc)
    (hw1 : w.heap.size + 1 ≤ w1.heap.size) (ho : w2.ownsRow w1.heap.size 3 1 (.slice va (votersL rc).length vc) (votersL rc).length (iv (votersL rc))) (hx : wx.ownsRow w1.heap.size 3 1 (.slice va (votersL rc).length vc) (votersL rc).length (iv (votersL rc))) (h12 : w1.heap.size ≤ w2.heap.size) (h2x : w2.heap.size ≤ wx.heap.size) (hvb : ∀ sb so, va = some ⟨sb, so, none⟩ → sb ≠ b) (hB : Below w.heap.size w wx) : CertC w wx b ra rb rc ba bc bl pa pc pl va vc := by
  have up : ∀ sb, sb < w1.heap.size → sb < wx.heap.size ∧ (Value.slice va (votersL rc).length vc).ownBlock ≠ some sb := fun sb h => ⟨by omega, fun e => by have := (ho.lt sb e).1; omega⟩
  exact ⟨hlow, hbox, h1, h2, ⟨fun sb so e => up sb (o1.row sb so e).1, fun p hp sb so e => up sb (o1.each p hp sb so e).1⟩, ⟨fun sb so e => up sb (o2.row sb so e).1, fun p hp sb so e => up sb (o2.each p hp sb so e).1⟩, a1, a2, e1, e2, ownsRow_base' hx hw1, hvb, hB⟩
set_option maxRecDepth 100000 in
theorem certC_last {w w1 w2 : World} {ra rb rc : Int} {ba : Option Addr} {bc : Nat} {bl : List Part} {pa : Option Addr} {pc : Nat} {pl : List Part} {va : Option Addr} {vc : Nat} (hw : Below w.heap.size w w1) (hN : w.heap.size + 1 ≤ w1.heap.size) (hL1 : ListAt w1 ba bc bl) (hL2 : ListAt w1 pa pc pl) (o1 : Off w1 (.slice none 0 0) ba bl) (o2 : Off w1 (.slice none 0 0) pa pl) (e1 : bl.map (·.bs) = hBats rc) (e2 : pl.map (·.bs) = hPars ra rb rc) (hb2 : Below w1.heap.size w1 w2) (ho : w2.ownsRow w1.heap.size 3 1 (.slice va (votersL rc).length vc) (votersL rc).length (iv (votersL rc))) :
    CertC w (w2.alloc (.cells #[.int .i64 (pk ra 4), .int .i64 (1 + pk rb 9), .slice ba bl.length bc, .slice pa pl.length pc, .slice va (votersL rc).length vc] 33)) w2.heap.size ra rb rc ba bc bl pa pc pl va vc := by
  have hA : Below w2.heap.size w2 (w2.alloc (.cells #[.int .i64 (pk ra 4), .int .i64 (1 + pk rb 9), .slice ba bl.length bc, .slice pa pl.length pc, .slice va (votersL rc).length vc] 33)) := (Below.refl _ _).alloc (Nat.le_refl _) _
  have h2 := hb2.size
  exact CertC.mk' (w1 := w1) (w2 := w2) (by omega) (heap_alloc_new _ _) ((hL1.below hb2).below hA) ((hL2.below hb2).below hA) o1 o2 ⟨fun sb so e => by have := (o1.row sb so e).1; omega, fun p hp sb so e => by have := (o1.each p hp sb so e).1; omega⟩ ⟨fun sb so e => by have := (o2.row sb so e).1; omega, fun p hp sb so e => by have := (o2.each p hp sb so e).1; omega⟩ e1 e2 hN ho (World.ownsRow.alloc ho _) h2 hA.size (fun sb so e => by subst e; have := (ho.lt sb rfl).2; omega) ((hw.trans (hb2.mono hw.size)).alloc (Nat.le_trans hw.size h2) _)
set_option maxRecDepth 100000 in
theorem certC_mid {w w1 w2 : World} {ra rb rc : Int} {ba : Option Addr} {bc : Nat} {bl : List Part} {pa : Option Addr} {pc : Nat} {pl : List Part} {va : Option Addr} {vc : Nat} (hw : Below w.heap.size w w1) (hN : w.heap.size + 1 ≤ w1.heap.size) (hL1 : ListAt w1 ba bc bl) (hL2 : ListAt w1 pa pc pl) (o1 : Off w1 (.slice none 0 0) ba bl) (o2 : Off w1 (.slice none 0 0) pa pl) (e1 : bl.map (·.bs) = hBats rc) (e2 : pl.map (·.bs) = hPars ra rb rc) (hb2 : Below (w1.alloc (.cells #[.int .i64 0, .int .i64 0, .slice none 0 0, .slice none 0 0, .slice none 0 0] 33)).heap.size (w1.alloc (.cells #[.int .i64 0, .int .i64 0, .slice none 0 0, .slice none 0 0, .slice none 0 0] 33)) w2) (ho : w2.ownsRow (w1.alloc (.cells #[.int .i64 0, .int .i64 0, .slice none 0 0, .slice none 0 0, .slice none 0 0] 33)).heap.size 3 1 (.slice va (votersL rc).length vc) (votersL rc).length (iv (votersL rc))) :
    CertC w (((((w2.setCell ⟨w1.heap.size, 0, none⟩ (.int .i64 (pk ra 4))).setCell ⟨w1.heap.size, 1, none⟩ (.int .i64 (1 + pk rb 9))).setCell ⟨w1.heap.size, 2, none⟩ (.slice ba bl.length bc)).setCell ⟨w1.heap.size, 3, none⟩ (.slice pa pl.length pc)).setCell ⟨w1.heap.size, 4, none⟩ (.slice va (votersL rc).length vc)) w1.heap.size ra rb rc ba bc bl pa pc pl va vc := by
  have r2 := row_new hb2
  have hA : Below w1.heap.size w1 w2 := below_alloc hb2
  have h2 := hA.size
  rw [size_alloc] at ho
  have a1 : Away w1.heap.size ba bl := ⟨fun sb so e => by have := (o1.row sb so e).1; omega, fun p hp sb so e => by have := (o1.each p hp sb so e).1; omega⟩
  have a2 : Away w1.heap.size pa pl := ⟨fun sb so e => by have := (o2.row sb so e).1; omega, fun p hp sb so e => by have := (o2.each p hp sb so e).1; omega⟩
  have hvne : (Value.slice va (votersL rc).length vc).ownBlock ≠ some w1.heap.size := fun e => by have := (ho.lt _ e).1; omega
  have hoo := ownsRow_base' ho (Nat.le_succ _)
  have hB := hw.trans (hA.mono hw.size)
  refine CertC.mk' (w1 := w1) (w2 := w2) (by omega) (by simpa using heap_setCell_same _ _ 4 _ _ _ (heap_setCell_same _ _ 3 _ _ _ (heap_setCell_same _ _ 2 _ _ _ (heap_setCell_same _ _ 1 _ _ _ (heap_setCell_same _ _ 0 _ _ _ r2))))) ?_ ?_ o1 o2 a1 a2 e1 e2 hN hoo ?_ h2 (by simp) (fun sb so e => by subst e; have := (ho.lt sb rfl).1; omega) ?_
  · exact ((((((hL1.below hA).away a1 _ _).away a1 _ _).away a1 _ _).away a1 _ _).away a1 _ _)
  · exact ((((((hL2.below hA).away a2 _ _).away a2 _ _).away a2 _ _).away a2 _ _).away a2 _ _)
  · exact owns_away (owns_away (owns_away (owns_away (owns_away hoo _ _ _ hvne) _ _ _ hvne) _ _ _ hvne) _ _ _ hvne) _ _ _ hvne
  · exact ((((hB.setCell hw.size _).setCell hw.size _).setCell hw.size _).setCell hw.size _).setCell hw.size _
set_option maxRecDepth 100000 in
theorem certC_first {w w1 w2 : World} {ra rb rc : Int} {ba : Option Addr} {bc : Nat} {bl : List Part} {pa : Option Addr} {pc : Nat} {pl : List Part} {va : Option Addr} {vc : Nat} (hw : Below w.heap.size w w1) (hN : w.heap.size + 2 ≤ w1.heap.size) (hL1 : ListAt w1 ba bc bl) (hL2 : ListAt w1 pa pc pl) (o1 : Off w1 (.slice none 0 0) ba bl) (o2 : Off w1 (.slice none 0 0) pa pl) (e1 : bl.map (·.bs) = hBats rc) (e2 : pl.map (·.bs) = hPars ra rb rc) (f1 : Fresh (w.heap.size + 2) ba bl) (f2 : Fresh (w.heap.size + 2) pa pl) (hb2 : Below w1.heap.size w1 w2) (ho : w2.ownsRow w1.heap.size 3 1 (.slice va (votersL rc).length vc) (votersL rc).length (iv (votersL rc))) (r2 : w2.heap[w.heap.size + 1]? = some (.cells #[.int .i64 0, .int .i64 0, .slice none 0 0, .slice none 0 0, .slice none 0 0] 33 (0, 0))) :
    CertC w (((((w2.setCell ⟨w.heap.size + 1, 0, none⟩ (.int .i64 (pk ra 4))).setCell ⟨w.heap.size + 1, 1, none⟩ (.int .i64 (1 + pk rb 9))).setCell ⟨w.heap.size + 1, 2, none⟩ (.slice ba bl.length bc)).setCell ⟨w.heap.size + 1, 3, none⟩ (.slice pa pl.length pc)).setCell ⟨w.heap.size + 1, 4, none⟩ (.slice va (votersL rc).length vc)) (w.heap.size + 1) ra rb rc ba bc bl pa pc pl va vc := by
  have h2 := hb2.size
  have a1 : Away (w.heap.size + 1) ba bl := ⟨fun sb so e => by have := f1.row sb so e; omega, fun p hp sb so e => by have := f1.each p hp sb so e; omega⟩
  have a2 : Away (w.heap.size + 1) pa pl := ⟨fun sb so e => by have := f2.row sb so e; omega, fun p hp sb so e => by have := f2.each p hp sb so e; omega⟩
  have hvne : (Value.slice va (votersL rc).length vc).ownBlock ≠ some (w.heap.size + 1) := fun e => by have := (ho.lt _ e).1; omega
  have hB := hw.trans (hb2.mono hw.size)
  have hs : w.heap.size ≤ w.heap.size + 1 := Nat.le_succ _
  refine CertC.mk' (w1 := w1) (w2 := w2) (by omega) (by simpa using heap_setCell_same _ _ 4 _ _ _ (heap_setCell_same _ _ 3 _ _ _ (heap_setCell_same _ _ 2 _ _ _ (heap_setCell_same _ _ 1 _ _ _ (heap_setCell_same _ _ 0 _ _ _ r2))))) ?_ ?_ o1 o2 a1 a2 e1 e2 (by omega) ho ?_ h2 (by simp) (fun sb so e => by subst e; have := (ho.lt sb rfl).1; omega) ?_
  · exact ((((((hL1.below hb2).away a1 _ _).away a1 _ _).away a1 _ _).away a1 _ _).away a1 _ _)
  · exact ((((((hL2.below hb2).away a2 _ _).away a2 _ _).away a2 _ _).away a2 _ _).away a2 _ _)
  · exact owns_away (owns_away (owns_away (owns_away (owns_away ho _ _ _ hvne) _ _ _ hvne) _ _ _ hvne) _ _ _ hvne) _ _ _ hvne
  · exact ((((hB.setCell hs _).setCell hs _).setCell hs _).setCell hs _).setCell hs _
end Go.Proofs.Ytcecjdoabnhcgaa
