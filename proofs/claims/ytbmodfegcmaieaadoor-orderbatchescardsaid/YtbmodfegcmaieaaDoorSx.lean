/- The cells of a block that was just laid, behind a call that keeps what lay there. -/
import Derived.Test.YtbmodfegcmaieaaDoorPK
import Derived.Laws.Rows
import Derived.Laws.Tables
namespace Go.Proofs.YtbmodfegcmaieaaDoor
open Go.RowKit

set_option maxRecDepth 100000 in
theorem laid_cell (w : World) (cs : Array Value) (t : TypeId) (j : Nat) (v : Value) (h : cs[j]? = some v) : (w.alloc (.cells cs t)).cell? ⟨w.heap.size, j, none⟩ = some v := by
  rw [World.cell?_alloc_at _ _ _ _ rfl]
  exact h
set_option maxRecDepth 100000 in
theorem kept_cell {w w1 : World} {cs : Array Value} {t : TypeId} (hb : Below (w.alloc (.cells cs t)).heap.size (w.alloc (.cells cs t)) w1) (j : Nat) (v : Value) (h : cs[j]? = some v) : w1.cell? ⟨w.heap.size, j, none⟩ = some v :=
  (hb.cell (p := ⟨w.heap.size, j, none⟩) (by simp)).trans (laid_cell w cs t j v h)
set_option maxRecDepth 100000 in
/-- What was there ahead of a block stays. -/
theorem below_alloc {w w1 : World} {o : Obj} (hb : Below (w.alloc o).heap.size (w.alloc o) w1) : Below w.heap.size w w1 :=
  ((Below.refl _ _).alloc (Nat.le_refl _) _).trans (hb.mono (by simp))
set_option maxRecDepth 100000 in
theorem below_drew {B : Nat} {w w1 : World} (k : Below B w.drew w1) : Below B w w1 := ⟨k.os, k.tape, k.output, k.size, k.block⟩
set_option maxRecDepth 100000 in
theorem row_new {w w1 : World} {cs : Array Value} {t : TypeId} (hb : Below (w.alloc (.cells cs t)).heap.size (w.alloc (.cells cs t)) w1) : w1.heap[w.heap.size]? = some (.cells cs t (0, 0)) :=
  (hb.block _ (by simp)).trans (heap_alloc_new w _)
set_option maxRecDepth 100000 in
theorem row_old {w w1 : World} {o x : Obj} {k : Nat} (h : w.heap[k]? = some x) (hb : Below (w.alloc o).heap.size (w.alloc o) w1) : w1.heap[k]? = some x :=
  ((below_alloc hb).block k (lt_of_heap h)).trans h
set_option maxRecDepth 100000 in
theorem size_alloc (w : World) (o : Obj) : (w.alloc o).heap.size = w.heap.size + 1 := by simp
set_option maxRecDepth 100000 in
theorem cells_at {w : World} {b : Nat} {cs : Array Value} {t : TypeId} (h : w.heap[b]? = some (.cells cs t (0, 0))) (j : Nat) (v : Value) (hv : cs[j]? = some v) : w.cell? ⟨b, j, none⟩ = some v := by
  rw [cell_of_row w b j _ _ _ h]; exact hv
set_option maxRecDepth 100000 in
theorem frozen_at {w : World} {b : Nat} {cs : Array Value} {t : TypeId} (h : w.heap[b]? = some (.cells cs t (0, 0))) (j : Nat) : w.frozen? ⟨b, j, none⟩ = false := frozen_of_row w b j _ _ h
set_option maxRecDepth 100000 in
theorem laid_row (w : World) (Z C : Array Value) (t : TypeId) : Below w.heap.size w ((w.alloc (.cells Z t)).setRow w.heap.size C) :=
  (Upd.setRow (heap_alloc_new w (.cells Z t))).below ((Below.refl _ _).alloc (Nat.le_refl _) _) (by simp) (Nat.le_refl _)
set_option maxRecDepth 100000 in
theorem heap_keep {w : World} {o x : Obj} {k : Nat} (h : w.heap[k]? = some x) : (w.alloc o).heap[k]? = some x := by rw [Below.heap_alloc _ _ _ (lt_of_heap h)]; exact h
set_option maxRecDepth 100000 in
theorem heap_far {w : World} {x : Obj} {k b j : Nat} {v : Value} (h : w.heap[k]? = some x) (hne : k ≠ b) : (w.setCell ⟨b, j, none⟩ v).heap[k]? = some x := (heap_setCell_other w ⟨b, j, none⟩ k v hne).trans h
end Go.Proofs.YtbmodfegcmaieaaDoor
