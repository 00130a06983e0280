/- A struct that is stored as a row; what lies elsewhere stays. -/
import Derived.Test.YthlknldicpeobaaSx
import Derived.Test.YthlknldicpeobaaStrsAt
import Derived.Test.YthlknldicpeobaaCalls
import Derived.Deep.RegionHeld3
import Derived.Laws.Rows
import Derived.Laws.Tables
namespace Go.Proofs.Ythlknldicpeobaa
open Go.RowKit

set_option maxRecDepth 100000 in
theorem sMsg' : (Try.prog.info? 35).map (·.size) = some 19 := by kernel_rfl
set_option maxRecDepth 100000 in
/-- A struct that is stored as a row, as the one operation that comes up. -/
theorem step_store_row {ops : Array Oper} {o : Oper} {a : Act} {w : World} {K : Act → World → Prop} {Q : Exit → Act → World → Prop} {E : Prop}
    (hg : o.guard = none) (hd : o.dst = none) (ty : TypeId) (x y : Operand) (ho : o.op = .store ty x y) (g : Nat) (cells : Array Value) (hx : a.eval x = .pointer (some ⟨g, 0, none⟩)) (hy : a.eval y = .agg cells)
    (t : TypeId) (old : Array Value) (hh : w.heap[g]? = some (.cells old t (0, 0))) (hi : (Try.prog.info? ty).map (·.size) = some cells.size) (hold : old.size = cells.size) (h1 : cells.all (·.oneCell') = true) (hK : K a (w.setRow g cells)) :
    if Region.wanted o (yielded ops a.tmps) = true then Oper.wp Try.prog o a w K Q else E := by
  rw [if_pos (by simp [Region.wanted, hg])]
  exact wp_store_row ty x y ho g cells hx hy t old hh hi hold h1 (by rw [hd]; exact hK)
set_option maxRecDepth 100000 in
theorem cell_row {w : World} {b : Nat} {cs : Array Value} {k j : Nat} (h : k ≠ b) : (w.setRow b cs).cell? ⟨k, j, none⟩ = w.cell? ⟨k, j, none⟩ := World.cell?_of_block (setRow_other w b k cs h)
set_option maxRecDepth 100000 in
theorem StrsAt.setRow {w : World} {sa : Option Addr} {ss : List ByteArray} (h : StrsAt w sa ss) (b : Nat) (cs : Array Value) (hne : ∀ sb so, sa = some ⟨sb, so, none⟩ → sb ≠ b) : StrsAt (w.setRow b cs) sa ss := by
  refine ⟨?_, h.size⟩
  rcases h.cells with h | ⟨sb, so, rfl, hc⟩
  · exact .inl h
  · exact .inr ⟨sb, so, rfl, fun k hk => (cell_row (hne sb so rfl)).trans (hc k hk)⟩
set_option maxRecDepth 100000 in
theorem slice_setRow {w : World} {sa : Option Addr} {cap : Nat} {bs : List Int} (h : SliceAt w sa cap bs) (b : Nat) (cs : Array Value) (hne : ∀ sb so, sa = some ⟨sb, so, none⟩ → sb ≠ b) : SliceAt (w.setRow b cs) sa cap bs := by
  refine ⟨h.le, h.max, h.some, h.nil, ?_⟩
  rcases h.bytes with hc | ⟨sb, so, e, hc⟩
  · exact .inl hc
  · exact .inr ⟨sb, so, e, fun k hk => (cell_row (hne sb so e)).trans (hc k hk)⟩
end Go.Proofs.Ythlknldicpeobaa
