/- Slices of numbers. -/
import Derived.Test.YtnpjhpmgelaonaaDoorPK
namespace Go.Proofs.YtnpjhpmgelaonaaDoor
open Go.RowKit

/-- A slice of numbers that is read. -/
structure IntsAt (w : World) (va : Option Addr) (vl : List Int) : Prop where
  cells : vl = [] ∨ ∃ sb so, va = some ⟨sb, so, none⟩ ∧ ∀ j, j < vl.length → w.cell? ⟨sb, so + j, none⟩ = some (.int .i64 (vl.getD j 0))
set_option maxRecDepth 100000 in
theorem IntsAt.below {w w' : World} {va : Option Addr} {vl : List Int} (h : IntsAt w va vl) (hb : Below w.heap.size w w') : IntsAt w' va vl := by
  refine ⟨?_⟩
  rcases h.cells with h | ⟨sb, so, rfl, hc⟩
  · exact .inl h
  · exact .inr ⟨sb, so, rfl, fun j hj => (hb.cell (p := ⟨sb, so + j, none⟩) (block_lt_of_cell (hc j hj))).trans (hc j hj)⟩
end Go.Proofs.YtnpjhpmgelaonaaDoor
