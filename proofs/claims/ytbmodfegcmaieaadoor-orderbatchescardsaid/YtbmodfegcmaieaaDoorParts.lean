/- Slices of slices of bytes that are read. -/
import Derived.Test.YtbmodfegcmaieaaDoorApp
namespace Go.Proofs.YtbmodfegcmaieaaDoor
open Go.RowKit

/-- A part: a slice of bytes. -/
structure Part where
  sa : Option Addr
  cap : Nat
  bs : List Int
def Part.val (p : Part) : Value := .slice p.sa p.bs.length p.cap
/-- The parts of a slice of slices. -/
structure PartsAt (w : World) (sa : Option Addr) (ps : List Part) : Prop where
  cells : ps = [] ∨ ∃ sb so, sa = some ⟨sb, so, none⟩ ∧ ∀ j (h : j < ps.length), w.cell? ⟨sb, so + j, none⟩ = some (.slice (ps[j]).sa (ps[j]).bs.length (ps[j]).cap)
  each : ∀ p ∈ ps, SliceAt w p.sa p.cap p.bs
set_option maxRecDepth 100000 in
theorem PartsAt.below {w w' : World} {sa : Option Addr} {ps : List Part} (h : PartsAt w sa ps) (hb : Below w.heap.size w w') : PartsAt w' sa ps := by
  refine ⟨?_, fun p hp => (h.each p hp).below hb⟩
  rcases h.cells with h | ⟨sb, so, rfl, hc⟩
  · exact .inl h
  · exact .inr ⟨sb, so, rfl, fun j hj => (hb.cell (p := ⟨sb, so + j, none⟩) (block_lt_of_cell (hc j hj))).trans (hc j hj)⟩
end Go.Proofs.YtbmodfegcmaieaaDoor
