/- Lists of lists of bytes that are read. -/
import Derived.Test.YtbmodfegcmaieaaDoorParts
namespace Go.Proofs.YtbmodfegcmaieaaDoor
open Go.RowKit

/-- A slice of slices that is read. -/
structure ListAt (w : World) (sa : Option Addr) (cap : Nat) (ps : List Part) : Prop where
  le : ps.length ≤ cap
  max : cap ≤ 9223372036854775807
  small : ps.length ≤ 9000000000000000000
  some : cap = 0 ∨ ∃ sb so, sa = some ⟨sb, so, none⟩
  parts : PartsAt w sa ps
set_option maxRecDepth 100000 in
theorem ListAt.below {w w' : World} {sa : Option Addr} {cap : Nat} {ps : List Part} (h : ListAt w sa cap ps) (hb : Below w.heap.size w w') : ListAt w' sa cap ps := ⟨h.le, h.max, h.small, h.some, h.parts.below hb⟩
/-- What is read of a list of lists that came in. -/
structure ReadAt (w : World) (sa : Option Addr) (cap : Nat) (ps : List Part) : Prop where
  list : ListAt w sa cap ps
  reach : ps.length * 24 ≤ 140737488355328
  each : ∀ p ∈ ps, p.bs.length ≤ 140737488355328
set_option maxRecDepth 100000 in
theorem ReadAt.below {w w' : World} {sa : Option Addr} {cap : Nat} {ps : List Part} (h : ReadAt w sa cap ps) (hb : Below w.heap.size w w') : ReadAt w' sa cap ps := ⟨h.list.below hb, h.reach, h.each⟩
end Go.Proofs.YtbmodfegcmaieaaDoor
