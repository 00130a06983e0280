/- What the reading of an argument that is a slice of bytes gives the walks. -/
import Derived.Test.YtnpjhpmgelaonaaDoorGTagged
import Derived.Test.YtnpjhpmgelaonaaDoorGSteps
import Derived.Test.YtnpjhpmgelaonaaDoorQTab
import Derived.ProofKit
import Derived.OpenShut
namespace Go.Proofs.YtnpjhpmgelaonaaDoor
open Go.ChangeShapes Go.WideShapes Go.ChangeAt Go.RowKit

/-- What the initialisers of the three tables lay, in the first blocks. -/
def layBlock (c : Array Value) : Obj → Obj
  | .cells _ t frozen => .cells c t frozen
  | o => o
def layTabs (w : World) : World :=
  { w with heap := ((w.heap.modify 0 (layBlock (ua fw))).modify 1 (layBlock (ub (ordF.map Int.ofNat)).toArray)).modify 2 (layBlock (ub (laneF.map Int.ofNat)).toArray) }
end Go.Proofs.YtnpjhpmgelaonaaDoor
