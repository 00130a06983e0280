/- Bytes as a text has them. -/
import Derived.Test.YtbmodfegcmaieaaDoorApp
namespace Go.Proofs.YtbmodfegcmaieaaDoor

/-- The bytes as a text has them. -/
def txL (bs : List Int) : List UInt8 := (bstr bs).toList
end Go.Proofs.YtbmodfegcmaieaaDoor
