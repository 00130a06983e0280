/- Bytes as a text has them. -/
import Derived.Test.YtnpjhpmgelaonaaDoorApp
namespace Go.Proofs.YtnpjhpmgelaonaaDoor

/-- The bytes as a text has them. -/
def txL (bs : List Int) : List UInt8 := (bstr bs).toList
end Go.Proofs.YtnpjhpmgelaonaaDoor
