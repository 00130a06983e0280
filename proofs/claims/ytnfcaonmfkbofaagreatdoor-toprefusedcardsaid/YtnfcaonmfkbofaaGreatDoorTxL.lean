/- Bytes as a text has them. -/
import Derived.Test.YtnfcaonmfkbofaaGreatDoorApp
namespace Go.Proofs.YtnfcaonmfkbofaaGreatDoor

/-- The bytes as a text has them. -/
def txL (bs : List Int) : List UInt8 := (bstr bs).toList
end Go.Proofs.YtnfcaonmfkbofaaGreatDoor
