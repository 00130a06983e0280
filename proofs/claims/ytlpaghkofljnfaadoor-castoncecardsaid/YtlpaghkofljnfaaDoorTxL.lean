/- Bytes as a text has them. -/
import Derived.Test.YtlpaghkofljnfaaDoorApp
namespace Go.Proofs.YtlpaghkofljnfaaDoor

/-- The bytes as a text has them. -/
def txL (bs : List Int) : List UInt8 := (bstr bs).toList
end Go.Proofs.YtlpaghkofljnfaaDoor
