/- Bytes as a text has them. -/
import Derived.Test.YtlbnjcgdgkgfjaaDoorApp
namespace Go.Proofs.YtlbnjcgdgkgfjaaDoor

/-- The bytes as a text has them. -/
def txL (bs : List Int) : List UInt8 := (bstr bs).toList
end Go.Proofs.YtlbnjcgdgkgfjaaDoor
