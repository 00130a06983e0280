/- Bytes as a text has them. -/
import Derived.Test.YtdjaafnghlcjbaaApp
namespace Go.Proofs.Ytdjaafnghlcjbaa

/-- The bytes as a text has them. -/
def txL (bs : List Int) : List UInt8 := (bstr bs).toList
end Go.Proofs.Ytdjaafnghlcjbaa
