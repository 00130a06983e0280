/- Small rounds as three bytes. -/
import Derived.Test.YtcecjdoabnhcgaaAppR
namespace Go.Proofs.Ytcecjdoabnhcgaa
open Go.RowKit

set_option maxRecDepth 100000 in
theorem rd3_small (n : Int) (h : 0 ≤ n ∧ n < 256) : rd3 n = [0, 0, n] := by
  have e1 : n / 65536 = 0 := by omega
  have e2 : n / 256 % 256 = 0 := by omega
  have e3 : n % 256 = n := by omega
  rw [rd3, e1, e2, e3]
end Go.Proofs.Ytcecjdoabnhcgaa
