/- How long a header's bytes are. -/
import Derived.Test.YthijfhbmkpfnkaaAppH
namespace Go.Proofs.Ythijfhbmkpfnkaa
open Go.RowKit

set_option maxRecDepth 100000 in
theorem headB_le (au rd : Int) (bl pl : List Part) (hbl : bl.length ≤ 4) (hpl : pl.length ≤ 4) (hb32 : ∀ p ∈ bl, p.bs.length = 32) (hp32 : ∀ p ∈ pl, p.bs.length = 32) : (headB au rd bl pl).length ≤ 300 := by
  have h1 := flatB_length bl hb32
  have h2 := flatB_length pl hp32
  simp [headB, rd3, digsB]; omega
end Go.Proofs.Ythijfhbmkpfnkaa
