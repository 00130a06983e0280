/- P2.3: what is told of a header. -/
import Derived.Test.YtplmploigfhkkaaDigs
namespace Go.Proofs.Ytplmploigfhkkaa
open Go.RowKit

/-- A slice of slices that is read. -/
structure ListAt (w : World) (sa : Option Addr) (cap : Nat) (ps : List Part) : Prop where
  le : ps.length ≤ cap
  max : cap ≤ 9223372036854775807
  small : ps.length ≤ 9000000000000000000
  some : cap = 0 ∨ ∃ sb so, sa = some ⟨sb, so, none⟩
  parts : PartsAt w sa ps
theorem ListAt.below {w w' : World} {sa : Option Addr} {cap : Nat} {ps : List Part} (h : ListAt w sa cap ps) (hb : Below w.heap.size w w') : ListAt w' sa cap ps := ⟨h.le, h.max, h.small, h.some, h.parts.below hb⟩
def parentsF (rd : Int) (n : Nat) : Int := if (rd = 1 ∧ 0 < n) ∨ (1 < rd ∧ n < 3) then 10 else 0
def headerF (au rd : Int) (bl pl : List Part) : Int := if ¬ (0 ≤ au ∧ au < 4) ∨ ¬ (1 ≤ rd ∧ rd ≤ 1048576) then 2 else if 3 < bl.length ∨ 4 < pl.length then 1 else if digF bl ≠ 0 then digF bl else if digF pl ≠ 0 then digF pl else parentsF rd pl.length
end Go.Proofs.Ytplmploigfhkkaa
