/- P2.3: what is told of a header. -/
import Derived.Test.YtbmodfegcmaieaaDoorDigs
import Derived.Test.YtbmodfegcmaieaaDoorLAt
namespace Go.Proofs.YtbmodfegcmaieaaDoor
open Go.RowKit

def parentsF (rd : Int) (n : Nat) : Int := if (rd = 1 ∧ 0 < n) ∨ (1 < rd ∧ n < 3) then 10 else 0
def headerF (au rd : Int) (bl pl : List Part) : Int := if ¬ (0 ≤ au ∧ au < 4) ∨ ¬ (1 ≤ rd ∧ rd ≤ 1048576) then 2 else if 3 < bl.length ∨ 4 < pl.length then 1 else if digF bl ≠ 0 then digF bl else if digF pl ≠ 0 then digF pl else parentsF rd pl.length
end Go.Proofs.YtbmodfegcmaieaaDoor
