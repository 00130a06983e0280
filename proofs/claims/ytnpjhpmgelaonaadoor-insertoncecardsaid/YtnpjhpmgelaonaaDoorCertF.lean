/- P2.4: what is told of a certificate. -/
import Derived.Test.YtnpjhpmgelaonaaDoorHeadF
import Derived.Test.YtnpjhpmgelaonaaDoorIntsL
namespace Go.Proofs.YtnpjhpmgelaonaaDoor
open Go.RowKit

def vAt (vl : List Int) (k : Nat) : Int := if ¬ (0 ≤ vl.getD k 0 ∧ vl.getD k 0 < 4) then 2 else if 0 < k ∧ vl.getD k 0 ≤ vl.getD (k - 1) 0 then 9 else 0
def vTo (vl : List Int) : Nat → Int
  | 0 => 0
  | k + 1 => if vTo vl k ≠ 0 then vTo vl k else vAt vl k
set_option maxRecDepth 100000 in
theorem vTo_stays (vl : List Int) (k m : Nat) (h : vTo vl k ≠ 0) (hm : k ≤ m) : vTo vl m = vTo vl k := by
  induction m with
  | zero => obtain rfl : k = 0 := by omega
            rfl
  | succ m ih =>
    rcases Nat.lt_or_ge k (m + 1) with g | g
    · rw [vTo, ih (by omega), if_pos h]
    · obtain rfl : k = m + 1 := by omega
      rfl
set_option maxRecDepth 100000 in
theorem vTo_at (vl : List Int) (k : Nat) (hk : k < vl.length) (h0 : vTo vl k = 0) (h : vAt vl k ≠ 0) : vTo vl vl.length = vAt vl k := by
  have e : vTo vl (k + 1) = vAt vl k := by rw [vTo, h0]; simp
  rw [vTo_stays vl (k + 1) vl.length (by rw [e]; exact h) hk, e]
def votersF (vl : List Int) : Int := if vTo vl vl.length ≠ 0 then vTo vl vl.length else if vl.length < 3 then 10 else 0
def certF (au rd : Int) (bl pl : List Part) (vl : List Int) : Int := if headerF au rd bl pl ≠ 0 then headerF au rd bl pl else if 4 < vl.length then 1 else votersF vl
end Go.Proofs.YtnpjhpmgelaonaaDoor
