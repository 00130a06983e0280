/- The first place that has something. -/
import Derived.Test.YtnpjhpmgelaonaaDoorBase
namespace Go.Proofs.YtnpjhpmgelaonaaDoor
open Go.RowKit

/-- The first place of the first k that has it; -1: none has. -/
def fidx (p : Nat → Bool) : Nat → Int
  | 0 => -1
  | k + 1 => if 0 ≤ fidx p k then fidx p k else if p k = true then (k : Int) else -1
set_option maxRecDepth 100000 in
theorem fidx_ge (p : Nat → Bool) (k : Nat) : -1 ≤ fidx p k ∧ fidx p k < k := by
  induction k with
  | zero => exact ⟨by simp [fidx], by simp [fidx]⟩
  | succ k ih =>
    rw [fidx]
    split
    · omega
    · split <;> omega
set_option maxRecDepth 100000 in
theorem fidx_stay (p : Nat → Bool) (m k : Nat) (h : 0 ≤ fidx p m) (hk : m ≤ k) : fidx p k = fidx p m := by
  induction k with
  | zero =>
    obtain rfl : m = 0 := by omega
    rfl
  | succ k ih =>
    rcases Nat.lt_or_ge m (k + 1) with g | g
    · rw [fidx, ih (by omega), if_pos h]
    · obtain rfl : m = k + 1 := by omega
      rfl
set_option maxRecDepth 100000 in
theorem fidx_hit (p : Nat → Bool) (m k : Nat) (h : fidx p m = -1) (hp : p m = true) (hk : m < k) : fidx p k = m := by
  have e : fidx p (m + 1) = m := by rw [fidx, h]; simp [hp]
  rw [fidx_stay p (m + 1) k (by rw [e]; omega) hk, e]
set_option maxRecDepth 100000 in
theorem fidx_step (p : Nat → Bool) (m : Nat) (h : fidx p m = -1) (hp : p m = false) : fidx p (m + 1) = -1 := by rw [fidx, h]; simp [hp]
set_option maxRecDepth 100000 in
theorem fidx_congr (p q : Nat → Bool) (k : Nat) (h : ∀ j, j < k → p j = q j) : fidx p k = fidx q k := by
  induction k with
  | zero => rfl
  | succ k ih => rw [fidx, fidx, ih (fun j hj => h j (by omega)), h k (by omega)]
set_option maxRecDepth 100000 in
theorem fidx_yes (p : Nat → Bool) (k : Nat) (h : 0 ≤ fidx p k) : p (fidx p k).toNat = true := by
  induction k with
  | zero => simp [fidx] at h
  | succ k ih =>
    rw [fidx] at h ⊢
    split
    · rename_i g
      exact ih g
    · rename_i g
      rw [if_neg g] at h
      split
      · rename_i g2
        simpa using g2
      · rename_i g2
        rw [if_neg g2] at h
        omega
set_option maxRecDepth 100000 in
theorem fidx_no (p : Nat → Bool) (k : Nat) (h : fidx p k < 0) (j : Nat) (hj : j < k) : p j = false := by
  induction k with
  | zero => omega
  | succ k ih =>
    rw [fidx] at h
    split at h
    · omega
    · rename_i g
      split at h
      · omega
      · rename_i g2
        rcases Nat.lt_or_ge j k with q | q
        · exact ih (by omega) q
        · obtain rfl : j = k := by omega
          simpa using g2
set_option maxRecDepth 100000 in
theorem fidx_none (p : Nat → Bool) (k : Nat) (h : ∀ j, j < k → p j = false) : fidx p k = -1 := by
  induction k with
  | zero => rfl
  | succ k ih => exact fidx_step p k (ih (fun j hj => h j (by omega))) (h k (by omega))
set_option maxRecDepth 100000 in
theorem fidx_neg (p : Nat → Bool) (k : Nat) (h : fidx p k < 0) : fidx p k = -1 := by
  have := fidx_ge p k
  omega
end Go.Proofs.YtnpjhpmgelaonaaDoor
