/- The voters of raw numbers. -/
import Derived.Test.YtnpjhpmgelaonabDoorQVoters
namespace Go.Proofs.YtnpjhpmgelaonabDoor
open Go.RowKit

set_option maxRecDepth 100000 in
theorem votersL_form (rc : Int) : ∃ x0 x1 x2 xs, votersL rc = x0 :: x1 :: x2 :: xs ∧ 0 ≤ x0 ∧ x0 < x1 ∧ x1 < 4 ∧ votersF (votersL rc) = 0 ∧ x0 < 4 ∧ (votersL rc).length ≤ 4 := by
  obtain ⟨p0, p1⟩ := pk_bounds rc 5 (by decide)
  unfold votersL
  generalize pk rc 5 = k at *
  have h : k = 0 ∨ k = 1 ∨ k = 2 ∨ k = 3 ∨ k = 4 := by omega
  rcases h with rfl | rfl | rfl | rfl | rfl
  · exact ⟨1, 2, 3, [], by decide, by decide, by decide, by decide, by decide, by decide, by decide⟩
  · exact ⟨0, 2, 3, [], by decide, by decide, by decide, by decide, by decide, by decide, by decide⟩
  · exact ⟨0, 1, 3, [], by decide, by decide, by decide, by decide, by decide, by decide, by decide⟩
  · exact ⟨0, 1, 2, [], by decide, by decide, by decide, by decide, by decide, by decide, by decide⟩
  · exact ⟨0, 1, 2, [3], by decide, by decide, by decide, by decide, by decide, by decide, by decide⟩
set_option maxRecDepth 100000 in
theorem votersL_four (rc : Int) : ∀ x ∈ votersL rc, 0 ≤ x ∧ x < 4 := by
  obtain ⟨p0, p1⟩ := pk_bounds rc 5 (by decide)
  unfold votersL
  generalize pk rc 5 = k at *
  have h : k = 0 ∨ k = 1 ∨ k = 2 ∨ k = 3 ∨ k = 4 := by omega
  rcases h with rfl | rfl | rfl | rfl | rfl <;> decide
end Go.Proofs.YtnpjhpmgelaonabDoor
