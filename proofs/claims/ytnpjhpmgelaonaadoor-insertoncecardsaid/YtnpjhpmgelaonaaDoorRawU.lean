/- Rows that a call owns: their shape; what stays. -/
import Derived.Test.YtnpjhpmgelaonaaDoorSx
import Derived.Deep.RegionHeld
namespace Go.Proofs.YtnpjhpmgelaonaaDoor
open Go.RowKit

set_option maxRecDepth 100000 in
theorem owns_shape {w : World} {base n : Nat} {e : TypeId} {s : Nat} {v : Value} {xs : List Value} (h : w.ownsRow base e s v n xs) : ∃ za zc, v = .slice za n zc := by
  rcases h.2 with ⟨rfl, hn⟩ | ⟨g, cap, cur, rfl, _⟩
  · subst hn; exact ⟨none, 0, rfl⟩
  · exact ⟨some ⟨g, 0, none⟩, cap, rfl⟩
set_option maxRecDepth 100000 in
/-- A row stays where a block below its base is rewritten. -/
theorem owns_far {w : World} {base n : Nat} {e : TypeId} {s : Nat} {v : Value} {xs : List Value} (h : w.ownsRow base e s v n xs) (b j : Nat) (x : Value) (hb : b < base) : (w.setCell ⟨b, j, none⟩ x).ownsRow base e s v n xs := by
  obtain ⟨h1, h2⟩ := h
  refine ⟨h1, ?_⟩
  rcases h2 with h2 | ⟨g, cap, cur, rfl, hg, hc, r⟩
  · exact .inl h2
  · exact .inr ⟨g, cap, cur, rfl, hg, (heap_setCell_other w ⟨b, j, none⟩ g x (by show g ≠ b; omega)).trans hc, r⟩
end Go.Proofs.YtnpjhpmgelaonaaDoor
