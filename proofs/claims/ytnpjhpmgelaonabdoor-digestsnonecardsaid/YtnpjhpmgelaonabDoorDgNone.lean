/- Digests of a round that nobody has certified. -/
import Derived.Test.YtnpjhpmgelaonabDoorGKGrown
namespace Go.Proofs.YtnpjhpmgelaonabDoor
open Go.RowKit

set_option maxRecDepth 100000 in
theorem dgF_none {l : List CV} {r : Int} (h : ∀ x ∈ l, x.rd ≠ r) : dgF l r = [] := by
  apply List.eq_nil_of_length_eq_zero
  rcases Nat.eq_zero_or_pos (dgF l r).length with g | g
  · exact g
  · obtain ⟨j, hj, e⟩ := dgTo_some l r 4 g
    exact absurd e (h _ (cvAt_mem hj))
set_option maxRecDepth 100000 in
theorem digests_none (ks : List Ct) (ka : Option Addr) (kc : Nat) (r : Int) (w : World) (hd : DagAt w ka kc ks) (hF : dagF (cvs ks) = 0) (h : ∀ x ∈ cvs ks, x.rd ≠ r) (hT : Tabs w) :
    Calls Tryd.prog 8 #[.agg #[.slice ka ks.length kc], .int .i64 r] w fun e w' => (∃ ma mc, e = .returned (.tuple #[.slice ma 0 mc, .int .i64 0])) ∧ Below w.heap.size w w' := by
  refine (dagDigests_own ks ka _ kc r w rfl hd hT).mono ?_
  intro e w' hO
  refine ⟨?_, hO.below⟩
  rcases hO.out with ⟨hz, _⟩ | ⟨_, ma, mc, ms, he, hms, _, _⟩
  · rw [hF] at hz; cases hz
  · rw [dgF_none h] at hms
    have : ms = [] := by cases ms with | nil => rfl | cons _ _ => cases hms
    subst this
    exact ⟨ma, mc, he⟩
end Go.Proofs.YtnpjhpmgelaonabDoor
