/- What P2.2 says of a batch; lists of which all are so. -/
import Derived.Test.YtbmodfegcmaieaaDoorStrsAt
namespace Go.Proofs.YtbmodfegcmaieaaDoor
open Go.RowKit

set_option maxRecDepth 100000 in
theorem all_false {α : Type} (l : List α) (p : α → Bool) (d : α) (k : Nat) (hk : k < l.length) (h : p (l.getD k d) = false) : l.all p = false := by
  rw [List.all_eq_false]
  refine ⟨l[k], List.getElem_mem hk, ?_⟩
  rw [List.getD, List.getElem?_eq_getElem hk] at h
  simpa using h
set_option maxRecDepth 100000 in
theorem all_true {α : Type} (l : List α) (p : α → Bool) (d : α) (h : ∀ j, j < l.length → p (l.getD j d) = true) : l.all p = true := by
  rw [List.all_eq_true]
  intro x hx
  obtain ⟨j, hj, rfl⟩ := List.getElem_of_mem hx
  have := h j hj
  rwa [List.getD, List.getElem?_eq_getElem hj] at this
/-- A transaction that may be. -/
def txOk (s : ByteArray) : Bool := decide (1 ≤ s.size ∧ s.size ≤ 20)
/-- P2.2 -/
def batchF (au nu : Int) (ss : List ByteArray) : Int := if ¬ (0 ≤ au ∧ au < 4) ∨ ¬ (1 ≤ nu ∧ nu ≤ 1048576) then 2 else if ss.length < 1 ∨ 4 < ss.length then 1 else if ss.all txOk then 0 else 1
end Go.Proofs.YtbmodfegcmaieaaDoor
