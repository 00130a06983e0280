/- P3.2 and P3.3. -/
import Derived.Test.YtmpflkggbekpfaaDoorSignsL
namespace Go.Proofs.YtmpflkggbekpfaaDoor
open Go.RowKit

def setF (l : List GV) (bad : Int) : Int := if signsF l ≠ 0 then 12 else if ¬ (-1 ≤ bad ∧ bad ≤ 3) then 2 else 0
/-- P3.3 -/
def signedF (l : List GV) (bad : Int) (g : GV) : Bool × Int := if setF l bad ≠ 0 then (false, setF l bad) else if gF g ≠ 0 then (false, gF g) else (decide (g.1 = bad) || decide (g ∈ l), 0)
/-- P3.2 -/
def addF (l : List GV) (g : GV) : List GV × Int := if signsF l ≠ 0 then ([], 12) else if gF g ≠ 0 then ([], gF g) else if g ∈ l then (l, 0) else (l ++ [g], 0)
set_option maxRecDepth 100000 in
theorem setF_bad {l : List GV} {bad : Int} (h : signsF l = 12) : setF l bad = 12 := by simp [setF, h]
set_option maxRecDepth 100000 in
theorem setF_range {l : List GV} {bad : Int} (h : signsF l = 0) (hb : ¬ (-1 ≤ bad ∧ bad ≤ 3)) : setF l bad = 2 := by rw [setF, if_neg (by simpa using h), if_pos hb]
set_option maxRecDepth 100000 in
theorem setF_ok {l : List GV} {bad : Int} (h : signsF l = 0) (hb : -1 ≤ bad ∧ bad ≤ 3) : setF l bad = 0 := by rw [setF, if_neg (by simpa using h), if_neg (by simpa using hb)]
set_option maxRecDepth 100000 in
theorem signedF_set {l : List GV} {bad : Int} {g : GV} (h : setF l bad ≠ 0) : signedF l bad g = (false, setF l bad) := by rw [signedF, if_pos h]
set_option maxRecDepth 100000 in
theorem signedF_form {l : List GV} {bad : Int} {g : GV} (h : setF l bad = 0) (hg : gF g ≠ 0) : signedF l bad g = (false, gF g) := by rw [signedF, if_neg (by simpa using h), if_pos hg]
set_option maxRecDepth 100000 in
theorem signedF_ok {l : List GV} {bad : Int} {g : GV} (h : setF l bad = 0) (hg : gF g = 0) : signedF l bad g = (decide (g.1 = bad) || decide (g ∈ l), 0) := by rw [signedF, if_neg (by simpa using h), if_neg (by simpa using hg)]
set_option maxRecDepth 100000 in
theorem addF_set {l : List GV} {g : GV} (h : signsF l = 12) : addF l g = ([], 12) := by rw [addF, if_pos (by rw [h]; decide)]
set_option maxRecDepth 100000 in
theorem addF_form {l : List GV} {g : GV} (h : signsF l = 0) (hg : gF g ≠ 0) : addF l g = ([], gF g) := by rw [addF, if_neg (by simpa using h), if_pos hg]
set_option maxRecDepth 100000 in
theorem addF_old {l : List GV} {g : GV} (h : signsF l = 0) (hg : gF g = 0) (hm : g ∈ l) : addF l g = (l, 0) := by rw [addF, if_neg (by simpa using h), if_neg (by simpa using hg), if_pos hm]
set_option maxRecDepth 100000 in
theorem addF_new {l : List GV} {g : GV} (h : signsF l = 0) (hg : gF g = 0) (hm : ¬ g ∈ l) : addF l g = (l ++ [g], 0) := by rw [addF, if_neg (by simpa using h), if_neg (by simpa using hg), if_neg hm]
set_option maxRecDepth 100000 in
theorem signsF_snoc {l : List GV} {g : GV} (h : signsF l = 0) (hg : gF g = 0) (hm : ¬ g ∈ l) : signsF (l ++ [g]) = 0 := by
  obtain ⟨h1, h2⟩ := signsF_zero h
  refine signsF_ok ⟨?_, ?_⟩
  · intro x hx
    rcases List.mem_append.1 hx with hx | hx
    · exact h1 x hx
    · rw [List.mem_singleton] at hx; subst hx; exact hg
  · rw [List.nodup_append]
    refine ⟨h2, by simp, ?_⟩
    intro a ha b hb e
    rw [List.mem_singleton] at hb
    subst hb e
    exact hm ha
end Go.Proofs.YtmpflkggbekpfaaDoor
