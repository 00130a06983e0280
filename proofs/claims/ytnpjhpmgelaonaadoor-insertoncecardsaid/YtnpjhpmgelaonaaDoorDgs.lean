/- P5.5 and P5.6: the digests of a round, the round that comes next. -/
import Derived.Test.YtnpjhpmgelaonaaDoorCerts
namespace Go.Proofs.YtnpjhpmgelaonaaDoor
open Go.RowKit

/-- The digests of a round, of the first authors. -/
def dgTo (l : List CV) (rd : Int) : Nat → List (List Int)
  | 0 => []
  | n + 1 => if 0 ≤ cOf l n rd then dgTo l rd n ++ [(cvAt l (cOf l n rd).toNat).d] else dgTo l rd n
/-- P5.6 -/
def dgF (l : List CV) (rd : Int) : List (List Int) := dgTo l rd 4
set_option maxRecDepth 100000 in
theorem dgTo_length (l : List CV) (rd : Int) (n : Nat) : (dgTo l rd n).length ≤ n := by
  induction n with
  | zero => simp [dgTo]
  | succ n ih =>
    rw [dgTo]
    split
    · simp; omega
    · omega
set_option maxRecDepth 100000 in
theorem dgTo_some (l : List CV) (rd : Int) (n : Nat) (h : 0 < (dgTo l rd n).length) : ∃ j, j < l.length ∧ (cvAt l j).rd = rd := by
  induction n with
  | zero => simp [dgTo] at h
  | succ n ih =>
    by_cases g : 0 ≤ cOf l n rd
    · have hy := fidx_yes (cHit l n rd) l.length g
      have hb := cOf_bounds l n rd
      refine ⟨(cOf l n rd).toNat, by omega, ?_⟩
      simp only [cHit, decide_eq_true_eq] at hy
      exact hy.2
    · rw [dgTo, if_neg g] at h
      exact ih h
/-- How many are of that round or behind it. -/
def cnt (l : List CV) (r : Int) : Nat := (l.filter fun c => decide (r ≤ c.rd)).length
set_option maxRecDepth 100000 in
theorem cnt_le (l : List CV) (r : Int) : cnt l (r + 1) ≤ cnt l r := by
  induction l with
  | nil => simp [cnt]
  | cons c l ih =>
    simp only [cnt, List.filter_cons] at ih ⊢
    by_cases h1 : r + 1 ≤ c.rd
    · have h2 : r ≤ c.rd := by omega
      simp [h1, h2]; exact ih
    · by_cases h2 : r ≤ c.rd
      · simp [h1, h2]; omega
      · simp [h1, h2]; exact ih
set_option maxRecDepth 100000 in
theorem cnt_lt (l : List CV) (r : Int) (h : ∃ j, j < l.length ∧ (cvAt l j).rd = r) : cnt l (r + 1) < cnt l r := by
  induction l with
  | nil => obtain ⟨j, hj, _⟩ := h; simp at hj
  | cons c l ih =>
    by_cases hc : c.rd = r
    · have := cnt_le l r
      have h1 : ¬ r + 1 ≤ c.rd := by omega
      have h2 : r ≤ c.rd := by omega
      simp only [cnt, List.filter_cons] at this ⊢
      simp [h1, h2]; omega
    · obtain ⟨j, hj, e⟩ := h
      have hi : cnt l (r + 1) < cnt l r := by
        apply ih
        cases j with
        | zero => exact absurd (by simpa [cvAt] using e) hc
        | succ j => exact ⟨j, by simpa using hj, by simpa [cvAt] using e⟩
      simp only [cnt, List.filter_cons] at hi ⊢
      by_cases h1 : r + 1 ≤ c.rd
      · have h2 : r ≤ c.rd := by omega
        simp [h1, h2]; exact hi
      · by_cases h2 : r ≤ c.rd
        · omega
        · simp [h1, h2]; exact hi
/-- P5.5 -/
def NextR (l : List CV) (r : Int) : Prop := 1 ≤ r ∧ (∀ k : Int, 1 ≤ k → k < r → 3 ≤ (dgF l k).length) ∧ (dgF l r).length < 3
set_option maxRecDepth 100000 in
theorem NextR.one {l : List CV} {r s : Int} (h : NextR l r) (g : NextR l s) : r = s := by
  obtain ⟨h1, h2, h3⟩ := h
  obtain ⟨g1, g2, g3⟩ := g
  rcases Int.lt_trichotomy r s with q | q | q
  · have := g2 r h1 q; omega
  · exact q
  · have := h2 s g1 q; omega
set_option maxRecDepth 100000 in
theorem f_round {c : CV} (h : c.f = 0) : 1 ≤ c.rd ∧ c.rd ≤ 1048576 := (headerF_ok (certF_head (vl := c.vl) h)).2.1
set_option maxRecDepth 100000 in
theorem dagF_f {l : List CV} (h : dagF l = 0) (j : Nat) (hj : j < l.length) : (cvAt l j).f = 0 := badC_f l j ((dagF_zero h).2 j hj)
end Go.Proofs.YtnpjhpmgelaonaaDoor
