/- The digests of a round, by their authors. -/
import Derived.Test.YtnpjhpmgelaonaaDoorQDagP
namespace Go.Proofs.YtnpjhpmgelaonaaDoor
open Go.RowKit

/-- The authors, of the first n, that have a certificate of that round. -/
def dgA (l : List CV) (rd : Int) : Nat → List Nat
  | 0 => []
  | n + 1 => if 0 ≤ cOf l n rd then dgA l rd n ++ [n] else dgA l rd n
set_option maxRecDepth 100000 in
theorem dgA_map (l : List CV) (rd : Int) (n : Nat) : dgTo l rd n = (dgA l rd n).map (fun (a : Nat) => (cvAt l (cOf l (a : Int) rd).toNat).d) := by
  induction n with
  | zero => rfl
  | succ n ih =>
    rw [dgTo, dgA]
    split
    · rw [ih, List.map_append]; rfl
    · exact ih
set_option maxRecDepth 100000 in
theorem dgA_lt (l : List CV) (rd : Int) (n : Nat) : ∀ a ∈ dgA l rd n, a < n ∧ 0 ≤ cOf l a rd := by
  induction n with
  | zero => intro a ha; cases ha
  | succ n ih =>
    intro a ha
    rw [dgA] at ha
    split at ha
    · rename_i h
      rcases List.mem_append.1 ha with g | g
      · have := ih a g; exact ⟨by omega, this.2⟩
      · obtain rfl : a = n := by simpa using g
        exact ⟨by omega, h⟩
    · have := ih a ha; exact ⟨by omega, this.2⟩
set_option maxRecDepth 100000 in
theorem dgA_rise (l : List CV) (rd : Int) (n : Nat) : (dgA l rd n).Pairwise (· < ·) := by
  induction n with
  | zero => exact List.Pairwise.nil
  | succ n ih =>
    rw [dgA]
    split
    · rw [List.pairwise_append]
      refine ⟨ih, List.pairwise_singleton _ _, fun a ha b hb => ?_⟩
      have hbn : b = n := by simpa using hb
      rw [hbn]
      exact (dgA_lt l rd n a ha).1
    · exact ih
set_option maxRecDepth 100000 in
/-- The m'th digest of a round is that of a certificate of that round, by the m'th author. -/
theorem dgF_at {l : List CV} {rd : Int} {m : Nat} (hm : m < (dgF l rd).length) : ∃ i, i < l.length ∧ (dgF l rd).getD m [] = (cvAt l i).d ∧ (cvAt l i).rd = rd ∧ (cvAt l i).au = ((dgA l rd 4).getD m 0 : Int) := by
  have hl : (dgF l rd).length = (dgA l rd 4).length := by rw [dgF, dgA_map, List.length_map]
  have hm2 : m < (dgA l rd 4).length := by omega
  have ha := dgA_lt l rd 4 _ (List.getElem_mem hm2)
  have hb := cOf_bounds l ((dgA l rd 4)[m] : Int) rd
  have hy := fidx_yes (cHit l ((dgA l rd 4)[m] : Int) rd) l.length ha.2
  simp only [cHit, decide_eq_true_eq] at hy
  refine ⟨(cOf l ((dgA l rd 4)[m] : Int) rd).toNat, by have := ha.2; omega, ?_, hy.2, ?_⟩
  · rw [dgF, dgA_map]; simp [hm2]
  · rw [show (dgA l rd 4).getD m 0 = (dgA l rd 4)[m] by simp [hm2]]
    exact hy.1
/-- The author ahead of the m'th; -1: there is none. -/
def prevA (l : List CV) (rd : Int) (m : Nat) : Int := if m = 0 then -1 else ((dgA l rd 4).getD (m - 1) 0 : Int)
set_option maxRecDepth 100000 in
theorem prevA_lt {l : List CV} {rd : Int} {m : Nat} (hm : m < (dgF l rd).length) : prevA l rd m < ((dgA l rd 4).getD m 0 : Int) := by
  have hl : (dgF l rd).length = (dgA l rd 4).length := by rw [dgF, dgA_map, List.length_map]
  rw [prevA]
  split
  · omega
  · have hm2 : m < (dgA l rd 4).length := by omega
    have hp := List.pairwise_iff_getElem.1 (dgA_rise l rd 4) (m - 1) m (by omega) hm2 (by omega)
    rw [show (dgA l rd 4).getD (m - 1) 0 = (dgA l rd 4)[m - 1] by simp [show m - 1 < (dgA l rd 4).length by omega], show (dgA l rd 4).getD m 0 = (dgA l rd 4)[m] by simp [hm2]]
    exact_mod_cast hp
end Go.Proofs.YtnpjhpmgelaonaaDoor
