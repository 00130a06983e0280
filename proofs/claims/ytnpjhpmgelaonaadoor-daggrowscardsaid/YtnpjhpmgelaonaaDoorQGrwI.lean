/- What Insert tells of a certificate of the round that comes next, on all of the round ahead. -/
import Derived.Test.YtnpjhpmgelaonaaDoorQGrwF
namespace Go.Proofs.YtnpjhpmgelaonaaDoor
open Go.RowKit

def grwP (l : List CV) (r : Int) : List (List Int) := if r = 1 then [] else dgF l (r - 1)
def grwC (l : List CV) (r au : Int) : CV := ⟨au, r, [], grwP l r, [1, 2, 3]⟩
set_option maxRecDepth 100000 in
theorem digF_or {ps : List Part} (h : ∀ p ∈ ps, p.bs.length = 32) : digF ps = 0 ∨ digF ps = 7 := by
  have : ∀ k, k ≤ ps.length → digTo1 ps k = 0 ∨ digTo1 ps k = 7 := by
    intro k
    induction k with
    | zero => intro _; exact .inl rfl
    | succ k ih =>
      intro hk
      rw [digTo1]
      rcases ih (by omega) with g | g
      · rw [g, if_neg (by decide), digAt, partAt_get ps k (by omega), if_neg (by rw [h _ (List.getElem_mem (by omega))]; decide)]
        split
        · exact .inr rfl
        · exact .inl rfl
      · rw [g, if_pos (by decide)]; exact .inr rfl
  exact this _ (Nat.le_refl _)
set_option maxRecDepth 100000 in
theorem grwP_len {l : List CV} {r : Int} : (grwP l r).length ≤ 4 := by
  rw [grwP]; split
  · simp
  · exact dgTo_length l (r - 1) 4
set_option maxRecDepth 100000 in
theorem grwP_at {l : List CV} {r : Int} {m : Nat} (hm : m < (grwP l r).length) : ∃ i, i < l.length ∧ (grwP l r).getD m [] = (cvAt l i).d ∧ (cvAt l i).rd = r - 1 := by
  rw [grwP] at hm ⊢
  split at hm
  · simp at hm
  · rename_i h
    rw [if_neg h]
    obtain ⟨i, h1, h2, h3, _⟩ := dgF_at hm
    exact ⟨i, h1, h2, h3⟩
set_option maxRecDepth 100000 in
theorem grow_ins {l : List CV} (hd : dagF l = 0) (hv : ∀ x ∈ l, x.vl = [0, 1, 2]) (hlen : l.length ≤ 24) {r au : Int} (hn : NextR l r) (hr : r ≤ 1048576) (ha : 0 ≤ au ∧ au < 4) :
    (insE l (grwC l r au) = 0 ∧ cOf l au r < 0) ∨ insE l (grwC l r au) = 7 ∨ (insE l (grwC l r au) ≠ 0 ∧ Coll l) := by
  have h32 : ∀ p ∈ pz (grwP l r), p.bs.length = 32 := by
    intro p hp
    obtain ⟨d, hd', rfl⟩ := List.mem_map.1 hp
    obtain ⟨m, hm, rfl⟩ := List.getElem_of_mem hd'
    obtain ⟨i, _, e, _⟩ := grwP_at (l := l) (r := r) hm
    have e2 : (grwP l r).getD m [] = (grwP l r)[m] := by simp [hm]
    rw [e2] at e
    show (grwP l r)[m].length = 32
    rw [e, CV.d_length]
  have hpl : (pz (grwP l r)).length = (grwP l r).length := by simp [pz]
  have hF : headerF au r (pz []) (pz (grwP l r)) = digF (pz (grwP l r)) := by
    have := hn.1
    have h4 := grwP_len (l := l) (r := r)
    rw [headerF, if_neg (by omega), if_neg (by rw [hpl]; simp [pz]; omega), if_neg (by decide)]
    split
    · rfl
    · rename_i g
      have g' : digF (pz (grwP l r)) = 0 := by simpa using g
      rw [g', hpl, parentsF, if_neg]
      rintro (⟨h1, h2⟩ | ⟨h1, h2⟩)
      · rw [grwP, if_pos h1] at h2; simp at h2
      · rw [grwP, if_neg (by omega)] at h2
        have := hn.2.1 (r - 1) (by omega) (by omega)
        omega
  rcases digF_or h32 with g | g
  · rw [g] at hF
    have hf : (grwC l r au).f = 0 := by
      show certF au r (pz []) (pz (grwP l r)) [1, 2, 3] = 0
      rw [certF, if_neg (fun q => q hF)]
      decide
    by_cases hc : 0 ≤ cOf l au r
    · right; left
      exact insE_twice hd hf hc
    · by_cases hco : Coll l
      · by_cases hz : insE l (grwC l r au) = 0
        · exact .inl ⟨hz, by omega⟩
        · exact .inr (.inr ⟨hz, hco⟩)
      · left
        refine ⟨?_, by omega⟩
        have hp : parF l r (grwP l r) = 0 := (parTo_all (fun k hk => by
          obtain ⟨i, h1, h2, h3⟩ := grwP_at (l := l) (r := r) hk
          rw [h2]
          rcases pOf_or hv h1 with e | e
          · exact parAt_of (pOf_self h1).1 (by rw [e]; exact h3)
          · exact absurd e.2 hco)).1
        have ht : takF l au r (grwP l r) = 0 := by rw [takF, if_neg (by omega)]; exact hp
        rw [insE, if_neg (fun q => q hd), if_neg (fun q => q hf), if_neg (fun q => q ht), if_neg (by omega)]
  · right; left
    have hf : (grwC l r au).f = 7 := by
      show certF au r (pz []) (pz (grwP l r)) [1, 2, 3] = 7
      rw [certF, hF, g, if_pos (by decide)]
    rw [insE, if_neg (fun q => q hd), if_pos (by rw [hf]; decide), hf]
end Go.Proofs.YtnpjhpmgelaonaaDoor
