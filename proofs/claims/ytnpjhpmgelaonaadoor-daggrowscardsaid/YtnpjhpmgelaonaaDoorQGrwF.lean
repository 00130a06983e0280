/- A certificate more, of the round that comes next, on all that there are of the round ahead. -/
import Derived.Test.YtnpjhpmgelaonaaDoorQBadF
import Derived.Test.YtnpjhpmgelaonaaDoorQDgA
namespace Go.Proofs.YtnpjhpmgelaonaaDoor
open Go.RowKit

set_option maxRecDepth 100000 in
theorem cOf_yes {l : List CV} {a : Nat} (ha : a < l.length) {au rd : Int} (h1 : (cvAt l a).au = au) (h2 : (cvAt l a).rd = rd) : 0 ≤ cOf l au rd := by
  rw [← h1, ← h2]; exact cOf_at ha
set_option maxRecDepth 100000 in
theorem digF_twice {ps : List Part} (h : digF ps = 0) {a b : Nat} (hab : a < b) (hb : b < ps.length) : txL (ps[a]).bs ≠ txL (ps[b]).bs := by
  intro e
  have hz : ∀ k, k ≤ ps.length → digTo1 ps k = 0 := by
    intro k hk
    rcases Decidable.em (digTo1 ps k = 0) with g | g
    · exact g
    · have := digTo1_stays ps k ps.length g hk
      rw [digF] at h
      rw [h] at this
      exact this.symm
  have h1 := hz (b + 1) (by omega)
  rw [digTo1, hz b (by omega), if_neg (by decide), digAt] at h1
  split at h1
  · cases h1
  · split at h1
    · cases h1
    · rename_i h2
      apply h2
      rw [twice, List.any_eq_true]
      refine ⟨a, by simpa using hab, ?_⟩
      rw [partAt_get ps a (by omega), partAt_get ps b hb]
      exact decide_eq_true e
set_option maxRecDepth 100000 in
/-- Where a round is not over, nobody has a certificate of the round behind it. -/
theorem next_no {l : List CV} (hd : dagF l = 0) {r : Int} (hn : (dgF l r).length < 3) (hr : 1 ≤ r) {i : Nat} (hi : i < l.length) : (cvAt l i).rd ≠ r + 1 := by
  intro he
  have hf := dagF_f hd i hi
  have hh := certF_head (vl := (cvAt l i).vl) hf
  have hlen : 3 ≤ (cvAt l i).pl.length ∧ digF (pz (cvAt l i).pl) = 0 := by
    unfold headerF at hh
    split at hh
    · cases hh
    split at hh
    · cases hh
    split at hh
    · rename_i g; exact absurd hh g
    split at hh
    · rename_i g; exact absurd hh g
    · rename_i _ _ _ g
      refine ⟨?_, by simpa using g⟩
      rw [parentsF] at hh
      split at hh
      · cases hh
      · rename_i g2
        have e : (pz (cvAt l i).pl).length = (cvAt l i).pl.length := by simp [pz]
        rw [e] at g2
        omega
  obtain ⟨h3, hdig⟩ := hlen
  have par : ∀ m, m < 3 → ∃ a : Nat, a < l.length ∧ (cvAt l a).rd = r ∧ txL (cvAt l a).d = txL ((cvAt l i).pl.getD m []) := by
    intro m hm
    obtain ⟨q1, q2⟩ := dag_parent hd hi (k := m) (by omega)
    have e := pOf_take (Nat.le_of_lt hi) q1
    rw [← e] at q1 q2
    have hb := pOf_bounds l ((cvAt l i).pl.getD m [])
    have hy := fidx_yes (dHit l ((cvAt l i).pl.getD m [])) l.length q1
    exact ⟨(pOf l ((cvAt l i).pl.getD m [])).toNat, by omega, by rw [q2]; omega, of_decide_eq_true hy⟩
  obtain ⟨a0, b0, c0, d0⟩ := par 0 (by omega)
  obtain ⟨a1, b1, c1, d1⟩ := par 1 (by omega)
  obtain ⟨a2, b2, c2, d2⟩ := par 2 (by omega)
  have hne : ∀ x y, x < y → y < 3 → txL ((cvAt l i).pl.getD x []) ≠ txL ((cvAt l i).pl.getD y []) := by
    intro x y hxy hy
    have hl : (pz (cvAt l i).pl).length = (cvAt l i).pl.length := by simp [pz]
    have := digF_twice hdig (a := x) (b := y) hxy (by omega)
    have gx : x < (cvAt l i).pl.length := by omega
    have gy : y < (cvAt l i).pl.length := by omega
    simpa [pz, gx, gy] using this
  have n01 : a0 ≠ a1 := fun e => hne 0 1 (by omega) (by omega) (by rw [← d0, ← d1, e])
  have n02 : a0 ≠ a2 := fun e => hne 0 2 (by omega) (by omega) (by rw [← d0, ← d2, e])
  have n12 : a1 ≠ a2 := fun e => hne 1 2 (by omega) (by omega) (by rw [← d1, ← d2, e])
  have aun : ∀ x y, x < l.length → y < l.length → x ≠ y → (cvAt l x).rd = r → (cvAt l y).rd = r → (cvAt l x).au ≠ (cvAt l y).au := by
    intro x y hx hy hxy h1 h2 e
    have key : ∀ a b, a < b → b < l.length → (cvAt l a).rd = r → (cvAt l b).rd = r → (cvAt l a).au ≠ (cvAt l b).au := by
      intro a b hab hb g1 g2 ge
      have hbad := (dagF_zero hd).2 b hb
      simp only [badC, Bool.or_eq_false_iff, decide_eq_false_iff_not, ne_eq, Decidable.not_not] at hbad
      have hc := takF_cOf hbad.2
      have hl : (l.take b).length = b := by rw [List.length_take]; omega
      have := fidx_no _ _ hc a (by rw [hl]; exact hab)
      rw [cHit, cvAt_take l b a hab] at this
      simp [g1, g2, ge] at this
    rcases Nat.lt_or_ge x y with g | g
    · exact key x y g hy h1 h2 e
    · exact key y x (by omega) hx h2 h1 e.symm
  have u01 := aun a0 a1 b0 b1 n01 c0 c1
  have u02 := aun a0 a2 b0 b2 n02 c0 c2
  have u12 := aun a1 a2 b1 b2 n12 c1 c2
  have k0 := cOf_yes b0 rfl c0
  have k1 := cOf_yes b1 rfl c1
  have k2 := cOf_yes b2 rfl c2
  have f0 := f_author (dagF_f hd a0 b0)
  have f1 := f_author (dagF_f hd a1 b1)
  have f2 := f_author (dagF_f hd a2 b2)
  rw [dgF_len] at hn
  generalize (cvAt l a0).au = x at *
  generalize (cvAt l a1).au = y at *
  generalize (cvAt l a2).au = z at *
  have hx : x = 0 ∨ x = 1 ∨ x = 2 ∨ x = 3 := by omega
  have hy : y = 0 ∨ y = 1 ∨ y = 2 ∨ y = 3 := by omega
  have hz : z = 0 ∨ z = 1 ∨ z = 2 ∨ z = 3 := by omega
  rcases hx with rfl | rfl | rfl | rfl <;> rcases hy with rfl | rfl | rfl | rfl <;> rcases hz with rfl | rfl | rfl | rfl <;> first | omega | (simp only [k0, k1, k2, if_true] at hn; omega)
set_option maxRecDepth 100000 in
/-- The round never falls, and rises by one at most. -/
theorem next_snoc {l : List CV} {c : CV} (hd : dagF l = 0) {r s : Int} (hn : NextR l r) (hc : c.rd = r) (hco : cOf l c.au c.rd < 0) (ha : 0 ≤ c.au ∧ c.au < 4) (hs : NextR (l ++ [c]) s) : r ≤ s ∧ s ≤ r + 1 := by
  have hlen : ∀ k, (dgF (l ++ [c]) k).length = (dgF l k).length + (if c.rd = k then 1 else 0) := fun k => dg_snoc l c k hco ha
  refine ⟨?_, ?_⟩
  · rcases Int.lt_or_le s r with g | g
    · have h1 := hn.2.1 s hs.1 g
      have h2 := hs.2.2
      rw [hlen] at h2
      omega
    · exact g
  · rcases Int.lt_or_le (r + 1) s with g | g
    · have h1 := hs.2.1 (r + 1) (by have := hn.1; omega) g
      rw [hlen, if_neg (by omega)] at h1
      obtain ⟨j, hj, e⟩ := dgTo_some l (r + 1) 4 (by rw [dgF] at h1; omega)
      exact absurd e (next_no hd hn.2.2 hn.1 hj)
    · exact g
end Go.Proofs.YtnpjhpmgelaonaaDoor
