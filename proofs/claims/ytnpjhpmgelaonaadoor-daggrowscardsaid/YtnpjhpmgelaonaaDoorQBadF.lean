/- A dag without one of its certificates. -/
import Derived.Test.YtnpjhpmgelaonaaDoorQDagP
namespace Go.Proofs.YtnpjhpmgelaonaaDoor
open Go.RowKit

/-- The first j ones without the k'th. -/
def ersT (ks : List Ct) (k : Nat) : Nat → List Ct
  | 0 => []
  | j + 1 => if j = k then ersT ks k j else ersT ks k j ++ [ks.getD j ⟨0, 0, none, 0, [], none, 0, [], none, 0, []⟩]
def ersC (l : List CV) (k : Nat) : Nat → List CV
  | 0 => []
  | j + 1 => if j = k then ersC l k j else ersC l k j ++ [cvAt l j]
set_option maxRecDepth 100000 in
theorem ers_cvs (ks : List Ct) (k j : Nat) (hj : j ≤ ks.length) : cvs (ersT ks k j) = ersC (cvs ks) k j := by
  induction j with
  | zero => rfl
  | succ j ih =>
    rw [ersT, ersC]
    split
    · exact ih (by omega)
    · have h : j < ks.length := by omega
      rw [cvs, List.map_append]
      have := ih (by omega)
      rw [cvs] at this
      rw [this, cvAt_get ks j h]
      simp [h]
set_option maxRecDepth 100000 in
theorem ersT_mem (ks : List Ct) (k j : Nat) (hj : j ≤ ks.length) : ∀ c ∈ ersT ks k j, c ∈ ks := by
  induction j with
  | zero => intro c hc; cases hc
  | succ j ih =>
    intro c hc
    have h : j < ks.length := by omega
    rw [ersT] at hc
    split at hc
    · exact ih (by omega) c hc
    · rcases List.mem_append.1 hc with g | g
      · exact ih (by omega) c g
      · have : c = ks[j] := by simpa [h] using g
        rw [this]; exact List.getElem_mem h
set_option maxRecDepth 100000 in
theorem ersT_le (ks : List Ct) (k j : Nat) : (ersT ks k j).length ≤ j := by
  induction j with
  | zero => simp [ersT]
  | succ j ih =>
    rw [ersT]; split
    · omega
    · simp; omega
set_option maxRecDepth 100000 in
theorem ersC_mem (l : List CV) (k j : Nat) : ∀ c ∈ ersC l k j, ∃ a, a < j ∧ a ≠ k ∧ c = cvAt l a := by
  induction j with
  | zero => intro c hc; cases hc
  | succ j ih =>
    intro c hc
    rw [ersC] at hc
    split at hc
    · obtain ⟨a, h1, h2, h3⟩ := ih c hc
      exact ⟨a, by omega, h2, h3⟩
    · rename_i hne
      rcases List.mem_append.1 hc with g | g
      · obtain ⟨a, h1, h2, h3⟩ := ih c g
        exact ⟨a, by omega, h2, h3⟩
      · exact ⟨j, by omega, hne, by simpa using g⟩
set_option maxRecDepth 100000 in
theorem ersC_pre (l : List CV) (k i j : Nat) (h : i ≤ j) : ∃ r, ersC l k j = ersC l k i ++ r := by
  induction j with
  | zero =>
    obtain rfl : i = 0 := by omega
    exact ⟨[], by simp⟩
  | succ j ih =>
    rcases Nat.lt_or_ge i (j + 1) with g | g
    · obtain ⟨r, hr⟩ := ih (by omega)
      rw [ersC]
      split
      · exact ⟨r, hr⟩
      · exact ⟨r ++ [cvAt l j], by rw [hr, List.append_assoc]⟩
    · obtain rfl : i = j + 1 := by omega
      exact ⟨[], by simp⟩
set_option maxRecDepth 100000 in
/-- The i'th one stands behind the first i without the k'th. -/
theorem ersC_at (l : List CV) (k i n : Nat) (hi : i < n) (hne : i ≠ k) : (ersC l k i).length < (ersC l k n).length ∧ cvAt (ersC l k n) (ersC l k i).length = cvAt l i ∧ (ersC l k n).take (ersC l k i).length = ersC l k i := by
  obtain ⟨r, hr⟩ := ersC_pre l k (i + 1) n hi
  rw [ersC, if_neg hne] at hr
  rw [hr]
  refine ⟨by simp, ?_, by simp⟩
  simp [cvAt]
set_option maxRecDepth 100000 in
theorem dag_apart {l : List CV} (h : dagF l = 0) {a b : Nat} (hab : a < b) (hb : b < l.length) : unlikeC (cvAt l b) (cvAt l a) := by
  rintro ⟨h1, h2, _⟩
  have hbad := (dagF_zero h).2 b hb
  simp only [badC, Bool.or_eq_false_iff, decide_eq_false_iff_not, ne_eq, Decidable.not_not] at hbad
  have hc := takF_cOf hbad.2
  have hl : (l.take b).length = b := by rw [List.length_take]; omega
  have := fidx_no _ _ hc a (by rw [hl]; exact hab)
  rw [cHit, cvAt_take l b a hab] at this
  simp [h1, h2] at this
set_option maxRecDepth 100000 in
/-- Without a parent of one of them they are no dag, or two unlike headers have one digest. -/
theorem bad_or {l : List CV} (h : dagF l = 0) {i m : Nat} (hi : i < l.length) (hm : m < (cvAt l i).pl.length) : ∃ k : Nat, pOf l ((cvAt l i).pl.getD m []) = (k : Int) ∧ k < i ∧ (dagF (ersC l k l.length) = 12 ∨ Coll l) := by
  obtain ⟨h1, _⟩ := dag_parent h hi hm
  have e := pOf_take (Nat.le_of_lt hi) h1
  have hb := pOf_bounds (l.take i) ((cvAt l i).pl.getD m [])
  rw [List.length_take] at hb
  generalize hp : (cvAt l i).pl.getD m [] = p at *
  refine ⟨(pOf l p).toNat, by omega, by omega, ?_⟩
  have hk0 : 0 ≤ pOf l p := by omega
  have hki : (pOf l p).toNat < i := by omega
  have hy := fidx_yes (dHit l p) l.length hk0
  have hyd : txL (cvAt l (pOf l p).toNat).d = txL p := of_decide_eq_true hy
  generalize (pOf l p).toNat = k at *
  by_cases hc : Coll l
  · exact .inr hc
  · left
    obtain ⟨g1, g2, g3⟩ := ersC_at l k i l.length hi (by omega)
    refine dagF_bad _ _ g1 ?_
    rw [badC, g2, g3]
    have hno : pOf (ersC l k i) p < 0 := by
      have : pOf (ersC l k i) p = -1 := fidx_none _ _ (fun j hj => by
        rw [dHit]
        refine decide_eq_false (fun hh => ?_)
        obtain ⟨a, a1, a2, a3⟩ := ersC_mem l k i _ (cvAt_mem hj)
        rw [a3, ← hyd] at hh
        have hd := txL_inj (CV.d_u8 _) (CV.d_u8 _) hh
        rcases Nat.lt_trichotomy a k with q | q | q
        · exact hc ⟨a, k, q, by omega, hd.symm, dag_apart h q (by omega)⟩
        · exact a2 q
        · exact hc ⟨k, a, q, by omega, hd, dag_apart h q (by omega)⟩)
      omega
    have ht : takF (ersC l k i) (cvAt l i).au (cvAt l i).rd (cvAt l i).pl ≠ 0 := by
      rw [takF]
      split
      · decide
      · intro hz
        have := parTo_zero hz m hm
        rw [hp] at this
        have := (parAt_ok this).1
        omega
    simp [ht]
set_option maxRecDepth 100000 in
theorem dag_row {w : World} {B n : Nat} {v : Value} {ys : List Ct} (h : w.ownsRow B 36 5 v n (ctv ys)) (hl : ys.length ≤ 1000) (he : ∀ c ∈ ys, CtAt w c) : ∃ ra rc, v = .slice ra ys.length rc ∧ DagAt w ra rc ys := by
  have hn : n = ys.length := by have := h.1; rw [ctv_length] at this; omega
  subst hn
  rcases h.2 with ⟨rfl, h0⟩ | ⟨g, cap, cur, rfl, hg, hc, h1, h2, h3⟩
  · have hb : ys = [] := List.eq_nil_of_length_eq_zero h0
    subst hb
    exact ⟨none, 0, rfl, dag_none w⟩
  · refine ⟨some ⟨g, 0, none⟩, cap, rfl, h1, by unfold maxLen at h2; omega, by omega, .inr ⟨g, 0, rfl⟩, ⟨.inr ⟨g, 0, rfl, fun j hj => ?_⟩⟩, he⟩
    have e : ∀ o, o < 5 → w.cell? ⟨g, 0 + j * 5 + o, none⟩ = (ys[j]).cs[o]? := fun o ho => by
      rw [show 0 + j * 5 + o = j * 5 + o by omega, World.ownsRow.cellAt h (j * 5 + o) (by omega), ctv_get ys j o hj ho]
    exact ⟨e 0 (by omega), e 1 (by omega), e 2 (by omega), e 3 (by omega), e 4 (by omega)⟩
set_option maxRecDepth 100000 in
theorem zero_bad : dagF [⟨0, 0, [], [], []⟩] = 12 := by decide
end Go.Proofs.YtnpjhpmgelaonaaDoor
