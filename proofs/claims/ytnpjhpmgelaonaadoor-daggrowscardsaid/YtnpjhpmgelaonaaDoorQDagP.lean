/- What a dag that may be tells of its certificates and their parents, in plain lists. -/
import Derived.Test.YtnpjhpmgelaonaaDoorQInsF
import Derived.Test.YtnpjhpmgelaonaaDoorQKSum
import Derived.Test.YtnpjhpmgelaonaaDoorQKDigs
namespace Go.Proofs.YtnpjhpmgelaonaaDoor
open Go.RowKit

/-- Two unlike headers have one digest. -/
def Coll (c : List CV) : Prop := ∃ K I, K < I ∧ I < c.length ∧ (cvAt c I).d = (cvAt c K).d ∧ unlikeC (cvAt c I) (cvAt c K)
set_option maxRecDepth 100000 in
theorem parTo_zero {l : List CV} {rd : Int} {pl : List (List Int)} {m : Nat} (h : parTo l rd pl m = 0) : ∀ k, k < m → parAt l rd (pl.getD k []) = 0 := by
  induction m with
  | zero => intro k hk; omega
  | succ m ih =>
    rw [parTo] at h
    split at h
    · cases h
    · split at h
      · rename_i h2
        intro k hk
        rcases Nat.lt_or_ge k m with g | g
        · exact ih h k g
        · obtain rfl : k = m := by omega
          exact h2
      · rename_i h2
        exact absurd h h2
set_option maxRecDepth 100000 in
theorem parTo_all {l : List CV} {rd : Int} {pl : List (List Int)} {m : Nat} (h : ∀ k, k < m → parAt l rd (pl.getD k []) = 0) : parTo l rd pl m = 0 ∧ misTo l pl m = [] := by
  induction m with
  | zero => exact ⟨rfl, rfl⟩
  | succ m ih =>
    obtain ⟨i1, i2⟩ := ih (fun k hk => h k (by omega))
    have hm := h m (by omega)
    refine ⟨?_, ?_⟩
    · rw [parTo, i1, if_neg (by decide), if_pos hm]
    · have hp : ¬ pOf l (pl.getD m []) < 0 := by
        intro g
        rw [parAt, if_pos g] at hm
        cases hm
      rw [misTo, if_neg hp, i2]
set_option maxRecDepth 100000 in
theorem parAt_ok {l : List CV} {rd : Int} {d : List Int} (h : parAt l rd d = 0) : 0 ≤ pOf l d ∧ (cvAt l (pOf l d).toNat).rd = rd - 1 := by
  rw [parAt] at h
  split at h
  · cases h
  · split at h
    · cases h
    · rename_i h1 h2
      refine ⟨by omega, by simpa using h2⟩
set_option maxRecDepth 100000 in
theorem parAt_of {l : List CV} {rd : Int} {d : List Int} (h : 0 ≤ pOf l d) (h2 : (cvAt l (pOf l d).toNat).rd = rd - 1) : parAt l rd d = 0 := by
  rw [parAt, if_neg (by omega), if_neg (fun g => g h2)]
set_option maxRecDepth 100000 in
theorem pOf_take {l : List CV} {i : Nat} (hi : i ≤ l.length) {d : List Int} (h : 0 ≤ pOf (l.take i) d) : pOf l d = pOf (l.take i) d := by
  have hl : (l.take i).length = i := by rw [List.length_take]; omega
  have e : pOf (l.take i) d = fidx (dHit l d) i := by
    rw [pOf, hl]
    exact fidx_congr _ _ _ (fun j hj => by rw [dHit, dHit, cvAt_take l i j hj])
  rw [e] at h ⊢
  exact fidx_stay _ _ _ h hi
set_option maxRecDepth 100000 in
/-- The parents of a dag's certificate stand ahead of it, and are of the round ahead. -/
theorem dag_parent {l : List CV} (h : dagF l = 0) {i : Nat} (hi : i < l.length) {k : Nat} (hk : k < (cvAt l i).pl.length) :
    0 ≤ pOf (l.take i) ((cvAt l i).pl.getD k []) ∧ (cvAt l (pOf (l.take i) ((cvAt l i).pl.getD k [])).toNat).rd = (cvAt l i).rd - 1 := by
  have hb := (dagF_zero h).2 i hi
  simp only [badC, Bool.or_eq_false_iff, decide_eq_false_iff_not, ne_eq, Decidable.not_not] at hb
  have h2 := hb.2
  rw [takF] at h2
  split at h2
  · cases h2
  · obtain ⟨h3, h4⟩ := parAt_ok (parTo_zero h2 k hk)
    refine ⟨h3, ?_⟩
    have hl : (l.take i).length = i := by rw [List.length_take]; omega
    have hb := pOf_bounds (l.take i) ((cvAt l i).pl.getD k [])
    rw [cvAt_take l i _ (by omega)] at h4
    exact h4
set_option maxRecDepth 100000 in
theorem dag_none_missing {l : List CV} (h : dagF l = 0) {i : Nat} (hi : i < l.length) : parF l (cvAt l i).rd (cvAt l i).pl = 0 ∧ misF l (cvAt l i).pl = [] := by
  refine parTo_all (fun k hk => ?_)
  obtain ⟨h1, h2⟩ := dag_parent h hi hk
  have e := pOf_take (Nat.le_of_lt hi) h1
  exact parAt_of (by rw [e]; exact h1) (by rw [e]; exact h2)
set_option maxRecDepth 100000 in
theorem pOf_self {l : List CV} {i : Nat} (hi : i < l.length) : 0 ≤ pOf l (cvAt l i).d ∧ (pOf l (cvAt l i).d).toNat ≤ i ∧ txL (cvAt l (pOf l (cvAt l i).d).toNat).d = txL (cvAt l i).d := by
  have h0 : 0 ≤ pOf l (cvAt l i).d := by
    rcases Int.lt_or_le (pOf l (cvAt l i).d) 0 with h | h
    · have := fidx_no _ _ h i hi
      simp [dHit] at this
    · exact h
  have hy := fidx_yes (dHit l (cvAt l i).d) l.length h0
  refine ⟨h0, ?_, of_decide_eq_true hy⟩
  rcases Nat.lt_or_ge i (pOf l (cvAt l i).d).toNat with g | g
  · have hs : fidx (dHit l (cvAt l i).d) (i + 1) = pOf l (cvAt l i).d ∨ fidx (dHit l (cvAt l i).d) (i + 1) < 0 := by
      rcases Int.lt_or_le (fidx (dHit l (cvAt l i).d) (i + 1)) 0 with q | q
      · exact .inr q
      · exact .inl (fidx_stay _ _ _ q hi).symm
    rcases hs with q | q
    · have := (fidx_ge (dHit l (cvAt l i).d) (i + 1)).2
      omega
    · have := fidx_no _ _ q i (by omega)
      simp [dHit] at this
  · exact g
set_option maxRecDepth 100000 in
theorem txL_inj {xs ys : List Int} (hx : ∀ x ∈ xs, 0 ≤ x ∧ x ≤ 255) (hy : ∀ x ∈ ys, 0 ≤ x ∧ x ≤ 255) (h : txL xs = txL ys) : xs = ys := by
  exact bstr_inj hx hy (ba_ext h)
set_option maxRecDepth 100000 in
/-- The certificate that Find gives for a digest of the dag is that one, or two unlike headers have one digest. -/
theorem pOf_or {l : List CV} (hv : ∀ x ∈ l, x.vl = [0, 1, 2]) {i : Nat} (hi : i < l.length) : cvAt l (pOf l (cvAt l i).d).toNat = cvAt l i ∨ (unlikeC (cvAt l i) (cvAt l (pOf l (cvAt l i).d).toNat) ∧ Coll l) := by
  obtain ⟨h0, h1, h2⟩ := pOf_self hi
  have hd := txL_inj (CV.d_u8 _) (CV.d_u8 _) h2
  have hj : (pOf l (cvAt l i).d).toNat < l.length := by omega
  generalize (pOf l (cvAt l i).d).toNat = j at *
  by_cases hu : unlikeC (cvAt l i) (cvAt l j)
  · right
    refine ⟨hu, j, i, ?_, hi, hd.symm, hu⟩
    rcases Nat.lt_or_ge j i with g | g
    · exact g
    · obtain rfl : j = i := by omega
      exact absurd ⟨rfl, rfl, rfl, rfl⟩ hu
  · left
    have h3 := Decidable.not_not.1 (by exact hu)
    obtain ⟨a1, a2, a3, a4⟩ := h3
    have e1 := hv _ (cvAt_mem hi)
    have e2 := hv _ (cvAt_mem hj)
    cases hc : cvAt l i with
    | mk au rd bl pl vl =>
      cases hc2 : cvAt l j with
      | mk au2 rd2 bl2 pl2 vl2 =>
        rw [hc] at a1 a2 a3 a4 e1
        rw [hc2] at a1 a2 a3 a4 e2
        simp only at a1 a2 a3 a4 e1 e2
        rw [a1, a2, a3, a4, e1, e2]
set_option maxRecDepth 100000 in
theorem list_take {w : World} {sa : Option Addr} {cap : Nat} {ps : List Part} (h : ListAt w sa cap ps) (i : Nat) : ListAt w sa cap (ps.take i) := by
  have hl : (ps.take i).length ≤ ps.length := by rw [List.length_take]; omega
  refine ⟨Nat.le_trans hl h.le, h.max, Nat.le_trans hl h.small, h.some, ⟨?_, fun p hp => h.parts.each p (List.mem_of_mem_take hp)⟩⟩
  rcases h.parts.cells with hc | ⟨sb, so, e, hc⟩
  · left; rw [hc]; simp
  · refine .inr ⟨sb, so, e, fun j hj => ?_⟩
    have hj2 : j < ps.length := by omega
    simpa using hc j hj2
end Go.Proofs.YtnpjhpmgelaonaaDoor
