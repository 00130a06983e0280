/- What a dag that may be tells of its certificates and their parents: in plain lists alone. -/
import Derived.Test.YtbmodfegcmaieaaDoorGIntsL
import Derived.Test.YtbmodfegcmaieaaDoorGApp
import Derived.Laws.Strings
import Derived.Test.YtbmodfegcmaieaaDoorGCtFar
namespace Go.Proofs.YtbmodfegcmaieaaDoor
open Go.RowKit

set_option maxRecDepth 100000 in
theorem digU8To (s : List Int) (k : Nat) : ∀ x ∈ digTo s k, 0 ≤ x ∧ x ≤ 255 := by
  induction k with
  | zero => intro x hx; cases hx
  | succ k ih =>
    intro x hx
    rw [digTo] at hx
    rcases List.mem_append.1 hx with h | h
    · exact ih x h
    · simp at h
      omega
set_option maxRecDepth 100000 in
theorem digU8 (au rd : Int) (bl pl : List Part) : ∀ x ∈ hDig au rd bl pl, 0 ≤ x ∧ x ≤ 255 := digU8To _ _
end Go.Proofs.YtbmodfegcmaieaaDoor

namespace Go.Proofs.YtbmodfegcmaieaaDoor
open Go.RowKit

set_option maxRecDepth 100000 in
theorem ba_ext {a b : ByteArray} (h : a.toList = b.toList) : a = b := by
  rw [ByteArray.toList_eq, ByteArray.toList_eq] at h
  exact Go.WideShapes.bytes_inj h
set_option maxRecDepth 100000 in
/-- The bytes as a text has them, one by one. -/
theorem bstr_data (bs : List Int) : (bstr bs).data.toList = bs.map fun n => UInt8.ofNat n.toNat := by
  have h : ∀ (l : List Int) (r : ByteArray), (l.foldl (fun r n => r.push (UInt8.ofNat n.toNat)) r).data.toList = r.data.toList ++ l.map fun n => UInt8.ofNat n.toNat := by
    intro l
    induction l with
    | nil => simp
    | cons x l ih => intro r; rw [List.foldl_cons, ih]; simp [ByteArray.push]
  rw [bstr, h]
  simp
set_option maxRecDepth 100000 in
theorem bstr_inj {xs ys : List Int} (hx : ∀ x ∈ xs, 0 ≤ x ∧ x ≤ 255) (hy : ∀ x ∈ ys, 0 ≤ x ∧ x ≤ 255) (h : bstr xs = bstr ys) : xs = ys := by
  have h1 : xs.map (fun n => UInt8.ofNat n.toNat) = ys.map (fun n => UInt8.ofNat n.toNat) := by rw [← bstr_data, ← bstr_data, h]
  have back : ∀ l : List Int, (∀ x ∈ l, 0 ≤ x ∧ x ≤ 255) → (l.map (fun n => UInt8.ofNat n.toNat)).map (fun b => (b.toNat : Int)) = l := by
    intro l hl
    rw [List.map_map]
    conv => rhs; rw [← List.map_id l]
    refine List.map_congr_left fun x hx => ?_
    have := hl x hx
    simp only [Function.comp, id]
    rw [UInt8.toNat_ofNat', Nat.mod_eq_of_lt (by omega)]
    omega
  rw [← back xs hx, ← back ys hy, h1]
end Go.Proofs.YtbmodfegcmaieaaDoor

namespace Go.Proofs.YtbmodfegcmaieaaDoor
open Go.RowKit

set_option maxRecDepth 100000 in
theorem cvAt_mem {l : List CV} {j : Nat} (h : j < l.length) : cvAt l j ∈ l := by
  have e : cvAt l j = l[j] := by simp [cvAt, h]
  rw [e]; exact List.getElem_mem h
set_option maxRecDepth 100000 in
theorem CV.d_u8 (c : CV) : ∀ x ∈ c.d, 0 ≤ x ∧ x ≤ 255 := digU8 _ _ _ _
set_option maxRecDepth 100000 in
theorem cOf_at {l : List CV} {j : Nat} (hj : j < l.length) : 0 ≤ cOf l (cvAt l j).au (cvAt l j).rd := by
  rcases Int.lt_or_le (cOf l (cvAt l j).au (cvAt l j).rd) 0 with h | h
  · have := fidx_no _ _ h j hj
    simp [cHit] at this
  · exact h
set_option maxRecDepth 100000 in
theorem parTo_zero {l : List CV} {rd : Int} {pl : List (List Int)} {m : Nat} (h : parTo l rd pl m = 0) : ∀ k, k < m → parAt l rd (pl.getD k []) = 0 := by
  induction m with
  | zero => intro k hk; omega
  | succ m ih =>
    rw [parTo] at h
    split at h
    · cases h
    · split at h
      · rename_i h2
        intro k hk
        rcases Nat.lt_or_ge k m with g | g
        · exact ih h k g
        · obtain rfl : k = m := by omega
          exact h2
      · rename_i h2
        exact absurd h h2
set_option maxRecDepth 100000 in
theorem parTo_all {l : List CV} {rd : Int} {pl : List (List Int)} {m : Nat} (h : ∀ k, k < m → parAt l rd (pl.getD k []) = 0) : parTo l rd pl m = 0 ∧ misTo l pl m = [] := by
  induction m with
  | zero => exact ⟨rfl, rfl⟩
  | succ m ih =>
    obtain ⟨i1, i2⟩ := ih (fun k hk => h k (by omega))
    have hm := h m (by omega)
    refine ⟨?_, ?_⟩
    · rw [parTo, i1, if_neg (by decide), if_pos hm]
    · have hp : ¬ pOf l (pl.getD m []) < 0 := by
        intro g
        rw [parAt, if_pos g] at hm
        cases hm
      rw [misTo, if_neg hp, i2]
set_option maxRecDepth 100000 in
theorem parAt_ok {l : List CV} {rd : Int} {d : List Int} (h : parAt l rd d = 0) : 0 ≤ pOf l d ∧ (cvAt l (pOf l d).toNat).rd = rd - 1 := by
  rw [parAt] at h
  split at h
  · cases h
  · split at h
    · cases h
    · rename_i h1 h2
      refine ⟨by omega, by simpa using h2⟩
set_option maxRecDepth 100000 in
theorem parAt_of {l : List CV} {rd : Int} {d : List Int} (h : 0 ≤ pOf l d) (h2 : (cvAt l (pOf l d).toNat).rd = rd - 1) : parAt l rd d = 0 := by
  rw [parAt, if_neg (by omega), if_neg (fun g => g h2)]
set_option maxRecDepth 100000 in
theorem pOf_take {l : List CV} {i : Nat} (hi : i ≤ l.length) {d : List Int} (h : 0 ≤ pOf (l.take i) d) : pOf l d = pOf (l.take i) d := by
  have hl : (l.take i).length = i := by rw [List.length_take]; omega
  have e : pOf (l.take i) d = fidx (dHit l d) i := by
    rw [pOf, hl]
    exact fidx_congr _ _ _ (fun j hj => by rw [dHit, dHit, cvAt_take l i j hj])
  rw [e] at h ⊢
  exact fidx_stay _ _ _ h hi
set_option maxRecDepth 100000 in
/-- The parents of a dag's certificate stand ahead of it, and are of the round ahead. -/
theorem dag_parent {l : List CV} (h : dagF l = 0) {i : Nat} (hi : i < l.length) {k : Nat} (hk : k < (cvAt l i).pl.length) :
    0 ≤ pOf (l.take i) ((cvAt l i).pl.getD k []) ∧ (cvAt l (pOf (l.take i) ((cvAt l i).pl.getD k [])).toNat).rd = (cvAt l i).rd - 1 := by
  have hb := (dagF_zero h).2 i hi
  simp only [badC, Bool.or_eq_false_iff, decide_eq_false_iff_not, ne_eq, Decidable.not_not] at hb
  have h2 := hb.2
  rw [takF] at h2
  split at h2
  · cases h2
  · obtain ⟨h3, h4⟩ := parAt_ok (parTo_zero h2 k hk)
    refine ⟨h3, ?_⟩
    have hl : (l.take i).length = i := by rw [List.length_take]; omega
    have hb := pOf_bounds (l.take i) ((cvAt l i).pl.getD k [])
    rw [cvAt_take l i _ (by omega)] at h4
    exact h4
set_option maxRecDepth 100000 in
theorem dag_none_missing {l : List CV} (h : dagF l = 0) {i : Nat} (hi : i < l.length) : parF l (cvAt l i).rd (cvAt l i).pl = 0 ∧ misF l (cvAt l i).pl = [] := by
  refine parTo_all (fun k hk => ?_)
  obtain ⟨h1, h2⟩ := dag_parent h hi hk
  have e := pOf_take (Nat.le_of_lt hi) h1
  exact parAt_of (by rw [e]; exact h1) (by rw [e]; exact h2)
set_option maxRecDepth 100000 in
theorem pOf_self {l : List CV} {i : Nat} (hi : i < l.length) : 0 ≤ pOf l (cvAt l i).d ∧ (pOf l (cvAt l i).d).toNat ≤ i ∧ txL (cvAt l (pOf l (cvAt l i).d).toNat).d = txL (cvAt l i).d := by
  have h0 : 0 ≤ pOf l (cvAt l i).d := by
    rcases Int.lt_or_le (pOf l (cvAt l i).d) 0 with h | h
    · have := fidx_no _ _ h i hi
      simp [dHit] at this
    · exact h
  have hy := fidx_yes (dHit l (cvAt l i).d) l.length h0
  refine ⟨h0, ?_, of_decide_eq_true hy⟩
  rcases Nat.lt_or_ge i (pOf l (cvAt l i).d).toNat with g | g
  · have hs : fidx (dHit l (cvAt l i).d) (i + 1) = pOf l (cvAt l i).d ∨ fidx (dHit l (cvAt l i).d) (i + 1) < 0 := by
      rcases Int.lt_or_le (fidx (dHit l (cvAt l i).d) (i + 1)) 0 with q | q
      · exact .inr q
      · exact .inl (fidx_stay _ _ _ q hi).symm
    rcases hs with q | q
    · have := (fidx_ge (dHit l (cvAt l i).d) (i + 1)).2
      omega
    · have := fidx_no _ _ q i (by omega)
      simp [dHit] at this
  · exact g
set_option maxRecDepth 100000 in
theorem txL_inj {xs ys : List Int} (hx : ∀ x ∈ xs, 0 ≤ x ∧ x ≤ 255) (hy : ∀ x ∈ ys, 0 ≤ x ∧ x ≤ 255) (h : txL xs = txL ys) : xs = ys := by
  exact bstr_inj hx hy (ba_ext h)
end Go.Proofs.YtbmodfegcmaieaaDoor
