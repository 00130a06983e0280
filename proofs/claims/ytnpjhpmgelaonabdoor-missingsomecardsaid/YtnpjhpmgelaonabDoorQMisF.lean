/- Four parents, two of them not there: what is told. -/
import Derived.Test.YtnpjhpmgelaonabDoorQDgA
import Derived.Test.YtnpjhpmgelaonabDoorQHeadR
import Derived.Test.YtnpjhpmgelaonabDoorQSome
import Derived.Test.YtnpjhpmgelaonabDoorQDMisC
namespace Go.Proofs.YtnpjhpmgelaonabDoor
open Go.RowKit

set_option maxRecDepth 100000 in
theorem some_slM (n m : Int) (w : World) (hn : I64 n) :
    Calls Tryd.prog 23 #[.int .i64 n, .int .i64 m] w fun e w' => (∃ a, e = .returned (.slice (some ⟨a, 0, none⟩) 32 32) ∧ SliceAt w' (some ⟨a, 0, none⟩) 32 (someL n m) ∧ w.heap.size ≤ a ∧ a < w'.heap.size) ∧ Below w.heap.size w w' :=
  (some_any n m w hn).mono (fun _ _ ⟨he, ho, hb⟩ => ⟨⟨_, he, (sliceAt_of_owns ho).2, Nat.le_refl _, (ho.lt _ rfl).2⟩, hb⟩)
set_option maxRecDepth 100000 in
theorem some_two (n : Int) : txL (someL n 1) ≠ txL (someL n 2) := by
  have h := digF_some [⟨none, 0, someL n 1⟩, ⟨none, 0, someL n 2⟩] n 1 2 (by omega) (by simp [List.range_succ])
  intro e
  have h2 : digF [⟨none, 0, someL n 1⟩, ⟨none, 0, someL n 2⟩] = 7 := by simp [digF, digTo1, digAt, partAt, twice, someL_length, List.range_succ, e]
  rw [h] at h2; cases h2
set_option maxRecDepth 100000 in
theorem digF4 {p q r s : Part} (hp : p.bs.length = 32) (hq : q.bs.length = 32) (hr : r.bs.length = 32) (hs : s.bs.length = 32) (h1 : txL p.bs ≠ txL q.bs) (h2 : txL p.bs ≠ txL r.bs) (h3 : txL p.bs ≠ txL s.bs) (h4 : txL q.bs ≠ txL r.bs) (h5 : txL q.bs ≠ txL s.bs) (h6 : txL r.bs ≠ txL s.bs) : digF [p, q, r, s] = 0 := by
  show digTo1 _ 4 = 0
  have e0 : digAt [p, q, r, s] 0 = 0 := by simp [digAt, partAt, hp, twice]
  have e1 : digAt [p, q, r, s] 1 = 0 := by simp [digAt, partAt, hq, twice, List.range_succ, h1]
  have e2 : digAt [p, q, r, s] 2 = 0 := by simp [digAt, partAt, hr, twice, List.range_succ, h2, h4]
  have e3 : digAt [p, q, r, s] 3 = 0 := by simp [digAt, partAt, hs, twice, List.range_succ, h3, h5, h6]
  simp [digTo1, e0, e1, e2, e3]
set_option maxRecDepth 100000 in
theorem headerF4 {rd : Int} {p q r s : Part} (hr : 1 < rd ∧ rd ≤ 1048576) (h : digF [p, q, r, s] = 0) : headerF 0 rd [] [p, q, r, s] = 0 := by
  rw [headerF, if_neg (by omega), if_neg (by simp), if_neg (by decide), if_neg (by rw [h]; decide), parentsF, if_neg]
  · simp; omega
set_option maxRecDepth 100000 in
theorem pOf_ne' {l : List CV} {d : List Int} (h : pOf l d < 0) {i : Nat} (hi : i < l.length) : txL (cvAt l i).d ≠ txL d := by
  have := fidx_no _ _ h i hi
  exact of_decide_eq_false this
set_option maxRecDepth 100000 in
/-- What Missing tells: all is well, or two unlike headers have one digest. -/
theorem miss4 {l : List CV} (hd : dagF l = 0) (hv : ∀ x ∈ l, x.vl = [0, 1, 2]) {r : Int} (hr : 1 < r ∧ r ≤ 1048576) {p q s t : Part} (hp : p.bs.length = 32) (hq : q.bs.length = 32) (np : pOf l p.bs < 0) (nq : pOf l q.bs < 0) (hpq : txL p.bs ≠ txL q.bs)
    (h0 : 0 < (dgF l (r - 1)).length) (h1 : 1 < (dgF l (r - 1)).length) (hs : s.bs = (dgF l (r - 1)).getD 0 []) (ht : t.bs = (dgF l (r - 1)).getD 1 []) :
    (missE l 0 r [] [p, s, q, t] = 0 ∨ Coll l) ∧ misF l (bss [p, s, q, t]) = [p.bs, q.bs] := by
  obtain ⟨i, hi, ei, ri, ai⟩ := dgF_at h0
  obtain ⟨j, hj, ej, rj, aj⟩ := dgF_at h1
  have hlt := prevA_lt h1
  rw [prevA, if_neg (by decide)] at hlt
  have hau : (cvAt l i).au < (cvAt l j).au := by rw [ai, aj]; exact hlt
  rw [ei] at hs
  rw [ej] at ht
  have ps := pOf_self hi
  have pt := pOf_self hj
  have hm : misF l (bss [p, s, q, t]) = [p.bs, q.bs] := by
    show misTo l [p.bs, s.bs, q.bs, t.bs] 4 = _
    rw [hs, ht]
    simp only [misTo, List.getD_cons_zero, List.getD_cons_succ, if_pos np, if_pos nq, if_neg (show ¬ pOf l (cvAt l i).d < 0 by omega), if_neg (show ¬ pOf l (cvAt l j).d < 0 by omega)]
    rfl
  refine ⟨?_, hm⟩
  by_cases hst : txL s.bs = txL t.bs
  · right
    rw [hs, ht] at hst
    have e := txL_inj (CV.d_u8 _) (CV.d_u8 _) hst
    rcases Nat.lt_trichotomy i j with g | g | g
    · exact ⟨i, j, g, hj, e.symm, fun h => by have := h.1; omega⟩
    · subst g; omega
    · exact ⟨j, i, g, hi, e, fun h => by have := h.1; omega⟩
  · have hF : headerF 0 r [] [p, s, q, t] = 0 := headerF4 hr (digF4 hp (by rw [hs, CV.d_length]) hq (by rw [ht, CV.d_length]) (fun h => pOf_ne' np hi (by rw [h, hs])) hpq (fun h => pOf_ne' np hj (by rw [h, ht])) (fun h => pOf_ne' nq hi (by rw [← h, hs])) hst (fun h => pOf_ne' nq hj (by rw [h, ht])))
    rcases pOf_or hv hi with e1 | e1
    · rcases pOf_or hv hj with e2 | e2
      · left
        have a1 : parAt l r p.bs = 8 := by rw [parAt, if_pos np]
        have a2 : parAt l r q.bs = 8 := by rw [parAt, if_pos nq]
        have a3 : parAt l r s.bs = 0 := by rw [hs]; exact parAt_of ps.1 (by rw [e1]; exact ri)
        have a4 : parAt l r t.bs = 0 := by rw [ht]; exact parAt_of pt.1 (by rw [e2]; exact rj)
        have hpar : parF l r (bss [p, s, q, t]) = 8 := by
          show parTo l r [p.bs, s.bs, q.bs, t.bs] 4 = 8
          simp [parTo, a1, a2, a3, a4]
        rw [missE, if_neg (fun g => g hd), if_neg (fun g => g hF), hpar, if_neg (by decide)]
      · exact .inr e2.2
    · exact .inr e1.2
set_option maxRecDepth 100000 in
theorem list_lit4 {w : World} {b : Nat} {p q r s : Part} (h : w.heap[b]? = some (.cells #[.slice p.sa p.bs.length p.cap, .slice q.sa q.bs.length q.cap, .slice r.sa r.bs.length r.cap, .slice s.sa s.bs.length s.cap] 54 (0, 0))) (hp : SliceAt w p.sa p.cap p.bs) (hq : SliceAt w q.sa q.cap q.bs) (hr : SliceAt w r.sa r.cap r.bs) (hs : SliceAt w s.sa s.cap s.bs) : ListAt w (some ⟨b, 0, none⟩) 4 [p, q, r, s] := by
  refine ⟨Nat.le_refl _, by decide, (show (4 : Nat) ≤ _ by decide), .inr ⟨b, 0, rfl⟩, ⟨.inr ⟨b, 0, rfl, fun j hj => ?_⟩, fun x hx => ?_⟩⟩
  · have h0 := cells_at h 0 _ rfl
    have h1 := cells_at h 1 _ rfl
    have h2 := cells_at h 2 _ rfl
    have h3 := cells_at h 3 _ rfl
    match j, (show j < 4 from hj) with
    | 0, _ => simpa using h0
    | 1, _ => simpa using h1
    | 2, _ => simpa using h2
    | 3, _ => simpa using h3
  · simp at hx
    rcases hx with rfl | rfl | rfl | rfl
    · exact hp
    · exact hq
    · exact hr
    · exact hs
set_option maxRecDepth 100000 in
theorem slice_put {w : World} {a so cap : Nat} {bs : List Int} (h : SliceAt w (some ⟨a, so, none⟩) cap bs) (b j : Nat) (v : Value) (hne : a ≠ b) : SliceAt (w.setCell ⟨b, j, none⟩ v) (some ⟨a, so, none⟩) cap bs := slice_keep h (fun q so' _ e => heap_setCell_other _ ⟨b, j, none⟩ q _ (by cases e; exact hne))
end Go.Proofs.YtnpjhpmgelaonabDoor
