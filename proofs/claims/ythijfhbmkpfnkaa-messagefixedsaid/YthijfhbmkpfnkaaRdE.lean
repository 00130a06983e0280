/- What was read and was not too short is read the same with more bytes behind. -/
import Derived.Test.YthijfhbmkpfnkaaRdM
namespace Go.Proofs.Ythijfhbmkpfnkaa
open Go.RowKit

/-- The same with bytes behind. -/
def ap (q : List Int) (s : St) : St := (s.1 ++ q, s.2)
set_option maxRecDepth 100000 in
theorem nx_ext {n : Nat} {s : St} (q : List Int) (h : (nx n s).2 = false) : nx n (ap q s) = ap q (nx n s) ∧ tT n (ap q s) = tT n s ∧ s.2 = false := by
  obtain ⟨l, sh⟩ := s
  have h' : tkS n l sh = false := h
  simp only [tkS, Bool.or_eq_false_iff, decide_eq_false_iff_not] at h'
  obtain ⟨rfl, hl⟩ := h'
  obtain ⟨a1, a2, a3⟩ := tk_ok (n := n) (l := l) (by omega)
  obtain ⟨b1, b2, b3⟩ := tk_ok (n := n) (l := l ++ q) (by simp; omega)
  refine ⟨?_, ?_, rfl⟩
  · show (tkL n (l ++ q) false, tkS n (l ++ q) false) = (tkL n l false ++ q, tkS n l false)
    rw [a2, a3, b2, b3, List.drop_append_of_le_length (by omega)]
  · show tkT n (l ++ q) false = tkT n l false
    rw [a1, b1, List.take_append_of_le_length (by omega)]
set_option maxRecDepth 100000 in
theorem nB_ext {n : Nat} {s : St} (q : List Int) (h : (nx n s).2 = false) : nB n (ap q s) = nB n s := by
  show numB (tT n (ap q s)) = numB (tT n s)
  rw [(nx_ext q h).2.1]
set_option maxRecDepth 100000 in
theorem dg_ext {s : St} (q : List Int) (k : Nat) (h : (dgL s.1 s.2 k).2 = false) : dgL (ap q s).1 (ap q s).2 k = ap q (dgL s.1 s.2 k) ∧ s.2 = false := by
  induction k with
  | zero => exact ⟨rfl, h⟩
  | succ k ih =>
    have h1 : (nx 32 (dgL s.1 s.2 k)).2 = false := h
    obtain ⟨e1, _, e3⟩ := nx_ext q h1
    obtain ⟨i1, i2⟩ := ih e3
    refine ⟨?_, i2⟩
    show nx 32 (dgL (ap q s).1 (ap q s).2 k) = ap q (nx 32 (dgL s.1 s.2 k))
    rw [i1, e1]
set_option maxRecDepth 100000 in
theorem dgS_ext {s : St} (q : List Int) (h : (dgS s).2 = false) : dgS (ap q s) = ap q (dgS s) ∧ s.2 = false := by
  obtain ⟨d1, d2⟩ := dg_ext (s := nx 1 s) q (dN s.1 s.2) h
  obtain ⟨e1, _, e3⟩ := nx_ext q d2
  refine ⟨?_, e3⟩
  have hN : dN (ap q s).1 (ap q s).2 = dN s.1 s.2 := by
    show (nB 1 (ap q s)).toNat = (nB 1 s).toNat
    rw [nB_ext q d2]
  show dgL (nx 1 (ap q s)).1 (nx 1 (ap q s)).2 (dN (ap q s).1 (ap q s).2) = _
  rw [hN, e1, d1]
  rfl
set_option maxRecDepth 100000 in
theorem nL_ext {s : St} (q : List Int) (k : Nat) (h : (nL s k).2 = false) : nL (ap q s) k = ap q (nL s k) ∧ s.2 = false := by
  induction k with
  | zero => exact ⟨rfl, h⟩
  | succ k ih =>
    have h1 : (nx 1 (nL s k)).2 = false := h
    obtain ⟨e1, _, e3⟩ := nx_ext q h1
    obtain ⟨i1, i2⟩ := ih e3
    refine ⟨?_, i2⟩
    show nx 1 (nL (ap q s) k) = ap q (nx 1 (nL s k))
    rw [i1, e1]
set_option maxRecDepth 100000 in
theorem bL_ext {s : St} (q : List Int) (k : Nat) (h : (bL s k).2 = false) : bL (ap q s) k = ap q (bL s k) ∧ s.2 = false := by
  induction k with
  | zero => exact ⟨rfl, h⟩
  | succ k ih =>
    have h1 : (nx (nB 1 (bL s k)).toNat (nx 1 (bL s k))).2 = false := h
    obtain ⟨e1, _, e3⟩ := nx_ext q h1
    obtain ⟨f1, _, f3⟩ := nx_ext q e3
    obtain ⟨i1, i2⟩ := ih f3
    refine ⟨?_, i2⟩
    show nx (nB 1 (bL (ap q s) k)).toNat (nx 1 (bL (ap q s) k)) = ap q (nx (nB 1 (bL s k)).toNat (nx 1 (bL s k)))
    rw [i1, nB_ext q e3, f1, e1]
set_option maxRecDepth 100000 in
theorem mS_ext {s : St} (q : List Int) (h : (mS s).2 = false) : mS (ap q s) = ap q (mS s) := by
  have hK : ∀ h9 : (nx 1 s).2 = false, nB 1 (ap q s) = nB 1 s := fun h9 => nB_ext q h9
  by_cases k1 : nB 1 s = 1
  · rw [mS, if_pos k1] at h
    obtain ⟨a1, a2⟩ := bL_ext q _ h
    obtain ⟨b1, _, b3⟩ := nx_ext q a2
    obtain ⟨c1, _, c3⟩ := nx_ext q (show (nx 3 (nx 1 (nx 1 (nx 1 (nx 1 s))))).2 = false from b3)
    obtain ⟨d1, _, d3⟩ := nx_ext q c3
    obtain ⟨e1, _, e3⟩ := nx_ext q d3
    obtain ⟨f1, _, f3⟩ := nx_ext q e3
    obtain ⟨g1, _, g3⟩ := nx_ext q f3
    have hS : bS3 (nx 1 (nx 1 (nx 1 (ap q s)))) = ap q (bS3 (nx 1 (nx 1 (nx 1 s)))) := by
      show nx 3 (nx 1 (nx 1 (nx 1 (nx 1 (ap q s))))) = _
      rw [g1, f1, e1, d1, c1]
      rfl
    have hN : bN (nx 1 (nx 1 (nx 1 (ap q s)))) = bN (nx 1 (nx 1 (nx 1 s))) := by
      show (nB 1 (bS3 _)).toNat = (nB 1 (bS3 _)).toNat
      rw [hS, nB_ext q a2]
    rw [mS, mS, if_pos k1, if_pos ((hK f3).trans k1), hS, hN, b1, a1]
  · by_cases k2 : nB 1 s = 2
    · rw [mS, if_neg k1, if_pos k2] at h
      obtain ⟨a1, a2⟩ := dgS_ext q h
      obtain ⟨b1, b3⟩ := dgS_ext q a2
      obtain ⟨c1, _, c3⟩ := nx_ext q b3
      obtain ⟨d1, _, d3⟩ := nx_ext q c3
      obtain ⟨e1, _, e3⟩ := nx_ext q d3
      obtain ⟨f1, _, f3⟩ := nx_ext q e3
      obtain ⟨g1, _, g3⟩ := nx_ext q f3
      rw [mS, mS, if_neg k1, if_pos k2, hK f3, if_neg k1, if_pos k2, g1, f1, e1, d1, c1, b1, a1]
    · by_cases k3 : nB 1 s = 3
      · rw [mS, if_neg k1, if_neg k2, if_pos k3] at h
        obtain ⟨b1, _, b3⟩ := nx_ext q h
        obtain ⟨c1, _, c3⟩ := nx_ext q b3
        obtain ⟨d1, _, d3⟩ := nx_ext q c3
        obtain ⟨e1, _, e3⟩ := nx_ext q d3
        obtain ⟨f1, _, f3⟩ := nx_ext q e3
        obtain ⟨g1, _, g3⟩ := nx_ext q f3
        rw [mS, mS, if_neg k1, if_neg k2, if_pos k3, hK f3, if_neg k1, if_neg k2, if_pos k3, g1, f1, e1, d1, c1, b1]
      · by_cases k4 : nB 1 s = 4
        · rw [mS, if_neg k1, if_neg k2, if_neg k3, if_pos k4] at h
          obtain ⟨a1, a2⟩ := nL_ext q _ h
          obtain ⟨b1, _, b3⟩ := nx_ext q a2
          obtain ⟨x1, x2⟩ := dgS_ext q (show (dgS (dgS (nx 3 (nx 1 (nx 1 (nx 1 (nx 1 s))))))).2 = false from b3)
          obtain ⟨y1, y2⟩ := dgS_ext q x2
          obtain ⟨c1, _, c3⟩ := nx_ext q y2
          obtain ⟨d1, _, d3⟩ := nx_ext q c3
          obtain ⟨e1, _, e3⟩ := nx_ext q d3
          obtain ⟨f1, _, f3⟩ := nx_ext q e3
          obtain ⟨g1, _, g3⟩ := nx_ext q f3
          have hS : hS4 (nx 1 (nx 1 (nx 1 (ap q s)))) = ap q (hS4 (nx 1 (nx 1 (nx 1 s)))) := by
            show dgS (dgS (nx 3 (nx 1 (nx 1 (nx 1 (nx 1 (ap q s))))))) = _
            rw [g1, f1, e1, d1, c1, y1, x1]
            rfl
          have hN : cN (nx 1 (nx 1 (nx 1 (ap q s)))) = cN (nx 1 (nx 1 (nx 1 s))) := by
            show (nB 1 (hS4 _)).toNat = (nB 1 (hS4 _)).toNat
            rw [hS, nB_ext q a2]
          rw [mS, mS, if_neg k1, if_neg k2, if_neg k3, if_pos k4, hK f3, if_neg k1, if_neg k2, if_neg k3, if_pos k4, hS, hN, b1, a1]
        · rw [mS, if_neg k1, if_neg k2, if_neg k3, if_neg k4] at h
          obtain ⟨b1, _, b3⟩ := nx_ext q h
          obtain ⟨c1, _, c3⟩ := nx_ext q b3
          obtain ⟨d1, _, d3⟩ := nx_ext q c3
          obtain ⟨e1, _, e3⟩ := nx_ext q d3
          rw [mS, mS, if_neg k1, if_neg k2, if_neg k3, if_neg k4, hK d3, if_neg k1, if_neg k2, if_neg k3, if_neg k4, e1, d1, c1, b1]
set_option maxRecDepth 100000 in
/-- What is torn is too short. -/
theorem mS_torn {p q : List Int} (hq : q ≠ []) (h : mS (p ++ q, false) = ([], false)) : (mS (p, false)).2 = true := by
  cases hs : (mS (p, false)).2 with
  | true => rfl
  | false =>
    have e := mS_ext (s := (p, false)) q hs
    have e' : mS (ap q (p, false)) = ([], false) := h
    rw [e'] at e
    have e2 : [] = (mS (p, false)).1 ++ q := congrArg Prod.fst e
    exact absurd (List.append_eq_nil_iff.1 e2.symm).2 hq
end Go.Proofs.Ythijfhbmkpfnkaa
