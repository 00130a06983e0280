/- What Decode gives of a message's bytes, and of these with a byte more. -/
import Derived.Test.YthpocgndgphedaaRecoverOddM42
import Derived.Test.YthpocgndgphedaaRecoverOddM24
import Derived.Test.YthpocgndgphedaaCheckAny
import Derived.Test.YthpocgndgphedaaRecoverOddM0
import Derived.Test.YthpocgndgphedaaRecoverOddM6
namespace Go.Proofs.Ythpocgndgphedaa
open Go.RowKit

set_option maxRecDepth 100000 in
theorem tk_app {n : Nat} {t : List Int} (r : List Int) (h : t.length = n) : tT n (t ++ r, false) = t ∧ nx n (t ++ r, false) = (r, false) := by
  obtain ⟨h1, h2, h3⟩ := tk_ok (n := n) (l := t ++ r) (by simp; omega)
  refine ⟨h1.trans ?_, ?_⟩
  · subst h; simp
  · show (tkL n (t ++ r) false, tkS n (t ++ r) false) = (r, false)
    rw [h2, h3]
    subst h
    simp
set_option maxRecDepth 100000 in
theorem nB_one (a : Int) (r : List Int) : nB 1 (a :: r, false) = a ∧ nx 1 (a :: r, false) = (r, false) := by
  obtain ⟨h1, h2⟩ := tk_app (n := 1) (t := [a]) r rfl
  refine ⟨?_, h2⟩
  show numB (tT 1 ([a] ++ r, false)) = a
  rw [h1]
  simp [numB]
set_option maxRecDepth 100000 in
theorem nB_three (n : Int) (r : List Int) : nB 3 (rd3 n ++ r, false) = n ∧ nx 3 (rd3 n ++ r, false) = (r, false) := by
  obtain ⟨h1, h2⟩ := tk_app (n := 3) (t := rd3 n) r rfl
  refine ⟨?_, h2⟩
  show numB (tT 3 (rd3 n ++ r, false)) = n
  rw [h1]
  simp [numB, rd3]
  omega
set_option maxRecDepth 100000 in
theorem flatB_appP (l m : List Part) : flatB (l ++ m) = flatB l ++ flatB m := by
  induction l with
  | nil => simp [flatB]
  | cons x l ih => simp [flatB, ih]
set_option maxRecDepth 100000 in
theorem dg_run (qs : List Part) (r : List Int) (h : ∀ p ∈ qs, p.bs.length = 32) (k : Nat) (hk : k ≤ qs.length) : dgL (flatB qs ++ r) false k = (flatB (qs.drop k) ++ r, false) ∧ dgD (flatB qs ++ r) false k = (qs.take k).map (·.bs) := by
  induction k with
  | zero => exact ⟨rfl, rfl⟩
  | succ k ih =>
    obtain ⟨h1, h2⟩ := ih (by omega)
    have hd : qs.drop k = qs[k] :: qs.drop (k + 1) := List.drop_eq_getElem_cons (by omega)
    have h32 : (qs[k]).bs.length = 32 := h _ (List.getElem_mem (by omega))
    obtain ⟨t1, t2⟩ := tk_app (n := 32) (t := (qs[k]).bs) (flatB (qs.drop (k + 1)) ++ r) h32
    have he : flatB (qs.drop k) ++ r = (qs[k]).bs ++ (flatB (qs.drop (k + 1)) ++ r) := by rw [hd, flatB, List.append_assoc]
    constructor
    · show (tkL 32 (dgL (flatB qs ++ r) false k).1 (dgL (flatB qs ++ r) false k).2, tkS 32 (dgL (flatB qs ++ r) false k).1 (dgL (flatB qs ++ r) false k).2) = _
      rw [h1]
      show (tkL 32 (flatB (qs.drop k) ++ r) false, tkS 32 (flatB (qs.drop k) ++ r) false) = _
      rw [he]
      exact t2
    · show dgD (flatB qs ++ r) false k ++ [tkT 32 (dgL (flatB qs ++ r) false k).1 (dgL (flatB qs ++ r) false k).2] = _
      rw [h1, h2]
      show _ ++ [tkT 32 (flatB (qs.drop k) ++ r) false] = _
      rw [he]
      have t1' : tkT 32 ((qs[k]).bs ++ (flatB (qs.drop (k + 1)) ++ r)) false = (qs[k]).bs := t1
      rw [t1', List.take_succ_eq_append_getElem (by omega), List.map_append]
      rfl
set_option maxRecDepth 100000 in
theorem dgs_back (qs : List Part) (r : List Int) (h : ∀ p ∈ qs, p.bs.length = 32) : dgs (digsB qs ++ r, false) = qs.map (·.bs) ∧ dgS (digsB qs ++ r, false) = (r, false) := by
  have hc : digsB qs ++ r = (qs.length : Int) :: (flatB qs ++ r) := rfl
  obtain ⟨n1, n2⟩ := nB_one (qs.length : Int) (flatB qs ++ r)
  have hN : dN ((qs.length : Int) :: (flatB qs ++ r)) false = qs.length := by
    show (nB 1 ((qs.length : Int) :: (flatB qs ++ r), false)).toNat = _
    rw [n1]; omega
  obtain ⟨d1, d2⟩ := dg_run qs r h qs.length (Nat.le_refl _)
  rw [hc]
  constructor
  · show dgD (nx 1 ((qs.length : Int) :: (flatB qs ++ r), false)).1 (nx 1 ((qs.length : Int) :: (flatB qs ++ r), false)).2 (dN ((qs.length : Int) :: (flatB qs ++ r)) false) = _
    rw [n2, hN, d2, List.take_of_length_le (Nat.le_refl _)]
  · show dgL (nx 1 ((qs.length : Int) :: (flatB qs ++ r), false)).1 (nx 1 ((qs.length : Int) :: (flatB qs ++ r), false)).2 (dN ((qs.length : Int) :: (flatB qs ++ r)) false) = _
    rw [n2, hN, d1, List.drop_of_length_le (Nat.le_refl _)]
    rfl
set_option maxRecDepth 100000 in
theorem nV_run (vl r : List Int) (k : Nat) (hk : k ≤ vl.length) : nL (vl ++ r, false) k = (vl.drop k ++ r, false) ∧ nV (vl ++ r, false) k = vl.take k := by
  induction k with
  | zero => exact ⟨rfl, rfl⟩
  | succ k ih =>
    obtain ⟨h1, h2⟩ := ih (by omega)
    have hd : vl.drop k = vl[k] :: vl.drop (k + 1) := List.drop_eq_getElem_cons (by omega)
    obtain ⟨t1, t2⟩ := nB_one (vl[k]) (vl.drop (k + 1) ++ r)
    constructor
    · show nx 1 (nL (vl ++ r, false) k) = _
      rw [h1, hd]
      exact t2
    · show nV (vl ++ r, false) k ++ [nB 1 (nL (vl ++ r, false) k)] = _
      rw [h1, h2, hd, List.take_succ_eq_append_getElem (by omega)]
      show _ ++ [nB 1 (vl[k] :: (vl.drop (k + 1) ++ r), false)] = _
      rw [t1]
set_option maxRecDepth 100000 in
theorem bstr_tb (s : ByteArray) : bstr (tb s) = s := by
  apply ba_ext
  rw [ByteArray.toList_eq, ByteArray.toList_eq, bstr_data, tb]
  rw [List.map_map]
  conv => rhs; rw [← List.map_id s.data.toList]
  refine List.map_congr_left fun x hx => ?_
  simp
set_option maxRecDepth 100000 in
theorem bT_run (ss : List ByteArray) (r : List Int) (k : Nat) (hk : k ≤ ss.length) : bL (txsB ss ++ r, false) k = (txsB (ss.drop k) ++ r, false) ∧ bT (txsB ss ++ r, false) k = ss.take k := by
  induction k with
  | zero => exact ⟨rfl, rfl⟩
  | succ k ih =>
    obtain ⟨h1, h2⟩ := ih (by omega)
    have hd : ss.drop k = ss[k] :: ss.drop (k + 1) := List.drop_eq_getElem_cons (by omega)
    have he : txsB (ss.drop k) ++ r = ((ss[k]).size : Int) :: (tb (ss[k]) ++ (txsB (ss.drop (k + 1)) ++ r)) := by rw [hd]; simp [txsB]
    obtain ⟨t1, t2⟩ := nB_one ((ss[k]).size : Int) (tb (ss[k]) ++ (txsB (ss.drop (k + 1)) ++ r))
    obtain ⟨u1, u2⟩ := tk_app (n := (ss[k]).size) (t := tb (ss[k])) (txsB (ss.drop (k + 1)) ++ r) (tb_length _)
    constructor
    · show nx (nB 1 (bL (txsB ss ++ r, false) k)).toNat (nx 1 (bL (txsB ss ++ r, false) k)) = _
      rw [h1, he, t1, t2]
      exact u2
    · show bT (txsB ss ++ r, false) k ++ [bstr (tT (nB 1 (bL (txsB ss ++ r, false) k)).toNat (nx 1 (bL (txsB ss ++ r, false) k)))] = _
      rw [h1, h2, he, t1, t2]
      show _ ++ [bstr (tT (ss[k]).size (tb (ss[k]) ++ (txsB (ss.drop (k + 1)) ++ r), false))] = _
      rw [u1, bstr_tb, List.take_succ_eq_append_getElem (by omega)]
set_option maxRecDepth 100000 in
theorem head_back (au rd : Int) (bl pl : List Part) (r : List Int) (hb : ∀ p ∈ bl, p.bs.length = 32) (hp : ∀ p ∈ pl, p.bs.length = 32) :
    nB 1 (headB au rd bl pl ++ r, false) = au ∧ nB 3 (nx 1 (headB au rd bl pl ++ r, false)) = rd ∧ dgs (nx 3 (nx 1 (headB au rd bl pl ++ r, false))) = bl.map (·.bs) ∧ dgs (dgS (nx 3 (nx 1 (headB au rd bl pl ++ r, false)))) = pl.map (·.bs) ∧ dgS (dgS (nx 3 (nx 1 (headB au rd bl pl ++ r, false)))) = (r, false) := by
  have e : headB au rd bl pl ++ r = au :: (rd3 rd ++ (digsB bl ++ (digsB pl ++ r))) := by simp [headB]
  obtain ⟨a1, a2⟩ := nB_one au (rd3 rd ++ (digsB bl ++ (digsB pl ++ r)))
  obtain ⟨b1, b2⟩ := nB_three rd (digsB bl ++ (digsB pl ++ r))
  obtain ⟨c1, c2⟩ := dgs_back bl (digsB pl ++ r) hb
  obtain ⟨d1, d2⟩ := dgs_back pl r hp
  rw [e, a1, a2, b1, b2, c1, c2, d1, d2]
  exact ⟨rfl, rfl, rfl, rfl, rfl⟩
set_option maxRecDepth 100000 in
theorem len_nil {α : Type} {l : List α} {n : Nat} (h : n = l.length) (h0 : n = 0) : l = [] := List.eq_nil_of_length_eq_zero (by omega)
set_option maxRecDepth 100000 in
set_option maxHeartbeats 1000000 in
/-- What is encoded is read as it was, and what is behind it is left. -/
theorem parse_back {w : World} (x : MV) (r : List Int) (hM : MAt w x) (hc : x.car = 0) (he : msgEmpty (strip x.m) = true) : pM (x.bytes ++ r, false) = x.c ∧ mS (x.bytes ++ r, false) = (r, false) := by
  have hb : x.bytes ++ r = x.m.ki :: (x.m.fr :: (x.m.tt :: (bodyB x.m x.ss x.bl x.pl x.cbl x.cpl x.ds x.vl ++ r))) := by simp [MV.bytes, msgB]
  rw [hb]
  obtain ⟨a1, a2⟩ := nB_one x.m.ki (x.m.fr :: (x.m.tt :: (bodyB x.m x.ss x.bl x.pl x.cbl x.cpl x.ds x.vl ++ r)))
  obtain ⟨b1, b2⟩ := nB_one x.m.fr (x.m.tt :: (bodyB x.m x.ss x.bl x.pl x.cbl x.cpl x.ds x.vl ++ r))
  obtain ⟨c1, c2⟩ := nB_one x.m.tt (bodyB x.m x.ss x.bl x.pl x.cbl x.cpl x.ds x.vl ++ r)
  have hc' : carriedF x.m x.ss x.bl x.pl x.cbl x.cpl x.vl = 0 := hc
  have H := hM.at'
  rcases carriedF_kind hc' with k | k | k | k | k
  · rw [carried1 k] at hc'
    rw [bodyB1 k] at a1 a2 b1 b2 c1 c2 ⊢
    simp [strip, msgEmpty, k] at he
    obtain ⟨h1, h2, h3, h4, h5⟩ := he
    have l1 := len_nil H.e2 h1.2.2.1
    have l2 := len_nil H.e3 h1.2.2.2
    have l3 := len_nil hM.dn h2.2.2
    have l4 := len_nil H.e4 h3.2.2.1
    have l5 := len_nil H.e5 h3.2.2.2
    have l6 := len_nil H.e6 h4
    have e : batchB x.m.bau x.m.bnu x.ss ++ r = x.m.bau :: (rd3 x.m.bnu ++ ((x.ss.length : Int) :: (txsB x.ss ++ r))) := by simp [batchB]
    obtain ⟨d1, d2⟩ := nB_one x.m.bau (rd3 x.m.bnu ++ ((x.ss.length : Int) :: (txsB x.ss ++ r)))
    obtain ⟨f1, f2⟩ := nB_three x.m.bnu ((x.ss.length : Int) :: (txsB x.ss ++ r))
    obtain ⟨g1, g2⟩ := nB_one (x.ss.length : Int) (txsB x.ss ++ r)
    obtain ⟨i1, i2⟩ := bT_run x.ss r x.ss.length (Nat.le_refl _)
    have hN : bN (x.m.bau :: (rd3 x.m.bnu ++ ((x.ss.length : Int) :: (txsB x.ss ++ r))), false) = x.ss.length := by
      show (nB 1 (nx 3 (nx 1 _))).toNat = _
      rw [d2, f2, g1]; omega
    have hS : bS3 (x.m.bau :: (rd3 x.m.bnu ++ ((x.ss.length : Int) :: (txsB x.ss ++ r))), false) = ((x.ss.length : Int) :: (txsB x.ss ++ r), false) := by
      show nx 3 (nx 1 _) = _
      rw [d2, f2]
    rw [e] at a1 a2 b1 b2 c1 c2 ⊢
    rw [pM, mS, a1, if_pos k, if_pos k, a2, b1, b2, c1, c2, d1, d2, f1, hS, hN, g2, i1, i2, List.take_of_length_le (Nat.le_refl _), List.drop_of_length_le (Nat.le_refl _)]
    refine ⟨?_, rfl⟩
    simp only [MV.c, l1, l2, l3, l4, l5, l6, h1, h2, h3, h5, List.map_nil]
  · rw [carried2 k] at hc'
    rw [bodyB2 k] at a1 a2 b1 b2 c1 c2 ⊢
    obtain ⟨_, _, _, _, g5, g6⟩ := headerF_ok hc'
    simp [strip, msgEmpty, k] at he
    obtain ⟨h1, h2, h3, h4, h5⟩ := he
    have l1 := len_nil H.e1 h1.2.2
    have l3 := len_nil hM.dn h2.2.2
    have l4 := len_nil H.e4 h3.2.2.1
    have l5 := len_nil H.e5 h3.2.2.2
    have l6 := len_nil H.e6 h4
    obtain ⟨d1, d2, d3, d4, d5⟩ := head_back x.m.hau x.m.hrd x.bl x.pl r g5 g6
    have k1 : ¬ x.m.ki = 1 := by omega
    rw [pM, mS, a1, if_neg k1, if_neg k1, if_pos k, if_pos k, a2, b1, b2, c1, c2, d1, d2, d3, d4, d5]
    refine ⟨?_, rfl⟩
    simp only [MV.c, l1, l3, l4, l5, l6, h1, h2, h3, h5, List.map_nil]
  · rw [carried3 k] at hc'
    rw [bodyB3 k] at a1 a2 b1 b2 c1 c2 ⊢
    obtain ⟨_, _, g3⟩ := slotF_ok hc'
    simp [strip, msgEmpty, k] at he
    obtain ⟨h1, h2, h3, h4, h5⟩ := he
    have l1 := len_nil H.e1 h1.2.2
    have l2 := len_nil H.e2 h2.2.2.1
    have l3 := len_nil H.e3 h2.2.2.2
    have l4 := len_nil H.e4 h3.2.2.1
    have l5 := len_nil H.e5 h3.2.2.2
    have l6 := len_nil H.e6 h4
    have e : [x.m.sau] ++ rd3 x.m.srd ++ x.ds ++ r = x.m.sau :: (rd3 x.m.srd ++ (x.ds ++ r)) := by simp
    obtain ⟨d1, d2⟩ := nB_one x.m.sau (rd3 x.m.srd ++ (x.ds ++ r))
    obtain ⟨f1, f2⟩ := nB_three x.m.srd (x.ds ++ r)
    obtain ⟨i1, i2⟩ := tk_app (n := 32) (t := x.ds) r (by have := hM.dn; omega)
    rw [e] at a1 a2 b1 b2 c1 c2 ⊢
    have k1 : ¬ x.m.ki = 1 := by omega
    have k2 : ¬ x.m.ki = 2 := by omega
    rw [pM, mS, a1, if_neg k1, if_neg k1, if_neg k2, if_neg k2, if_pos k, if_pos k, a2, b1, b2, c1, c2, d1, d2, f1, f2, i1, i2]
    refine ⟨?_, rfl⟩
    simp only [MV.c, l1, l2, l3, l4, l5, l6, h1, h2, h3, h5, List.map_nil]
  · rw [carried4 k] at hc'
    rw [bodyB4 k] at a1 a2 b1 b2 c1 c2 ⊢
    obtain ⟨hh, _, _, _⟩ := certF_ok hc'
    obtain ⟨_, _, _, _, g5, g6⟩ := headerF_ok hh
    simp [strip, msgEmpty, k] at he
    obtain ⟨h1, h2, h3, h5⟩ := he
    have l1 := len_nil H.e1 h1.2.2
    have l2 := len_nil H.e2 h2.2.2.1
    have l3 := len_nil H.e3 h2.2.2.2
    have l4 := len_nil hM.dn h3.2.2
    have e : certB x.m.cau x.m.crd x.cbl x.cpl x.vl ++ r = headB x.m.cau x.m.crd x.cbl x.cpl ++ ((x.vl.length : Int) :: (x.vl ++ r)) := by simp [certB]
    obtain ⟨d1, d2, d3, d4, d5⟩ := head_back x.m.cau x.m.crd x.cbl x.cpl ((x.vl.length : Int) :: (x.vl ++ r)) g5 g6
    obtain ⟨n1, n2⟩ := nB_one (x.vl.length : Int) (x.vl ++ r)
    obtain ⟨i1, i2⟩ := nV_run x.vl r x.vl.length (Nat.le_refl _)
    have hS : hS4 (headB x.m.cau x.m.crd x.cbl x.cpl ++ ((x.vl.length : Int) :: (x.vl ++ r)), false) = ((x.vl.length : Int) :: (x.vl ++ r), false) := d5
    have hN : cN (headB x.m.cau x.m.crd x.cbl x.cpl ++ ((x.vl.length : Int) :: (x.vl ++ r)), false) = x.vl.length := by
      show (nB 1 (hS4 _)).toNat = _
      rw [hS, n1]; omega
    rw [e] at a1 a2 b1 b2 c1 c2 ⊢
    have k1 : ¬ x.m.ki = 1 := by omega
    have k2 : ¬ x.m.ki = 2 := by omega
    have k3 : ¬ x.m.ki = 3 := by omega
    rw [pM, mS, a1, if_neg k1, if_neg k1, if_neg k2, if_neg k2, if_neg k3, if_neg k3, if_pos k, if_pos k, a2, b1, b2, c1, c2, d1, d2, d3, d4, hS, hN, n2, i1, i2, List.take_of_length_le (Nat.le_refl _), List.drop_of_length_le (Nat.le_refl _)]
    refine ⟨?_, rfl⟩
    simp only [MV.c, l1, l2, l3, l4, h1, h2, h3, h5, List.map_nil]
  · rw [bodyB5 k] at a1 a2 b1 b2 c1 c2 ⊢
    simp [strip, msgEmpty, k] at he
    obtain ⟨h1, h2, h3, h4, h5⟩ := he
    have l1 := len_nil H.e1 h1.2.2
    have l2 := len_nil H.e2 h2.2.2.1
    have l3 := len_nil H.e3 h2.2.2.2
    have l0 := len_nil hM.dn h3.2.2
    have l4 := len_nil H.e4 h4.2.2.1
    have l5 := len_nil H.e5 h4.2.2.2
    have l6 := len_nil H.e6 h5
    obtain ⟨f1, f2⟩ := nB_three x.m.ro r
    have k1 : ¬ x.m.ki = 1 := by omega
    have k2 : ¬ x.m.ki = 2 := by omega
    have k3 : ¬ x.m.ki = 3 := by omega
    have k4 : ¬ x.m.ki = 4 := by omega
    rw [pM, mS, a1, if_neg k1, if_neg k1, if_neg k2, if_neg k2, if_neg k3, if_neg k3, if_neg k4, if_neg k4, a2, b1, b2, c1, c2, f1, f2]
    refine ⟨?_, rfl⟩
    simp only [MV.c, l0, l1, l2, l3, l4, l5, l6, h1, h2, h3, h4, List.map_nil]
end Go.Proofs.Ythpocgndgphedaa

namespace Go.Proofs.Ythpocgndgphedaa
open Go.RowKit

/-- The same with bytes behind. -/
def ap (q : List Int) (s : St) : St := (s.1 ++ q, s.2)
set_option maxRecDepth 100000 in
theorem nx_ext {n : Nat} {s : St} (q : List Int) (h : (nx n s).2 = false) : nx n (ap q s) = ap q (nx n s) ∧ tT n (ap q s) = tT n s ∧ s.2 = false := by
  obtain ⟨l, sh⟩ := s
  have h' : tkS n l sh = false := h
  simp only [tkS, Bool.or_eq_false_iff, decide_eq_false_iff_not] at h'
  obtain ⟨rfl, hl⟩ := h'
  obtain ⟨a1, a2, a3⟩ := tk_ok (n := n) (l := l) (by omega)
  obtain ⟨b1, b2, b3⟩ := tk_ok (n := n) (l := l ++ q) (by simp; omega)
  refine ⟨?_, ?_, rfl⟩
  · show (tkL n (l ++ q) false, tkS n (l ++ q) false) = (tkL n l false ++ q, tkS n l false)
    rw [a2, a3, b2, b3, List.drop_append_of_le_length (by omega)]
  · show tkT n (l ++ q) false = tkT n l false
    rw [a1, b1, List.take_append_of_le_length (by omega)]
set_option maxRecDepth 100000 in
theorem nB_ext {n : Nat} {s : St} (q : List Int) (h : (nx n s).2 = false) : nB n (ap q s) = nB n s := by
  show numB (tT n (ap q s)) = numB (tT n s)
  rw [(nx_ext q h).2.1]
set_option maxRecDepth 100000 in
theorem dg_ext {s : St} (q : List Int) (k : Nat) (h : (dgL s.1 s.2 k).2 = false) : dgL (ap q s).1 (ap q s).2 k = ap q (dgL s.1 s.2 k) ∧ s.2 = false := by
  induction k with
  | zero => exact ⟨rfl, h⟩
  | succ k ih =>
    have h1 : (nx 32 (dgL s.1 s.2 k)).2 = false := h
    obtain ⟨e1, _, e3⟩ := nx_ext q h1
    obtain ⟨i1, i2⟩ := ih e3
    refine ⟨?_, i2⟩
    show nx 32 (dgL (ap q s).1 (ap q s).2 k) = ap q (nx 32 (dgL s.1 s.2 k))
    rw [i1, e1]
set_option maxRecDepth 100000 in
theorem dgS_ext {s : St} (q : List Int) (h : (dgS s).2 = false) : dgS (ap q s) = ap q (dgS s) ∧ s.2 = false := by
  obtain ⟨d1, d2⟩ := dg_ext (s := nx 1 s) q (dN s.1 s.2) h
  obtain ⟨e1, _, e3⟩ := nx_ext q d2
  refine ⟨?_, e3⟩
  have hN : dN (ap q s).1 (ap q s).2 = dN s.1 s.2 := by
    show (nB 1 (ap q s)).toNat = (nB 1 s).toNat
    rw [nB_ext q d2]
  show dgL (nx 1 (ap q s)).1 (nx 1 (ap q s)).2 (dN (ap q s).1 (ap q s).2) = _
  rw [hN, e1, d1]
  rfl
set_option maxRecDepth 100000 in
theorem nL_ext {s : St} (q : List Int) (k : Nat) (h : (nL s k).2 = false) : nL (ap q s) k = ap q (nL s k) ∧ s.2 = false := by
  induction k with
  | zero => exact ⟨rfl, h⟩
  | succ k ih =>
    have h1 : (nx 1 (nL s k)).2 = false := h
    obtain ⟨e1, _, e3⟩ := nx_ext q h1
    obtain ⟨i1, i2⟩ := ih e3
    refine ⟨?_, i2⟩
    show nx 1 (nL (ap q s) k) = ap q (nx 1 (nL s k))
    rw [i1, e1]
set_option maxRecDepth 100000 in
theorem bL_ext {s : St} (q : List Int) (k : Nat) (h : (bL s k).2 = false) : bL (ap q s) k = ap q (bL s k) ∧ s.2 = false := by
  induction k with
  | zero => exact ⟨rfl, h⟩
  | succ k ih =>
    have h1 : (nx (nB 1 (bL s k)).toNat (nx 1 (bL s k))).2 = false := h
    obtain ⟨e1, _, e3⟩ := nx_ext q h1
    obtain ⟨f1, _, f3⟩ := nx_ext q e3
    obtain ⟨i1, i2⟩ := ih f3
    refine ⟨?_, i2⟩
    show nx (nB 1 (bL (ap q s) k)).toNat (nx 1 (bL (ap q s) k)) = ap q (nx (nB 1 (bL s k)).toNat (nx 1 (bL s k)))
    rw [i1, nB_ext q e3, f1, e1]
set_option maxRecDepth 100000 in
theorem mS_ext {s : St} (q : List Int) (h : (mS s).2 = false) : mS (ap q s) = ap q (mS s) := by
  have hK : ∀ h9 : (nx 1 s).2 = false, nB 1 (ap q s) = nB 1 s := fun h9 => nB_ext q h9
  by_cases k1 : nB 1 s = 1
  · rw [mS, if_pos k1] at h
    obtain ⟨a1, a2⟩ := bL_ext q _ h
    obtain ⟨b1, _, b3⟩ := nx_ext q a2
    obtain ⟨c1, _, c3⟩ := nx_ext q (show (nx 3 (nx 1 (nx 1 (nx 1 (nx 1 s))))).2 = false from b3)
    obtain ⟨d1, _, d3⟩ := nx_ext q c3
    obtain ⟨e1, _, e3⟩ := nx_ext q d3
    obtain ⟨f1, _, f3⟩ := nx_ext q e3
    obtain ⟨g1, _, g3⟩ := nx_ext q f3
    have hS : bS3 (nx 1 (nx 1 (nx 1 (ap q s)))) = ap q (bS3 (nx 1 (nx 1 (nx 1 s)))) := by
      show nx 3 (nx 1 (nx 1 (nx 1 (nx 1 (ap q s))))) = _
      rw [g1, f1, e1, d1, c1]
      rfl
    have hN : bN (nx 1 (nx 1 (nx 1 (ap q s)))) = bN (nx 1 (nx 1 (nx 1 s))) := by
      show (nB 1 (bS3 _)).toNat = (nB 1 (bS3 _)).toNat
      rw [hS, nB_ext q a2]
    rw [mS, mS, if_pos k1, if_pos ((hK f3).trans k1), hS, hN, b1, a1]
  · by_cases k2 : nB 1 s = 2
    · rw [mS, if_neg k1, if_pos k2] at h
      obtain ⟨a1, a2⟩ := dgS_ext q h
      obtain ⟨b1, b3⟩ := dgS_ext q a2
      obtain ⟨c1, _, c3⟩ := nx_ext q b3
      obtain ⟨d1, _, d3⟩ := nx_ext q c3
      obtain ⟨e1, _, e3⟩ := nx_ext q d3
      obtain ⟨f1, _, f3⟩ := nx_ext q e3
      obtain ⟨g1, _, g3⟩ := nx_ext q f3
      rw [mS, mS, if_neg k1, if_pos k2, hK f3, if_neg k1, if_pos k2, g1, f1, e1, d1, c1, b1, a1]
    · by_cases k3 : nB 1 s = 3
      · rw [mS, if_neg k1, if_neg k2, if_pos k3] at h
        obtain ⟨b1, _, b3⟩ := nx_ext q h
        obtain ⟨c1, _, c3⟩ := nx_ext q b3
        obtain ⟨d1, _, d3⟩ := nx_ext q c3
        obtain ⟨e1, _, e3⟩ := nx_ext q d3
        obtain ⟨f1, _, f3⟩ := nx_ext q e3
        obtain ⟨g1, _, g3⟩ := nx_ext q f3
        rw [mS, mS, if_neg k1, if_neg k2, if_pos k3, hK f3, if_neg k1, if_neg k2, if_pos k3, g1, f1, e1, d1, c1, b1]
      · by_cases k4 : nB 1 s = 4
        · rw [mS, if_neg k1, if_neg k2, if_neg k3, if_pos k4] at h
          obtain ⟨a1, a2⟩ := nL_ext q _ h
          obtain ⟨b1, _, b3⟩ := nx_ext q a2
          obtain ⟨x1, x2⟩ := dgS_ext q (show (dgS (dgS (nx 3 (nx 1 (nx 1 (nx 1 (nx 1 s))))))).2 = false from b3)
          obtain ⟨y1, y2⟩ := dgS_ext q x2
          obtain ⟨c1, _, c3⟩ := nx_ext q y2
          obtain ⟨d1, _, d3⟩ := nx_ext q c3
          obtain ⟨e1, _, e3⟩ := nx_ext q d3
          obtain ⟨f1, _, f3⟩ := nx_ext q e3
          obtain ⟨g1, _, g3⟩ := nx_ext q f3
          have hS : hS4 (nx 1 (nx 1 (nx 1 (ap q s)))) = ap q (hS4 (nx 1 (nx 1 (nx 1 s)))) := by
            show dgS (dgS (nx 3 (nx 1 (nx 1 (nx 1 (nx 1 (ap q s))))))) = _
            rw [g1, f1, e1, d1, c1, y1, x1]
            rfl
          have hN : cN (nx 1 (nx 1 (nx 1 (ap q s)))) = cN (nx 1 (nx 1 (nx 1 s))) := by
            show (nB 1 (hS4 _)).toNat = (nB 1 (hS4 _)).toNat
            rw [hS, nB_ext q a2]
          rw [mS, mS, if_neg k1, if_neg k2, if_neg k3, if_pos k4, hK f3, if_neg k1, if_neg k2, if_neg k3, if_pos k4, hS, hN, b1, a1]
        · rw [mS, if_neg k1, if_neg k2, if_neg k3, if_neg k4] at h
          obtain ⟨b1, _, b3⟩ := nx_ext q h
          obtain ⟨c1, _, c3⟩ := nx_ext q b3
          obtain ⟨d1, _, d3⟩ := nx_ext q c3
          obtain ⟨e1, _, e3⟩ := nx_ext q d3
          rw [mS, mS, if_neg k1, if_neg k2, if_neg k3, if_neg k4, hK d3, if_neg k1, if_neg k2, if_neg k3, if_neg k4, e1, d1, c1, b1]
set_option maxRecDepth 100000 in
/-- What is torn is too short. -/
theorem mS_torn {p q : List Int} (hq : q ≠ []) (h : mS (p ++ q, false) = ([], false)) : (mS (p, false)).2 = true := by
  cases hs : (mS (p, false)).2 with
  | true => rfl
  | false =>
    have e := mS_ext (s := (p, false)) q hs
    have e' : mS (ap q (p, false)) = ([], false) := h
    rw [e'] at e
    have e2 : [] = (mS (p, false)).1 ++ q := congrArg Prod.fst e
    exact absurd (List.append_eq_nil_iff.1 e2.symm).2 hq
end Go.Proofs.Ythpocgndgphedaa

namespace Go.Proofs.Ythpocgndgphedaa
open Go.RowKit

set_option maxRecDepth 100000 in
theorem isKind_bool (k : Int) (r : Bool) (w : World) (h : r = decide (1 ≤ k ∧ k ≤ 5)) : Calls Try.prog 53 #[.int .i64 k] w fun e w' => e = .returned (.bool r) ∧ w = w' := by
  by_cases h1 : 1 ≤ k
  · by_cases h2 : k ≤ 5
    · obtain rfl : r = true := by simp [h, h1, h2]
      clear h
      go_enter Try.func53, Try.ntmps53
      go_wp2
      go_ret
      exact ⟨rfl, rfl⟩
    · obtain rfl : r = false := by simp [h, h2]
      clear h
      go_enter Try.func53, Try.ntmps53
      go_wp2
      go_ret
      exact ⟨rfl, rfl⟩
  · obtain rfl : r = false := by simp [h, h1]
    clear h
    go_enter Try.func53, Try.ntmps53
    go_wp2
    go_ret
    exact ⟨rfl, rfl⟩
/-- P2.10: what is told of bytes, but for what they say. -/
def readF (bs : List Int) : Int := if 4000 < bs.length then 1 else if bs = [] then 5 else if ¬ (1 ≤ bs.getD 0 0 ∧ bs.getD 0 0 ≤ 5) then 3 else if (mS (bs, false)).2 = true then 5 else if (mS (bs, false)).1 ≠ [] then 4 else 0
/-- What read gives. -/
structure ReadIs (w w' : World) (e : Ending) (bs : List Int) : Prop where
  out : (readF bs ≠ 0 ∧ e = .returned (.tuple #[.agg #[.int .i64 0, .int .i64 0, .int .i64 0, .int .i64 0, .int .i64 0, .slice none 0 0, .int .i64 0, .int .i64 0, .slice none 0 0, .slice none 0 0, .int .i64 0, .int .i64 0, .slice none 0 0, .int .i64 0, .int .i64 0, .slice none 0 0, .slice none 0 0, .slice none 0 0, .int .i64 0], .int .i64 (readF bs)]) ∨ readF bs = 0 ∧ ∃ x : MV, e = .returned (.tuple #[.agg #[.int .i64 x.m.fr, .int .i64 x.m.tt, .int .i64 x.m.ki, .int .i64 x.m.bau, .int .i64 x.m.bnu, .slice x.m.bta x.m.btn x.m.btc, .int .i64 x.m.hau, .int .i64 x.m.hrd, .slice x.m.hba x.m.hbn x.m.hbc, .slice x.m.hpa x.m.hpn x.m.hpc, .int .i64 x.m.sau, .int .i64 x.m.srd, .slice x.m.sda x.m.sdn x.m.sdc, .int .i64 x.m.cau, .int .i64 x.m.crd, .slice x.m.cba x.m.cbn x.m.cbc, .slice x.m.cpa x.m.cpn x.m.cpc, .slice x.m.cva x.m.cvn x.m.cvc, .int .i64 x.m.ro], .int .i64 0]) ∧ MAt w' x ∧ HasM (fun q => w.heap.size ≤ q) x ∧ x.c = pM (bs, false))
  below : Below w.heap.size w w'
set_option maxRecDepth 100000 in
theorem nB1_first {bs : List Int} (h : bs ≠ []) : nB 1 (bs, false) = bs.getD 0 0 := by
  cases bs with
  | nil => exact absurd rfl h
  | cons a l =>
    have e : tT 1 (a :: l, false) = [a] := (tk_ok (n := 1) (l := a :: l) (by simp)).1
    rw [nB, e]
    simp [numB]
set_option maxRecDepth 100000 in
theorem results_cell_slot {fn : Func} {p q : Tmp} {ty : TypeId} (h : fn.results = #[.cell p ty, .tmp q]) (tmps : Array Value) (w : World) (g : Nat) (t : TypeId) (cs : Array Value) (fr : Nat × Nat) (d : TypeDesc) (v : Value)
    (hp : tmps.getD p undef = .pointer (some ⟨g, 0, none⟩) ∧ tmps.getD q undef = v) (hg : w.heap[g]? = some (.cells cs t fr))
    (hu : Try.prog.underlying ty = some d) (hd : (match d with | .struct _ | .array _ _ => true | _ => false) = true) (hi : (Try.prog.info? ty).map (·.size) = some cs.size) :
    (results fn tmps).run Try.prog w = .ok (.tuple #[.agg cs, v]) w := by
  have hp' : tmps[p]?.getD undef = .pointer (some ⟨g, 0, none⟩) := by simpa using hp.1
  have hq' : tmps[q]?.getD undef = v := by simpa using hp.2
  simp [results, h, hp', hq', asAddr, run_loadVar_row w g t ty cs fr d hg hu (by cases d <;> first | exact hd | rfl) hi]
set_option maxRecDepth 100000 in
set_option maxHeartbeats 4000000 in
theorem read_any (bs : List Int) (sa : Option Addr) (n cap : Nat) (w : World) (hn : n = bs.length) (hs : SliceAt w sa cap bs) (hu : U8s bs) (hl : bs.length ≤ 140737488355328) :
    Calls Try.prog 46 #[.slice sa n cap] w fun e w' => ReadIs w w' e bs := by
  subst hn
  have hA : Below w.heap.size w (w.alloc (.cells #[.int .i64 0, .int .i64 0, .int .i64 0, .int .i64 0, .int .i64 0, .slice none 0 0, .int .i64 0, .int .i64 0, .slice none 0 0, .slice none 0 0, .int .i64 0, .int .i64 0, .slice none 0 0, .int .i64 0, .int .i64 0, .slice none 0 0, .slice none 0 0, .slice none 0 0, .int .i64 0] 47)) := (Below.refl _ _).alloc (Nat.le_refl _) _
  have q0 := heap_alloc_new w (.cells #[.int .i64 0, .int .i64 0, .int .i64 0, .int .i64 0, .int .i64 0, .slice none 0 0, .int .i64 0, .int .i64 0, .slice none 0 0, .slice none 0 0, .int .i64 0, .int .i64 0, .slice none 0 0, .int .i64 0, .int .i64 0, .slice none 0 0, .slice none 0 0, .slice none 0 0, .int .i64 0] 47)
  have hsz : w.heap.size < (w.alloc (.cells #[.int .i64 0, .int .i64 0, .int .i64 0, .int .i64 0, .int .i64 0, .slice none 0 0, .int .i64 0, .int .i64 0, .slice none 0 0, .slice none 0 0, .int .i64 0, .int .i64 0, .slice none 0 0, .int .i64 0, .int .i64 0, .slice none 0 0, .slice none 0 0, .slice none 0 0, .int .i64 0] 47)).heap.size := lt_of_heap q0
  by_cases h1 : 4000 < bs.length
  · have hF : Hid (readF bs = 1) := by show _ = _; rw [readF, if_pos h1]
    have h1I : (4000 : Int) < bs.length := by omega
    go_enter Try.func46, Try.ntmps46
    go_upto_region 2 with fail
    generalize w.alloc (.cells #[.int .i64 0, .int .i64 0, .int .i64 0, .int .i64 0, .int .i64 0, .slice none 0 0, .int .i64 0, .int .i64 0, .slice none 0 0, .slice none 0 0, .int .i64 0, .int .i64 0, .slice none 0 0, .int .i64 0, .int .i64 0, .slice none 0 0, .slice none 0 0, .slice none 0 0, .int .i64 0] 47) = W0 at hA q0 hsz ⊢
    go_wp2_with (refine wpList_store_row rfl 47 _ _ rfl w.heap.size #[.int .i64 0, .int .i64 0, .int .i64 0, .int .i64 0, .int .i64 0, .slice none 0 0, .int .i64 0, .int .i64 0, .slice none 0 0, .slice none 0 0, .int .i64 0, .int .i64 0, .slice none 0 0, .int .i64 0, .int .i64 0, .slice none 0 0, .slice none 0 0, .slice none 0 0, .int .i64 0] rfl rfl 47 _ q0 sMsg' rfl (by simp [Value.oneCell']) ?_)
    have hFc := hF.out
    refine bodyPost_ret (v := .tuple #[.agg #[.int .i64 0, .int .i64 0, .int .i64 0, .int .i64 0, .int .i64 0, .slice none 0 0, .int .i64 0, .int .i64 0, .slice none 0 0, .slice none 0 0, .int .i64 0, .int .i64 0, .slice none 0 0, .int .i64 0, .int .i64 0, .slice none 0 0, .slice none 0 0, .slice none 0 0, .int .i64 0], .int .i64 1]) (results_cell_slot (fn := Try.f46) (p := 2) (q := 3) (ty := 47) rfl _ _ w.heap.size 47 _ (0, 0) _ (.int .i64 1) ⟨rfl, rfl⟩ (setRow_heap _ _ _ _ _ _ q0) Try.underlying47 rfl sMsg') rfl ⟨.inl ⟨by rw [hFc]; decide, by rw [hFc]⟩, (Upd.setRow q0).below hA hA.size (Nat.le_refl _)⟩
  · have h1I : ¬ (4000 : Int) < bs.length := by omega
    by_cases h2 : bs = []
    · have hF : Hid (readF bs = 5) := by show _ = _; rw [readF, if_neg h1, if_pos h2]
      have h2I : ((bs.length : Int) == 0) = true := by rw [h2]; rfl
      clear h2 hs hu
      go_enter Try.func46, Try.ntmps46
      go_upto_region 4 with fail
      generalize w.alloc (.cells #[.int .i64 0, .int .i64 0, .int .i64 0, .int .i64 0, .int .i64 0, .slice none 0 0, .int .i64 0, .int .i64 0, .slice none 0 0, .slice none 0 0, .int .i64 0, .int .i64 0, .slice none 0 0, .int .i64 0, .int .i64 0, .slice none 0 0, .slice none 0 0, .slice none 0 0, .int .i64 0] 47) = W0 at hA q0 hsz ⊢
      go_wp2_with (refine wpList_store_row rfl 47 _ _ rfl w.heap.size #[.int .i64 0, .int .i64 0, .int .i64 0, .int .i64 0, .int .i64 0, .slice none 0 0, .int .i64 0, .int .i64 0, .slice none 0 0, .slice none 0 0, .int .i64 0, .int .i64 0, .slice none 0 0, .int .i64 0, .int .i64 0, .slice none 0 0, .slice none 0 0, .slice none 0 0, .int .i64 0] rfl rfl 47 _ q0 sMsg' rfl (by simp [Value.oneCell']) ?_)
      have hFc := hF.out
      refine bodyPost_ret (v := .tuple #[.agg #[.int .i64 0, .int .i64 0, .int .i64 0, .int .i64 0, .int .i64 0, .slice none 0 0, .int .i64 0, .int .i64 0, .slice none 0 0, .slice none 0 0, .int .i64 0, .int .i64 0, .slice none 0 0, .int .i64 0, .int .i64 0, .slice none 0 0, .slice none 0 0, .slice none 0 0, .int .i64 0], .int .i64 5]) (results_cell_slot (fn := Try.f46) (p := 2) (q := 3) (ty := 47) rfl _ _ w.heap.size 47 _ (0, 0) _ (.int .i64 5) ⟨rfl, rfl⟩ (setRow_heap _ _ _ _ _ _ q0) Try.underlying47 rfl sMsg') rfl ⟨.inl ⟨by rw [hFc]; decide, by rw [hFc]⟩, (Upd.setRow q0).below hA hA.size (Nat.le_refl _)⟩
    · have hpos : 0 < bs.length := by cases bs with | nil => exact absurd rfl h2 | cons _ _ => simp
      have hposI : (0 : Int) < bs.length := by omega
      have h2I : ((bs.length : Int) == 0) = false := by simp; omega
      obtain ⟨sb, so, rfl, hc⟩ : ∃ sb so, sa = some ⟨sb, so, none⟩ ∧ ∀ j, j < bs.length → w.cell? ⟨sb, so + j, none⟩ = some (.int .u8 (bs.getD j 0)) := by
        rcases hs.bytes with h | h
        · exact absurd h h2
        · exact h
      have hsb : sb < w.heap.size := block_lt_of_cell (hc 0 hpos)
      have c0 : (w.alloc (.cells #[.int .i64 0, .int .i64 0, .int .i64 0, .int .i64 0, .int .i64 0, .slice none 0 0, .int .i64 0, .int .i64 0, .slice none 0 0, .slice none 0 0, .int .i64 0, .int .i64 0, .slice none 0 0, .int .i64 0, .int .i64 0, .slice none 0 0, .slice none 0 0, .slice none 0 0, .int .i64 0] 47)).cell? ⟨sb, so, none⟩ = some (.int .u8 (bs.getD 0 0)) := (hA.cell (p := ⟨sb, so, none⟩) hsb).trans (hc 0 hpos)
      obtain ⟨hx0, hx1⟩ := hu (bs.getD 0 0) (by simp [List.getD, hpos])
      have hK := nB1_first h2
      have hR0 : readF bs = if ¬ (1 ≤ bs.getD 0 0 ∧ bs.getD 0 0 ≤ 5) then 3 else if (mS (bs, false)).2 = true then 5 else if (mS (bs, false)).1 ≠ [] then 4 else 0 := by rw [readF, if_neg h1, if_neg h2]
      have HR0 : Hid _ := hR0
      have HNE : Hid (bs ≠ []) := h2
      clear hR0 hc h2
      generalize hX : bs.getD 0 0 = X at *
      have HKX : Hid (nB 1 (bs, false) = X) := hK
      clear hK hX
      by_cases hk : 1 ≤ X ∧ X ≤ 5
      · have hkd : decide (1 ≤ X ∧ X ≤ 5) = true := decide_eq_true hk
        have HIK : Hid (∀ W : World, Calls Try.prog 53 #[.int .i64 X] W fun e w' => e = .returned (.bool true) ∧ W = w') := by
          show ∀ _, _
          intro W
          exact isKind_bool X true W hkd.symm
        have HKK : Hid (1 ≤ X ∧ X ≤ 5) := hk
        clear hkd
        obtain ⟨hk1, hk2⟩ := hk
        go_enter Try.func46, Try.ntmps46
        go_upto_region 8 with (go_at_call 53; refine (HIK.out _).mono ?_; rintro e w9 ⟨rfl, rfl⟩)
        have hA2 : Below w.heap.size w ((w.alloc (.cells #[.int .i64 0, .int .i64 0, .int .i64 0, .int .i64 0, .int .i64 0, .slice none 0 0, .int .i64 0, .int .i64 0, .slice none 0 0, .slice none 0 0, .int .i64 0, .int .i64 0, .slice none 0 0, .int .i64 0, .int .i64 0, .slice none 0 0, .slice none 0 0, .slice none 0 0, .int .i64 0] 47)).alloc (.cells #[.slice (some ⟨sb, so, none⟩) bs.length cap, .bool false] 94)) := hA.alloc hA.size _
        have qR := heap_alloc2_new w (.cells #[.int .i64 0, .int .i64 0, .int .i64 0, .int .i64 0, .int .i64 0, .slice none 0 0, .int .i64 0, .int .i64 0, .slice none 0 0, .slice none 0 0, .int .i64 0, .int .i64 0, .slice none 0 0, .int .i64 0, .int .i64 0, .slice none 0 0, .slice none 0 0, .slice none 0 0, .int .i64 0] 47) (.cells #[.slice (some ⟨sb, so, none⟩) bs.length cap, .bool false] 94)
        have q0A := heap_alloc2_old w (.cells #[.int .i64 0, .int .i64 0, .int .i64 0, .int .i64 0, .int .i64 0, .slice none 0 0, .int .i64 0, .int .i64 0, .slice none 0 0, .slice none 0 0, .int .i64 0, .int .i64 0, .slice none 0 0, .int .i64 0, .int .i64 0, .slice none 0 0, .slice none 0 0, .slice none 0 0, .int .i64 0] 47) (.cells #[.slice (some ⟨sb, so, none⟩) bs.length cap, .bool false] 94)
        generalize (w.alloc (.cells #[.int .i64 0, .int .i64 0, .int .i64 0, .int .i64 0, .int .i64 0, .slice none 0 0, .int .i64 0, .int .i64 0, .slice none 0 0, .slice none 0 0, .int .i64 0, .int .i64 0, .slice none 0 0, .int .i64 0, .int .i64 0, .slice none 0 0, .slice none 0 0, .slice none 0 0, .int .i64 0] 47)).alloc (.cells #[.slice (some ⟨sb, so, none⟩) bs.length cap, .bool false] 94) = W2 at hA2 qR q0A ⊢
        have hRd : RdS W2 (w.heap.size + 1) (bs, false) := ⟨some ⟨sb, so, none⟩, cap, qR, hs.below hA2, fun sb' so' e => by cases e; exact ⟨by omega, fun _ => by omega⟩⟩
        have hMs := message_rd (w.heap.size + 1) (bs, false) W2 hRd ⟨by show bs.length ≤ _; omega, hu⟩ (by rw [HKX.out]; exact HKK.out)
        have hszW : w.heap.size + 1 < W2.heap.size := lt_of_heap qR
        have HR1 : Hid (readF bs = if (mS (bs, false)).2 = true then 5 else if (mS (bs, false)).1 ≠ [] then 4 else 0) := by show _ = _; rw [HR0.out, if_neg (fun h => h HKK.out)]
        clear hRd c0 HR0 hs hu hA q0 hsz
        go_wp2_with fail
        refine hMs.mono ?_
        rintro e w3 ⟨x, he, hM, hH, hcx, hR3, ho3⟩
        subst he
        dsimp only
        clear hMs
        have z3 := (ho3.block _ (by omega) (by omega)).trans q0A
        obtain ⟨la, lc, hr3, -, -⟩ := RdrAt.out hR3
        generalize (mS (bs, false)).1 = ml at *
        generalize (mS (bs, false)).2 = msh at *
        have hOw : Only (w.heap.size + 1) w w3 := (only_of_below hA2).trans ho3
        have hB3 := hOw.below (B := w.heap.size) (by omega) (Nat.le_refl _)
        have hlt3 : w.heap.size + 1 < w3.heap.size := lt_of_heap hr3
        have qz := heap_alloc_new w3 (.cells #[.int .i64 0, .int .i64 0, .int .i64 0, .int .i64 0, .int .i64 0, .slice none 0 0, .int .i64 0, .int .i64 0, .slice none 0 0, .slice none 0 0, .int .i64 0, .int .i64 0, .slice none 0 0, .int .i64 0, .int .i64 0, .slice none 0 0, .slice none 0 0, .slice none 0 0, .int .i64 0] 47)
        have hAM : Below w3.heap.size w3 ((w3.alloc (.cells #[.int .i64 0, .int .i64 0, .int .i64 0, .int .i64 0, .int .i64 0, .slice none 0 0, .int .i64 0, .int .i64 0, .slice none 0 0, .slice none 0 0, .int .i64 0, .int .i64 0, .slice none 0 0, .int .i64 0, .int .i64 0, .slice none 0 0, .slice none 0 0, .slice none 0 0, .int .i64 0] 47)).setRow w3.heap.size #[.int .i64 x.m.fr, .int .i64 x.m.tt, .int .i64 x.m.ki, .int .i64 x.m.bau, .int .i64 x.m.bnu, .slice x.m.bta x.m.btn x.m.btc, .int .i64 x.m.hau, .int .i64 x.m.hrd, .slice x.m.hba x.m.hbn x.m.hbc, .slice x.m.hpa x.m.hpn x.m.hpc, .int .i64 x.m.sau, .int .i64 x.m.srd, .slice x.m.sda x.m.sdn x.m.sdc, .int .i64 x.m.cau, .int .i64 x.m.crd, .slice x.m.cba x.m.cbn x.m.cbc, .slice x.m.cpa x.m.cpn x.m.cpc, .slice x.m.cva x.m.cvn x.m.cvc, .int .i64 x.m.ro]) := laid_row w3 #[.int .i64 0, .int .i64 0, .int .i64 0, .int .i64 0, .int .i64 0, .slice none 0 0, .int .i64 0, .int .i64 0, .slice none 0 0, .slice none 0 0, .int .i64 0, .int .i64 0, .slice none 0 0, .int .i64 0, .int .i64 0, .slice none 0 0, .slice none 0 0, .slice none 0 0, .int .i64 0] #[.int .i64 x.m.fr, .int .i64 x.m.tt, .int .i64 x.m.ki, .int .i64 x.m.bau, .int .i64 x.m.bnu, .slice x.m.bta x.m.btn x.m.btc, .int .i64 x.m.hau, .int .i64 x.m.hrd, .slice x.m.hba x.m.hbn x.m.hbc, .slice x.m.hpa x.m.hpn x.m.hpc, .int .i64 x.m.sau, .int .i64 x.m.srd, .slice x.m.sda x.m.sdn x.m.sdc, .int .i64 x.m.cau, .int .i64 x.m.crd, .slice x.m.cba x.m.cbn x.m.cbc, .slice x.m.cpa x.m.cpn x.m.cpc, .slice x.m.cva x.m.cvn x.m.cvc, .int .i64 x.m.ro] 47
        have qM := setRow_heap _ _ _ #[.int .i64 x.m.fr, .int .i64 x.m.tt, .int .i64 x.m.ki, .int .i64 x.m.bau, .int .i64 x.m.bnu, .slice x.m.bta x.m.btn x.m.btc, .int .i64 x.m.hau, .int .i64 x.m.hrd, .slice x.m.hba x.m.hbn x.m.hbc, .slice x.m.hpa x.m.hpn x.m.hpc, .int .i64 x.m.sau, .int .i64 x.m.srd, .slice x.m.sda x.m.sdn x.m.sdc, .int .i64 x.m.cau, .int .i64 x.m.crd, .slice x.m.cba x.m.cbn x.m.cbc, .slice x.m.cpa x.m.cpn x.m.cpc, .slice x.m.cva x.m.cvn x.m.cvc, .int .i64 x.m.ro] _ _ qz
        have zM := (hAM.block _ (by omega)).trans z3
        have rM := (hAM.block _ hlt3).trans hr3
        have HMx : Hid (MAt w3 x ∧ HasM (fun q => W2.heap.size ≤ q) x ∧ x.c = pM (bs, false)) := ⟨hM, hH, hcx⟩
        clear hM hH hcx hR3
        go_upto_region 9 with (refine wpList_store_row rfl 47 _ _ rfl w3.heap.size #[.int .i64 x.m.fr, .int .i64 x.m.tt, .int .i64 x.m.ki, .int .i64 x.m.bau, .int .i64 x.m.bnu, .slice x.m.bta x.m.btn x.m.btc, .int .i64 x.m.hau, .int .i64 x.m.hrd, .slice x.m.hba x.m.hbn x.m.hbc, .slice x.m.hpa x.m.hpn x.m.hpc, .int .i64 x.m.sau, .int .i64 x.m.srd, .slice x.m.sda x.m.sdn x.m.sdc, .int .i64 x.m.cau, .int .i64 x.m.crd, .slice x.m.cba x.m.cbn x.m.cbc, .slice x.m.cpa x.m.cpn x.m.cpc, .slice x.m.cva x.m.cvn x.m.cvc, .int .i64 x.m.ro] rfl rfl 47 _ qz sMsg' rfl (by simp [Value.oneCell']) ?_)
        generalize (w3.alloc (.cells #[.int .i64 0, .int .i64 0, .int .i64 0, .int .i64 0, .int .i64 0, .slice none 0 0, .int .i64 0, .int .i64 0, .slice none 0 0, .slice none 0 0, .int .i64 0, .int .i64 0, .slice none 0 0, .int .i64 0, .int .i64 0, .slice none 0 0, .slice none 0 0, .slice none 0 0, .int .i64 0] 47)).setRow w3.heap.size #[.int .i64 x.m.fr, .int .i64 x.m.tt, .int .i64 x.m.ki, .int .i64 x.m.bau, .int .i64 x.m.bnu, .slice x.m.bta x.m.btn x.m.btc, .int .i64 x.m.hau, .int .i64 x.m.hrd, .slice x.m.hba x.m.hbn x.m.hbc, .slice x.m.hpa x.m.hpn x.m.hpc, .int .i64 x.m.sau, .int .i64 x.m.srd, .slice x.m.sda x.m.sdn x.m.sdc, .int .i64 x.m.cau, .int .i64 x.m.crd, .slice x.m.cba x.m.cbn x.m.cbc, .slice x.m.cpa x.m.cpn x.m.cpc, .slice x.m.cva x.m.cvn x.m.cvc, .int .i64 x.m.ro] = W4 at hAM qM zM rM ⊢
        have hB4 := hB3.trans (hAM.mono hB3.size)
        have hMx4 : Hid (MAt W4 x) := HMx.out.1.below hAM
        have s0 : W4.cell? ⟨w.heap.size + 1, 0, none⟩ = some (.slice la ml.length lc) := cells_at rM 0 _ rfl
        have s1 : W4.cell? ⟨w.heap.size + 1, 1, none⟩ = some (.bool msh) := cells_at rM 1 _ rfl
        clear qz z3 hr3 hAM
        cases msh with
        | true =>
          have hF : Hid (readF bs = 5) := by show _ = _; rw [HR1.out, if_pos rfl]
          go_wp2_with (refine wpList_store_row rfl 47 _ _ rfl w.heap.size #[.int .i64 0, .int .i64 0, .int .i64 0, .int .i64 0, .int .i64 0, .slice none 0 0, .int .i64 0, .int .i64 0, .slice none 0 0, .slice none 0 0, .int .i64 0, .int .i64 0, .slice none 0 0, .int .i64 0, .int .i64 0, .slice none 0 0, .slice none 0 0, .slice none 0 0, .int .i64 0] rfl rfl 47 _ zM sMsg' rfl (by simp [Value.oneCell']) ?_)
          have hFc := hF.out
          refine bodyPost_ret (v := .tuple #[.agg #[.int .i64 0, .int .i64 0, .int .i64 0, .int .i64 0, .int .i64 0, .slice none 0 0, .int .i64 0, .int .i64 0, .slice none 0 0, .slice none 0 0, .int .i64 0, .int .i64 0, .slice none 0 0, .int .i64 0, .int .i64 0, .slice none 0 0, .slice none 0 0, .slice none 0 0, .int .i64 0], .int .i64 5]) (results_cell_slot (fn := Try.f46) (p := 2) (q := 3) (ty := 47) rfl _ _ w.heap.size 47 _ (0, 0) _ (.int .i64 5) ⟨rfl, rfl⟩ (setRow_heap _ _ _ _ _ _ zM) Try.underlying47 rfl sMsg') rfl ⟨.inl ⟨by rw [hFc]; decide, by rw [hFc]⟩, (Upd.setRow zM).below hB4 hB4.size (Nat.le_refl _)⟩
        | false =>
          by_cases hml : ml = []
          · have hF : Hid (readF bs = 0) := by show _ = _; rw [HR1.out, if_neg (by decide), if_neg (fun h => h hml)]
            have hmI : ¬ (0 : Int) < (ml.length : Int) := by rw [hml]; decide
            clear hml HR1
            go_wp2_with (first | refine wpList_load_row rfl 47 _ rfl w3.heap.size rfl 47 #[.int .i64 x.m.fr, .int .i64 x.m.tt, .int .i64 x.m.ki, .int .i64 x.m.bau, .int .i64 x.m.bnu, .slice x.m.bta x.m.btn x.m.btc, .int .i64 x.m.hau, .int .i64 x.m.hrd, .slice x.m.hba x.m.hbn x.m.hbc, .slice x.m.hpa x.m.hpn x.m.hpc, .int .i64 x.m.sau, .int .i64 x.m.srd, .slice x.m.sda x.m.sdn x.m.sdc, .int .i64 x.m.cau, .int .i64 x.m.crd, .slice x.m.cba x.m.cbn x.m.cbc, .slice x.m.cpa x.m.cpn x.m.cpc, .slice x.m.cva x.m.cvn x.m.cvc, .int .i64 x.m.ro] (0, 0) _ qM Try.underlying47 rfl sMsg' ?_ | refine wpList_store_row rfl 47 _ _ rfl w.heap.size #[.int .i64 x.m.fr, .int .i64 x.m.tt, .int .i64 x.m.ki, .int .i64 x.m.bau, .int .i64 x.m.bnu, .slice x.m.bta x.m.btn x.m.btc, .int .i64 x.m.hau, .int .i64 x.m.hrd, .slice x.m.hba x.m.hbn x.m.hbc, .slice x.m.hpa x.m.hpn x.m.hpc, .int .i64 x.m.sau, .int .i64 x.m.srd, .slice x.m.sda x.m.sdn x.m.sdc, .int .i64 x.m.cau, .int .i64 x.m.crd, .slice x.m.cba x.m.cbn x.m.cbc, .slice x.m.cpa x.m.cpn x.m.cpc, .slice x.m.cva x.m.cvn x.m.cvc, .int .i64 x.m.ro] rfl rfl 47 _ zM sMsg' rfl (by simp [Value.oneCell']) ?_)
            refine bodyPost_ret (v := .tuple #[.agg #[.int .i64 x.m.fr, .int .i64 x.m.tt, .int .i64 x.m.ki, .int .i64 x.m.bau, .int .i64 x.m.bnu, .slice x.m.bta x.m.btn x.m.btc, .int .i64 x.m.hau, .int .i64 x.m.hrd, .slice x.m.hba x.m.hbn x.m.hbc, .slice x.m.hpa x.m.hpn x.m.hpc, .int .i64 x.m.sau, .int .i64 x.m.srd, .slice x.m.sda x.m.sdn x.m.sdc, .int .i64 x.m.cau, .int .i64 x.m.crd, .slice x.m.cba x.m.cbn x.m.cbc, .slice x.m.cpa x.m.cpn x.m.cpc, .slice x.m.cva x.m.cvn x.m.cvc, .int .i64 x.m.ro], .int .i64 0]) (results_cell_slot (fn := Try.f46) (p := 2) (q := 3) (ty := 47) rfl _ _ w.heap.size 47 _ (0, 0) _ (.int .i64 0) ⟨rfl, rfl⟩ (setRow_heap _ _ _ _ _ _ zM) Try.underlying47 rfl sMsg') rfl ⟨.inr ⟨hF.out, x, rfl, ?_, HMx.out.2.1.mono (fun q hq => by omega), HMx.out.2.2⟩, (Upd.setRow zM).below hB4 hB4.size (Nat.le_refl _)⟩
            exact hMx4.out.setRow (B := W2.heap.size) HMx.out.2.1 (by omega)
          · have hF : Hid (readF bs = 4) := by show _ = _; rw [HR1.out, if_neg (by decide), if_pos hml]
            have hmI : (0 : Int) < (ml.length : Int) := by have := length_pos_ne hml; omega
            clear hml HR1
            go_wp2_with (refine wpList_store_row rfl 47 _ _ rfl w.heap.size #[.int .i64 0, .int .i64 0, .int .i64 0, .int .i64 0, .int .i64 0, .slice none 0 0, .int .i64 0, .int .i64 0, .slice none 0 0, .slice none 0 0, .int .i64 0, .int .i64 0, .slice none 0 0, .int .i64 0, .int .i64 0, .slice none 0 0, .slice none 0 0, .slice none 0 0, .int .i64 0] rfl rfl 47 _ zM sMsg' rfl (by simp [Value.oneCell']) ?_)
            have hFc := hF.out
            refine bodyPost_ret (v := .tuple #[.agg #[.int .i64 0, .int .i64 0, .int .i64 0, .int .i64 0, .int .i64 0, .slice none 0 0, .int .i64 0, .int .i64 0, .slice none 0 0, .slice none 0 0, .int .i64 0, .int .i64 0, .slice none 0 0, .int .i64 0, .int .i64 0, .slice none 0 0, .slice none 0 0, .slice none 0 0, .int .i64 0], .int .i64 4]) (results_cell_slot (fn := Try.f46) (p := 2) (q := 3) (ty := 47) rfl _ _ w.heap.size 47 _ (0, 0) _ (.int .i64 4) ⟨rfl, rfl⟩ (setRow_heap _ _ _ _ _ _ zM) Try.underlying47 rfl sMsg') rfl ⟨.inl ⟨by rw [hFc]; decide, by rw [hFc]⟩, (Upd.setRow zM).below hB4 hB4.size (Nat.le_refl _)⟩
      · have hkd : decide (1 ≤ X ∧ X ≤ 5) = false := decide_eq_false hk
        have HIK : Hid (∀ W : World, Calls Try.prog 53 #[.int .i64 X] W fun e w' => e = .returned (.bool false) ∧ W = w') := by
          show ∀ _, _
          intro W
          exact isKind_bool X false W hkd.symm
        have hF : Hid (readF bs = 3) := by show _ = _; rw [HR0.out, if_pos hk]
        clear hkd hk
        go_enter Try.func46, Try.ntmps46
        go_upto_region 6 with (go_at_call 53; refine (HIK.out _).mono ?_; rintro e w9 ⟨rfl, rfl⟩)
        generalize w.alloc (.cells #[.int .i64 0, .int .i64 0, .int .i64 0, .int .i64 0, .int .i64 0, .slice none 0 0, .int .i64 0, .int .i64 0, .slice none 0 0, .slice none 0 0, .int .i64 0, .int .i64 0, .slice none 0 0, .int .i64 0, .int .i64 0, .slice none 0 0, .slice none 0 0, .slice none 0 0, .int .i64 0] 47) = W0 at hA q0 hsz c0 ⊢
        go_wp2_with (refine wpList_store_row rfl 47 _ _ rfl w.heap.size #[.int .i64 0, .int .i64 0, .int .i64 0, .int .i64 0, .int .i64 0, .slice none 0 0, .int .i64 0, .int .i64 0, .slice none 0 0, .slice none 0 0, .int .i64 0, .int .i64 0, .slice none 0 0, .int .i64 0, .int .i64 0, .slice none 0 0, .slice none 0 0, .slice none 0 0, .int .i64 0] rfl rfl 47 _ q0 sMsg' rfl (by simp [Value.oneCell']) ?_)
        have hFc := hF.out
        refine bodyPost_ret (v := .tuple #[.agg #[.int .i64 0, .int .i64 0, .int .i64 0, .int .i64 0, .int .i64 0, .slice none 0 0, .int .i64 0, .int .i64 0, .slice none 0 0, .slice none 0 0, .int .i64 0, .int .i64 0, .slice none 0 0, .int .i64 0, .int .i64 0, .slice none 0 0, .slice none 0 0, .slice none 0 0, .int .i64 0], .int .i64 3]) (results_cell_slot (fn := Try.f46) (p := 2) (q := 3) (ty := 47) rfl _ _ w.heap.size 47 _ (0, 0) _ (.int .i64 3) ⟨rfl, rfl⟩ (setRow_heap _ _ _ _ _ _ q0) Try.underlying47 rfl sMsg') rfl ⟨.inl ⟨by rw [hFc]; decide, by rw [hFc]⟩, (Upd.setRow q0).below hA hA.size (Nat.le_refl _)⟩
end Go.Proofs.Ythpocgndgphedaa

namespace Go.Proofs.Ythpocgndgphedaa
open Go.RowKit

/-- What Decode gives. -/
structure DecIs (w w' : World) (e : Ending) (bs : List Int) : Prop where
  out : (readF bs ≠ 0 ∧ e = .returned (.tuple #[.agg #[.int .i64 0, .int .i64 0, .int .i64 0, .int .i64 0, .int .i64 0, .slice none 0 0, .int .i64 0, .int .i64 0, .slice none 0 0, .slice none 0 0, .int .i64 0, .int .i64 0, .slice none 0 0, .int .i64 0, .int .i64 0, .slice none 0 0, .slice none 0 0, .slice none 0 0, .int .i64 0], .int .i64 (readF bs)])) ∨ (readF bs = 0 ∧ ∃ x : MV, x.c = pM (bs, false) ∧ MAt w' x ∧ HasM (fun q => w.heap.size ≤ q) x ∧ ((checkF x.m x.car = 0 ∧ e = .returned (.tuple #[.agg #[.int .i64 x.m.fr, .int .i64 x.m.tt, .int .i64 x.m.ki, .int .i64 x.m.bau, .int .i64 x.m.bnu, .slice x.m.bta x.m.btn x.m.btc, .int .i64 x.m.hau, .int .i64 x.m.hrd, .slice x.m.hba x.m.hbn x.m.hbc, .slice x.m.hpa x.m.hpn x.m.hpc, .int .i64 x.m.sau, .int .i64 x.m.srd, .slice x.m.sda x.m.sdn x.m.sdc, .int .i64 x.m.cau, .int .i64 x.m.crd, .slice x.m.cba x.m.cbn x.m.cbc, .slice x.m.cpa x.m.cpn x.m.cpc, .slice x.m.cva x.m.cvn x.m.cvc, .int .i64 x.m.ro], .int .i64 0])) ∨ (checkF x.m x.car ≠ 0 ∧ e = .returned (.tuple #[.agg #[.int .i64 0, .int .i64 0, .int .i64 0, .int .i64 0, .int .i64 0, .slice none 0 0, .int .i64 0, .int .i64 0, .slice none 0 0, .slice none 0 0, .int .i64 0, .int .i64 0, .slice none 0 0, .int .i64 0, .int .i64 0, .slice none 0 0, .slice none 0 0, .slice none 0 0, .int .i64 0], .int .i64 (checkF x.m x.car)]))))
  below : Below w.heap.size w w'
set_option maxRecDepth 100000 in
set_option maxHeartbeats 4000000 in
theorem decode_any (bs : List Int) (sa : Option Addr) (n cap : Nat) (w : World) (hn : n = bs.length) (hs : SliceAt w sa cap bs) (hu : U8s bs) (hl : bs.length ≤ 140737488355328) :
    Calls Try.prog 32 #[.slice sa n cap] w fun e w' => DecIs w w' e bs := by
  have hA : Below w.heap.size w (w.alloc (.cells #[.int .i64 0, .int .i64 0, .int .i64 0, .int .i64 0, .int .i64 0, .slice none 0 0, .int .i64 0, .int .i64 0, .slice none 0 0, .slice none 0 0, .int .i64 0, .int .i64 0, .slice none 0 0, .int .i64 0, .int .i64 0, .slice none 0 0, .slice none 0 0, .slice none 0 0, .int .i64 0] 47)) := (Below.refl _ _).alloc (Nat.le_refl _) _
  have q0 := heap_alloc_new w (.cells #[.int .i64 0, .int .i64 0, .int .i64 0, .int .i64 0, .int .i64 0, .slice none 0 0, .int .i64 0, .int .i64 0, .slice none 0 0, .slice none 0 0, .int .i64 0, .int .i64 0, .slice none 0 0, .int .i64 0, .int .i64 0, .slice none 0 0, .slice none 0 0, .slice none 0 0, .int .i64 0] 47)
  have hsz : w.heap.size < (w.alloc (.cells #[.int .i64 0, .int .i64 0, .int .i64 0, .int .i64 0, .int .i64 0, .slice none 0 0, .int .i64 0, .int .i64 0, .slice none 0 0, .slice none 0 0, .int .i64 0, .int .i64 0, .slice none 0 0, .int .i64 0, .int .i64 0, .slice none 0 0, .slice none 0 0, .slice none 0 0, .int .i64 0] 47)).heap.size := lt_of_heap q0
  have hRd := read_any bs sa n cap _ hn (hs.below hA) hu hl
  clear hn hs hu hl
  go_enter Try.func32, Try.ntmps32
  go_wp2_with fail
  generalize w.alloc (.cells #[.int .i64 0, .int .i64 0, .int .i64 0, .int .i64 0, .int .i64 0, .slice none 0 0, .int .i64 0, .int .i64 0, .slice none 0 0, .slice none 0 0, .int .i64 0, .int .i64 0, .slice none 0 0, .int .i64 0, .int .i64 0, .slice none 0 0, .slice none 0 0, .slice none 0 0, .int .i64 0] 47) = W0 at hA q0 hsz hRd ⊢
  refine hRd.mono ?_
  rintro e w1 ⟨hout, hb1⟩
  clear hRd
  have hB1 := hA.trans (hb1.mono hA.size)
  have p0 := (hb1.block _ hsz).trans q0
  have hlt1 : w.heap.size < w1.heap.size := lt_of_heap p0
  rcases hout with ⟨hF, he⟩ | ⟨hF, x, he, hM, hH, hc⟩
  · subst he
    dsimp only
    have HF : Hid (readF bs ≠ 0) := hF
    generalize hFq : readF bs = F at *
    have HFq : Hid (readF bs = F) := hFq
    clear hFq
    have hFb : (F == 0) = false := by simp [hF]
    have qz := heap_alloc_new w1 (.cells #[.int .i64 0, .int .i64 0, .int .i64 0, .int .i64 0, .int .i64 0, .slice none 0 0, .int .i64 0, .int .i64 0, .slice none 0 0, .slice none 0 0, .int .i64 0, .int .i64 0, .slice none 0 0, .int .i64 0, .int .i64 0, .slice none 0 0, .slice none 0 0, .slice none 0 0, .int .i64 0] 47)
    have hAM : Below w1.heap.size w1 ((w1.alloc (.cells #[.int .i64 0, .int .i64 0, .int .i64 0, .int .i64 0, .int .i64 0, .slice none 0 0, .int .i64 0, .int .i64 0, .slice none 0 0, .slice none 0 0, .int .i64 0, .int .i64 0, .slice none 0 0, .int .i64 0, .int .i64 0, .slice none 0 0, .slice none 0 0, .slice none 0 0, .int .i64 0] 47)).setRow w1.heap.size #[.int .i64 0, .int .i64 0, .int .i64 0, .int .i64 0, .int .i64 0, .slice none 0 0, .int .i64 0, .int .i64 0, .slice none 0 0, .slice none 0 0, .int .i64 0, .int .i64 0, .slice none 0 0, .int .i64 0, .int .i64 0, .slice none 0 0, .slice none 0 0, .slice none 0 0, .int .i64 0]) := laid_row w1 #[.int .i64 0, .int .i64 0, .int .i64 0, .int .i64 0, .int .i64 0, .slice none 0 0, .int .i64 0, .int .i64 0, .slice none 0 0, .slice none 0 0, .int .i64 0, .int .i64 0, .slice none 0 0, .int .i64 0, .int .i64 0, .slice none 0 0, .slice none 0 0, .slice none 0 0, .int .i64 0] #[.int .i64 0, .int .i64 0, .int .i64 0, .int .i64 0, .int .i64 0, .slice none 0 0, .int .i64 0, .int .i64 0, .slice none 0 0, .slice none 0 0, .int .i64 0, .int .i64 0, .slice none 0 0, .int .i64 0, .int .i64 0, .slice none 0 0, .slice none 0 0, .slice none 0 0, .int .i64 0] 47
    have zM := (hAM.block _ hlt1).trans p0
    go_upto_region 2 with (refine wpList_store_row rfl 47 _ _ rfl w1.heap.size #[.int .i64 0, .int .i64 0, .int .i64 0, .int .i64 0, .int .i64 0, .slice none 0 0, .int .i64 0, .int .i64 0, .slice none 0 0, .slice none 0 0, .int .i64 0, .int .i64 0, .slice none 0 0, .int .i64 0, .int .i64 0, .slice none 0 0, .slice none 0 0, .slice none 0 0, .int .i64 0] rfl rfl 47 _ qz sMsg' rfl (by simp [Value.oneCell']) ?_)
    generalize (w1.alloc (.cells #[.int .i64 0, .int .i64 0, .int .i64 0, .int .i64 0, .int .i64 0, .slice none 0 0, .int .i64 0, .int .i64 0, .slice none 0 0, .slice none 0 0, .int .i64 0, .int .i64 0, .slice none 0 0, .int .i64 0, .int .i64 0, .slice none 0 0, .slice none 0 0, .slice none 0 0, .int .i64 0] 47)).setRow w1.heap.size #[.int .i64 0, .int .i64 0, .int .i64 0, .int .i64 0, .int .i64 0, .slice none 0 0, .int .i64 0, .int .i64 0, .slice none 0 0, .slice none 0 0, .int .i64 0, .int .i64 0, .slice none 0 0, .int .i64 0, .int .i64 0, .slice none 0 0, .slice none 0 0, .slice none 0 0, .int .i64 0] = W4 at hAM zM ⊢
    have hB4 := hB1.trans (hAM.mono hB1.size)
    go_wp2_with (refine wpList_store_row rfl 47 _ _ rfl w.heap.size #[.int .i64 0, .int .i64 0, .int .i64 0, .int .i64 0, .int .i64 0, .slice none 0 0, .int .i64 0, .int .i64 0, .slice none 0 0, .slice none 0 0, .int .i64 0, .int .i64 0, .slice none 0 0, .int .i64 0, .int .i64 0, .slice none 0 0, .slice none 0 0, .slice none 0 0, .int .i64 0] rfl rfl 47 _ zM sMsg' rfl (by simp [Value.oneCell']) ?_)
    exact bodyPost_ret (v := .tuple #[.agg #[.int .i64 0, .int .i64 0, .int .i64 0, .int .i64 0, .int .i64 0, .slice none 0 0, .int .i64 0, .int .i64 0, .slice none 0 0, .slice none 0 0, .int .i64 0, .int .i64 0, .slice none 0 0, .int .i64 0, .int .i64 0, .slice none 0 0, .slice none 0 0, .slice none 0 0, .int .i64 0], .int .i64 F]) (results_cell_slot (fn := Try.f32) (p := 2) (q := 3) (ty := 47) rfl _ _ w.heap.size 47 _ (0, 0) _ (.int .i64 F) ⟨rfl, rfl⟩ (setRow_heap _ _ _ _ _ _ zM) Try.underlying47 rfl sMsg') rfl ⟨.inl ⟨by rw [HFq.out]; exact HF.out, by rw [HFq.out]⟩, (Upd.setRow zM).below hB4 hB4.size (Nat.le_refl _)⟩
  · subst he
    dsimp only
    have HX : Hid (readF bs = 0 ∧ MAt w1 x ∧ HasM (fun q => W0.heap.size ≤ q) x ∧ x.c = pM (bs, false)) := ⟨hF, hM, hH, hc⟩
    clear hF hM hH hc
    have qz := heap_alloc_new w1 (.cells #[.int .i64 0, .int .i64 0, .int .i64 0, .int .i64 0, .int .i64 0, .slice none 0 0, .int .i64 0, .int .i64 0, .slice none 0 0, .slice none 0 0, .int .i64 0, .int .i64 0, .slice none 0 0, .int .i64 0, .int .i64 0, .slice none 0 0, .slice none 0 0, .slice none 0 0, .int .i64 0] 47)
    have hAM : Below w1.heap.size w1 ((w1.alloc (.cells #[.int .i64 0, .int .i64 0, .int .i64 0, .int .i64 0, .int .i64 0, .slice none 0 0, .int .i64 0, .int .i64 0, .slice none 0 0, .slice none 0 0, .int .i64 0, .int .i64 0, .slice none 0 0, .int .i64 0, .int .i64 0, .slice none 0 0, .slice none 0 0, .slice none 0 0, .int .i64 0] 47)).setRow w1.heap.size #[.int .i64 x.m.fr, .int .i64 x.m.tt, .int .i64 x.m.ki, .int .i64 x.m.bau, .int .i64 x.m.bnu, .slice x.m.bta x.m.btn x.m.btc, .int .i64 x.m.hau, .int .i64 x.m.hrd, .slice x.m.hba x.m.hbn x.m.hbc, .slice x.m.hpa x.m.hpn x.m.hpc, .int .i64 x.m.sau, .int .i64 x.m.srd, .slice x.m.sda x.m.sdn x.m.sdc, .int .i64 x.m.cau, .int .i64 x.m.crd, .slice x.m.cba x.m.cbn x.m.cbc, .slice x.m.cpa x.m.cpn x.m.cpc, .slice x.m.cva x.m.cvn x.m.cvc, .int .i64 x.m.ro]) := laid_row w1 #[.int .i64 0, .int .i64 0, .int .i64 0, .int .i64 0, .int .i64 0, .slice none 0 0, .int .i64 0, .int .i64 0, .slice none 0 0, .slice none 0 0, .int .i64 0, .int .i64 0, .slice none 0 0, .int .i64 0, .int .i64 0, .slice none 0 0, .slice none 0 0, .slice none 0 0, .int .i64 0] #[.int .i64 x.m.fr, .int .i64 x.m.tt, .int .i64 x.m.ki, .int .i64 x.m.bau, .int .i64 x.m.bnu, .slice x.m.bta x.m.btn x.m.btc, .int .i64 x.m.hau, .int .i64 x.m.hrd, .slice x.m.hba x.m.hbn x.m.hbc, .slice x.m.hpa x.m.hpn x.m.hpc, .int .i64 x.m.sau, .int .i64 x.m.srd, .slice x.m.sda x.m.sdn x.m.sdc, .int .i64 x.m.cau, .int .i64 x.m.crd, .slice x.m.cba x.m.cbn x.m.cbc, .slice x.m.cpa x.m.cpn x.m.cpc, .slice x.m.cva x.m.cvn x.m.cvc, .int .i64 x.m.ro] 47
    have qM := setRow_heap _ _ _ #[.int .i64 x.m.fr, .int .i64 x.m.tt, .int .i64 x.m.ki, .int .i64 x.m.bau, .int .i64 x.m.bnu, .slice x.m.bta x.m.btn x.m.btc, .int .i64 x.m.hau, .int .i64 x.m.hrd, .slice x.m.hba x.m.hbn x.m.hbc, .slice x.m.hpa x.m.hpn x.m.hpc, .int .i64 x.m.sau, .int .i64 x.m.srd, .slice x.m.sda x.m.sdn x.m.sdc, .int .i64 x.m.cau, .int .i64 x.m.crd, .slice x.m.cba x.m.cbn x.m.cbc, .slice x.m.cpa x.m.cpn x.m.cpc, .slice x.m.cva x.m.cvn x.m.cvc, .int .i64 x.m.ro] _ _ qz
    have zM := (hAM.block _ hlt1).trans p0
    go_upto_region 2 with (refine wpList_store_row rfl 47 _ _ rfl w1.heap.size #[.int .i64 x.m.fr, .int .i64 x.m.tt, .int .i64 x.m.ki, .int .i64 x.m.bau, .int .i64 x.m.bnu, .slice x.m.bta x.m.btn x.m.btc, .int .i64 x.m.hau, .int .i64 x.m.hrd, .slice x.m.hba x.m.hbn x.m.hbc, .slice x.m.hpa x.m.hpn x.m.hpc, .int .i64 x.m.sau, .int .i64 x.m.srd, .slice x.m.sda x.m.sdn x.m.sdc, .int .i64 x.m.cau, .int .i64 x.m.crd, .slice x.m.cba x.m.cbn x.m.cbc, .slice x.m.cpa x.m.cpn x.m.cpc, .slice x.m.cva x.m.cvn x.m.cvc, .int .i64 x.m.ro] rfl rfl 47 _ qz sMsg' rfl (by simp [Value.oneCell']) ?_)
    generalize (w1.alloc (.cells #[.int .i64 0, .int .i64 0, .int .i64 0, .int .i64 0, .int .i64 0, .slice none 0 0, .int .i64 0, .int .i64 0, .slice none 0 0, .slice none 0 0, .int .i64 0, .int .i64 0, .slice none 0 0, .int .i64 0, .int .i64 0, .slice none 0 0, .slice none 0 0, .slice none 0 0, .int .i64 0] 47)).setRow w1.heap.size #[.int .i64 x.m.fr, .int .i64 x.m.tt, .int .i64 x.m.ki, .int .i64 x.m.bau, .int .i64 x.m.bnu, .slice x.m.bta x.m.btn x.m.btc, .int .i64 x.m.hau, .int .i64 x.m.hrd, .slice x.m.hba x.m.hbn x.m.hbc, .slice x.m.hpa x.m.hpn x.m.hpc, .int .i64 x.m.sau, .int .i64 x.m.srd, .slice x.m.sda x.m.sdn x.m.sdc, .int .i64 x.m.cau, .int .i64 x.m.crd, .slice x.m.cba x.m.cbn x.m.cbc, .slice x.m.cpa x.m.cpn x.m.cpc, .slice x.m.cva x.m.cvn x.m.cvc, .int .i64 x.m.ro] = W4 at hAM qM zM ⊢
    have hB4 := hB1.trans (hAM.mono hB1.size)
    have hM4 := HX.out.2.1.below hAM
    have hC := check_any x.m x.ss x.bl x.pl x.cbl x.cpl x.vl W4 hM4.at'
    have hCe : checkF x.m (carriedF x.m x.ss x.bl x.pl x.cbl x.cpl x.vl) = checkF x.m x.car := rfl
    rw [hCe] at hC
    have HM4 : Hid (MAt W4 x) := hM4
    clear hM4 hCe qz
    generalize hMB : w1.heap.size = MB at qM hlt1 ⊢
    clear hMB
    go_wp2_with (refine wpList_load_row rfl 47 _ rfl MB rfl 47 #[.int .i64 x.m.fr, .int .i64 x.m.tt, .int .i64 x.m.ki, .int .i64 x.m.bau, .int .i64 x.m.bnu, .slice x.m.bta x.m.btn x.m.btc, .int .i64 x.m.hau, .int .i64 x.m.hrd, .slice x.m.hba x.m.hbn x.m.hbc, .slice x.m.hpa x.m.hpn x.m.hpc, .int .i64 x.m.sau, .int .i64 x.m.srd, .slice x.m.sda x.m.sdn x.m.sdc, .int .i64 x.m.cau, .int .i64 x.m.crd, .slice x.m.cba x.m.cbn x.m.cbc, .slice x.m.cpa x.m.cpn x.m.cpc, .slice x.m.cva x.m.cvn x.m.cvc, .int .i64 x.m.ro] (0, 0) _ qM Try.underlying47 rfl sMsg' ?_)
    refine hC.mono ?_
    rintro e w5 ⟨he, hb5⟩
    subst he
    dsimp only
    clear hC
    have q5 := (hb5.block _ (lt_of_heap qM)).trans qM
    have z5 := (hb5.block _ (lt_of_heap zM)).trans zM
    have hB5 := hB4.trans (hb5.mono hB4.size)
    have HM5 : Hid (MAt w5 x) := HM4.out.below hb5
    generalize hR : checkF x.m x.car = F at *
    have HR : Hid (checkF x.m x.car = F) := hR
    clear hR
    by_cases hF : F = 0
    · subst hF
      go_wp2_with (first | refine wpList_load_row rfl 47 _ rfl MB rfl 47 #[.int .i64 x.m.fr, .int .i64 x.m.tt, .int .i64 x.m.ki, .int .i64 x.m.bau, .int .i64 x.m.bnu, .slice x.m.bta x.m.btn x.m.btc, .int .i64 x.m.hau, .int .i64 x.m.hrd, .slice x.m.hba x.m.hbn x.m.hbc, .slice x.m.hpa x.m.hpn x.m.hpc, .int .i64 x.m.sau, .int .i64 x.m.srd, .slice x.m.sda x.m.sdn x.m.sdc, .int .i64 x.m.cau, .int .i64 x.m.crd, .slice x.m.cba x.m.cbn x.m.cbc, .slice x.m.cpa x.m.cpn x.m.cpc, .slice x.m.cva x.m.cvn x.m.cvc, .int .i64 x.m.ro] (0, 0) _ q5 Try.underlying47 rfl sMsg' ?_ | refine wpList_store_row rfl 47 _ _ rfl w.heap.size #[.int .i64 x.m.fr, .int .i64 x.m.tt, .int .i64 x.m.ki, .int .i64 x.m.bau, .int .i64 x.m.bnu, .slice x.m.bta x.m.btn x.m.btc, .int .i64 x.m.hau, .int .i64 x.m.hrd, .slice x.m.hba x.m.hbn x.m.hbc, .slice x.m.hpa x.m.hpn x.m.hpc, .int .i64 x.m.sau, .int .i64 x.m.srd, .slice x.m.sda x.m.sdn x.m.sdc, .int .i64 x.m.cau, .int .i64 x.m.crd, .slice x.m.cba x.m.cbn x.m.cbc, .slice x.m.cpa x.m.cpn x.m.cpc, .slice x.m.cva x.m.cvn x.m.cvc, .int .i64 x.m.ro] rfl rfl 47 _ z5 sMsg' rfl (by simp [Value.oneCell']) ?_)
      exact bodyPost_ret (v := .tuple #[.agg #[.int .i64 x.m.fr, .int .i64 x.m.tt, .int .i64 x.m.ki, .int .i64 x.m.bau, .int .i64 x.m.bnu, .slice x.m.bta x.m.btn x.m.btc, .int .i64 x.m.hau, .int .i64 x.m.hrd, .slice x.m.hba x.m.hbn x.m.hbc, .slice x.m.hpa x.m.hpn x.m.hpc, .int .i64 x.m.sau, .int .i64 x.m.srd, .slice x.m.sda x.m.sdn x.m.sdc, .int .i64 x.m.cau, .int .i64 x.m.crd, .slice x.m.cba x.m.cbn x.m.cbc, .slice x.m.cpa x.m.cpn x.m.cpc, .slice x.m.cva x.m.cvn x.m.cvc, .int .i64 x.m.ro], .int .i64 0]) (results_cell_slot (fn := Try.f32) (p := 2) (q := 3) (ty := 47) rfl _ _ w.heap.size 47 _ (0, 0) _ (.int .i64 0) ⟨rfl, rfl⟩ (setRow_heap _ _ _ _ _ _ z5) Try.underlying47 rfl sMsg') rfl ⟨.inr ⟨HX.out.1, x, HX.out.2.2.2, HM5.out.setRow HX.out.2.2.1 hsz, HX.out.2.2.1.mono (fun q hq => by omega), .inl ⟨HR.out, rfl⟩⟩, (Upd.setRow z5).below hB5 hB5.size (Nat.le_refl _)⟩
    · have HF : Hid (F ≠ 0) := hF
      go_wp2_with (refine wpList_store_row rfl 47 _ _ rfl w.heap.size #[.int .i64 0, .int .i64 0, .int .i64 0, .int .i64 0, .int .i64 0, .slice none 0 0, .int .i64 0, .int .i64 0, .slice none 0 0, .slice none 0 0, .int .i64 0, .int .i64 0, .slice none 0 0, .int .i64 0, .int .i64 0, .slice none 0 0, .slice none 0 0, .slice none 0 0, .int .i64 0] rfl rfl 47 _ z5 sMsg' rfl (by simp [Value.oneCell']) ?_)
      refine bodyPost_ret (v := .tuple #[.agg #[.int .i64 0, .int .i64 0, .int .i64 0, .int .i64 0, .int .i64 0, .slice none 0 0, .int .i64 0, .int .i64 0, .slice none 0 0, .slice none 0 0, .int .i64 0, .int .i64 0, .slice none 0 0, .int .i64 0, .int .i64 0, .slice none 0 0, .slice none 0 0, .slice none 0 0, .int .i64 0], .int .i64 F]) (results_cell_slot (fn := Try.f32) (p := 2) (q := 3) (ty := 47) rfl _ _ w.heap.size 47 _ (0, 0) _ (.int .i64 F) ⟨rfl, rfl⟩ (setRow_heap _ _ _ _ _ _ z5) Try.underlying47 rfl sMsg') rfl ⟨.inr ⟨HX.out.1, x, HX.out.2.2.2, HM5.out.setRow HX.out.2.2.1 hsz, HX.out.2.2.1.mono (fun q hq => by omega), .inr ⟨?_, ?_⟩⟩, (Upd.setRow z5).below hB5 hB5.size (Nat.le_refl _)⟩
      · rw [HR.out]; exact HF.out
      · rw [HR.out]
end Go.Proofs.Ythpocgndgphedaa

namespace Go.Proofs.Ythpocgndgphedaa
open Go.RowKit

set_option maxRecDepth 100000 in
theorem U8s.app {a b : List Int} (ha : U8s a) (hb : U8s b) : U8s (a ++ b) := fun x hx => (List.mem_append.1 hx).elim (ha x) (hb x)
set_option maxRecDepth 100000 in
theorem U8s.cons {a : Int} {b : List Int} (ha : 0 ≤ a ∧ a ≤ 255) (hb : U8s b) : U8s (a :: b) := fun x hx => by
  rcases List.mem_cons.1 hx with h | h
  · rw [h]; exact ha
  · exact hb x h
set_option maxRecDepth 100000 in
theorem U8s.nil : U8s [] := fun x hx => by cases hx
set_option maxRecDepth 100000 in
theorem U8s.take {a : List Int} (k : Nat) (ha : U8s a) : U8s (a.take k) := fun x hx => ha x (List.mem_of_mem_take hx)
set_option maxRecDepth 100000 in
theorem u8_rd3 {n : Int} (h : 1 ≤ n ∧ n ≤ 1048576) : U8s (rd3 n) := U8s.cons (by omega) (U8s.cons (by omega) (U8s.cons (by omega) U8s.nil))
set_option maxRecDepth 100000 in
theorem u8_flat (qs : List Part) (h : ∀ p ∈ qs, ∀ x ∈ p.bs, 0 ≤ x ∧ x ≤ 255) : U8s (flatB qs) := by
  induction qs with
  | nil => exact U8s.nil
  | cons p qs ih => exact U8s.app (h p (by simp)) (ih fun q hq => h q (by simp [hq]))
set_option maxRecDepth 100000 in
theorem u8_digs (qs : List Part) (hl : qs.length ≤ 255) (h : ∀ p ∈ qs, ∀ x ∈ p.bs, 0 ≤ x ∧ x ≤ 255) : U8s (digsB qs) := U8s.cons (by omega) (u8_flat qs h)
set_option maxRecDepth 100000 in
theorem u8_tb (s : ByteArray) : U8s (tb s) := fun x hx => by
  obtain ⟨b, _, rfl⟩ := List.mem_map.1 hx
  have := b.toNat_lt
  omega
set_option maxRecDepth 100000 in
theorem u8_txs (ss : List ByteArray) (h : ∀ s ∈ ss, s.size ≤ 20) : U8s (txsB ss) := by
  induction ss with
  | nil => exact U8s.nil
  | cons s ss ih =>
    have := h s (by simp)
    exact U8s.cons (by omega) (U8s.app (u8_tb s) (ih fun q hq => h q (by simp [hq])))
set_option maxRecDepth 100000 in
theorem u8_head {au rd : Int} {bl pl : List Part} (h : headerF au rd bl pl = 0) (hb : ∀ p ∈ bl, ∀ x ∈ p.bs, 0 ≤ x ∧ x ≤ 255) (hp : ∀ p ∈ pl, ∀ x ∈ p.bs, 0 ≤ x ∧ x ≤ 255) : U8s (headB au rd bl pl) := by
  obtain ⟨h1, h2, h3, h4, _, _⟩ := headerF_ok h
  exact U8s.app (U8s.app (U8s.app (U8s.cons (by omega) U8s.nil) (u8_rd3 h2)) (u8_digs bl (by omega) hb)) (u8_digs pl (by omega) hp)
set_option maxRecDepth 100000 in
/-- A message's bytes are bytes. -/
theorem u8_msg {x : MV} (h : checkF x.m x.car = 0) (hu : U8M x.bl x.pl x.cbl x.cpl x.ds) : U8s x.bytes := by
  obtain ⟨hf, ht, hc, _⟩ := checkF_ok h
  have hc' : carriedF x.m x.ss x.bl x.pl x.cbl x.cpl x.vl = 0 := hc
  have hk := carriedF_kind hc'
  refine U8s.app (U8s.cons (by omega) (U8s.cons (by omega) (U8s.cons (by omega) U8s.nil))) ?_
  rcases hk with k | k | k | k | k
  · rw [carried1 k] at hc'
    rw [bodyB1 k]
    obtain ⟨h1, h2, h3, h4⟩ := batchF_ok hc'
    exact U8s.app (U8s.app (U8s.app (U8s.cons (by omega) U8s.nil) (u8_rd3 h2)) (U8s.cons (by omega) U8s.nil)) (u8_txs _ fun s hs => (h4 s hs).2)
  · rw [carried2 k] at hc'
    rw [bodyB2 k]
    exact u8_head hc' hu.hb hu.hp
  · rw [carried3 k] at hc'
    rw [bodyB3 k]
    obtain ⟨h1, h2, _⟩ := slotF_ok hc'
    exact U8s.app (U8s.app (U8s.cons (by omega) U8s.nil) (u8_rd3 h2)) hu.sd
  · rw [carried4 k] at hc'
    rw [bodyB4 k]
    obtain ⟨h1, h2, h3, h4⟩ := certF_ok hc'
    exact U8s.app (U8s.app (u8_head h1 hu.cb hu.cp) (U8s.cons (by omega) U8s.nil)) (fun y hy => by have := h4 y hy; omega)
  · rw [carried5 k] at hc'
    rw [bodyB5 k]
    split at hc'
    · rename_i h9
      exact u8_rd3 h9
    · cases hc'
set_option maxRecDepth 100000 in
theorem msg_len {w : World} {x : MV} (hM : MAt w x) (h : checkF x.m x.car = 0) : 3 < x.bytes.length ∧ x.bytes.length ≤ 323 := by
  obtain ⟨_, _, hc, _⟩ := checkF_ok h
  have hc' : carriedF x.m x.ss x.bl x.pl x.cbl x.cpl x.vl = 0 := hc
  have hl := bodyB_le (ds := x.ds) hM.dn hc'
  have e : x.bytes.length = 3 + (bodyB x.m x.ss x.bl x.pl x.cbl x.cpl x.ds x.vl).length := by simp [MV.bytes, msgB]; omega
  have hp : 0 < (bodyB x.m x.ss x.bl x.pl x.cbl x.cpl x.ds x.vl).length := by
    rcases carriedF_kind hc' with k | k | k | k | k
    · rw [bodyB1 k]; simp [batchB]
    · rw [bodyB2 k]; simp [headB]
    · rw [bodyB3 k]; simp
    · rw [bodyB4 k]; simp [certB]; omega
    · rw [bodyB5 k]; simp [rd3]
  omega
set_option maxRecDepth 100000 in
/-- What is torn is told to be short. -/
theorem torn_read {w : World} {x : MV} (hM : MAt w x) (h : checkF x.m x.car = 0) (K : Nat) (hK : K < x.bytes.length) : readF (x.bytes.take K) = 5 := by
  obtain ⟨_, hlen⟩ := msg_len hM h
  obtain ⟨_, _, hc, he⟩ := checkF_ok h
  have hc' : carriedF x.m x.ss x.bl x.pl x.cbl x.cpl x.vl = 0 := hc
  have hk := carriedF_kind hc'
  have hS : mS (x.bytes, false) = ([], false) := by
    have := (parse_back x [] hM hc he).2
    rw [List.append_nil] at this
    exact this
  have hT : (mS (x.bytes.take K, false)).2 = true := by
    refine mS_torn (q := x.bytes.drop K) (fun e => ?_) ?_
    · have := congrArg List.length e
      rw [List.length_drop, List.length_nil] at this
      omega
    · rw [List.take_append_drop]; exact hS
  have hL : (x.bytes.take K).length ≤ 4000 := by rw [List.length_take]; omega
  rw [readF, if_neg (by omega)]
  by_cases hn : x.bytes.take K = []
  · rw [if_pos hn]
  · rw [if_neg hn]
    have hg : (x.bytes.take K).getD 0 0 = x.m.ki := by
      cases K with
      | zero => exact absurd (List.take_zero) hn
      | succ K => rfl
    rw [hg, if_neg (by omega), if_pos hT]
set_option maxRecDepth 100000 in
theorem dec_torn {w w' : World} {e : Ending} {bs : List Int} (h : DecIs w w' e bs) (hF : readF bs = 5) : e = .returned (.tuple #[.agg #[.int .i64 0, .int .i64 0, .int .i64 0, .int .i64 0, .int .i64 0, .slice none 0 0, .int .i64 0, .int .i64 0, .slice none 0 0, .slice none 0 0, .int .i64 0, .int .i64 0, .slice none 0 0, .int .i64 0, .int .i64 0, .slice none 0 0, .slice none 0 0, .slice none 0 0, .int .i64 0], .int .i64 5]) ∧ Below w.heap.size w w' := by
  rcases h.out with ⟨_, he⟩ | ⟨h0, _⟩
  · rw [hF] at he
    exact ⟨he, h.below⟩
  · rw [hF] at h0; cases h0
end Go.Proofs.Ythpocgndgphedaa

namespace Go.Proofs.Ythpocgndgphedaa
open Go.RowKit

set_option maxRecDepth 100000 in
theorem bsAt_c {ps qs : List Part} (h : Same ps qs) (k : Nat) : (partAt ps k).bs = (partAt qs k).bs := by
  have hk : (ps.map (·.bs))[k]? = (qs.map (·.bs))[k]? := by rw [h]
  simp only [List.getElem?_map] at hk
  simp only [partAt, List.getD]
  cases h1 : ps[k]? <;> cases h2 : qs[k]? <;> simp_all
set_option maxRecDepth 100000 in
theorem digTo1_c {ps qs : List Part} (h : Same ps qs) (k : Nat) : digTo1 ps k = digTo1 qs k := by
  induction k with
  | zero => rfl
  | succ k ih =>
    have e1 : digAt ps k = digAt qs k := by
      have e2 : twice ps k = twice qs k := by
        simp only [twice, bsAt_c h]
      rw [digAt, digAt, e2, bsAt_c h k]
    rw [digTo1, digTo1, ih, e1]
set_option maxRecDepth 100000 in
theorem digF_c {ps qs : List Part} (h : Same ps qs) : digF ps = digF qs := by
  rw [digF, digF, h.length, digTo1_c h]
set_option maxRecDepth 100000 in
theorem headerF_c {au rd : Int} {bl pl bl' pl' : List Part} (h1 : Same bl bl') (h2 : Same pl pl') : headerF au rd bl pl = headerF au rd bl' pl' := by
  rw [headerF, headerF, digF_c h1, digF_c h2, h1.length, h2.length]
set_option maxRecDepth 100000 in
theorem certF_c {au rd : Int} {bl pl bl' pl' : List Part} {vl : List Int} (h1 : Same bl bl') (h2 : Same pl pl') : certF au rd bl pl vl = certF au rd bl' pl' vl := by
  rw [certF, certF, headerF_c h1 h2]
set_option maxRecDepth 100000 in
set_option maxHeartbeats 1000000 in
/-- What is told of a message hangs on what it says. -/
theorem check_c {w w' : World} {x y : MV} (hx : MAt w x) (hy : MAt w' y) (h : y.c = x.c) : checkF y.m y.car = checkF x.m x.car := by
  simp only [MV.c, MC.mk.injEq] at h
  obtain ⟨e1, e2, e3, e4, e5, e6, e7, e8, e9, e10, e11, e12, e13, e14, e15, e16, e17, e18, e19⟩ := h
  have n1 : y.m.btn = x.m.btn := by rw [hy.at'.e1, hx.at'.e1, e6]
  have n2 : y.m.hbn = x.m.hbn := by rw [hy.at'.e2, hx.at'.e2]; exact Same.length e9
  have n3 : y.m.hpn = x.m.hpn := by rw [hy.at'.e3, hx.at'.e3]; exact Same.length e10
  have n4 : y.m.cbn = x.m.cbn := by rw [hy.at'.e4, hx.at'.e4]; exact Same.length e16
  have n5 : y.m.cpn = x.m.cpn := by rw [hy.at'.e5, hx.at'.e5]; exact Same.length e17
  have n6 : y.m.cvn = x.m.cvn := by rw [hy.at'.e6, hx.at'.e6, e18]
  have n7 : y.m.sdn = x.m.sdn := by rw [hy.dn, hx.dn, e13]
  have hH : headerF y.m.hau y.m.hrd y.bl y.pl = headerF x.m.hau x.m.hrd x.bl x.pl := by rw [e7, e8]; exact headerF_c e9 e10
  have hK : certF y.m.cau y.m.crd y.cbl y.cpl y.vl = certF x.m.cau x.m.crd x.cbl x.cpl x.vl := by rw [e14, e15, e18]; exact certF_c e16 e17
  have c1 : y.car = x.car := by
    show carriedF y.m y.ss y.bl y.pl y.cbl y.cpl y.vl = carriedF x.m x.ss x.bl x.pl x.cbl x.cpl x.vl
    rw [carriedF, carriedF, hH, hK, e3, e4, e5, e6, e11, e12, n7, e19]
  have hm : msgEmpty (strip y.m) = msgEmpty (strip x.m) := by
    rw [strip, strip, e3]
    by_cases k1 : x.m.ki = 1
    · rw [if_pos k1, if_pos k1]
      simp only [msgEmpty, e7, e8, e11, e12, e14, e15, e19, n2, n3, n4, n5, n6, n7]
    · rw [if_neg k1, if_neg k1]
      by_cases k2 : x.m.ki = 2
      · rw [if_pos k2, if_pos k2]
        simp only [msgEmpty, e4, e5, e11, e12, e14, e15, e19, n1, n4, n5, n6, n7]
      · rw [if_neg k2, if_neg k2]
        by_cases k3 : x.m.ki = 3
        · rw [if_pos k3, if_pos k3]
          simp only [msgEmpty, e4, e5, e7, e8, e14, e15, e19, n1, n2, n3, n4, n5, n6]
        · rw [if_neg k3, if_neg k3]
          by_cases k4 : x.m.ki = 4
          · rw [if_pos k4, if_pos k4]
            simp only [msgEmpty, e4, e5, e7, e8, e11, e12, e19, n1, n2, n3, n7]
          · rw [if_neg k4, if_neg k4]
            simp only [msgEmpty, e4, e5, e7, e8, e11, e12, e14, e15, n1, n2, n3, n4, n5, n6, n7]
  rw [checkF, checkF, e1, e2, c1, hm]
set_option maxRecDepth 100000 in
theorem msg_first {x : MV} (hC : checkF x.m x.car = 0) (r : List Int) : x.bytes ++ r ≠ [] ∧ (x.bytes ++ r).getD 0 0 = x.m.ki ∧ 1 ≤ x.m.ki ∧ x.m.ki ≤ 5 := by
  obtain ⟨_, _, hc, _⟩ := checkF_ok hC
  have hc' : carriedF x.m x.ss x.bl x.pl x.cbl x.cpl x.vl = 0 := hc
  have hk := carriedF_kind hc'
  have e : x.bytes ++ r = x.m.ki :: (x.m.fr :: (x.m.tt :: (bodyB x.m x.ss x.bl x.pl x.cbl x.cpl x.ds x.vl ++ r))) := by simp [MV.bytes, msgB]
  rw [e]
  exact ⟨by simp, rfl, by omega, by omega⟩
set_option maxRecDepth 100000 in
/-- A message is decoded as it was encoded. -/
theorem dec_back {w0 w w' : World} {e : Ending} {x : MV} (hM : MAt w0 x) (hC : checkF x.m x.car = 0) (h : DecIs w w' e x.bytes) :
    ∃ y : MV, y.c = x.c ∧ MAt w' y ∧ HasM (fun q => w.heap.size ≤ q) y ∧ e = .returned (.tuple #[.agg #[.int .i64 y.m.fr, .int .i64 y.m.tt, .int .i64 y.m.ki, .int .i64 y.m.bau, .int .i64 y.m.bnu, .slice y.m.bta y.m.btn y.m.btc, .int .i64 y.m.hau, .int .i64 y.m.hrd, .slice y.m.hba y.m.hbn y.m.hbc, .slice y.m.hpa y.m.hpn y.m.hpc, .int .i64 y.m.sau, .int .i64 y.m.srd, .slice y.m.sda y.m.sdn y.m.sdc, .int .i64 y.m.cau, .int .i64 y.m.crd, .slice y.m.cba y.m.cbn y.m.cbc, .slice y.m.cpa y.m.cpn y.m.cpc, .slice y.m.cva y.m.cvn y.m.cvc, .int .i64 y.m.ro], .int .i64 0]) ∧ Below w.heap.size w w' := by
  obtain ⟨_, _, hc, he⟩ := checkF_ok hC
  obtain ⟨_, hlen⟩ := msg_len hM hC
  obtain ⟨f1, f2, f3, f4⟩ := msg_first hC []
  obtain ⟨p1, p2⟩ := parse_back x [] hM hc he
  rw [List.append_nil] at f1 f2 p1 p2
  have hR : readF x.bytes = 0 := by
    rw [readF, if_neg (by omega), if_neg f1, f2, if_neg (by omega), p2, if_neg (by simp), if_neg (by simp)]
  rcases h.out with ⟨h0, _⟩ | ⟨_, y, hy, hA, hH, hx⟩
  · exact absurd hR h0
  · have hyc : y.c = x.c := hy.trans p1
    have hk := (check_c hM hA hyc).trans hC
    rcases hx with ⟨_, he⟩ | ⟨h9, _⟩
    · exact ⟨y, hyc, hA, hH, he, h.below⟩
    · exact absurd hk h9
set_option maxRecDepth 100000 in
/-- With a byte more it is none. -/
theorem dec_more {w0 w w' : World} {e : Ending} {x : MV} {t : Int} (hM : MAt w0 x) (hC : checkF x.m x.car = 0) (h : DecIs w w' e (x.bytes ++ [t])) : e = .returned (.tuple #[.agg #[.int .i64 0, .int .i64 0, .int .i64 0, .int .i64 0, .int .i64 0, .slice none 0 0, .int .i64 0, .int .i64 0, .slice none 0 0, .slice none 0 0, .int .i64 0, .int .i64 0, .slice none 0 0, .int .i64 0, .int .i64 0, .slice none 0 0, .slice none 0 0, .slice none 0 0, .int .i64 0], .int .i64 4]) ∧ Below w.heap.size w w' := by
  obtain ⟨_, _, hc, he⟩ := checkF_ok hC
  obtain ⟨_, hlen⟩ := msg_len hM hC
  obtain ⟨f1, f2, f3, f4⟩ := msg_first hC [t]
  obtain ⟨p1, p2⟩ := parse_back x [t] hM hc he
  have hl : (x.bytes ++ [t]).length ≤ 4000 := by rw [List.length_append, List.length_singleton]; omega
  have hR : readF (x.bytes ++ [t]) = 4 := by
    rw [readF, if_neg (by omega), if_neg f1, f2, if_neg (by omega), p2, if_neg (by simp), if_pos (by simp)]
  rcases h.out with ⟨_, he⟩ | ⟨h0, _⟩
  · rw [hR] at he
    exact ⟨he, h.below⟩
  · rw [hR] at h0; cases h0
end Go.Proofs.Ythpocgndgphedaa
