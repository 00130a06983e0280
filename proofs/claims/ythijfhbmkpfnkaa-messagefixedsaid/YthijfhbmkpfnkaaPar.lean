/- What is encoded is read as it was. -/
import Derived.Test.YthijfhbmkpfnkaaRdM
import Derived.Test.YthijfhbmkpfnkaaMsgB
namespace Go.Proofs.Ythijfhbmkpfnkaa
open Go.RowKit

set_option maxRecDepth 100000 in
theorem tk_app {n : Nat} {t : List Int} (r : List Int) (h : t.length = n) : tT n (t ++ r, false) = t ∧ nx n (t ++ r, false) = (r, false) := by
  obtain ⟨h1, h2, h3⟩ := tk_ok (n := n) (l := t ++ r) (by simp; omega)
  refine ⟨h1.trans ?_, ?_⟩
  · subst h; simp
  · show (tkL n (t ++ r) false, tkS n (t ++ r) false) = (r, false)
    rw [h2, h3]
    subst h
    simp
set_option maxRecDepth 100000 in
theorem nB_one (a : Int) (r : List Int) : nB 1 (a :: r, false) = a ∧ nx 1 (a :: r, false) = (r, false) := by
  obtain ⟨h1, h2⟩ := tk_app (n := 1) (t := [a]) r rfl
  refine ⟨?_, h2⟩
  show numB (tT 1 ([a] ++ r, false)) = a
  rw [h1]
  simp [numB]
set_option maxRecDepth 100000 in
theorem nB_three (n : Int) (r : List Int) : nB 3 (rd3 n ++ r, false) = n ∧ nx 3 (rd3 n ++ r, false) = (r, false) := by
  obtain ⟨h1, h2⟩ := tk_app (n := 3) (t := rd3 n) r rfl
  refine ⟨?_, h2⟩
  show numB (tT 3 (rd3 n ++ r, false)) = n
  rw [h1]
  simp [numB, rd3]
  omega
set_option maxRecDepth 100000 in
theorem flatB_appP (l m : List Part) : flatB (l ++ m) = flatB l ++ flatB m := by
  induction l with
  | nil => simp [flatB]
  | cons x l ih => simp [flatB, ih]
set_option maxRecDepth 100000 in
theorem dg_run (qs : List Part) (r : List Int) (h : ∀ p ∈ qs, p.bs.length = 32) (k : Nat) (hk : k ≤ qs.length) : dgL (flatB qs ++ r) false k = (flatB (qs.drop k) ++ r, false) ∧ dgD (flatB qs ++ r) false k = (qs.take k).map (·.bs) := by
  induction k with
  | zero => exact ⟨rfl, rfl⟩
  | succ k ih =>
    obtain ⟨h1, h2⟩ := ih (by omega)
    have hd : qs.drop k = qs[k] :: qs.drop (k + 1) := List.drop_eq_getElem_cons (by omega)
    have h32 : (qs[k]).bs.length = 32 := h _ (List.getElem_mem (by omega))
    obtain ⟨t1, t2⟩ := tk_app (n := 32) (t := (qs[k]).bs) (flatB (qs.drop (k + 1)) ++ r) h32
    have he : flatB (qs.drop k) ++ r = (qs[k]).bs ++ (flatB (qs.drop (k + 1)) ++ r) := by rw [hd, flatB, List.append_assoc]
    constructor
    · show (tkL 32 (dgL (flatB qs ++ r) false k).1 (dgL (flatB qs ++ r) false k).2, tkS 32 (dgL (flatB qs ++ r) false k).1 (dgL (flatB qs ++ r) false k).2) = _
      rw [h1]
      show (tkL 32 (flatB (qs.drop k) ++ r) false, tkS 32 (flatB (qs.drop k) ++ r) false) = _
      rw [he]
      exact t2
    · show dgD (flatB qs ++ r) false k ++ [tkT 32 (dgL (flatB qs ++ r) false k).1 (dgL (flatB qs ++ r) false k).2] = _
      rw [h1, h2]
      show _ ++ [tkT 32 (flatB (qs.drop k) ++ r) false] = _
      rw [he]
      have t1' : tkT 32 ((qs[k]).bs ++ (flatB (qs.drop (k + 1)) ++ r)) false = (qs[k]).bs := t1
      rw [t1', List.take_succ_eq_append_getElem (by omega), List.map_append]
      rfl
set_option maxRecDepth 100000 in
theorem dgs_back (qs : List Part) (r : List Int) (h : ∀ p ∈ qs, p.bs.length = 32) : dgs (digsB qs ++ r, false) = qs.map (·.bs) ∧ dgS (digsB qs ++ r, false) = (r, false) := by
  have hc : digsB qs ++ r = (qs.length : Int) :: (flatB qs ++ r) := rfl
  obtain ⟨n1, n2⟩ := nB_one (qs.length : Int) (flatB qs ++ r)
  have hN : dN ((qs.length : Int) :: (flatB qs ++ r)) false = qs.length := by
    show (nB 1 ((qs.length : Int) :: (flatB qs ++ r), false)).toNat = _
    rw [n1]; omega
  obtain ⟨d1, d2⟩ := dg_run qs r h qs.length (Nat.le_refl _)
  rw [hc]
  constructor
  · show dgD (nx 1 ((qs.length : Int) :: (flatB qs ++ r), false)).1 (nx 1 ((qs.length : Int) :: (flatB qs ++ r), false)).2 (dN ((qs.length : Int) :: (flatB qs ++ r)) false) = _
    rw [n2, hN, d2, List.take_of_length_le (Nat.le_refl _)]
  · show dgL (nx 1 ((qs.length : Int) :: (flatB qs ++ r), false)).1 (nx 1 ((qs.length : Int) :: (flatB qs ++ r), false)).2 (dN ((qs.length : Int) :: (flatB qs ++ r)) false) = _
    rw [n2, hN, d1, List.drop_of_length_le (Nat.le_refl _)]
    rfl
set_option maxRecDepth 100000 in
theorem nV_run (vl r : List Int) (k : Nat) (hk : k ≤ vl.length) : nL (vl ++ r, false) k = (vl.drop k ++ r, false) ∧ nV (vl ++ r, false) k = vl.take k := by
  induction k with
  | zero => exact ⟨rfl, rfl⟩
  | succ k ih =>
    obtain ⟨h1, h2⟩ := ih (by omega)
    have hd : vl.drop k = vl[k] :: vl.drop (k + 1) := List.drop_eq_getElem_cons (by omega)
    obtain ⟨t1, t2⟩ := nB_one (vl[k]) (vl.drop (k + 1) ++ r)
    constructor
    · show nx 1 (nL (vl ++ r, false) k) = _
      rw [h1, hd]
      exact t2
    · show nV (vl ++ r, false) k ++ [nB 1 (nL (vl ++ r, false) k)] = _
      rw [h1, h2, hd, List.take_succ_eq_append_getElem (by omega)]
      show _ ++ [nB 1 (vl[k] :: (vl.drop (k + 1) ++ r), false)] = _
      rw [t1]
set_option maxRecDepth 100000 in
theorem bstr_tb (s : ByteArray) : bstr (tb s) = s := by
  apply ba_ext
  rw [ByteArray.toList_eq, ByteArray.toList_eq, bstr_data, tb]
  rw [List.map_map]
  conv => rhs; rw [← List.map_id s.data.toList]
  refine List.map_congr_left fun x hx => ?_
  simp
set_option maxRecDepth 100000 in
theorem bT_run (ss : List ByteArray) (r : List Int) (k : Nat) (hk : k ≤ ss.length) : bL (txsB ss ++ r, false) k = (txsB (ss.drop k) ++ r, false) ∧ bT (txsB ss ++ r, false) k = ss.take k := by
  induction k with
  | zero => exact ⟨rfl, rfl⟩
  | succ k ih =>
    obtain ⟨h1, h2⟩ := ih (by omega)
    have hd : ss.drop k = ss[k] :: ss.drop (k + 1) := List.drop_eq_getElem_cons (by omega)
    have he : txsB (ss.drop k) ++ r = ((ss[k]).size : Int) :: (tb (ss[k]) ++ (txsB (ss.drop (k + 1)) ++ r)) := by rw [hd]; simp [txsB]
    obtain ⟨t1, t2⟩ := nB_one ((ss[k]).size : Int) (tb (ss[k]) ++ (txsB (ss.drop (k + 1)) ++ r))
    obtain ⟨u1, u2⟩ := tk_app (n := (ss[k]).size) (t := tb (ss[k])) (txsB (ss.drop (k + 1)) ++ r) (tb_length _)
    constructor
    · show nx (nB 1 (bL (txsB ss ++ r, false) k)).toNat (nx 1 (bL (txsB ss ++ r, false) k)) = _
      rw [h1, he, t1, t2]
      exact u2
    · show bT (txsB ss ++ r, false) k ++ [bstr (tT (nB 1 (bL (txsB ss ++ r, false) k)).toNat (nx 1 (bL (txsB ss ++ r, false) k)))] = _
      rw [h1, h2, he, t1, t2]
      show _ ++ [bstr (tT (ss[k]).size (tb (ss[k]) ++ (txsB (ss.drop (k + 1)) ++ r), false))] = _
      rw [u1, bstr_tb, List.take_succ_eq_append_getElem (by omega)]
set_option maxRecDepth 100000 in
theorem head_back (au rd : Int) (bl pl : List Part) (r : List Int) (hb : ∀ p ∈ bl, p.bs.length = 32) (hp : ∀ p ∈ pl, p.bs.length = 32) :
    nB 1 (headB au rd bl pl ++ r, false) = au ∧ nB 3 (nx 1 (headB au rd bl pl ++ r, false)) = rd ∧ dgs (nx 3 (nx 1 (headB au rd bl pl ++ r, false))) = bl.map (·.bs) ∧ dgs (dgS (nx 3 (nx 1 (headB au rd bl pl ++ r, false)))) = pl.map (·.bs) ∧ dgS (dgS (nx 3 (nx 1 (headB au rd bl pl ++ r, false)))) = (r, false) := by
  have e : headB au rd bl pl ++ r = au :: (rd3 rd ++ (digsB bl ++ (digsB pl ++ r))) := by simp [headB]
  obtain ⟨a1, a2⟩ := nB_one au (rd3 rd ++ (digsB bl ++ (digsB pl ++ r)))
  obtain ⟨b1, b2⟩ := nB_three rd (digsB bl ++ (digsB pl ++ r))
  obtain ⟨c1, c2⟩ := dgs_back bl (digsB pl ++ r) hb
  obtain ⟨d1, d2⟩ := dgs_back pl r hp
  rw [e, a1, a2, b1, b2, c1, c2, d1, d2]
  exact ⟨rfl, rfl, rfl, rfl, rfl⟩
set_option maxRecDepth 100000 in
theorem len_nil {α : Type} {l : List α} {n : Nat} (h : n = l.length) (h0 : n = 0) : l = [] := List.eq_nil_of_length_eq_zero (by omega)
set_option maxRecDepth 100000 in
set_option maxHeartbeats 1000000 in
/-- What is encoded is read as it was, and what is behind it is left. -/
theorem parse_back {w : World} (x : MV) (r : List Int) (hM : MAt w x) (hc : x.car = 0) (he : msgEmpty (strip x.m) = true) : pM (x.bytes ++ r, false) = x.c ∧ mS (x.bytes ++ r, false) = (r, false) := by
  have hb : x.bytes ++ r = x.m.ki :: (x.m.fr :: (x.m.tt :: (bodyB x.m x.ss x.bl x.pl x.cbl x.cpl x.ds x.vl ++ r))) := by simp [MV.bytes, msgB]
  rw [hb]
  obtain ⟨a1, a2⟩ := nB_one x.m.ki (x.m.fr :: (x.m.tt :: (bodyB x.m x.ss x.bl x.pl x.cbl x.cpl x.ds x.vl ++ r)))
  obtain ⟨b1, b2⟩ := nB_one x.m.fr (x.m.tt :: (bodyB x.m x.ss x.bl x.pl x.cbl x.cpl x.ds x.vl ++ r))
  obtain ⟨c1, c2⟩ := nB_one x.m.tt (bodyB x.m x.ss x.bl x.pl x.cbl x.cpl x.ds x.vl ++ r)
  have hc' : carriedF x.m x.ss x.bl x.pl x.cbl x.cpl x.vl = 0 := hc
  have H := hM.at'
  rcases carriedF_kind hc' with k | k | k | k | k
  · rw [carried1 k] at hc'
    rw [bodyB1 k] at a1 a2 b1 b2 c1 c2 ⊢
    simp [strip, msgEmpty, k] at he
    obtain ⟨h1, h2, h3, h4, h5⟩ := he
    have l1 := len_nil H.e2 h1.2.2.1
    have l2 := len_nil H.e3 h1.2.2.2
    have l3 := len_nil hM.dn h2.2.2
    have l4 := len_nil H.e4 h3.2.2.1
    have l5 := len_nil H.e5 h3.2.2.2
    have l6 := len_nil H.e6 h4
    have e : batchB x.m.bau x.m.bnu x.ss ++ r = x.m.bau :: (rd3 x.m.bnu ++ ((x.ss.length : Int) :: (txsB x.ss ++ r))) := by simp [batchB]
    obtain ⟨d1, d2⟩ := nB_one x.m.bau (rd3 x.m.bnu ++ ((x.ss.length : Int) :: (txsB x.ss ++ r)))
    obtain ⟨f1, f2⟩ := nB_three x.m.bnu ((x.ss.length : Int) :: (txsB x.ss ++ r))
    obtain ⟨g1, g2⟩ := nB_one (x.ss.length : Int) (txsB x.ss ++ r)
    obtain ⟨i1, i2⟩ := bT_run x.ss r x.ss.length (Nat.le_refl _)
    have hN : bN (x.m.bau :: (rd3 x.m.bnu ++ ((x.ss.length : Int) :: (txsB x.ss ++ r))), false) = x.ss.length := by
      show (nB 1 (nx 3 (nx 1 _))).toNat = _
      rw [d2, f2, g1]; omega
    have hS : bS3 (x.m.bau :: (rd3 x.m.bnu ++ ((x.ss.length : Int) :: (txsB x.ss ++ r))), false) = ((x.ss.length : Int) :: (txsB x.ss ++ r), false) := by
      show nx 3 (nx 1 _) = _
      rw [d2, f2]
    rw [e] at a1 a2 b1 b2 c1 c2 ⊢
    rw [pM, mS, a1, if_pos k, if_pos k, a2, b1, b2, c1, c2, d1, d2, f1, hS, hN, g2, i1, i2, List.take_of_length_le (Nat.le_refl _), List.drop_of_length_le (Nat.le_refl _)]
    refine ⟨?_, rfl⟩
    simp only [MV.c, l1, l2, l3, l4, l5, l6, h1, h2, h3, h5, List.map_nil]
  · rw [carried2 k] at hc'
    rw [bodyB2 k] at a1 a2 b1 b2 c1 c2 ⊢
    obtain ⟨_, _, _, _, g5, g6⟩ := headerF_ok hc'
    simp [strip, msgEmpty, k] at he
    obtain ⟨h1, h2, h3, h4, h5⟩ := he
    have l1 := len_nil H.e1 h1.2.2
    have l3 := len_nil hM.dn h2.2.2
    have l4 := len_nil H.e4 h3.2.2.1
    have l5 := len_nil H.e5 h3.2.2.2
    have l6 := len_nil H.e6 h4
    obtain ⟨d1, d2, d3, d4, d5⟩ := head_back x.m.hau x.m.hrd x.bl x.pl r g5 g6
    have k1 : ¬ x.m.ki = 1 := by omega
    rw [pM, mS, a1, if_neg k1, if_neg k1, if_pos k, if_pos k, a2, b1, b2, c1, c2, d1, d2, d3, d4, d5]
    refine ⟨?_, rfl⟩
    simp only [MV.c, l1, l3, l4, l5, l6, h1, h2, h3, h5, List.map_nil]
  · rw [carried3 k] at hc'
    rw [bodyB3 k] at a1 a2 b1 b2 c1 c2 ⊢
    obtain ⟨_, _, g3⟩ := slotF_ok hc'
    simp [strip, msgEmpty, k] at he
    obtain ⟨h1, h2, h3, h4, h5⟩ := he
    have l1 := len_nil H.e1 h1.2.2
    have l2 := len_nil H.e2 h2.2.2.1
    have l3 := len_nil H.e3 h2.2.2.2
    have l4 := len_nil H.e4 h3.2.2.1
    have l5 := len_nil H.e5 h3.2.2.2
    have l6 := len_nil H.e6 h4
    have e : [x.m.sau] ++ rd3 x.m.srd ++ x.ds ++ r = x.m.sau :: (rd3 x.m.srd ++ (x.ds ++ r)) := by simp
    obtain ⟨d1, d2⟩ := nB_one x.m.sau (rd3 x.m.srd ++ (x.ds ++ r))
    obtain ⟨f1, f2⟩ := nB_three x.m.srd (x.ds ++ r)
    obtain ⟨i1, i2⟩ := tk_app (n := 32) (t := x.ds) r (by have := hM.dn; omega)
    rw [e] at a1 a2 b1 b2 c1 c2 ⊢
    have k1 : ¬ x.m.ki = 1 := by omega
    have k2 : ¬ x.m.ki = 2 := by omega
    rw [pM, mS, a1, if_neg k1, if_neg k1, if_neg k2, if_neg k2, if_pos k, if_pos k, a2, b1, b2, c1, c2, d1, d2, f1, f2, i1, i2]
    refine ⟨?_, rfl⟩
    simp only [MV.c, l1, l2, l3, l4, l5, l6, h1, h2, h3, h5, List.map_nil]
  · rw [carried4 k] at hc'
    rw [bodyB4 k] at a1 a2 b1 b2 c1 c2 ⊢
    obtain ⟨hh, _, _, _⟩ := certF_ok hc'
    obtain ⟨_, _, _, _, g5, g6⟩ := headerF_ok hh
    simp [strip, msgEmpty, k] at he
    obtain ⟨h1, h2, h3, h5⟩ := he
    have l1 := len_nil H.e1 h1.2.2
    have l2 := len_nil H.e2 h2.2.2.1
    have l3 := len_nil H.e3 h2.2.2.2
    have l4 := len_nil hM.dn h3.2.2
    have e : certB x.m.cau x.m.crd x.cbl x.cpl x.vl ++ r = headB x.m.cau x.m.crd x.cbl x.cpl ++ ((x.vl.length : Int) :: (x.vl ++ r)) := by simp [certB]
    obtain ⟨d1, d2, d3, d4, d5⟩ := head_back x.m.cau x.m.crd x.cbl x.cpl ((x.vl.length : Int) :: (x.vl ++ r)) g5 g6
    obtain ⟨n1, n2⟩ := nB_one (x.vl.length : Int) (x.vl ++ r)
    obtain ⟨i1, i2⟩ := nV_run x.vl r x.vl.length (Nat.le_refl _)
    have hS : hS4 (headB x.m.cau x.m.crd x.cbl x.cpl ++ ((x.vl.length : Int) :: (x.vl ++ r)), false) = ((x.vl.length : Int) :: (x.vl ++ r), false) := d5
    have hN : cN (headB x.m.cau x.m.crd x.cbl x.cpl ++ ((x.vl.length : Int) :: (x.vl ++ r)), false) = x.vl.length := by
      show (nB 1 (hS4 _)).toNat = _
      rw [hS, n1]; omega
    rw [e] at a1 a2 b1 b2 c1 c2 ⊢
    have k1 : ¬ x.m.ki = 1 := by omega
    have k2 : ¬ x.m.ki = 2 := by omega
    have k3 : ¬ x.m.ki = 3 := by omega
    rw [pM, mS, a1, if_neg k1, if_neg k1, if_neg k2, if_neg k2, if_neg k3, if_neg k3, if_pos k, if_pos k, a2, b1, b2, c1, c2, d1, d2, d3, d4, hS, hN, n2, i1, i2, List.take_of_length_le (Nat.le_refl _), List.drop_of_length_le (Nat.le_refl _)]
    refine ⟨?_, rfl⟩
    simp only [MV.c, l1, l2, l3, l4, h1, h2, h3, h5, List.map_nil]
  · rw [bodyB5 k] at a1 a2 b1 b2 c1 c2 ⊢
    simp [strip, msgEmpty, k] at he
    obtain ⟨h1, h2, h3, h4, h5⟩ := he
    have l1 := len_nil H.e1 h1.2.2
    have l2 := len_nil H.e2 h2.2.2.1
    have l3 := len_nil H.e3 h2.2.2.2
    have l0 := len_nil hM.dn h3.2.2
    have l4 := len_nil H.e4 h4.2.2.1
    have l5 := len_nil H.e5 h4.2.2.2
    have l6 := len_nil H.e6 h5
    obtain ⟨f1, f2⟩ := nB_three x.m.ro r
    have k1 : ¬ x.m.ki = 1 := by omega
    have k2 : ¬ x.m.ki = 2 := by omega
    have k3 : ¬ x.m.ki = 3 := by omega
    have k4 : ¬ x.m.ki = 4 := by omega
    rw [pM, mS, a1, if_neg k1, if_neg k1, if_neg k2, if_neg k2, if_neg k3, if_neg k3, if_neg k4, if_neg k4, a2, b1, b2, c1, c2, f1, f2]
    refine ⟨?_, rfl⟩
    simp only [MV.c, l0, l1, l2, l3, l4, l5, l6, h1, h2, h3, h4, List.map_nil]
end Go.Proofs.Ythijfhbmkpfnkaa
