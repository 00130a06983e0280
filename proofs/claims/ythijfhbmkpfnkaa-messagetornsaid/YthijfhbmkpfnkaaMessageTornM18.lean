/- wire.checkParents and wire.CheckHeader, for every header. -/
import Derived.Test.YthijfhbmkpfnkaaMessageTornM12
import Derived.Test.YthijfhbmkpfnkaaStrs
import Derived.Test.YthijfhbmkpfnkaaDigs
import Derived.Test.YthijfhbmkpfnkaaHeadF
import Derived.Test.YthijfhbmkpfnkaaIns
namespace Go.Proofs.Ythijfhbmkpfnkaa
open Go.RowKit

set_option maxRecDepth 100000 in
theorem tk_app {n : Nat} {t : List Int} (r : List Int) (h : t.length = n) : tT n (t ++ r, false) = t ∧ nx n (t ++ r, false) = (r, false) := by
  obtain ⟨h1, h2, h3⟩ := tk_ok (n := n) (l := t ++ r) (by simp; omega)
  refine ⟨h1.trans ?_, ?_⟩
  · subst h; simp
  · show (tkL n (t ++ r) false, tkS n (t ++ r) false) = (r, false)
    rw [h2, h3]
    subst h
    simp
set_option maxRecDepth 100000 in
theorem nB_one (a : Int) (r : List Int) : nB 1 (a :: r, false) = a ∧ nx 1 (a :: r, false) = (r, false) := by
  obtain ⟨h1, h2⟩ := tk_app (n := 1) (t := [a]) r rfl
  refine ⟨?_, h2⟩
  show numB (tT 1 ([a] ++ r, false)) = a
  rw [h1]
  simp [numB]
set_option maxRecDepth 100000 in
theorem nB_three (n : Int) (r : List Int) : nB 3 (rd3 n ++ r, false) = n ∧ nx 3 (rd3 n ++ r, false) = (r, false) := by
  obtain ⟨h1, h2⟩ := tk_app (n := 3) (t := rd3 n) r rfl
  refine ⟨?_, h2⟩
  show numB (tT 3 (rd3 n ++ r, false)) = n
  rw [h1]
  simp [numB, rd3]
  omega
set_option maxRecDepth 100000 in
theorem flatB_appP (l m : List Part) : flatB (l ++ m) = flatB l ++ flatB m := by
  induction l with
  | nil => simp [flatB]
  | cons x l ih => simp [flatB, ih]
set_option maxRecDepth 100000 in
theorem dg_run (qs : List Part) (r : List Int) (h : ∀ p ∈ qs, p.bs.length = 32) (k : Nat) (hk : k ≤ qs.length) : dgL (flatB qs ++ r) false k = (flatB (qs.drop k) ++ r, false) ∧ dgD (flatB qs ++ r) false k = (qs.take k).map (·.bs) := by
  induction k with
  | zero => exact ⟨rfl, rfl⟩
  | succ k ih =>
    obtain ⟨h1, h2⟩ := ih (by omega)
    have hd : qs.drop k = qs[k] :: qs.drop (k + 1) := List.drop_eq_getElem_cons (by omega)
    have h32 : (qs[k]).bs.length = 32 := h _ (List.getElem_mem (by omega))
    obtain ⟨t1, t2⟩ := tk_app (n := 32) (t := (qs[k]).bs) (flatB (qs.drop (k + 1)) ++ r) h32
    have he : flatB (qs.drop k) ++ r = (qs[k]).bs ++ (flatB (qs.drop (k + 1)) ++ r) := by rw [hd, flatB, List.append_assoc]
    constructor
    · show (tkL 32 (dgL (flatB qs ++ r) false k).1 (dgL (flatB qs ++ r) false k).2, tkS 32 (dgL (flatB qs ++ r) false k).1 (dgL (flatB qs ++ r) false k).2) = _
      rw [h1]
      show (tkL 32 (flatB (qs.drop k) ++ r) false, tkS 32 (flatB (qs.drop k) ++ r) false) = _
      rw [he]
      exact t2
    · show dgD (flatB qs ++ r) false k ++ [tkT 32 (dgL (flatB qs ++ r) false k).1 (dgL (flatB qs ++ r) false k).2] = _
      rw [h1, h2]
      show _ ++ [tkT 32 (flatB (qs.drop k) ++ r) false] = _
      rw [he]
      have t1' : tkT 32 ((qs[k]).bs ++ (flatB (qs.drop (k + 1)) ++ r)) false = (qs[k]).bs := t1
      rw [t1', List.take_succ_eq_append_getElem (by omega), List.map_append]
      rfl
set_option maxRecDepth 100000 in
theorem dgs_back (qs : List Part) (r : List Int) (h : ∀ p ∈ qs, p.bs.length = 32) : dgs (digsB qs ++ r, false) = qs.map (·.bs) ∧ dgS (digsB qs ++ r, false) = (r, false) := by
  have hc : digsB qs ++ r = (qs.length : Int) :: (flatB qs ++ r) := rfl
  obtain ⟨n1, n2⟩ := nB_one (qs.length : Int) (flatB qs ++ r)
  have hN : dN ((qs.length : Int) :: (flatB qs ++ r)) false = qs.length := by
    show (nB 1 ((qs.length : Int) :: (flatB qs ++ r), false)).toNat = _
    rw [n1]; omega
  obtain ⟨d1, d2⟩ := dg_run qs r h qs.length (Nat.le_refl _)
  rw [hc]
  constructor
  · show dgD (nx 1 ((qs.length : Int) :: (flatB qs ++ r), false)).1 (nx 1 ((qs.length : Int) :: (flatB qs ++ r), false)).2 (dN ((qs.length : Int) :: (flatB qs ++ r)) false) = _
    rw [n2, hN, d2, List.take_of_length_le (Nat.le_refl _)]
  · show dgL (nx 1 ((qs.length : Int) :: (flatB qs ++ r), false)).1 (nx 1 ((qs.length : Int) :: (flatB qs ++ r), false)).2 (dN ((qs.length : Int) :: (flatB qs ++ r)) false) = _
    rw [n2, hN, d1, List.drop_of_length_le (Nat.le_refl _)]
    rfl
set_option maxRecDepth 100000 in
theorem nV_run (vl r : List Int) (k : Nat) (hk : k ≤ vl.length) : nL (vl ++ r, false) k = (vl.drop k ++ r, false) ∧ nV (vl ++ r, false) k = vl.take k := by
  induction k with
  | zero => exact ⟨rfl, rfl⟩
  | succ k ih =>
    obtain ⟨h1, h2⟩ := ih (by omega)
    have hd : vl.drop k = vl[k] :: vl.drop (k + 1) := List.drop_eq_getElem_cons (by omega)
    obtain ⟨t1, t2⟩ := nB_one (vl[k]) (vl.drop (k + 1) ++ r)
    constructor
    · show nx 1 (nL (vl ++ r, false) k) = _
      rw [h1, hd]
      exact t2
    · show nV (vl ++ r, false) k ++ [nB 1 (nL (vl ++ r, false) k)] = _
      rw [h1, h2, hd, List.take_succ_eq_append_getElem (by omega)]
      show _ ++ [nB 1 (vl[k] :: (vl.drop (k + 1) ++ r), false)] = _
      rw [t1]
set_option maxRecDepth 100000 in
theorem bstr_tb (s : ByteArray) : bstr (tb s) = s := by
  apply ba_ext
  rw [ByteArray.toList_eq, ByteArray.toList_eq, bstr_data, tb]
  rw [List.map_map]
  conv => rhs; rw [← List.map_id s.data.toList]
  refine List.map_congr_left fun x hx => ?_
  simp
set_option maxRecDepth 100000 in
theorem bT_run (ss : List ByteArray) (r : List Int) (k : Nat) (hk : k ≤ ss.length) : bL (txsB ss ++ r, false) k = (txsB (ss.drop k) ++ r, false) ∧ bT (txsB ss ++ r, false) k = ss.take k := by
  induction k with
  | zero => exact ⟨rfl, rfl⟩
  | succ k ih =>
    obtain ⟨h1, h2⟩ := ih (by omega)
    have hd : ss.drop k = ss[k] :: ss.drop (k + 1) := List.drop_eq_getElem_cons (by omega)
    have he : txsB (ss.drop k) ++ r = ((ss[k]).size : Int) :: (tb (ss[k]) ++ (txsB (ss.drop (k + 1)) ++ r)) := by rw [hd]; simp [txsB]
    obtain ⟨t1, t2⟩ := nB_one ((ss[k]).size : Int) (tb (ss[k]) ++ (txsB (ss.drop (k + 1)) ++ r))
    obtain ⟨u1, u2⟩ := tk_app (n := (ss[k]).size) (t := tb (ss[k])) (txsB (ss.drop (k + 1)) ++ r) (tb_length _)
    constructor
    · show nx (nB 1 (bL (txsB ss ++ r, false) k)).toNat (nx 1 (bL (txsB ss ++ r, false) k)) = _
      rw [h1, he, t1, t2]
      exact u2
    · show bT (txsB ss ++ r, false) k ++ [bstr (tT (nB 1 (bL (txsB ss ++ r, false) k)).toNat (nx 1 (bL (txsB ss ++ r, false) k)))] = _
      rw [h1, h2, he, t1, t2]
      show _ ++ [bstr (tT (ss[k]).size (tb (ss[k]) ++ (txsB (ss.drop (k + 1)) ++ r), false))] = _
      rw [u1, bstr_tb, List.take_succ_eq_append_getElem (by omega)]
set_option maxRecDepth 100000 in
theorem head_back (au rd : Int) (bl pl : List Part) (r : List Int) (hb : ∀ p ∈ bl, p.bs.length = 32) (hp : ∀ p ∈ pl, p.bs.length = 32) :
    nB 1 (headB au rd bl pl ++ r, false) = au ∧ nB 3 (nx 1 (headB au rd bl pl ++ r, false)) = rd ∧ dgs (nx 3 (nx 1 (headB au rd bl pl ++ r, false))) = bl.map (·.bs) ∧ dgs (dgS (nx 3 (nx 1 (headB au rd bl pl ++ r, false)))) = pl.map (·.bs) ∧ dgS (dgS (nx 3 (nx 1 (headB au rd bl pl ++ r, false)))) = (r, false) := by
  have e : headB au rd bl pl ++ r = au :: (rd3 rd ++ (digsB bl ++ (digsB pl ++ r))) := by simp [headB]
  obtain ⟨a1, a2⟩ := nB_one au (rd3 rd ++ (digsB bl ++ (digsB pl ++ r)))
  obtain ⟨b1, b2⟩ := nB_three rd (digsB bl ++ (digsB pl ++ r))
  obtain ⟨c1, c2⟩ := dgs_back bl (digsB pl ++ r) hb
  obtain ⟨d1, d2⟩ := dgs_back pl r hp
  rw [e, a1, a2, b1, b2, c1, c2, d1, d2]
  exact ⟨rfl, rfl, rfl, rfl, rfl⟩
set_option maxRecDepth 100000 in
theorem len_nil {α : Type} {l : List α} {n : Nat} (h : n = l.length) (h0 : n = 0) : l = [] := List.eq_nil_of_length_eq_zero (by omega)
set_option maxRecDepth 100000 in
set_option maxHeartbeats 1000000 in
/-- What is encoded is read as it was, and what is behind it is left. -/
theorem parse_back {w : World} (x : MV) (r : List Int) (hM : MAt w x) (hc : x.car = 0) (he : msgEmpty (strip x.m) = true) : pM (x.bytes ++ r, false) = x.c ∧ mS (x.bytes ++ r, false) = (r, false) := by
  have hb : x.bytes ++ r = x.m.ki :: (x.m.fr :: (x.m.tt :: (bodyB x.m x.ss x.bl x.pl x.cbl x.cpl x.ds x.vl ++ r))) := by simp [MV.bytes, msgB]
  rw [hb]
  obtain ⟨a1, a2⟩ := nB_one x.m.ki (x.m.fr :: (x.m.tt :: (bodyB x.m x.ss x.bl x.pl x.cbl x.cpl x.ds x.vl ++ r)))
  obtain ⟨b1, b2⟩ := nB_one x.m.fr (x.m.tt :: (bodyB x.m x.ss x.bl x.pl x.cbl x.cpl x.ds x.vl ++ r))
  obtain ⟨c1, c2⟩ := nB_one x.m.tt (bodyB x.m x.ss x.bl x.pl x.cbl x.cpl x.ds x.vl ++ r)
  have hc' : carriedF x.m x.ss x.bl x.pl x.cbl x.cpl x.vl = 0 := hc
  have H := hM.at'
  rcases carriedF_kind hc' with k | k | k | k | k
  · rw [carried1 k] at hc'
    rw [bodyB1 k] at a1 a2 b1 b2 c1 c2 ⊢
    simp [strip, msgEmpty, k] at he
    obtain ⟨h1, h2, h3, h4, h5⟩ := he
    have l1 := len_nil H.e2 h1.2.2.1
    have l2 := len_nil H.e3 h1.2.2.2
    have l3 := len_nil hM.dn h2.2.2
    have l4 := len_nil H.e4 h3.2.2.1
    have l5 := len_nil H.e5 h3.2.2.2
    have l6 := len_nil H.e6 h4
    have e : batchB x.m.bau x.m.bnu x.ss ++ r = x.m.bau :: (rd3 x.m.bnu ++ ((x.ss.length : Int) :: (txsB x.ss ++ r))) := by simp [batchB]
    obtain ⟨d1, d2⟩ := nB_one x.m.bau (rd3 x.m.bnu ++ ((x.ss.length : Int) :: (txsB x.ss ++ r)))
    obtain ⟨f1, f2⟩ := nB_three x.m.bnu ((x.ss.length : Int) :: (txsB x.ss ++ r))
    obtain ⟨g1, g2⟩ := nB_one (x.ss.length : Int) (txsB x.ss ++ r)
    obtain ⟨i1, i2⟩ := bT_run x.ss r x.ss.length (Nat.le_refl _)
    have hN : bN (x.m.bau :: (rd3 x.m.bnu ++ ((x.ss.length : Int) :: (txsB x.ss ++ r))), false) = x.ss.length := by
      show (nB 1 (nx 3 (nx 1 _))).toNat = _
      rw [d2, f2, g1]; omega
    have hS : bS3 (x.m.bau :: (rd3 x.m.bnu ++ ((x.ss.length : Int) :: (txsB x.ss ++ r))), false) = ((x.ss.length : Int) :: (txsB x.ss ++ r), false) := by
      show nx 3 (nx 1 _) = _
      rw [d2, f2]
    rw [e] at a1 a2 b1 b2 c1 c2 ⊢
    rw [pM, mS, a1, if_pos k, if_pos k, a2, b1, b2, c1, c2, d1, d2, f1, hS, hN, g2, i1, i2, List.take_of_length_le (Nat.le_refl _), List.drop_of_length_le (Nat.le_refl _)]
    refine ⟨?_, rfl⟩
    simp only [MV.c, l1, l2, l3, l4, l5, l6, h1, h2, h3, h5, List.map_nil]
  · rw [carried2 k] at hc'
    rw [bodyB2 k] at a1 a2 b1 b2 c1 c2 ⊢
    obtain ⟨_, _, _, _, g5, g6⟩ := headerF_ok hc'
    simp [strip, msgEmpty, k] at he
    obtain ⟨h1, h2, h3, h4, h5⟩ := he
    have l1 := len_nil H.e1 h1.2.2
    have l3 := len_nil hM.dn h2.2.2
    have l4 := len_nil H.e4 h3.2.2.1
    have l5 := len_nil H.e5 h3.2.2.2
    have l6 := len_nil H.e6 h4
    obtain ⟨d1, d2, d3, d4, d5⟩ := head_back x.m.hau x.m.hrd x.bl x.pl r g5 g6
    have k1 : ¬ x.m.ki = 1 := by omega
    rw [pM, mS, a1, if_neg k1, if_neg k1, if_pos k, if_pos k, a2, b1, b2, c1, c2, d1, d2, d3, d4, d5]
    refine ⟨?_, rfl⟩
    simp only [MV.c, l1, l3, l4, l5, l6, h1, h2, h3, h5, List.map_nil]
  · rw [carried3 k] at hc'
    rw [bodyB3 k] at a1 a2 b1 b2 c1 c2 ⊢
    obtain ⟨_, _, g3⟩ := slotF_ok hc'
    simp [strip, msgEmpty, k] at he
    obtain ⟨h1, h2, h3, h4, h5⟩ := he
    have l1 := len_nil H.e1 h1.2.2
    have l2 := len_nil H.e2 h2.2.2.1
    have l3 := len_nil H.e3 h2.2.2.2
    have l4 := len_nil H.e4 h3.2.2.1
    have l5 := len_nil H.e5 h3.2.2.2
    have l6 := len_nil H.e6 h4
    have e : [x.m.sau] ++ rd3 x.m.srd ++ x.ds ++ r = x.m.sau :: (rd3 x.m.srd ++ (x.ds ++ r)) := by simp
    obtain ⟨d1, d2⟩ := nB_one x.m.sau (rd3 x.m.srd ++ (x.ds ++ r))
    obtain ⟨f1, f2⟩ := nB_three x.m.srd (x.ds ++ r)
    obtain ⟨i1, i2⟩ := tk_app (n := 32) (t := x.ds) r (by have := hM.dn; omega)
    rw [e] at a1 a2 b1 b2 c1 c2 ⊢
    have k1 : ¬ x.m.ki = 1 := by omega
    have k2 : ¬ x.m.ki = 2 := by omega
    rw [pM, mS, a1, if_neg k1, if_neg k1, if_neg k2, if_neg k2, if_pos k, if_pos k, a2, b1, b2, c1, c2, d1, d2, f1, f2, i1, i2]
    refine ⟨?_, rfl⟩
    simp only [MV.c, l1, l2, l3, l4, l5, l6, h1, h2, h3, h5, List.map_nil]
  · rw [carried4 k] at hc'
    rw [bodyB4 k] at a1 a2 b1 b2 c1 c2 ⊢
    obtain ⟨hh, _, _, _⟩ := certF_ok hc'
    obtain ⟨_, _, _, _, g5, g6⟩ := headerF_ok hh
    simp [strip, msgEmpty, k] at he
    obtain ⟨h1, h2, h3, h5⟩ := he
    have l1 := len_nil H.e1 h1.2.2
    have l2 := len_nil H.e2 h2.2.2.1
    have l3 := len_nil H.e3 h2.2.2.2
    have l4 := len_nil hM.dn h3.2.2
    have e : certB x.m.cau x.m.crd x.cbl x.cpl x.vl ++ r = headB x.m.cau x.m.crd x.cbl x.cpl ++ ((x.vl.length : Int) :: (x.vl ++ r)) := by simp [certB]
    obtain ⟨d1, d2, d3, d4, d5⟩ := head_back x.m.cau x.m.crd x.cbl x.cpl ((x.vl.length : Int) :: (x.vl ++ r)) g5 g6
    obtain ⟨n1, n2⟩ := nB_one (x.vl.length : Int) (x.vl ++ r)
    obtain ⟨i1, i2⟩ := nV_run x.vl r x.vl.length (Nat.le_refl _)
    have hS : hS4 (headB x.m.cau x.m.crd x.cbl x.cpl ++ ((x.vl.length : Int) :: (x.vl ++ r)), false) = ((x.vl.length : Int) :: (x.vl ++ r), false) := d5
    have hN : cN (headB x.m.cau x.m.crd x.cbl x.cpl ++ ((x.vl.length : Int) :: (x.vl ++ r)), false) = x.vl.length := by
      show (nB 1 (hS4 _)).toNat = _
      rw [hS, n1]; omega
    rw [e] at a1 a2 b1 b2 c1 c2 ⊢
    have k1 : ¬ x.m.ki = 1 := by omega
    have k2 : ¬ x.m.ki = 2 := by omega
    have k3 : ¬ x.m.ki = 3 := by omega
    rw [pM, mS, a1, if_neg k1, if_neg k1, if_neg k2, if_neg k2, if_neg k3, if_neg k3, if_pos k, if_pos k, a2, b1, b2, c1, c2, d1, d2, d3, d4, hS, hN, n2, i1, i2, List.take_of_length_le (Nat.le_refl _), List.drop_of_length_le (Nat.le_refl _)]
    refine ⟨?_, rfl⟩
    simp only [MV.c, l1, l2, l3, l4, h1, h2, h3, h5, List.map_nil]
  · rw [bodyB5 k] at a1 a2 b1 b2 c1 c2 ⊢
    simp [strip, msgEmpty, k] at he
    obtain ⟨h1, h2, h3, h4, h5⟩ := he
    have l1 := len_nil H.e1 h1.2.2
    have l2 := len_nil H.e2 h2.2.2.1
    have l3 := len_nil H.e3 h2.2.2.2
    have l0 := len_nil hM.dn h3.2.2
    have l4 := len_nil H.e4 h4.2.2.1
    have l5 := len_nil H.e5 h4.2.2.2
    have l6 := len_nil H.e6 h5
    obtain ⟨f1, f2⟩ := nB_three x.m.ro r
    have k1 : ¬ x.m.ki = 1 := by omega
    have k2 : ¬ x.m.ki = 2 := by omega
    have k3 : ¬ x.m.ki = 3 := by omega
    have k4 : ¬ x.m.ki = 4 := by omega
    rw [pM, mS, a1, if_neg k1, if_neg k1, if_neg k2, if_neg k2, if_neg k3, if_neg k3, if_neg k4, if_neg k4, a2, b1, b2, c1, c2, f1, f2]
    refine ⟨?_, rfl⟩
    simp only [MV.c, l0, l1, l2, l3, l4, l5, l6, h1, h2, h3, h4, List.map_nil]
end Go.Proofs.Ythijfhbmkpfnkaa

namespace Go.Proofs.Ythijfhbmkpfnkaa
open Go.RowKit

/-- The same with bytes behind. -/
def ap (q : List Int) (s : St) : St := (s.1 ++ q, s.2)
set_option maxRecDepth 100000 in
theorem nx_ext {n : Nat} {s : St} (q : List Int) (h : (nx n s).2 = false) : nx n (ap q s) = ap q (nx n s) ∧ tT n (ap q s) = tT n s ∧ s.2 = false := by
  obtain ⟨l, sh⟩ := s
  have h' : tkS n l sh = false := h
  simp only [tkS, Bool.or_eq_false_iff, decide_eq_false_iff_not] at h'
  obtain ⟨rfl, hl⟩ := h'
  obtain ⟨a1, a2, a3⟩ := tk_ok (n := n) (l := l) (by omega)
  obtain ⟨b1, b2, b3⟩ := tk_ok (n := n) (l := l ++ q) (by simp; omega)
  refine ⟨?_, ?_, rfl⟩
  · show (tkL n (l ++ q) false, tkS n (l ++ q) false) = (tkL n l false ++ q, tkS n l false)
    rw [a2, a3, b2, b3, List.drop_append_of_le_length (by omega)]
  · show tkT n (l ++ q) false = tkT n l false
    rw [a1, b1, List.take_append_of_le_length (by omega)]
set_option maxRecDepth 100000 in
theorem nB_ext {n : Nat} {s : St} (q : List Int) (h : (nx n s).2 = false) : nB n (ap q s) = nB n s := by
  show numB (tT n (ap q s)) = numB (tT n s)
  rw [(nx_ext q h).2.1]
set_option maxRecDepth 100000 in
theorem dg_ext {s : St} (q : List Int) (k : Nat) (h : (dgL s.1 s.2 k).2 = false) : dgL (ap q s).1 (ap q s).2 k = ap q (dgL s.1 s.2 k) ∧ s.2 = false := by
  induction k with
  | zero => exact ⟨rfl, h⟩
  | succ k ih =>
    have h1 : (nx 32 (dgL s.1 s.2 k)).2 = false := h
    obtain ⟨e1, _, e3⟩ := nx_ext q h1
    obtain ⟨i1, i2⟩ := ih e3
    refine ⟨?_, i2⟩
    show nx 32 (dgL (ap q s).1 (ap q s).2 k) = ap q (nx 32 (dgL s.1 s.2 k))
    rw [i1, e1]
set_option maxRecDepth 100000 in
theorem dgS_ext {s : St} (q : List Int) (h : (dgS s).2 = false) : dgS (ap q s) = ap q (dgS s) ∧ s.2 = false := by
  obtain ⟨d1, d2⟩ := dg_ext (s := nx 1 s) q (dN s.1 s.2) h
  obtain ⟨e1, _, e3⟩ := nx_ext q d2
  refine ⟨?_, e3⟩
  have hN : dN (ap q s).1 (ap q s).2 = dN s.1 s.2 := by
    show (nB 1 (ap q s)).toNat = (nB 1 s).toNat
    rw [nB_ext q d2]
  show dgL (nx 1 (ap q s)).1 (nx 1 (ap q s)).2 (dN (ap q s).1 (ap q s).2) = _
  rw [hN, e1, d1]
  rfl
set_option maxRecDepth 100000 in
theorem nL_ext {s : St} (q : List Int) (k : Nat) (h : (nL s k).2 = false) : nL (ap q s) k = ap q (nL s k) ∧ s.2 = false := by
  induction k with
  | zero => exact ⟨rfl, h⟩
  | succ k ih =>
    have h1 : (nx 1 (nL s k)).2 = false := h
    obtain ⟨e1, _, e3⟩ := nx_ext q h1
    obtain ⟨i1, i2⟩ := ih e3
    refine ⟨?_, i2⟩
    show nx 1 (nL (ap q s) k) = ap q (nx 1 (nL s k))
    rw [i1, e1]
set_option maxRecDepth 100000 in
theorem bL_ext {s : St} (q : List Int) (k : Nat) (h : (bL s k).2 = false) : bL (ap q s) k = ap q (bL s k) ∧ s.2 = false := by
  induction k with
  | zero => exact ⟨rfl, h⟩
  | succ k ih =>
    have h1 : (nx (nB 1 (bL s k)).toNat (nx 1 (bL s k))).2 = false := h
    obtain ⟨e1, _, e3⟩ := nx_ext q h1
    obtain ⟨f1, _, f3⟩ := nx_ext q e3
    obtain ⟨i1, i2⟩ := ih f3
    refine ⟨?_, i2⟩
    show nx (nB 1 (bL (ap q s) k)).toNat (nx 1 (bL (ap q s) k)) = ap q (nx (nB 1 (bL s k)).toNat (nx 1 (bL s k)))
    rw [i1, nB_ext q e3, f1, e1]
set_option maxRecDepth 100000 in
theorem mS_ext {s : St} (q : List Int) (h : (mS s).2 = false) : mS (ap q s) = ap q (mS s) := by
  have hK : ∀ h9 : (nx 1 s).2 = false, nB 1 (ap q s) = nB 1 s := fun h9 => nB_ext q h9
  by_cases k1 : nB 1 s = 1
  · rw [mS, if_pos k1] at h
    obtain ⟨a1, a2⟩ := bL_ext q _ h
    obtain ⟨b1, _, b3⟩ := nx_ext q a2
    obtain ⟨c1, _, c3⟩ := nx_ext q (show (nx 3 (nx 1 (nx 1 (nx 1 (nx 1 s))))).2 = false from b3)
    obtain ⟨d1, _, d3⟩ := nx_ext q c3
    obtain ⟨e1, _, e3⟩ := nx_ext q d3
    obtain ⟨f1, _, f3⟩ := nx_ext q e3
    obtain ⟨g1, _, g3⟩ := nx_ext q f3
    have hS : bS3 (nx 1 (nx 1 (nx 1 (ap q s)))) = ap q (bS3 (nx 1 (nx 1 (nx 1 s)))) := by
      show nx 3 (nx 1 (nx 1 (nx 1 (nx 1 (ap q s))))) = _
      rw [g1, f1, e1, d1, c1]
      rfl
    have hN : bN (nx 1 (nx 1 (nx 1 (ap q s)))) = bN (nx 1 (nx 1 (nx 1 s))) := by
      show (nB 1 (bS3 _)).toNat = (nB 1 (bS3 _)).toNat
      rw [hS, nB_ext q a2]
    rw [mS, mS, if_pos k1, if_pos ((hK f3).trans k1), hS, hN, b1, a1]
  · by_cases k2 : nB 1 s = 2
    · rw [mS, if_neg k1, if_pos k2] at h
      obtain ⟨a1, a2⟩ := dgS_ext q h
      obtain ⟨b1, b3⟩ := dgS_ext q a2
      obtain ⟨c1, _, c3⟩ := nx_ext q b3
      obtain ⟨d1, _, d3⟩ := nx_ext q c3
      obtain ⟨e1, _, e3⟩ := nx_ext q d3
      obtain ⟨f1, _, f3⟩ := nx_ext q e3
      obtain ⟨g1, _, g3⟩ := nx_ext q f3
      rw [mS, mS, if_neg k1, if_pos k2, hK f3, if_neg k1, if_pos k2, g1, f1, e1, d1, c1, b1, a1]
    · by_cases k3 : nB 1 s = 3
      · rw [mS, if_neg k1, if_neg k2, if_pos k3] at h
        obtain ⟨b1, _, b3⟩ := nx_ext q h
        obtain ⟨c1, _, c3⟩ := nx_ext q b3
        obtain ⟨d1, _, d3⟩ := nx_ext q c3
        obtain ⟨e1, _, e3⟩ := nx_ext q d3
        obtain ⟨f1, _, f3⟩ := nx_ext q e3
        obtain ⟨g1, _, g3⟩ := nx_ext q f3
        rw [mS, mS, if_neg k1, if_neg k2, if_pos k3, hK f3, if_neg k1, if_neg k2, if_pos k3, g1, f1, e1, d1, c1, b1]
      · by_cases k4 : nB 1 s = 4
        · rw [mS, if_neg k1, if_neg k2, if_neg k3, if_pos k4] at h
          obtain ⟨a1, a2⟩ := nL_ext q _ h
          obtain ⟨b1, _, b3⟩ := nx_ext q a2
          obtain ⟨x1, x2⟩ := dgS_ext q (show (dgS (dgS (nx 3 (nx 1 (nx 1 (nx 1 (nx 1 s))))))).2 = false from b3)
          obtain ⟨y1, y2⟩ := dgS_ext q x2
          obtain ⟨c1, _, c3⟩ := nx_ext q y2
          obtain ⟨d1, _, d3⟩ := nx_ext q c3
          obtain ⟨e1, _, e3⟩ := nx_ext q d3
          obtain ⟨f1, _, f3⟩ := nx_ext q e3
          obtain ⟨g1, _, g3⟩ := nx_ext q f3
          have hS : hS4 (nx 1 (nx 1 (nx 1 (ap q s)))) = ap q (hS4 (nx 1 (nx 1 (nx 1 s)))) := by
            show dgS (dgS (nx 3 (nx 1 (nx 1 (nx 1 (nx 1 (ap q s))))))) = _
            rw [g1, f1, e1, d1, c1, y1, x1]
            rfl
          have hN : cN (nx 1 (nx 1 (nx 1 (ap q s)))) = cN (nx 1 (nx 1 (nx 1 s))) := by
            show (nB 1 (hS4 _)).toNat = (nB 1 (hS4 _)).toNat
            rw [hS, nB_ext q a2]
          rw [mS, mS, if_neg k1, if_neg k2, if_neg k3, if_pos k4, hK f3, if_neg k1, if_neg k2, if_neg k3, if_pos k4, hS, hN, b1, a1]
        · rw [mS, if_neg k1, if_neg k2, if_neg k3, if_neg k4] at h
          obtain ⟨b1, _, b3⟩ := nx_ext q h
          obtain ⟨c1, _, c3⟩ := nx_ext q b3
          obtain ⟨d1, _, d3⟩ := nx_ext q c3
          obtain ⟨e1, _, e3⟩ := nx_ext q d3
          rw [mS, mS, if_neg k1, if_neg k2, if_neg k3, if_neg k4, hK d3, if_neg k1, if_neg k2, if_neg k3, if_neg k4, e1, d1, c1, b1]
set_option maxRecDepth 100000 in
/-- What is torn is too short. -/
theorem mS_torn {p q : List Int} (hq : q ≠ []) (h : mS (p ++ q, false) = ([], false)) : (mS (p, false)).2 = true := by
  cases hs : (mS (p, false)).2 with
  | true => rfl
  | false =>
    have e := mS_ext (s := (p, false)) q hs
    have e' : mS (ap q (p, false)) = ([], false) := h
    rw [e'] at e
    have e2 : [] = (mS (p, false)).1 ++ q := congrArg Prod.fst e
    exact absurd (List.append_eq_nil_iff.1 e2.symm).2 hq
end Go.Proofs.Ythijfhbmkpfnkaa

namespace Go.Proofs.Ythijfhbmkpfnkaa
open Go.RowKit

set_option maxRecDepth 100000 in
theorem isKind_bool (k : Int) (r : Bool) (w : World) (h : r = decide (1 ≤ k ∧ k ≤ 5)) : Calls Try.prog 35 #[.int .i64 k] w fun e w' => e = .returned (.bool r) ∧ w = w' := by
  by_cases h1 : 1 ≤ k
  · by_cases h2 : k ≤ 5
    · obtain rfl : r = true := by simp [h, h1, h2]
      clear h
      go_enter Try.func35, Try.ntmps35
      go_wp2
      go_ret
      exact ⟨rfl, rfl⟩
    · obtain rfl : r = false := by simp [h, h2]
      clear h
      go_enter Try.func35, Try.ntmps35
      go_wp2
      go_ret
      exact ⟨rfl, rfl⟩
  · obtain rfl : r = false := by simp [h, h1]
    clear h
    go_enter Try.func35, Try.ntmps35
    go_wp2
    go_ret
    exact ⟨rfl, rfl⟩
/-- P2.10: what is told of bytes, but for what they say. -/
def readF (bs : List Int) : Int := if 4000 < bs.length then 1 else if bs = [] then 5 else if ¬ (1 ≤ bs.getD 0 0 ∧ bs.getD 0 0 ≤ 5) then 3 else if (mS (bs, false)).2 = true then 5 else if (mS (bs, false)).1 ≠ [] then 4 else 0
/-- What read gives. -/
structure ReadIs (w w' : World) (e : Ending) (bs : List Int) : Prop where
  out : (readF bs ≠ 0 ∧ e = .returned (.tuple #[.agg #[.int .i64 0, .int .i64 0, .int .i64 0, .int .i64 0, .int .i64 0, .slice none 0 0, .int .i64 0, .int .i64 0, .slice none 0 0, .slice none 0 0, .int .i64 0, .int .i64 0, .slice none 0 0, .int .i64 0, .int .i64 0, .slice none 0 0, .slice none 0 0, .slice none 0 0, .int .i64 0], .int .i64 (readF bs)]) ∨ readF bs = 0 ∧ ∃ x : MV, e = .returned (.tuple #[.agg #[.int .i64 x.m.fr, .int .i64 x.m.tt, .int .i64 x.m.ki, .int .i64 x.m.bau, .int .i64 x.m.bnu, .slice x.m.bta x.m.btn x.m.btc, .int .i64 x.m.hau, .int .i64 x.m.hrd, .slice x.m.hba x.m.hbn x.m.hbc, .slice x.m.hpa x.m.hpn x.m.hpc, .int .i64 x.m.sau, .int .i64 x.m.srd, .slice x.m.sda x.m.sdn x.m.sdc, .int .i64 x.m.cau, .int .i64 x.m.crd, .slice x.m.cba x.m.cbn x.m.cbc, .slice x.m.cpa x.m.cpn x.m.cpc, .slice x.m.cva x.m.cvn x.m.cvc, .int .i64 x.m.ro], .int .i64 0]) ∧ MAt w' x ∧ HasM (fun q => w.heap.size ≤ q) x ∧ x.c = pM (bs, false))
  below : Below w.heap.size w w'
set_option maxRecDepth 100000 in
theorem nB1_first {bs : List Int} (h : bs ≠ []) : nB 1 (bs, false) = bs.getD 0 0 := by
  cases bs with
  | nil => exact absurd rfl h
  | cons a l =>
    have e : tT 1 (a :: l, false) = [a] := (tk_ok (n := 1) (l := a :: l) (by simp)).1
    rw [nB, e]
    simp [numB]
set_option maxRecDepth 100000 in
theorem results_cell_slot {fn : Func} {p q : Tmp} {ty : TypeId} (h : fn.results = #[.cell p ty, .tmp q]) (tmps : Array Value) (w : World) (g : Nat) (t : TypeId) (cs : Array Value) (fr : Nat × Nat) (d : TypeDesc) (v : Value)
    (hp : tmps.getD p undef = .pointer (some ⟨g, 0, none⟩) ∧ tmps.getD q undef = v) (hg : w.heap[g]? = some (.cells cs t fr))
    (hu : Try.prog.underlying ty = some d) (hd : (match d with | .struct _ | .array _ _ => true | _ => false) = true) (hi : (Try.prog.info? ty).map (·.size) = some cs.size) :
    (results fn tmps).run Try.prog w = .ok (.tuple #[.agg cs, v]) w := by
  have hp' : tmps[p]?.getD undef = .pointer (some ⟨g, 0, none⟩) := by simpa using hp.1
  have hq' : tmps[q]?.getD undef = v := by simpa using hp.2
  simp [results, h, hp', hq', asAddr, run_loadVar_row w g t ty cs fr d hg hu (by cases d <;> first | exact hd | rfl) hi]
set_option maxRecDepth 100000 in
set_option maxHeartbeats 4000000 in
theorem read_any (bs : List Int) (sa : Option Addr) (n cap : Nat) (w : World) (hn : n = bs.length) (hs : SliceAt w sa cap bs) (hu : U8s bs) (hl : bs.length ≤ 140737488355328) :
    Calls Try.prog 24 #[.slice sa n cap] w fun e w' => ReadIs w w' e bs := by
  subst hn
  have hA : Below w.heap.size w (w.alloc (.cells #[.int .i64 0, .int .i64 0, .int .i64 0, .int .i64 0, .int .i64 0, .slice none 0 0, .int .i64 0, .int .i64 0, .slice none 0 0, .slice none 0 0, .int .i64 0, .int .i64 0, .slice none 0 0, .int .i64 0, .int .i64 0, .slice none 0 0, .slice none 0 0, .slice none 0 0, .int .i64 0] 37)) := (Below.refl _ _).alloc (Nat.le_refl _) _
  have q0 := heap_alloc_new w (.cells #[.int .i64 0, .int .i64 0, .int .i64 0, .int .i64 0, .int .i64 0, .slice none 0 0, .int .i64 0, .int .i64 0, .slice none 0 0, .slice none 0 0, .int .i64 0, .int .i64 0, .slice none 0 0, .int .i64 0, .int .i64 0, .slice none 0 0, .slice none 0 0, .slice none 0 0, .int .i64 0] 37)
  have hsz : w.heap.size < (w.alloc (.cells #[.int .i64 0, .int .i64 0, .int .i64 0, .int .i64 0, .int .i64 0, .slice none 0 0, .int .i64 0, .int .i64 0, .slice none 0 0, .slice none 0 0, .int .i64 0, .int .i64 0, .slice none 0 0, .int .i64 0, .int .i64 0, .slice none 0 0, .slice none 0 0, .slice none 0 0, .int .i64 0] 37)).heap.size := lt_of_heap q0
  by_cases h1 : 4000 < bs.length
  · have hF : Hid (readF bs = 1) := by show _ = _; rw [readF, if_pos h1]
    have h1I : (4000 : Int) < bs.length := by omega
    go_enter Try.func24, Try.ntmps24
    go_upto_region 2 with fail
    generalize w.alloc (.cells #[.int .i64 0, .int .i64 0, .int .i64 0, .int .i64 0, .int .i64 0, .slice none 0 0, .int .i64 0, .int .i64 0, .slice none 0 0, .slice none 0 0, .int .i64 0, .int .i64 0, .slice none 0 0, .int .i64 0, .int .i64 0, .slice none 0 0, .slice none 0 0, .slice none 0 0, .int .i64 0] 37) = W0 at hA q0 hsz ⊢
    go_wp2_with (refine wpList_store_row rfl 37 _ _ rfl w.heap.size #[.int .i64 0, .int .i64 0, .int .i64 0, .int .i64 0, .int .i64 0, .slice none 0 0, .int .i64 0, .int .i64 0, .slice none 0 0, .slice none 0 0, .int .i64 0, .int .i64 0, .slice none 0 0, .int .i64 0, .int .i64 0, .slice none 0 0, .slice none 0 0, .slice none 0 0, .int .i64 0] rfl rfl 37 _ q0 sMsg' rfl (by simp [Value.oneCell']) ?_)
    have hFc := hF.out
    refine bodyPost_ret (v := .tuple #[.agg #[.int .i64 0, .int .i64 0, .int .i64 0, .int .i64 0, .int .i64 0, .slice none 0 0, .int .i64 0, .int .i64 0, .slice none 0 0, .slice none 0 0, .int .i64 0, .int .i64 0, .slice none 0 0, .int .i64 0, .int .i64 0, .slice none 0 0, .slice none 0 0, .slice none 0 0, .int .i64 0], .int .i64 1]) (results_cell_slot (fn := Try.f24) (p := 2) (q := 3) (ty := 37) rfl _ _ w.heap.size 37 _ (0, 0) _ (.int .i64 1) ⟨rfl, rfl⟩ (setRow_heap _ _ _ _ _ _ q0) Try.underlying37 rfl sMsg') rfl ⟨.inl ⟨by rw [hFc]; decide, by rw [hFc]⟩, (Upd.setRow q0).below hA hA.size (Nat.le_refl _)⟩
  · have h1I : ¬ (4000 : Int) < bs.length := by omega
    by_cases h2 : bs = []
    · have hF : Hid (readF bs = 5) := by show _ = _; rw [readF, if_neg h1, if_pos h2]
      have h2I : ((bs.length : Int) == 0) = true := by rw [h2]; rfl
      clear h2 hs hu
      go_enter Try.func24, Try.ntmps24
      go_upto_region 4 with fail
      generalize w.alloc (.cells #[.int .i64 0, .int .i64 0, .int .i64 0, .int .i64 0, .int .i64 0, .slice none 0 0, .int .i64 0, .int .i64 0, .slice none 0 0, .slice none 0 0, .int .i64 0, .int .i64 0, .slice none 0 0, .int .i64 0, .int .i64 0, .slice none 0 0, .slice none 0 0, .slice none 0 0, .int .i64 0] 37) = W0 at hA q0 hsz ⊢
      go_wp2_with (refine wpList_store_row rfl 37 _ _ rfl w.heap.size #[.int .i64 0, .int .i64 0, .int .i64 0, .int .i64 0, .int .i64 0, .slice none 0 0, .int .i64 0, .int .i64 0, .slice none 0 0, .slice none 0 0, .int .i64 0, .int .i64 0, .slice none 0 0, .int .i64 0, .int .i64 0, .slice none 0 0, .slice none 0 0, .slice none 0 0, .int .i64 0] rfl rfl 37 _ q0 sMsg' rfl (by simp [Value.oneCell']) ?_)
      have hFc := hF.out
      refine bodyPost_ret (v := .tuple #[.agg #[.int .i64 0, .int .i64 0, .int .i64 0, .int .i64 0, .int .i64 0, .slice none 0 0, .int .i64 0, .int .i64 0, .slice none 0 0, .slice none 0 0, .int .i64 0, .int .i64 0, .slice none 0 0, .int .i64 0, .int .i64 0, .slice none 0 0, .slice none 0 0, .slice none 0 0, .int .i64 0], .int .i64 5]) (results_cell_slot (fn := Try.f24) (p := 2) (q := 3) (ty := 37) rfl _ _ w.heap.size 37 _ (0, 0) _ (.int .i64 5) ⟨rfl, rfl⟩ (setRow_heap _ _ _ _ _ _ q0) Try.underlying37 rfl sMsg') rfl ⟨.inl ⟨by rw [hFc]; decide, by rw [hFc]⟩, (Upd.setRow q0).below hA hA.size (Nat.le_refl _)⟩
    · have hpos : 0 < bs.length := by cases bs with | nil => exact absurd rfl h2 | cons _ _ => simp
      have hposI : (0 : Int) < bs.length := by omega
      have h2I : ((bs.length : Int) == 0) = false := by simp; omega
      obtain ⟨sb, so, rfl, hc⟩ : ∃ sb so, sa = some ⟨sb, so, none⟩ ∧ ∀ j, j < bs.length → w.cell? ⟨sb, so + j, none⟩ = some (.int .u8 (bs.getD j 0)) := by
        rcases hs.bytes with h | h
        · exact absurd h h2
        · exact h
      have hsb : sb < w.heap.size := block_lt_of_cell (hc 0 hpos)
      have c0 : (w.alloc (.cells #[.int .i64 0, .int .i64 0, .int .i64 0, .int .i64 0, .int .i64 0, .slice none 0 0, .int .i64 0, .int .i64 0, .slice none 0 0, .slice none 0 0, .int .i64 0, .int .i64 0, .slice none 0 0, .int .i64 0, .int .i64 0, .slice none 0 0, .slice none 0 0, .slice none 0 0, .int .i64 0] 37)).cell? ⟨sb, so, none⟩ = some (.int .u8 (bs.getD 0 0)) := (hA.cell (p := ⟨sb, so, none⟩) hsb).trans (hc 0 hpos)
      obtain ⟨hx0, hx1⟩ := hu (bs.getD 0 0) (by simp [List.getD, hpos])
      have hK := nB1_first h2
      have hR0 : readF bs = if ¬ (1 ≤ bs.getD 0 0 ∧ bs.getD 0 0 ≤ 5) then 3 else if (mS (bs, false)).2 = true then 5 else if (mS (bs, false)).1 ≠ [] then 4 else 0 := by rw [readF, if_neg h1, if_neg h2]
      have HR0 : Hid _ := hR0
      have HNE : Hid (bs ≠ []) := h2
      clear hR0 hc h2
      generalize hX : bs.getD 0 0 = X at *
      have HKX : Hid (nB 1 (bs, false) = X) := hK
      clear hK hX
      by_cases hk : 1 ≤ X ∧ X ≤ 5
      · have hkd : decide (1 ≤ X ∧ X ≤ 5) = true := decide_eq_true hk
        have HIK : Hid (∀ W : World, Calls Try.prog 35 #[.int .i64 X] W fun e w' => e = .returned (.bool true) ∧ W = w') := by
          show ∀ _, _
          intro W
          exact isKind_bool X true W hkd.symm
        have HKK : Hid (1 ≤ X ∧ X ≤ 5) := hk
        clear hkd
        obtain ⟨hk1, hk2⟩ := hk
        go_enter Try.func24, Try.ntmps24
        go_upto_region 8 with (go_at_call 35; refine (HIK.out _).mono ?_; rintro e w9 ⟨rfl, rfl⟩)
        have hA2 : Below w.heap.size w ((w.alloc (.cells #[.int .i64 0, .int .i64 0, .int .i64 0, .int .i64 0, .int .i64 0, .slice none 0 0, .int .i64 0, .int .i64 0, .slice none 0 0, .slice none 0 0, .int .i64 0, .int .i64 0, .slice none 0 0, .int .i64 0, .int .i64 0, .slice none 0 0, .slice none 0 0, .slice none 0 0, .int .i64 0] 37)).alloc (.cells #[.slice (some ⟨sb, so, none⟩) bs.length cap, .bool false] 72)) := hA.alloc hA.size _
        have qR := heap_alloc2_new w (.cells #[.int .i64 0, .int .i64 0, .int .i64 0, .int .i64 0, .int .i64 0, .slice none 0 0, .int .i64 0, .int .i64 0, .slice none 0 0, .slice none 0 0, .int .i64 0, .int .i64 0, .slice none 0 0, .int .i64 0, .int .i64 0, .slice none 0 0, .slice none 0 0, .slice none 0 0, .int .i64 0] 37) (.cells #[.slice (some ⟨sb, so, none⟩) bs.length cap, .bool false] 72)
        have q0A := heap_alloc2_old w (.cells #[.int .i64 0, .int .i64 0, .int .i64 0, .int .i64 0, .int .i64 0, .slice none 0 0, .int .i64 0, .int .i64 0, .slice none 0 0, .slice none 0 0, .int .i64 0, .int .i64 0, .slice none 0 0, .int .i64 0, .int .i64 0, .slice none 0 0, .slice none 0 0, .slice none 0 0, .int .i64 0] 37) (.cells #[.slice (some ⟨sb, so, none⟩) bs.length cap, .bool false] 72)
        generalize (w.alloc (.cells #[.int .i64 0, .int .i64 0, .int .i64 0, .int .i64 0, .int .i64 0, .slice none 0 0, .int .i64 0, .int .i64 0, .slice none 0 0, .slice none 0 0, .int .i64 0, .int .i64 0, .slice none 0 0, .int .i64 0, .int .i64 0, .slice none 0 0, .slice none 0 0, .slice none 0 0, .int .i64 0] 37)).alloc (.cells #[.slice (some ⟨sb, so, none⟩) bs.length cap, .bool false] 72) = W2 at hA2 qR q0A ⊢
        have hRd : RdS W2 (w.heap.size + 1) (bs, false) := ⟨some ⟨sb, so, none⟩, cap, qR, hs.below hA2, fun sb' so' e => by cases e; exact ⟨by omega, fun _ => by omega⟩⟩
        have hMs := message_rd (w.heap.size + 1) (bs, false) W2 hRd ⟨by show bs.length ≤ _; omega, hu⟩ (by rw [HKX.out]; exact HKK.out)
        have hszW : w.heap.size + 1 < W2.heap.size := lt_of_heap qR
        have HR1 : Hid (readF bs = if (mS (bs, false)).2 = true then 5 else if (mS (bs, false)).1 ≠ [] then 4 else 0) := by show _ = _; rw [HR0.out, if_neg (fun h => h HKK.out)]
        clear hRd c0 HR0 hs hu hA q0 hsz
        go_wp2_with fail
        refine hMs.mono ?_
        rintro e w3 ⟨x, he, hM, hH, hcx, hR3, ho3⟩
        subst he
        dsimp only
        clear hMs
        have z3 := (ho3.block _ (by omega) (by omega)).trans q0A
        obtain ⟨la, lc, hr3, -, -⟩ := RdrAt.out hR3
        generalize (mS (bs, false)).1 = ml at *
        generalize (mS (bs, false)).2 = msh at *
        have hOw : Only (w.heap.size + 1) w w3 := (only_of_below hA2).trans ho3
        have hB3 := hOw.below (B := w.heap.size) (by omega) (Nat.le_refl _)
        have hlt3 : w.heap.size + 1 < w3.heap.size := lt_of_heap hr3
        have qz := heap_alloc_new w3 (.cells #[.int .i64 0, .int .i64 0, .int .i64 0, .int .i64 0, .int .i64 0, .slice none 0 0, .int .i64 0, .int .i64 0, .slice none 0 0, .slice none 0 0, .int .i64 0, .int .i64 0, .slice none 0 0, .int .i64 0, .int .i64 0, .slice none 0 0, .slice none 0 0, .slice none 0 0, .int .i64 0] 37)
        have hAM : Below w3.heap.size w3 ((w3.alloc (.cells #[.int .i64 0, .int .i64 0, .int .i64 0, .int .i64 0, .int .i64 0, .slice none 0 0, .int .i64 0, .int .i64 0, .slice none 0 0, .slice none 0 0, .int .i64 0, .int .i64 0, .slice none 0 0, .int .i64 0, .int .i64 0, .slice none 0 0, .slice none 0 0, .slice none 0 0, .int .i64 0] 37)).setRow w3.heap.size #[.int .i64 x.m.fr, .int .i64 x.m.tt, .int .i64 x.m.ki, .int .i64 x.m.bau, .int .i64 x.m.bnu, .slice x.m.bta x.m.btn x.m.btc, .int .i64 x.m.hau, .int .i64 x.m.hrd, .slice x.m.hba x.m.hbn x.m.hbc, .slice x.m.hpa x.m.hpn x.m.hpc, .int .i64 x.m.sau, .int .i64 x.m.srd, .slice x.m.sda x.m.sdn x.m.sdc, .int .i64 x.m.cau, .int .i64 x.m.crd, .slice x.m.cba x.m.cbn x.m.cbc, .slice x.m.cpa x.m.cpn x.m.cpc, .slice x.m.cva x.m.cvn x.m.cvc, .int .i64 x.m.ro]) := laid_row w3 #[.int .i64 0, .int .i64 0, .int .i64 0, .int .i64 0, .int .i64 0, .slice none 0 0, .int .i64 0, .int .i64 0, .slice none 0 0, .slice none 0 0, .int .i64 0, .int .i64 0, .slice none 0 0, .int .i64 0, .int .i64 0, .slice none 0 0, .slice none 0 0, .slice none 0 0, .int .i64 0] #[.int .i64 x.m.fr, .int .i64 x.m.tt, .int .i64 x.m.ki, .int .i64 x.m.bau, .int .i64 x.m.bnu, .slice x.m.bta x.m.btn x.m.btc, .int .i64 x.m.hau, .int .i64 x.m.hrd, .slice x.m.hba x.m.hbn x.m.hbc, .slice x.m.hpa x.m.hpn x.m.hpc, .int .i64 x.m.sau, .int .i64 x.m.srd, .slice x.m.sda x.m.sdn x.m.sdc, .int .i64 x.m.cau, .int .i64 x.m.crd, .slice x.m.cba x.m.cbn x.m.cbc, .slice x.m.cpa x.m.cpn x.m.cpc, .slice x.m.cva x.m.cvn x.m.cvc, .int .i64 x.m.ro] 37
        have qM := setRow_heap _ _ _ #[.int .i64 x.m.fr, .int .i64 x.m.tt, .int .i64 x.m.ki, .int .i64 x.m.bau, .int .i64 x.m.bnu, .slice x.m.bta x.m.btn x.m.btc, .int .i64 x.m.hau, .int .i64 x.m.hrd, .slice x.m.hba x.m.hbn x.m.hbc, .slice x.m.hpa x.m.hpn x.m.hpc, .int .i64 x.m.sau, .int .i64 x.m.srd, .slice x.m.sda x.m.sdn x.m.sdc, .int .i64 x.m.cau, .int .i64 x.m.crd, .slice x.m.cba x.m.cbn x.m.cbc, .slice x.m.cpa x.m.cpn x.m.cpc, .slice x.m.cva x.m.cvn x.m.cvc, .int .i64 x.m.ro] _ _ qz
        have zM := (hAM.block _ (by omega)).trans z3
        have rM := (hAM.block _ hlt3).trans hr3
        have HMx : Hid (MAt w3 x ∧ HasM (fun q => W2.heap.size ≤ q) x ∧ x.c = pM (bs, false)) := ⟨hM, hH, hcx⟩
        clear hM hH hcx hR3
        go_upto_region 9 with (refine wpList_store_row rfl 37 _ _ rfl w3.heap.size #[.int .i64 x.m.fr, .int .i64 x.m.tt, .int .i64 x.m.ki, .int .i64 x.m.bau, .int .i64 x.m.bnu, .slice x.m.bta x.m.btn x.m.btc, .int .i64 x.m.hau, .int .i64 x.m.hrd, .slice x.m.hba x.m.hbn x.m.hbc, .slice x.m.hpa x.m.hpn x.m.hpc, .int .i64 x.m.sau, .int .i64 x.m.srd, .slice x.m.sda x.m.sdn x.m.sdc, .int .i64 x.m.cau, .int .i64 x.m.crd, .slice x.m.cba x.m.cbn x.m.cbc, .slice x.m.cpa x.m.cpn x.m.cpc, .slice x.m.cva x.m.cvn x.m.cvc, .int .i64 x.m.ro] rfl rfl 37 _ qz sMsg' rfl (by simp [Value.oneCell']) ?_)
        generalize (w3.alloc (.cells #[.int .i64 0, .int .i64 0, .int .i64 0, .int .i64 0, .int .i64 0, .slice none 0 0, .int .i64 0, .int .i64 0, .slice none 0 0, .slice none 0 0, .int .i64 0, .int .i64 0, .slice none 0 0, .int .i64 0, .int .i64 0, .slice none 0 0, .slice none 0 0, .slice none 0 0, .int .i64 0] 37)).setRow w3.heap.size #[.int .i64 x.m.fr, .int .i64 x.m.tt, .int .i64 x.m.ki, .int .i64 x.m.bau, .int .i64 x.m.bnu, .slice x.m.bta x.m.btn x.m.btc, .int .i64 x.m.hau, .int .i64 x.m.hrd, .slice x.m.hba x.m.hbn x.m.hbc, .slice x.m.hpa x.m.hpn x.m.hpc, .int .i64 x.m.sau, .int .i64 x.m.srd, .slice x.m.sda x.m.sdn x.m.sdc, .int .i64 x.m.cau, .int .i64 x.m.crd, .slice x.m.cba x.m.cbn x.m.cbc, .slice x.m.cpa x.m.cpn x.m.cpc, .slice x.m.cva x.m.cvn x.m.cvc, .int .i64 x.m.ro] = W4 at hAM qM zM rM ⊢
        have hB4 := hB3.trans (hAM.mono hB3.size)
        have hMx4 : Hid (MAt W4 x) := HMx.out.1.below hAM
        have s0 : W4.cell? ⟨w.heap.size + 1, 0, none⟩ = some (.slice la ml.length lc) := cells_at rM 0 _ rfl
        have s1 : W4.cell? ⟨w.heap.size + 1, 1, none⟩ = some (.bool msh) := cells_at rM 1 _ rfl
        clear qz z3 hr3 hAM
        cases msh with
        | true =>
          have hF : Hid (readF bs = 5) := by show _ = _; rw [HR1.out, if_pos rfl]
          go_wp2_with (refine wpList_store_row rfl 37 _ _ rfl w.heap.size #[.int .i64 0, .int .i64 0, .int .i64 0, .int .i64 0, .int .i64 0, .slice none 0 0, .int .i64 0, .int .i64 0, .slice none 0 0, .slice none 0 0, .int .i64 0, .int .i64 0, .slice none 0 0, .int .i64 0, .int .i64 0, .slice none 0 0, .slice none 0 0, .slice none 0 0, .int .i64 0] rfl rfl 37 _ zM sMsg' rfl (by simp [Value.oneCell']) ?_)
          have hFc := hF.out
          refine bodyPost_ret (v := .tuple #[.agg #[.int .i64 0, .int .i64 0, .int .i64 0, .int .i64 0, .int .i64 0, .slice none 0 0, .int .i64 0, .int .i64 0, .slice none 0 0, .slice none 0 0, .int .i64 0, .int .i64 0, .slice none 0 0, .int .i64 0, .int .i64 0, .slice none 0 0, .slice none 0 0, .slice none 0 0, .int .i64 0], .int .i64 5]) (results_cell_slot (fn := Try.f24) (p := 2) (q := 3) (ty := 37) rfl _ _ w.heap.size 37 _ (0, 0) _ (.int .i64 5) ⟨rfl, rfl⟩ (setRow_heap _ _ _ _ _ _ zM) Try.underlying37 rfl sMsg') rfl ⟨.inl ⟨by rw [hFc]; decide, by rw [hFc]⟩, (Upd.setRow zM).below hB4 hB4.size (Nat.le_refl _)⟩
        | false =>
          by_cases hml : ml = []
          · have hF : Hid (readF bs = 0) := by show _ = _; rw [HR1.out, if_neg (by decide), if_neg (fun h => h hml)]
            have hmI : ¬ (0 : Int) < (ml.length : Int) := by rw [hml]; decide
            clear hml HR1
            go_wp2_with (first | refine wpList_load_row rfl 37 _ rfl w3.heap.size rfl 37 #[.int .i64 x.m.fr, .int .i64 x.m.tt, .int .i64 x.m.ki, .int .i64 x.m.bau, .int .i64 x.m.bnu, .slice x.m.bta x.m.btn x.m.btc, .int .i64 x.m.hau, .int .i64 x.m.hrd, .slice x.m.hba x.m.hbn x.m.hbc, .slice x.m.hpa x.m.hpn x.m.hpc, .int .i64 x.m.sau, .int .i64 x.m.srd, .slice x.m.sda x.m.sdn x.m.sdc, .int .i64 x.m.cau, .int .i64 x.m.crd, .slice x.m.cba x.m.cbn x.m.cbc, .slice x.m.cpa x.m.cpn x.m.cpc, .slice x.m.cva x.m.cvn x.m.cvc, .int .i64 x.m.ro] (0, 0) _ qM Try.underlying37 rfl sMsg' ?_ | refine wpList_store_row rfl 37 _ _ rfl w.heap.size #[.int .i64 x.m.fr, .int .i64 x.m.tt, .int .i64 x.m.ki, .int .i64 x.m.bau, .int .i64 x.m.bnu, .slice x.m.bta x.m.btn x.m.btc, .int .i64 x.m.hau, .int .i64 x.m.hrd, .slice x.m.hba x.m.hbn x.m.hbc, .slice x.m.hpa x.m.hpn x.m.hpc, .int .i64 x.m.sau, .int .i64 x.m.srd, .slice x.m.sda x.m.sdn x.m.sdc, .int .i64 x.m.cau, .int .i64 x.m.crd, .slice x.m.cba x.m.cbn x.m.cbc, .slice x.m.cpa x.m.cpn x.m.cpc, .slice x.m.cva x.m.cvn x.m.cvc, .int .i64 x.m.ro] rfl rfl 37 _ zM sMsg' rfl (by simp [Value.oneCell']) ?_)
            refine bodyPost_ret (v := .tuple #[.agg #[.int .i64 x.m.fr, .int .i64 x.m.tt, .int .i64 x.m.ki, .int .i64 x.m.bau, .int .i64 x.m.bnu, .slice x.m.bta x.m.btn x.m.btc, .int .i64 x.m.hau, .int .i64 x.m.hrd, .slice x.m.hba x.m.hbn x.m.hbc, .slice x.m.hpa x.m.hpn x.m.hpc, .int .i64 x.m.sau, .int .i64 x.m.srd, .slice x.m.sda x.m.sdn x.m.sdc, .int .i64 x.m.cau, .int .i64 x.m.crd, .slice x.m.cba x.m.cbn x.m.cbc, .slice x.m.cpa x.m.cpn x.m.cpc, .slice x.m.cva x.m.cvn x.m.cvc, .int .i64 x.m.ro], .int .i64 0]) (results_cell_slot (fn := Try.f24) (p := 2) (q := 3) (ty := 37) rfl _ _ w.heap.size 37 _ (0, 0) _ (.int .i64 0) ⟨rfl, rfl⟩ (setRow_heap _ _ _ _ _ _ zM) Try.underlying37 rfl sMsg') rfl ⟨.inr ⟨hF.out, x, rfl, ?_, HMx.out.2.1.mono (fun q hq => by omega), HMx.out.2.2⟩, (Upd.setRow zM).below hB4 hB4.size (Nat.le_refl _)⟩
            exact hMx4.out.setRow (B := W2.heap.size) HMx.out.2.1 (by omega)
          · have hF : Hid (readF bs = 4) := by show _ = _; rw [HR1.out, if_neg (by decide), if_pos hml]
            have hmI : (0 : Int) < (ml.length : Int) := by have := length_pos_ne hml; omega
            clear hml HR1
            go_wp2_with (refine wpList_store_row rfl 37 _ _ rfl w.heap.size #[.int .i64 0, .int .i64 0, .int .i64 0, .int .i64 0, .int .i64 0, .slice none 0 0, .int .i64 0, .int .i64 0, .slice none 0 0, .slice none 0 0, .int .i64 0, .int .i64 0, .slice none 0 0, .int .i64 0, .int .i64 0, .slice none 0 0, .slice none 0 0, .slice none 0 0, .int .i64 0] rfl rfl 37 _ zM sMsg' rfl (by simp [Value.oneCell']) ?_)
            have hFc := hF.out
            refine bodyPost_ret (v := .tuple #[.agg #[.int .i64 0, .int .i64 0, .int .i64 0, .int .i64 0, .int .i64 0, .slice none 0 0, .int .i64 0, .int .i64 0, .slice none 0 0, .slice none 0 0, .int .i64 0, .int .i64 0, .slice none 0 0, .int .i64 0, .int .i64 0, .slice none 0 0, .slice none 0 0, .slice none 0 0, .int .i64 0], .int .i64 4]) (results_cell_slot (fn := Try.f24) (p := 2) (q := 3) (ty := 37) rfl _ _ w.heap.size 37 _ (0, 0) _ (.int .i64 4) ⟨rfl, rfl⟩ (setRow_heap _ _ _ _ _ _ zM) Try.underlying37 rfl sMsg') rfl ⟨.inl ⟨by rw [hFc]; decide, by rw [hFc]⟩, (Upd.setRow zM).below hB4 hB4.size (Nat.le_refl _)⟩
      · have hkd : decide (1 ≤ X ∧ X ≤ 5) = false := decide_eq_false hk
        have HIK : Hid (∀ W : World, Calls Try.prog 35 #[.int .i64 X] W fun e w' => e = .returned (.bool false) ∧ W = w') := by
          show ∀ _, _
          intro W
          exact isKind_bool X false W hkd.symm
        have hF : Hid (readF bs = 3) := by show _ = _; rw [HR0.out, if_pos hk]
        clear hkd hk
        go_enter Try.func24, Try.ntmps24
        go_upto_region 6 with (go_at_call 35; refine (HIK.out _).mono ?_; rintro e w9 ⟨rfl, rfl⟩)
        generalize w.alloc (.cells #[.int .i64 0, .int .i64 0, .int .i64 0, .int .i64 0, .int .i64 0, .slice none 0 0, .int .i64 0, .int .i64 0, .slice none 0 0, .slice none 0 0, .int .i64 0, .int .i64 0, .slice none 0 0, .int .i64 0, .int .i64 0, .slice none 0 0, .slice none 0 0, .slice none 0 0, .int .i64 0] 37) = W0 at hA q0 hsz c0 ⊢
        go_wp2_with (refine wpList_store_row rfl 37 _ _ rfl w.heap.size #[.int .i64 0, .int .i64 0, .int .i64 0, .int .i64 0, .int .i64 0, .slice none 0 0, .int .i64 0, .int .i64 0, .slice none 0 0, .slice none 0 0, .int .i64 0, .int .i64 0, .slice none 0 0, .int .i64 0, .int .i64 0, .slice none 0 0, .slice none 0 0, .slice none 0 0, .int .i64 0] rfl rfl 37 _ q0 sMsg' rfl (by simp [Value.oneCell']) ?_)
        have hFc := hF.out
        refine bodyPost_ret (v := .tuple #[.agg #[.int .i64 0, .int .i64 0, .int .i64 0, .int .i64 0, .int .i64 0, .slice none 0 0, .int .i64 0, .int .i64 0, .slice none 0 0, .slice none 0 0, .int .i64 0, .int .i64 0, .slice none 0 0, .int .i64 0, .int .i64 0, .slice none 0 0, .slice none 0 0, .slice none 0 0, .int .i64 0], .int .i64 3]) (results_cell_slot (fn := Try.f24) (p := 2) (q := 3) (ty := 37) rfl _ _ w.heap.size 37 _ (0, 0) _ (.int .i64 3) ⟨rfl, rfl⟩ (setRow_heap _ _ _ _ _ _ q0) Try.underlying37 rfl sMsg') rfl ⟨.inl ⟨by rw [hFc]; decide, by rw [hFc]⟩, (Upd.setRow q0).below hA hA.size (Nat.le_refl _)⟩
end Go.Proofs.Ythijfhbmkpfnkaa

namespace Go.Proofs.Ythijfhbmkpfnkaa
open Go.RowKit

set_option maxRecDepth 100000 in
set_option maxHeartbeats 1000000 in
theorem checkBatch_any (au nu : Int) (sa : Option Addr) (n cap : Nat) (ss : List ByteArray) (w : World) (hn : n = ss.length) (hm : n ≤ maxLen) (hs : StrsAt w sa ss) :
    Calls Try.prog 40 #[.agg #[.int .i64 au, .int .i64 nu, .slice sa n cap]] w fun e w' => e = .returned (.int .i64 (batchF au nu ss)) ∧ Below w.heap.size w w' := by
  subst hn
  unfold maxLen at hm
  by_cases ha : 0 ≤ au ∧ au < 4
  · by_cases hr : 1 ≤ nu ∧ nu ≤ 1048576
    · by_cases hl : ss.length < 1 ∨ 4 < ss.length
      · have hF : Hid (batchF au nu ss = 1) := by show _ = _; rw [batchF, if_neg (by simp [ha, hr]), if_pos hl]
        have hlI : ¬ (1 ≤ (ss.length : Int) ∧ (ss.length : Int) ≤ 4) := by omega
        rcases hl with hl | hl
        · have hl0 : ss.length = 0 := by omega
          rw [hl0]
          go_enter Try.func40, Try.ntmps40
          go_wp2_with (first | (go_at_call 29; first | (refine (isNode_true _ _ (by omega)).mono ?_; rintro e w' ⟨rfl, rfl⟩) | (refine (isNode_false _ _ (by omega)).mono ?_; rintro e w' ⟨rfl, rfl⟩)) | (go_at_call 44; first | (refine (isRound_true _ _ (by omega)).mono ?_; rintro e w' ⟨rfl, rfl⟩) | (refine (isRound_false _ _ (by omega)).mono ?_; rintro e w' ⟨rfl, rfl⟩)))
          go_ret
          exact ⟨ret_int hF.out.symm, (Below.refl _ _).alloc (Nat.le_refl _) _⟩
        · have hl1 : (4 : Int) < ss.length := by omega
          have hl2 : ¬ (ss.length : Int) < 1 := by omega
          go_enter Try.func40, Try.ntmps40
          go_wp2_with (first | (go_at_call 29; first | (refine (isNode_true _ _ (by omega)).mono ?_; rintro e w' ⟨rfl, rfl⟩) | (refine (isNode_false _ _ (by omega)).mono ?_; rintro e w' ⟨rfl, rfl⟩)) | (go_at_call 44; first | (refine (isRound_true _ _ (by omega)).mono ?_; rintro e w' ⟨rfl, rfl⟩) | (refine (isRound_false _ _ (by omega)).mono ?_; rintro e w' ⟨rfl, rfl⟩)))
          go_ret
          exact ⟨ret_int hF.out.symm, (Below.refl _ _).alloc (Nat.le_refl _) _⟩
      · have hF : Hid (batchF au nu ss = if ss.all txOk then 0 else 1) := by show _ = _; rw [batchF, if_neg (by simp [ha, hr]), if_neg hl]
        have hl1 : ¬ (4 : Int) < ss.length := by omega
        have hl2 : ¬ (ss.length : Int) < 1 := by omega
        go_enter Try.func40, Try.ntmps40
        go_wp2_with (first | (go_at_call 29; first | (refine (isNode_true _ _ (by omega)).mono ?_; rintro e w' ⟨rfl, rfl⟩) | (refine (isNode_false _ _ (by omega)).mono ?_; rintro e w' ⟨rfl, rfl⟩)) | (go_at_call 44; first | (refine (isRound_true _ _ (by omega)).mono ?_; rintro e w' ⟨rfl, rfl⟩) | (refine (isRound_false _ _ (by omega)).mono ?_; rintro e w' ⟨rfl, rfl⟩)))
        go_loop [28] (fun i => ∃ k : Nat, k ≤ ss.length ∧ i = .int .i64 k ∧ ∀ q, q < k → txOk (ss.getD q ByteArray.empty) = true) (fun i => ss.length - (intOf i).toNat)
        case atStart => exact ⟨0, Nat.zero_le _, rfl, fun q hq => by omega⟩
        case round =>
          obtain ⟨k, hk, rfl, hall⟩ := hrel
          by_cases hlt : k < ss.length
          · rcases hs.cells with hc | ⟨sb, so, rfl, hc⟩
            · subst hc; simp at hlt
            have hltI : (k : Int) < ss.length := by omega
            have ck := hc k hlt
            have ck2 := (((Below.refl w.heap.size w).alloc (Nat.le_refl _) (.cells #[.int .i64 au, .int .i64 nu, .slice (some ⟨sb, so, none⟩) ss.length cap] 26)).cell (p := ⟨sb, so + k, none⟩) (block_lt_of_cell ck)).trans ck
            have hz : (ss.getD k ByteArray.empty).size ≤ 9223372036854775807 := hs.size _ (by simp [List.getD, hlt])
            have hT : txOk (ss.getD k ByteArray.empty) = decide (1 ≤ (ss.getD k ByteArray.empty).size ∧ (ss.getD k ByteArray.empty).size ≤ 20) := rfl
            have hstep : Hid (txOk (ss.getD k ByteArray.empty) = true → ∀ q, q < k + 1 → txOk (ss.getD q ByteArray.empty) = true) := by
              show _ → _
              intro h q hq
              rcases Nat.lt_or_ge q k with g | g
              · exact hall q g
              · obtain rfl : q = k := by omega
                exact h
            have hno : Hid (txOk (ss.getD k ByteArray.empty) = false → ss.all txOk = false) := by
              show _ → _
              exact all_false ss txOk ByteArray.empty k hlt
            clear hall hc ck
            generalize ss.getD k ByteArray.empty = s at *
            by_cases h1 : 1 ≤ s.size
            · have h1I : ¬ (s.size : Int) < 1 := by omega
              by_cases h2 : s.size ≤ 20
              · have h2I : ¬ (20 : Int) < s.size := by omega
                have hst := hstep.out (by rw [hT]; simp [h1, h2])
                clear hT hstep hno
                go_wp2_with fail
                go_round
                case rel => exact ⟨k + 1, by omega, by go_num, hst⟩
                case measure => simp [intOf]; omega
              · have h2I : (20 : Int) < s.size := by omega
                have hst := hno.out (by rw [hT]; simp [h2])
                clear hT hstep hno
                rw [hst] at hF
                go_wp2_with fail
                go_ret
                exact ⟨ret_int (by rw [hF.out]; rfl), (Below.refl _ _).alloc (Nat.le_refl _) _⟩
            · have h1I : (s.size : Int) < 1 := by omega
              have hst := hno.out (by rw [hT]; simp [h1])
              clear hT hstep hno
              rw [hst] at hF
              go_wp2_with fail
              go_ret
              exact ⟨ret_int (by rw [hF.out]; rfl), (Below.refl _ _).alloc (Nat.le_refl _) _⟩
          · obtain rfl : k = ss.length := by omega
            have hst := all_true ss txOk ByteArray.empty hall
            rw [hst] at hF
            go_wp2_with fail
            go_ret
            exact ⟨ret_int (by rw [hF.out]; rfl), (Below.refl _ _).alloc (Nat.le_refl _) _⟩
    · have hF : Hid (batchF au nu ss = 2) := by show _ = _; simp [batchF, hr]
      go_enter Try.func40, Try.ntmps40
      go_wp2_with (first | (go_at_call 29; first | (refine (isNode_true _ _ (by omega)).mono ?_; rintro e w' ⟨rfl, rfl⟩) | (refine (isNode_false _ _ (by omega)).mono ?_; rintro e w' ⟨rfl, rfl⟩)) | (go_at_call 44; first | (refine (isRound_true _ _ (by omega)).mono ?_; rintro e w' ⟨rfl, rfl⟩) | (refine (isRound_false _ _ (by omega)).mono ?_; rintro e w' ⟨rfl, rfl⟩)))
      go_ret
      exact ⟨ret_int hF.out.symm, (Below.refl _ _).alloc (Nat.le_refl _) _⟩
  · have hF : Hid (batchF au nu ss = 2) := by show _ = _; simp [batchF, ha]
    go_enter Try.func40, Try.ntmps40
    go_wp2_with (first | (go_at_call 29; first | (refine (isNode_true _ _ (by omega)).mono ?_; rintro e w' ⟨rfl, rfl⟩) | (refine (isNode_false _ _ (by omega)).mono ?_; rintro e w' ⟨rfl, rfl⟩)) | (go_at_call 44; first | (refine (isRound_true _ _ (by omega)).mono ?_; rintro e w' ⟨rfl, rfl⟩) | (refine (isRound_false _ _ (by omega)).mono ?_; rintro e w' ⟨rfl, rfl⟩)))
    go_ret
    exact ⟨ret_int hF.out.symm, (Below.refl _ _).alloc (Nat.le_refl _) _⟩
end Go.Proofs.Ythijfhbmkpfnkaa

namespace Go.Proofs.Ythijfhbmkpfnkaa
open Go.RowKit

def anyOf (ps : List Part) (q : Part) (k : Nat) : Bool := (List.range k).any fun j => decide (txL (partAt ps j).bs = txL q.bs)
set_option maxRecDepth 100000 in
theorem anyOf_yes (ps : List Part) (q : Part) (k m : Nat) (hm : m < k) (h : txL (partAt ps m).bs = txL q.bs) : anyOf ps q k = true := by
  simp only [anyOf, List.any_eq_true]
  exact ⟨m, by simpa using hm, by simpa using h⟩
set_option maxRecDepth 100000 in
theorem anyOf_no (ps : List Part) (q : Part) (k : Nat) (h : ∀ j, j < k → ¬ txL (partAt ps j).bs = txL q.bs) : anyOf ps q k = false := by
  simp only [anyOf, List.any_eq_false]
  intro j hj
  simpa using h j (by simpa using hj)

set_option maxRecDepth 100000 in
set_option maxHeartbeats 1000000 in
theorem indexFunc_any (ps : List Part) (q : Part) (sa : Option Addr) (k cap g : Nat) (w : World) (hk : k ≤ ps.length) (hk2 : k ≤ 9000000000000000000) (hp : PartsAt w sa ps) (hq : SliceAt w q.sa q.cap q.bs) (hg : w.cell? ⟨g, 0, none⟩ = some (.slice q.sa q.bs.length q.cap)) :
    Calls Try.prog 64 #[.slice sa k cap, .func (.func 60) #[] #[.pointer (some ⟨g, 0, none⟩)]] w fun e w' => w = w' ∧ ∃ r : Int, e = .returned (.int .i64 r) ∧ ((anyOf ps q k = true ∧ 0 ≤ r) ∨ (anyOf ps q k = false ∧ r = -1)) := by
  go_enter Try.func64, Try.ntmps64
  go_wp2_with fail
  go_loop [8] (fun i => ∃ m : Nat, m ≤ k ∧ i = .int .i64 m ∧ ∀ j, j < m → ¬ txL (partAt ps j).bs = txL q.bs) (fun i => k - (intOf i).toNat)
  case atStart => exact ⟨0, Nat.zero_le _, rfl, fun j hj => by omega⟩
  case round =>
    obtain ⟨m, hm, rfl, hno⟩ := hrel
    by_cases hlt : m < k
    · rcases hp.cells with hc | ⟨sb, so, rfl, hc⟩
      · subst hc; simp at hk; omega
      have hmp : m < ps.length := by omega
      have ck := hc m hmp
      have hx := hp.each (ps[m]) (List.getElem_mem hmp)
      have hltI : (m : Int) < k := by omega
      have hpe := partAt_get ps m hmp
      have Hyes : Hid (txL (ps[m]).bs = txL q.bs → anyOf ps q k = true) := by
        show _ → _
        intro h
        exact anyOf_yes ps q k m hlt (by rw [hpe]; exact h)
      have Hno : Hid (¬ txL (ps[m]).bs = txL q.bs → ∀ j, j < m + 1 → ¬ txL (partAt ps j).bs = txL q.bs) := by
        show _ → _
        intro h j hj
        rcases Nat.lt_or_ge j m with g | g
        · exact hno j g
        · obtain rfl : j = m := by omega
          rw [hpe]; exact h
      clear hno hpe hc
      generalize ps[m] = p at *
      go_wp2_with fail
      refine (same_closure p.bs q.bs p.sa q.sa _ _ p.cap q.cap g w rfl rfl hx hq hg).mono ?_
      rintro e w1 ⟨he, rfl⟩
      subst he
      dsimp only
      by_cases h : txL p.bs = txL q.bs
      · have hy := Hyes.out h
        rw [decide_eq_true h]
        clear Hyes Hno h
        go_wp2_with fail
        go_ret
        exact ⟨rfl, (m : Int), rfl, .inl ⟨hy, by omega⟩⟩
      · have hn := Hno.out h
        rw [decide_eq_false h]
        clear Hyes Hno h
        go_wp2_with fail
        go_round
        case rel => exact ⟨m + 1, by omega, by go_num, hn⟩
        case measure => simp [intOf]; omega
    · obtain rfl : m = k := by omega
      have hn : Hid (anyOf ps q m = false) := anyOf_no ps q m hno
      go_wp2_with fail
      go_ret
      refine ⟨rfl, (-1 : Int), rfl, ?_⟩
      exact .inr ⟨hn.out, rfl⟩
set_option maxRecDepth 100000 in
set_option maxHeartbeats 400000 in
theorem containsFunc_any (ps : List Part) (q : Part) (sa : Option Addr) (k cap g : Nat) (w : World) (hk : k ≤ ps.length) (hk2 : k ≤ 9000000000000000000) (hp : PartsAt w sa ps) (hq : SliceAt w q.sa q.cap q.bs) (hg : w.cell? ⟨g, 0, none⟩ = some (.slice q.sa q.bs.length q.cap)) :
    Calls Try.prog 62 #[.slice sa k cap, .func (.func 60) #[] #[.pointer (some ⟨g, 0, none⟩)]] w fun e w' => e = .returned (.bool (anyOf ps q k)) ∧ w = w' := by
  go_enter Try.func62, Try.ntmps62
  go_wp2_with fail
  refine (indexFunc_any ps q sa k cap g w hk hk2 hp hq hg).mono ?_
  rintro e w1 ⟨rfl, r, he, hr⟩
  subst he
  dsimp only
  rcases hr with ⟨ha, hr⟩ | ⟨ha, rfl⟩
  · go_wp2_with fail
    go_ret
    exact ⟨ret_bool (by rw [ha]), rfl⟩
  · go_wp2_with fail
    go_ret
    exact ⟨ret_bool (by rw [ha]), rfl⟩

set_option maxRecDepth 100000 in
set_option maxHeartbeats 1000000 in
theorem checkDigests_any (ps : List Part) (sa : Option Addr) (n cap : Nat) (w : World) (hn : n = ps.length) (hc0 : n ≤ cap) (_hcm : cap ≤ 9223372036854775807) (hnm : n ≤ 9000000000000000000) (hsa : cap = 0 ∨ ∃ sb so, sa = some ⟨sb, so, none⟩) (hp : PartsAt w sa ps) :
    Calls Try.prog 55 #[.slice sa n cap] w fun e w' => e = .returned (.int .i64 (digF ps)) ∧ Below w.heap.size w w' := by
  subst hn
  have hmf : ∀ (fn : Fn) (first cap : Array Value) (w : World), (Instr.makeFunc fn first cap).run Try.prog w = .ok (.func fn first cap) w := fun _ _ _ _ => rfl
  go_enter Try.func55, Try.ntmps55
  go_wp2_with fail
  go_loopw [8] (fun i wr => ∃ k : Nat, k ≤ ps.length ∧ i = .int .i64 k ∧ digTo1 ps k = 0 ∧ Below w.heap.size w wr) (fun i _ => ps.length - (intOf i).toNat)
  case atStart => exact ⟨0, Nat.zero_le _, rfl, rfl, Below.refl _ _⟩
  case round =>
    obtain ⟨k, hk, rfl, h0, hb⟩ := hrel
    by_cases hlt : k < ps.length
    · obtain ⟨sb, so, rfl⟩ : ∃ sb so, sa = some ⟨sb, so, none⟩ := by
        rcases hsa with h | h
        · omega
        · exact h
      have hpw := hp.below hb
      have hx := hpw.each (ps[k]) (List.getElem_mem hlt)
      have hpe := partAt_get ps k hlt
      have ck : wr.cell? ⟨sb, so + k, none⟩ = some (.slice (ps[k]).sa (ps[k]).bs.length (ps[k]).cap) := by
        rcases hpw.cells with hc | ⟨sb', so', e, hc⟩
        · rw [hc] at hlt; simp at hlt
        · cases e; exact hc k hlt
      have hltI : (k : Int) < ps.length := by omega
      have hkc : (k : Int) ≤ cap := by omega
      have hAt : Hid (digAt ps k = if (ps[k]).bs.length ≠ 32 then 4 else if anyOf ps (ps[k]) k then 7 else 0) := by
        show _ = _
        rw [digAt, twice, hpe]
        rfl
      have hF : Hid (digAt ps k ≠ 0 → digF ps = digAt ps k) := by
        show _ → _
        exact digF_at ps k hlt h0
      have hS : Hid (digAt ps k = 0 → digTo1 ps (k + 1) = 0) := by
        show _ → _
        intro h
        rw [digTo1, h0, h]; rfl
      clear hpe
      have hxl : (ps[k]).bs.length ≤ 9223372036854775807 := Nat.le_trans hx.le hx.max
      generalize ps[k] = p at *
      by_cases h32 : p.bs.length = 32
      · have hAl : Below wr.heap.size wr (wr.alloc (.cells #[.slice p.sa 32 p.cap] 30)) := (Below.refl _ _).alloc (Nat.le_refl _) _
        have hg : (wr.alloc (.cells #[.slice p.sa 32 p.cap] 30)).cell? ⟨wr.heap.size, 0, none⟩ = some (.slice p.sa p.bs.length p.cap) := by
          rw [h32]; exact laid_cell _ _ _ 0 _ rfl
        have hC := containsFunc_any ps p (some ⟨sb, so, none⟩) k cap wr.heap.size _ hk (by omega) (hpw.below hAl) (hx.below hAl) hg
        clear hg hx hpw
        by_cases hT : anyOf ps p k = true
        · rw [hT] at hC
          have e7 : digF ps = 7 := by
            have : digAt ps k = 7 := by rw [hAt.out, if_neg (by simp [h32]), hT]; rfl
            rw [hF.out (by rw [this]; decide), this]
          clear hAt hF hS hT
          go_wp2_with fail
          refine hC.mono ?_
          rintro e w2 ⟨he, rfl⟩
          subst he
          dsimp only
          go_wp2_with fail
          go_ret
          exact ⟨ret_int e7.symm, hb.alloc hb.size _⟩
        · have hT' : anyOf ps p k = false := by simpa using hT
          rw [hT'] at hC
          have e0 := hS.out (by rw [hAt.out, if_neg (by simp [h32]), hT']; rfl)
          clear hAt hF hS hT hT'
          go_wp2_with fail
          refine hC.mono ?_
          rintro e w2 ⟨he, rfl⟩
          subst he
          dsimp only
          go_wp2_with fail
          go_roundw
          case rel => exact ⟨k + 1, by omega, by go_num, e0, hb.alloc hb.size _⟩
          case measure => simp [intOf]; omega
      · have h32I : ¬ (p.bs.length : Int) = 32 := by omega
        have e4 : digF ps = 4 := by
          have : digAt ps k = 4 := by rw [hAt.out, if_pos h32]
          rw [hF.out (by rw [this]; decide), this]
        clear hAt hF hS
        go_wp2_with fail
        go_ret
        exact ⟨ret_int e4.symm, hb.alloc hb.size _⟩
    · obtain rfl : k = ps.length := by omega
      go_wp2_with fail
      go_ret
      exact ⟨ret_int h0.symm, hb⟩
end Go.Proofs.Ythijfhbmkpfnkaa

namespace Go.Proofs.Ythijfhbmkpfnkaa
open Go.RowKit

set_option maxRecDepth 100000 in
set_option maxHeartbeats 400000 in
theorem checkParents_any (rd : Int) (n : Nat) (w : World) (hn : n ≤ 1000) :
    Calls Try.prog 56 #[.int .i64 rd, .int .i64 n] w fun e w' => e = .returned (.int .i64 (parentsF rd n)) ∧ w = w' := by
  by_cases h1 : rd = 1
  · subst h1
    by_cases h2 : 0 < n
    · have hF : Hid (parentsF 1 n = 10) := by show _ = _; simp [parentsF, h2]
      have h2I : (0 : Int) < n := by omega
      go_enter Try.func56, Try.ntmps56
      go_wp2_with fail
      go_ret
      exact ⟨ret_int hF.out.symm, rfl⟩
    · have hF : Hid (parentsF 1 n = 0) := by show _ = _; simp [parentsF, h2]
      have h2I : ¬ (0 : Int) < n := by omega
      go_enter Try.func56, Try.ntmps56
      go_wp2_with fail
      go_ret
      exact ⟨ret_int hF.out.symm, rfl⟩
  · by_cases h2 : 1 < rd
    · by_cases h3 : n < 3
      · have hF : Hid (parentsF rd n = 10) := by show _ = _; simp [parentsF, h2, h3]
        have h3I : (n : Int) < 3 := by omega
        go_enter Try.func56, Try.ntmps56
        go_wp2_with fail
        go_ret
        exact ⟨ret_int hF.out.symm, rfl⟩
      · have hF : Hid (parentsF rd n = 0) := by show _ = _; simp [parentsF, h1, h3]
        have h3I : ¬ (n : Int) < 3 := by omega
        go_enter Try.func56, Try.ntmps56
        go_wp2_with fail
        go_ret
        exact ⟨ret_int hF.out.symm, rfl⟩
    · have hF : Hid (parentsF rd n = 0) := by show _ = _; simp [parentsF, h1, h2]
      go_enter Try.func56, Try.ntmps56
      go_wp2_with fail
      go_ret
      exact ⟨ret_int hF.out.symm, rfl⟩

set_option maxRecDepth 100000 in
set_option maxHeartbeats 1000000 in
theorem checkHeader_any (au rd : Int) (ba : Option Addr) (bc : Nat) (bl : List Part) (pa : Option Addr) (pc : Nat) (pl : List Part) (w : World) (hb : ListAt w ba bc bl) (hp : ListAt w pa pc pl) :
    Calls Try.prog 41 #[.agg #[.int .i64 au, .int .i64 rd, .slice ba bl.length bc, .slice pa pl.length pc]] w fun e w' => e = .returned (.int .i64 (headerF au rd bl pl)) ∧ Below w.heap.size w w' := by
  have hbl := hb.le
  have hbm := hb.max
  have hbs := hb.small
  have hpl := hp.le
  have hpm := hp.max
  have hps := hp.small
  have hA : Below w.heap.size w (w.alloc (.cells #[.int .i64 au, .int .i64 rd, .slice ba bl.length bc, .slice pa pl.length pc] 29)) := (Below.refl _ _).alloc (Nat.le_refl _) _
  by_cases ha : 0 ≤ au ∧ au < 4
  · by_cases hr : 1 ≤ rd ∧ rd ≤ 1048576
    · by_cases hz : 3 < bl.length ∨ 4 < pl.length
      · have hF : Hid (headerF au rd bl pl = 1) := by show _ = _; rw [headerF, if_neg (by simp [ha, hr]), if_pos hz]
        by_cases hz1 : 3 < bl.length
        · have hzI : (3 : Int) < bl.length := by omega
          go_enter Try.func41, Try.ntmps41
          go_wp2_with (first | (go_at_call 29; first | (refine (isNode_true _ _ (by omega)).mono ?_; rintro e w' ⟨rfl, rfl⟩) | (refine (isNode_false _ _ (by omega)).mono ?_; rintro e w' ⟨rfl, rfl⟩)) | (go_at_call 44; first | (refine (isRound_true _ _ (by omega)).mono ?_; rintro e w' ⟨rfl, rfl⟩) | (refine (isRound_false _ _ (by omega)).mono ?_; rintro e w' ⟨rfl, rfl⟩)))
          go_ret
          exact ⟨ret_int hF.out.symm, hA⟩
        · have hzI : ¬ (3 : Int) < bl.length := by omega
          have hzJ : (4 : Int) < pl.length := by omega
          go_enter Try.func41, Try.ntmps41
          go_wp2_with (first | (go_at_call 29; first | (refine (isNode_true _ _ (by omega)).mono ?_; rintro e w' ⟨rfl, rfl⟩) | (refine (isNode_false _ _ (by omega)).mono ?_; rintro e w' ⟨rfl, rfl⟩)) | (go_at_call 44; first | (refine (isRound_true _ _ (by omega)).mono ?_; rintro e w' ⟨rfl, rfl⟩) | (refine (isRound_false _ _ (by omega)).mono ?_; rintro e w' ⟨rfl, rfl⟩)))
          go_ret
          exact ⟨ret_int hF.out.symm, hA⟩
      · have hF : Hid (headerF au rd bl pl = if digF bl ≠ 0 then digF bl else if digF pl ≠ 0 then digF pl else parentsF rd pl.length) := by show _ = _; rw [headerF, if_neg (by simp [ha, hr]), if_neg hz]
        have hzI : ¬ (3 : Int) < bl.length := by omega
        have hzJ : ¬ (4 : Int) < pl.length := by omega
        go_enter Try.func41, Try.ntmps41
        go_wp2_with (first | (go_at_call 29; first | (refine (isNode_true _ _ (by omega)).mono ?_; rintro e w' ⟨rfl, rfl⟩) | (refine (isNode_false _ _ (by omega)).mono ?_; rintro e w' ⟨rfl, rfl⟩)) | (go_at_call 44; first | (refine (isRound_true _ _ (by omega)).mono ?_; rintro e w' ⟨rfl, rfl⟩) | (refine (isRound_false _ _ (by omega)).mono ?_; rintro e w' ⟨rfl, rfl⟩)))
        refine (checkDigests_any bl ba _ bc _ rfl hb.le hb.max hb.small hb.some (hb.parts.below hA)).mono ?_
        rintro e w1 ⟨he, hb1⟩
        subst he
        dsimp only
        have r1 := row_new hb1
        replace hb1 := below_alloc hb1
        have c3 : w1.cell? ⟨w.heap.size, 3, none⟩ = some (.slice pa pl.length pc) := cells_at r1 3 _ rfl
        by_cases h1 : digF bl = 0
        · rw [h1] at hF ⊢
          go_wp2_with fail
          refine (checkDigests_any pl pa _ pc _ rfl hp.le hp.max hp.small hp.some (hp.parts.below hb1)).mono ?_
          rintro e w2 ⟨he, hb2⟩
          subst he
          dsimp only
          have r2 := (hb2.block _ (lt_of_heap r1)).trans r1
          have hb12 := hb1.trans (hb2.mono hb1.size)
          have c1 : w2.cell? ⟨w.heap.size, 1, none⟩ = some (.int .i64 rd) := cells_at r2 1 _ rfl
          have c3' : w2.cell? ⟨w.heap.size, 3, none⟩ = some (.slice pa pl.length pc) := cells_at r2 3 _ rfl
          clear c3 r1 r2
          by_cases h2 : digF pl = 0
          · rw [h2] at hF ⊢
            go_wp2_with fail
            refine (checkParents_any rd pl.length w2 (by omega)).mono ?_
            rintro e w3 ⟨he, rfl⟩
            subst he
            dsimp only
            go_wp2_with fail
            go_ret
            exact ⟨ret_int (by rw [hF.out]; rfl), hb12⟩
          · rw [if_neg (by simp), if_pos h2] at hF
            generalize digF pl = z at *
            go_wp2_with fail
            go_ret
            exact ⟨ret_int hF.out.symm, hb12⟩
        · rw [if_pos h1] at hF
          generalize digF bl = z at *
          go_wp2_with fail
          go_ret
          exact ⟨ret_int hF.out.symm, hb1⟩
    · have hF : Hid (headerF au rd bl pl = 2) := by show _ = _; simp [headerF, hr]
      go_enter Try.func41, Try.ntmps41
      go_wp2_with (first | (go_at_call 29; first | (refine (isNode_true _ _ (by omega)).mono ?_; rintro e w' ⟨rfl, rfl⟩) | (refine (isNode_false _ _ (by omega)).mono ?_; rintro e w' ⟨rfl, rfl⟩)) | (go_at_call 44; first | (refine (isRound_true _ _ (by omega)).mono ?_; rintro e w' ⟨rfl, rfl⟩) | (refine (isRound_false _ _ (by omega)).mono ?_; rintro e w' ⟨rfl, rfl⟩)))
      go_ret
      exact ⟨ret_int hF.out.symm, hA⟩
  · have hF : Hid (headerF au rd bl pl = 2) := by show _ = _; simp [headerF, ha]
    go_enter Try.func41, Try.ntmps41
    go_wp2_with (first | (go_at_call 29; first | (refine (isNode_true _ _ (by omega)).mono ?_; rintro e w' ⟨rfl, rfl⟩) | (refine (isNode_false _ _ (by omega)).mono ?_; rintro e w' ⟨rfl, rfl⟩)) | (go_at_call 44; first | (refine (isRound_true _ _ (by omega)).mono ?_; rintro e w' ⟨rfl, rfl⟩) | (refine (isRound_false _ _ (by omega)).mono ?_; rintro e w' ⟨rfl, rfl⟩)))
    go_ret
    exact ⟨ret_int hF.out.symm, hA⟩
end Go.Proofs.Ythijfhbmkpfnkaa
