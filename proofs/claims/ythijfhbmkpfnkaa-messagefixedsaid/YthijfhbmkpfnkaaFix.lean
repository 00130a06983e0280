/- What is read, encoded again: the bytes that were read. -/
import Derived.Test.YthijfhbmkpfnkaaDecM
namespace Go.Proofs.Ythijfhbmkpfnkaa
open Go.RowKit

set_option maxRecDepth 100000 in
theorem un_nx {n : Nat} {s : St} (h : (nx n s).2 = false) : s.1 = tT n s ++ (nx n s).1 ∧ (tT n s).length = n ∧ s.2 = false := by
  obtain ⟨l, sh⟩ := s
  have h' : tkS n l sh = false := h
  simp only [tkS, Bool.or_eq_false_iff, decide_eq_false_iff_not] at h'
  obtain ⟨rfl, hl⟩ := h'
  obtain ⟨a1, a2, a3⟩ := tk_ok (n := n) (l := l) (by omega)
  refine ⟨?_, ?_, rfl⟩
  · show l = tkT n l false ++ tkL n l false
    rw [a1, a2, List.take_append_drop]
  · show (tkT n l false).length = n
    rw [a1, List.length_take]; omega
set_option maxRecDepth 100000 in
theorem u8_nx {n : Nat} {s : St} (h : U8s s.1) : U8s (nx n s).1 := U8s.tkL h
set_option maxRecDepth 100000 in
theorem u8_tT {n : Nat} {s : St} (h : U8s s.1) : U8s (tT n s) := U8s.tkT h
set_option maxRecDepth 100000 in
theorem un_one {s : St} (h : (nx 1 s).2 = false) : s.1 = nB 1 s :: (nx 1 s).1 ∧ s.2 = false := by
  obtain ⟨h1, h2, h3⟩ := un_nx h
  refine ⟨?_, h3⟩
  match ht : tT 1 s, h2 with
  | [a], _ =>
    have hn : nB 1 s = a := by show numB (tT 1 s) = a; rw [ht]; simp [numB]
    rw [ht] at h1
    rw [hn]
    exact h1
set_option maxRecDepth 100000 in
theorem un_three {s : St} (hu : U8s s.1) (h : (nx 3 s).2 = false) : s.1 = rd3 (nB 3 s) ++ (nx 3 s).1 ∧ s.2 = false := by
  obtain ⟨h1, h2, h3⟩ := un_nx h
  have hu3 := u8_tT (n := 3) hu
  refine ⟨?_, h3⟩
  match ht : tT 3 s, h2 with
  | [a, b, c], _ =>
    rw [ht] at h1 hu3
    have ha := hu3 a (by simp)
    have hb := hu3 b (by simp)
    have hc := hu3 c (by simp)
    have hn : nB 3 s = 65536 * a + 256 * b + c := by
      show numB (tT 3 s) = _
      rw [ht]
      simp [numB]
      omega
    have e : rd3 (nB 3 s) = [a, b, c] := by
      rw [hn]
      simp only [rd3, List.cons.injEq, and_true]
      refine ⟨?_, ?_, ?_⟩ <;> omega
    rw [e]
    exact h1
set_option maxRecDepth 100000 in
theorem un_dg {s : St} (k : Nat) (h : (dgL s.1 s.2 k).2 = false) : s.1 = (dgD s.1 s.2 k).flatten ++ (dgL s.1 s.2 k).1 ∧ (dgD s.1 s.2 k).length = k ∧ s.2 = false := by
  induction k with
  | zero => exact ⟨rfl, rfl, h⟩
  | succ k ih =>
    have h1 : (nx 32 (dgL s.1 s.2 k)).2 = false := h
    obtain ⟨e1, _, e3⟩ := un_nx h1
    obtain ⟨i1, i2, i3⟩ := ih e3
    refine ⟨?_, ?_, i3⟩
    · show s.1 = (dgD s.1 s.2 k ++ [tT 32 (dgL s.1 s.2 k)]).flatten ++ (nx 32 (dgL s.1 s.2 k)).1
      rw [List.flatten_append, List.flatten_singleton, List.append_assoc, ← e1]
      exact i1
    · show (dgD s.1 s.2 k ++ [tkT 32 (dgL s.1 s.2 k).1 (dgL s.1 s.2 k).2]).length = k + 1
      rw [List.length_append, i2]; rfl
set_option maxRecDepth 100000 in
theorem un_dgs {s : St} (hu : U8s s.1) (h : (dgS s).2 = false) : s.1 = ((dgs s).length : Int) :: ((dgs s).flatten ++ (dgS s).1) ∧ s.2 = false := by
  obtain ⟨d1, d2, d3⟩ := un_dg (s := nx 1 s) (dN s.1 s.2) h
  obtain ⟨e1, e3⟩ := un_one d3
  refine ⟨?_, e3⟩
  have hb : 0 ≤ nB 1 s := by
    have := hu (nB 1 s) (by rw [e1]; simp)
    omega
  have hN : ((dgs s).length : Int) = nB 1 s := by
    have e : (dgs s).length = (nB 1 s).toNat := d2
    rw [e]; omega
  rw [hN]
  have e : (nx 1 s).1 = (dgs s).flatten ++ (dgS s).1 := d1
  rw [← e]
  exact e1
set_option maxRecDepth 100000 in
theorem u8_dgS {s : St} (hu : U8s s.1) (h : (dgS s).2 = false) : U8s (dgS s).1 := fun x hx => hu x (by rw [(un_dgs hu h).1]; simp [hx])
set_option maxRecDepth 100000 in
theorem un_nL {s : St} (k : Nat) (h : (nL s k).2 = false) : s.1 = nV s k ++ (nL s k).1 ∧ (nV s k).length = k ∧ s.2 = false := by
  induction k with
  | zero => exact ⟨rfl, rfl, h⟩
  | succ k ih =>
    have h1 : (nx 1 (nL s k)).2 = false := h
    obtain ⟨e1, e3⟩ := un_one h1
    obtain ⟨i1, i2, i3⟩ := ih e3
    refine ⟨?_, ?_, i3⟩
    · show s.1 = (nV s k ++ [nB 1 (nL s k)]) ++ (nx 1 (nL s k)).1
      rw [List.append_assoc, List.singleton_append, ← e1]
      exact i1
    · show (nV s k ++ [nB 1 (nL s k)]).length = k + 1
      rw [List.length_append, i2]; rfl
set_option maxRecDepth 100000 in
theorem tb_bstr {l : List Int} (h : U8s l) : tb (bstr l) = l := by
  rw [tb, bstr_data, List.map_map]
  conv => rhs; rw [← List.map_id l]
  refine List.map_congr_left fun x hx => ?_
  have := h x hx
  simp
  omega
set_option maxRecDepth 100000 in
theorem un_bL {s : St} (hu : U8s s.1) (k : Nat) (h : (bL s k).2 = false) : s.1 = txsB (bT s k) ++ (bL s k).1 ∧ (bT s k).length = k ∧ s.2 = false ∧ U8s (bL s k).1 := by
  induction k with
  | zero => exact ⟨rfl, rfl, h, hu⟩
  | succ k ih =>
    have h1 : (nx (nB 1 (bL s k)).toNat (nx 1 (bL s k))).2 = false := h
    obtain ⟨e1, e2, e3⟩ := un_nx h1
    obtain ⟨f1, f3⟩ := un_one e3
    obtain ⟨i1, i2, i3, i4⟩ := ih f3
    have hb : 0 ≤ nB 1 (bL s k) := by
      have := i4 (nB 1 (bL s k)) (by rw [f1]; simp)
      omega
    refine ⟨?_, ?_, i3, u8_nx (u8_nx i4)⟩
    · show s.1 = txsB (bT s k ++ [bstr (tT (nB 1 (bL s k)).toNat (nx 1 (bL s k)))]) ++ (nx (nB 1 (bL s k)).toNat (nx 1 (bL s k))).1
      rw [txsB_snoc, bstr_size, tb_bstr (u8_tT (u8_nx i4)), e2, List.append_assoc, List.cons_append, ← e1, Int.toNat_of_nonneg hb, ← f1]
      exact i1
    · show (bT s k ++ [bstr (tT (nB 1 (bL s k)).toNat (nx 1 (bL s k)))]).length = k + 1
      rw [List.length_append, i2]; rfl
set_option maxRecDepth 100000 in
theorem flat_c {qs : List Part} {l : List (List Int)} (h : qs.map (·.bs) = l) : digsB qs = (l.length : Int) :: l.flatten := by
  subst h
  rw [digsB, List.length_map]
  congr 1
  induction qs with
  | nil => rfl
  | cons p qs ih => simp [flatB, ih]
set_option maxRecDepth 100000 in
set_option maxHeartbeats 1000000 in
/-- No message has two forms. -/
theorem un_msg {y : MV} {bs : List Int} (hC : checkF y.m y.car = 0) (hu : U8s bs) (hS : mS (bs, false) = ([], false)) (hc : y.c = pM (bs, false)) : y.bytes = bs := by
  have hS2 : (mS (bs, false)).2 = false := by rw [hS]
  obtain ⟨s, hs⟩ : ∃ s : St, (bs, false) = s := ⟨_, rfl⟩
  have hb : bs = s.1 := by rw [← hs]
  rw [hs] at hS hS2 hc
  rw [hb] at hu ⊢
  clear hs hb
  have hB : y.bytes = y.m.ki :: y.m.fr :: y.m.tt :: bodyB y.m y.ss y.bl y.pl y.cbl y.cpl y.ds y.vl := rfl
  rw [hB]
  by_cases k1 : nB 1 s = 1
  · rw [pM, if_pos k1] at hc
    rw [mS, if_pos k1] at hS hS2
    simp only [MV.c, MC.mk.injEq] at hc
    obtain ⟨e1, e2, e3, e4, e5, e6, _⟩ := hc
    have hu' : U8s (nx 1 (bS3 (nx 1 (nx 1 (nx 1 s))))).1 := u8_nx (u8_nx (u8_nx (u8_nx (u8_nx (u8_nx hu)))))
    obtain ⟨a1, a2, a3, _⟩ := un_bL hu' _ hS2
    obtain ⟨b1, b3⟩ := un_one a3
    obtain ⟨c1, c3⟩ := un_three (s := nx 1 (nx 1 (nx 1 (nx 1 s)))) (u8_nx (u8_nx (u8_nx (u8_nx hu)))) b3
    obtain ⟨d1, d3⟩ := un_one c3
    obtain ⟨f1, f3⟩ := un_one d3
    obtain ⟨g1, g3⟩ := un_one f3
    obtain ⟨i1, i3⟩ := un_one g3
    have hb0 : 0 ≤ nB 1 (bS3 (nx 1 (nx 1 (nx 1 s)))) := by
      have := (show U8s (bS3 (nx 1 (nx 1 (nx 1 s)))).1 from u8_nx (u8_nx (u8_nx (u8_nx (u8_nx hu))))) (nB 1 (bS3 (nx 1 (nx 1 (nx 1 s))))) (by rw [b1]; simp)
      omega
    have hN : (y.ss.length : Int) = nB 1 (bS3 (nx 1 (nx 1 (nx 1 s)))) := by
      rw [e6, a2]
      show (((nB 1 (bS3 (nx 1 (nx 1 (nx 1 s))))).toNat : Nat) : Int) = _
      omega
    rw [bodyB1 (e3.trans k1), batchB, hN, e3, e1, e2, e4, e5, e6]
    rw [i1, g1, f1, d1, c1]
    have b1' : (nx 3 (nx 1 (nx 1 (nx 1 (nx 1 s))))).1 = nB 1 (bS3 (nx 1 (nx 1 (nx 1 s)))) :: (nx 1 (bS3 (nx 1 (nx 1 (nx 1 s))))).1 := b1
    rw [b1', a1, hS]
    simp
  · by_cases k2 : nB 1 s = 2
    · rw [pM, if_neg k1, if_pos k2] at hc
      rw [mS, if_neg k1, if_pos k2] at hS hS2
      simp only [MV.c, MC.mk.injEq] at hc
      obtain ⟨e1, e2, e3, _, _, _, e7, e8, e9, e10, _⟩ := hc
      have hu3 : U8s (nx 3 (nx 1 (nx 1 (nx 1 (nx 1 s))))).1 := u8_nx (u8_nx (u8_nx (u8_nx (u8_nx hu))))
      obtain ⟨x1, x3⟩ := un_dgs (fun z hz => by
        have h9 : (dgS (nx 3 (nx 1 (nx 1 (nx 1 (nx 1 s)))))).2 = false := (dgS_ext [] hS2).2
        exact u8_dgS hu3 h9 z hz) hS2
      obtain ⟨y1, y3⟩ := un_dgs hu3 x3
      obtain ⟨c1, c3⟩ := un_three (u8_nx (u8_nx (u8_nx (u8_nx hu)))) y3
      obtain ⟨d1, d3⟩ := un_one c3
      obtain ⟨f1, f3⟩ := un_one d3
      obtain ⟨g1, g3⟩ := un_one f3
      obtain ⟨i1, i3⟩ := un_one g3
      rw [bodyB2 (e3.trans k2), headB, flat_c e9, flat_c e10, e3, e1, e2, e7, e8]
      rw [i1, g1, f1, d1, c1, y1, x1, hS]
      simp
    · by_cases k3 : nB 1 s = 3
      · rw [pM, if_neg k1, if_neg k2, if_pos k3] at hc
        rw [mS, if_neg k1, if_neg k2, if_pos k3] at hS hS2
        simp only [MV.c, MC.mk.injEq] at hc
        obtain ⟨e1, e2, e3, _, _, _, _, _, _, _, e11, e12, e13, _⟩ := hc
        obtain ⟨x1, _, x3⟩ := un_nx hS2
        obtain ⟨c1, c3⟩ := un_three (u8_nx (u8_nx (u8_nx (u8_nx hu)))) x3
        obtain ⟨d1, d3⟩ := un_one c3
        obtain ⟨f1, f3⟩ := un_one d3
        obtain ⟨g1, g3⟩ := un_one f3
        obtain ⟨i1, i3⟩ := un_one g3
        rw [bodyB3 (e3.trans k3), e3, e1, e2, e11, e12, e13]
        rw [i1, g1, f1, d1, c1, x1, hS]
        simp
      · by_cases k4 : nB 1 s = 4
        · rw [pM, if_neg k1, if_neg k2, if_neg k3, if_pos k4] at hc
          rw [mS, if_neg k1, if_neg k2, if_neg k3, if_pos k4] at hS hS2
          simp only [MV.c, MC.mk.injEq] at hc
          obtain ⟨e1, e2, e3, _, _, _, _, _, _, _, _, _, _, e14, e15, e16, e17, e18, _⟩ := hc
          obtain ⟨a1, a2, a3⟩ := un_nL _ hS2
          obtain ⟨b1, b3⟩ := un_one a3
          have hu3 : U8s (nx 3 (nx 1 (nx 1 (nx 1 (nx 1 s))))).1 := u8_nx (u8_nx (u8_nx (u8_nx (u8_nx hu))))
          have b4 : (dgS (dgS (nx 3 (nx 1 (nx 1 (nx 1 (nx 1 s))))))).2 = false := b3
          have b5 : (dgS (nx 3 (nx 1 (nx 1 (nx 1 (nx 1 s)))))).2 = false := (dgS_ext [] b4).2
          have hu4 := u8_dgS hu3 b5
          have hu5 := u8_dgS hu4 b4
          obtain ⟨x1, x3⟩ := un_dgs hu4 b4
          obtain ⟨y1, y3⟩ := un_dgs hu3 x3
          obtain ⟨c1, c3⟩ := un_three (u8_nx (u8_nx (u8_nx (u8_nx hu)))) y3
          obtain ⟨d1, d3⟩ := un_one c3
          obtain ⟨f1, f3⟩ := un_one d3
          obtain ⟨g1, g3⟩ := un_one f3
          obtain ⟨i1, i3⟩ := un_one g3
          have b1' : (dgS (dgS (nx 3 (nx 1 (nx 1 (nx 1 (nx 1 s))))))).1 = nB 1 (hS4 (nx 1 (nx 1 (nx 1 s)))) :: (nx 1 (hS4 (nx 1 (nx 1 (nx 1 s))))).1 := b1
          have hb0 : 0 ≤ nB 1 (hS4 (nx 1 (nx 1 (nx 1 s)))) := by
            have := hu5 (nB 1 (hS4 (nx 1 (nx 1 (nx 1 s))))) (by rw [b1']; simp)
            omega
          have hN : (y.vl.length : Int) = nB 1 (hS4 (nx 1 (nx 1 (nx 1 s)))) := by
            rw [e18, a2]
            show (((nB 1 (hS4 (nx 1 (nx 1 (nx 1 s))))).toNat : Nat) : Int) = _
            omega
          rw [bodyB4 (e3.trans k4), certB, headB, flat_c e16, flat_c e17, hN, e3, e1, e2, e14, e15, e18]
          rw [i1, g1, f1, d1, c1, y1, x1, b1', a1, hS]
          simp
        · rw [pM, if_neg k1, if_neg k2, if_neg k3, if_neg k4] at hc
          rw [mS, if_neg k1, if_neg k2, if_neg k3, if_neg k4] at hS hS2
          simp only [MV.c, MC.mk.injEq] at hc
          obtain ⟨e1, e2, e3, _, _, _, _, _, _, _, _, _, _, _, _, _, _, _, e19⟩ := hc
          obtain ⟨c1, c3⟩ := un_three (u8_nx (u8_nx (u8_nx hu))) hS2
          obtain ⟨f1, f3⟩ := un_one c3
          obtain ⟨g1, g3⟩ := un_one f3
          obtain ⟨i1, i3⟩ := un_one g3
          have k5 : y.m.ki = 5 := by
            obtain ⟨_, _, h9, _⟩ := checkF_ok hC
            have h9' : carriedF y.m y.ss y.bl y.pl y.cbl y.cpl y.vl = 0 := h9
            have := carriedF_kind h9'
            omega
          rw [bodyB5 k5, e3, e1, e2, e19]
          rw [i1, g1, f1, c1, hS]
          simp
end Go.Proofs.Ythijfhbmkpfnkaa
