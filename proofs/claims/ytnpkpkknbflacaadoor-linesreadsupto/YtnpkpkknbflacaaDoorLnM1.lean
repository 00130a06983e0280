/- What is read is shown as it was. -/
import Derived.Test.YtnpkpkknbflacaaDoorLnR6
namespace Go.Proofs.YtnpkpkknbflacaaDoor
open Go.RowKit

set_option maxRecDepth 100000 in
theorem cut_join (c : UInt8) (l : List UInt8) : l = bfC c l ++ (if hasC c l = true then c :: afC c l else []) := by
  induction l with
  | nil => rfl
  | cons b l ih =>
    by_cases h : b = c
    · subst h
      simp [bfC, afC, hasC]
    · have hn : (b != c) = true := by simp [h]
      have hb : (b == c) = false := by simp [h]
      have e1 : bfC c (b :: l) = b :: bfC c l := by unfold bfC; simp only [List.takeWhile_cons, hn, if_true]
      have e2 : afC c (b :: l) = afC c l := by unfold afC; simp only [List.dropWhile_cons, hn, if_true]
      have e3 : hasC c (b :: l) = hasC c l := by unfold hasC; simp only [List.any_cons, hb, Bool.false_or]
      rw [e1, e2, e3, List.cons_append, ← ih]
set_option maxRecDepth 100000 in
theorem hxd_hxv : ∀ c : UInt8, 0 ≤ hxv c → hxd (hxv c).toNat = c := by
  intro c
  have key : ∀ n : Fin 256, 0 ≤ hxv (UInt8.ofNat n.val) → hxd (hxv (UInt8.ofNat n.val)).toNat = UInt8.ofNat n.val := by decide +kernel
  have := key ⟨c.toNat, c.toNat_lt⟩
  simpa using this
set_option maxRecDepth 100000 in
theorem hex_pair (a b : UInt8) (ha : 0 ≤ hxv a) (hb : 0 ≤ hxv b) : hexU [UInt8.ofNat (16 * (hxv a).toNat + (hxv b).toNat)] = [a, b] := by
  have h1 := hxv_bounds a
  have h2 := hxv_bounds b
  have e : (UInt8.ofNat (16 * (hxv a).toNat + (hxv b).toNat)).toNat = 16 * (hxv a).toNat + (hxv b).toNat := by
    rw [UInt8.toNat_ofNat']
    omega
  simp only [hexU, List.flatMap_cons, List.flatMap_nil, List.append_nil, e]
  rw [show (16 * (hxv a).toNat + (hxv b).toNat) / 16 = (hxv a).toNat by omega, show (16 * (hxv a).toNat + (hxv b).toNat) % 16 = (hxv b).toNat by omega, hxd_hxv a ha, hxd_hxv b hb]
set_option maxRecDepth 100000 in
theorem unhex_hex : ∀ (n : Nat) (x y : List UInt8), x.length ≤ n → unhex x = some y → hexU y = x
  | 0, x, y, hx, hy => by
    obtain rfl : x = [] := List.eq_nil_of_length_eq_zero (by omega)
    simp [unhex] at hy
    subst hy
    rfl
  | n + 1, [], y, _, hy => by simp [unhex] at hy; subst hy; rfl
  | n + 1, [_], _, _, hy => by simp [unhex] at hy
  | n + 1, a :: b :: x, y, hx, hy => by
    rw [unhex] at hy
    split at hy
    · cases hy
    · rename_i hab
      cases hu : unhex x with
      | none => rw [hu] at hy; cases hy
      | some z =>
        rw [hu, Option.map_some] at hy
        have hy := Option.some.inj hy
        have ih := unhex_hex n x z (by simp at hx; omega) hu
        rw [← hy]
        have := hex_pair a b (by omega) (by omega)
        rw [show ∀ (c : UInt8) (r : List UInt8), hexU (c :: r) = hexU [c] ++ hexU r by intro c r; simp [hexU], this, ih]
        rfl
set_option maxRecDepth 100000 in
theorem txt_hex {x : List UInt8} (h : txtB x = true) : hexU (txtA x) = x := by
  unfold txtB at h
  unfold txtA
  cases hu : unhex x with
  | none => rw [hu] at h; cases h
  | some y => exact unhex_hex x.length x y (Nat.le_refl _) hu
/-- What is left of a line, with the blank ahead of it. -/
def St.rest (s : St) : List UInt8 := if s.m = true then 32 :: s.r else []
set_option maxRecDepth 100000 in
theorem numA_itoa {l : List UInt8} (h : numB l = true) : Lib.itoa (numA l) = l := by
  unfold numA
  rw [if_pos h]
  exact (numV_ok h).1
set_option maxRecDepth 100000 in
theorem rest_cut (s : St) (hm : s.m = true) : s.rest = 32 :: bfC 32 s.r ++ (if hasC 32 s.r = true then 32 :: afC 32 s.r else []) := by
  rw [St.rest, if_pos hm]
  rw [List.cons_append, ← cut_join]
set_option maxRecDepth 100000 in
theorem st1_rest (k : Int) (s : St) (h0 : s.b0 = false) (hb : (st1 k s).b0 = hN k) : s.rest = (if hN k = true then 32 :: Lib.itoa (st1 k s).n else []) ++ (st1 k s).rest := by
  by_cases h : hN k = true
  · by_cases hm : s.m = true
    · have e : st1 k s = ⟨afC 32 s.r, hasC 32 s.r, numA (bfC 32 s.r), s.p, s.t, numB (bfC 32 s.r), s.b1, s.b2⟩ := by rw [st1, if_pos ⟨h, hm⟩]
      rw [e] at hb ⊢
      have hb' : numB (bfC 32 s.r) = true := by rw [← h]; exact hb
      rw [if_pos h, rest_cut s hm]
      show _ = 32 :: Lib.itoa (numA (bfC 32 s.r)) ++ _
      rw [numA_itoa hb']
      rfl
    · have e : st1 k s = s := by rw [st1, if_neg (fun x => hm x.2)]
      rw [e, h0, h] at hb
      cases hb
  · have e : st1 k s = s := by rw [st1, if_neg (fun x => h x.1)]
    rw [if_neg h, e]
    rfl
set_option maxRecDepth 100000 in
theorem st2_rest (k : Int) (s : St) (h0 : s.b1 = false) (hb : (st2 k s).b1 = hP k) : s.rest = (if hP k = true then 32 :: Lib.itoa (st2 k s).p else []) ++ (st2 k s).rest := by
  by_cases h : hP k = true
  · by_cases hm : s.m = true
    · have e : st2 k s = ⟨afC 32 s.r, hasC 32 s.r, s.n, numA (bfC 32 s.r), s.t, s.b0, numB (bfC 32 s.r), s.b2⟩ := by rw [st2, if_pos ⟨h, hm⟩]
      rw [e] at hb ⊢
      have hb' : numB (bfC 32 s.r) = true := by rw [← h]; exact hb
      rw [if_pos h, rest_cut s hm]
      show _ = 32 :: Lib.itoa (numA (bfC 32 s.r)) ++ _
      rw [numA_itoa hb']
      rfl
    · have e : st2 k s = s := by rw [st2, if_neg (fun x => hm x.2)]
      rw [e, h0, h] at hb
      cases hb
  · have e : st2 k s = s := by rw [st2, if_neg (fun x => h x.1)]
    rw [if_neg h, e]
    rfl
set_option maxRecDepth 100000 in
theorem st3_rest (k : Int) (s : St) (h0 : s.b2 = false) (hb : (st3 k s).b2 = hT k) : s.rest = (if hT k = true then 32 :: hexU (st3 k s).t else []) ++ (st3 k s).rest := by
  by_cases h : hT k = true
  · by_cases hm : s.m = true
    · have e : st3 k s = ⟨afC 32 s.r, hasC 32 s.r, s.n, s.p, txtA (bfC 32 s.r), s.b0, s.b1, txtB (bfC 32 s.r)⟩ := by rw [st3, if_pos ⟨h, hm⟩]
      rw [e] at hb ⊢
      have hb' : txtB (bfC 32 s.r) = true := by rw [← h]; exact hb
      rw [if_pos h, rest_cut s hm]
      show _ = 32 :: hexU (txtA (bfC 32 s.r)) ++ _
      rw [txt_hex hb']
      rfl
    · have e : st3 k s = s := by rw [st3, if_neg (fun x => hm x.2)]
      rw [e, h0, h] at hb
      cases hb
  · have e : st3 k s = s := by rw [st3, if_neg (fun x => h x.1)]
    rw [if_neg h, e]
    rfl
set_option maxRecDepth 100000 in
theorem st1_keep (k : Int) (s : St) : (st1 k s).b1 = s.b1 ∧ (st1 k s).b2 = s.b2 ∧ (st1 k s).p = s.p ∧ (st1 k s).t = s.t := by
  rw [st1]; split <;> exact ⟨rfl, rfl, rfl, rfl⟩
set_option maxRecDepth 100000 in
theorem st2_keep (k : Int) (s : St) : (st2 k s).b0 = s.b0 ∧ (st2 k s).b2 = s.b2 ∧ (st2 k s).n = s.n ∧ (st2 k s).t = s.t := by
  rw [st2]; split <;> exact ⟨rfl, rfl, rfl, rfl⟩
set_option maxRecDepth 100000 in
theorem st3_keep (k : Int) (s : St) : (st3 k s).b0 = s.b0 ∧ (st3 k s).b1 = s.b1 ∧ (st3 k s).n = s.n ∧ (st3 k s).p = s.p := by
  rw [st3]; split <;> exact ⟨rfl, rfl, rfl, rfl⟩
set_option maxRecDepth 100000 in
/-- A line that is in form is its act's. -/
theorem rd_line (l : List UInt8) (h : rdB l = true) : (rdV l).line = l ++ [10] := by
  unfold rdB at h
  simp only [Bool.and_eq_true, decide_eq_true_eq, beq_iff_eq, Bool.not_eq_true'] at h
  obtain ⟨⟨hk, ⟨h0, h1⟩, h2⟩, hm⟩ := h
  have hw : wordL (kindL (bfC 32 l)) = bfC 32 l := by
    rcases kindL_bounds (bfC 32 l) with e | e
    · exact absurd e hk
    · exact e.2.2
  show lineU (kindL (bfC 32 l)) (stJ (kindL (bfC 32 l)) l 3).n (stJ (kindL (bfC 32 l)) l 3).p (⟨(stJ (kindL (bfC 32 l)) l 3).t.toArray⟩ : ByteArray).data.toList = l ++ [10]
  rw [mk_list, lineU, hw]
  generalize kindL (bfC 32 l) = k at *
  have hj : l = bfC 32 l ++ (stJ k l 0).rest := cut_join 32 l
  have k3 := st3_keep k (stJ k l 2)
  have k2 := st2_keep k (stJ k l 1)
  have k1 := st1_keep k (stJ k l 0)
  rw [← stJ3] at k3
  rw [← stJ2] at k2
  rw [← stJ1] at k1
  have r1 := st1_rest k (stJ k l 0) rfl (by rw [← stJ1, ← k2.1, ← k3.1]; exact h0)
  have r2 := st2_rest k (stJ k l 1) (by rw [k1.1]; rfl) (by rw [← stJ2, ← k3.2.1]; exact h1)
  have r3 := st3_rest k (stJ k l 2) (by rw [k2.2.1, k1.2.1]; rfl) (by rw [← stJ3]; exact h2)
  rw [← stJ1] at r1
  rw [← stJ2] at r2
  rw [← stJ3] at r3
  have e3 : (stJ k l 3).rest = [] := by rw [St.rest, hm]; rfl
  rw [e3] at r3
  rw [k3.2.2.1, k2.2.2.1, k3.2.2.2]
  have hfin : l = bfC 32 l ++ (if hN k = true then 32 :: Lib.itoa (stJ k l 1).n else []) ++ (if hP k = true then 32 :: Lib.itoa (stJ k l 2).p else []) ++ (if hT k = true then 32 :: hexU (stJ k l 3).t else []) := by
    conv => lhs; rw [hj, r1, r2, r3]
    simp
  rw [← hfin]
set_option maxRecDepth 100000 in
theorem rdAll_back : ∀ (f k : Nat) (r : List UInt8), r.length < f → (rdAll f k r).2 = 0 → (rdAll f k r).1.flatMap AV.line = r ∧ (∀ a ∈ (rdAll f k r).1, a.e = 0) ∧ ((rdAll f k r).1 = [] ∨ k + (rdAll f k r).1.length ≤ 3000)
  | 0, _, _, h, _ => by omega
  | f + 1, k, r, h, h2 => by
    rw [rdAll] at h2 ⊢
    by_cases hr : r = []
    · rw [if_pos hr]
      subst hr
      exact ⟨rfl, (fun a ha => by cases ha), .inl rfl⟩
    · rw [if_neg hr] at h2 ⊢
      by_cases hn : nextE k (bfC 10 r) (hasC 10 r) ≠ 0
      · rw [if_pos hn] at h2
        exact absurd h2 hn
      · rw [if_neg hn] at h2 ⊢
        obtain ⟨n1, n2, n3, n4⟩ := next_has (Decidable.not_not.1 hn)
        obtain ⟨i1, i2, i3⟩ := rdAll_back f (k + 1) (afC 10 r) (by have := afC_lt n2; omega) h2
        refine ⟨?_, ?_, .inr ?_⟩
        · show (rdV (bfC 10 r)).line ++ (rdAll f (k + 1) (afC 10 r)).1.flatMap AV.line = r
          rw [i1, rd_line _ n3]
          conv => rhs; rw [cut_join 10 r, if_pos n2]
          simp
        · intro a ha
          rcases List.mem_cons.1 ha with rfl | g
          · exact n4
          · exact i2 a g
        · show k + ((rdAll f (k + 1) (afC 10 r)).1.length + 1) ≤ 3000
          rcases i3 with e | e
          · rw [e]; simp; omega
          · omega
set_option maxRecDepth 100000 in
/-- NO ACTS HAVE TWO FORMS. -/
theorem read_show (l : List UInt8) (h : readE l = 0) : showE (readAs l) = 0 ∧ showP (readAs l) = 0 ∧ showT (readAs l) = l ∧ readP l = 0 := by
  have h' : (readR l).2 = 0 := h
  obtain ⟨i1, i2, i3⟩ := rdAll_back (l.length + 1) 0 l (by omega) h'
  have e : readAs l = (readR l).1 := by rw [readAs, if_pos h']
  have hl : (readAs l).length ≤ 3000 := by
    rw [e]
    rcases i3 with g | g
    · show (rdAll (l.length + 1) 0 l).1.length ≤ 3000
      rw [g]; simp
    · show (rdAll (l.length + 1) 0 l).1.length ≤ 3000
      omega
  have hall : ∀ a ∈ readAs l, a.e = 0 := by rw [e]; exact i2
  have hf := fb_all (readAs l) hall
  refine ⟨?_, ?_, ?_, ?_⟩
  · rw [showE, if_neg (by omega), if_neg (by omega)]
  · rw [showP, if_neg (by omega), if_neg (by omega)]
  · rw [showT, if_neg (by omega), if_neg (by omega), e]; exact i1
  · rw [readP, if_pos h']
end Go.Proofs.YtnpkpkknbflacaaDoor
