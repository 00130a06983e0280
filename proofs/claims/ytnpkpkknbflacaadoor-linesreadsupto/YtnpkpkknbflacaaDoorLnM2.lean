/- What is shown is read as it was. -/
import Derived.Test.YtnpkpkknbflacaaDoorLnM1
namespace Go.Proofs.YtnpkpkknbflacaaDoor
open Go.RowKit

def noC (c : UInt8) (l : List UInt8) : Prop := ∀ b ∈ l, b ≠ c
set_option maxRecDepth 100000 in
theorem noC_app {c : UInt8} {a b : List UInt8} (ha : noC c a) (hb : noC c b) : noC c (a ++ b) := fun x hx => (List.mem_append.1 hx).elim (ha x) (hb x)
set_option maxRecDepth 100000 in
theorem cut_at {c : UInt8} : ∀ {l r : List UInt8}, noC c l → bfC c (l ++ c :: r) = l ∧ afC c (l ++ c :: r) = r ∧ hasC c (l ++ c :: r) = true
  | [], r, _ => by simp [bfC, afC, hasC]
  | b :: l, r, h => by
    have hb : b ≠ c := h b (by simp)
    have hn : (b != c) = true := by simp [hb]
    have hq : (b == c) = false := by simp [hb]
    obtain ⟨h1, h2, h3⟩ := cut_at (c := c) (l := l) (r := r) (fun x hx => h x (by simp [hx]))
    unfold bfC afC hasC at *
    rw [List.cons_append]
    simp only [List.takeWhile_cons, List.dropWhile_cons, List.any_cons, hn, hq, if_true, Bool.false_or, h1, h2, h3, and_self]
set_option maxRecDepth 100000 in
theorem cut_none {c : UInt8} : ∀ {l : List UInt8}, noC c l → bfC c l = l ∧ afC c l = [] ∧ hasC c l = false
  | [], _ => by simp [bfC, afC, hasC]
  | b :: l, h => by
    have hb : b ≠ c := h b (by simp)
    have hn : (b != c) = true := by simp [hb]
    have hq : (b == c) = false := by simp [hb]
    obtain ⟨h1, h2, h3⟩ := cut_none (c := c) (l := l) (fun x hx => h x (by simp [hx]))
    unfold bfC afC hasC at *
    simp only [List.takeWhile_cons, List.dropWhile_cons, List.any_cons, hn, hq, if_true, Bool.false_or, h1, h2, h3, and_self]
/-- What may stand behind a word: nothing, or a blank and more. -/
def isTail (t : List UInt8) : Prop := t = [] ∨ ∃ r, t = 32 :: r
set_option maxRecDepth 100000 in
theorem cut_tail {l t : List UInt8} (h : noC 32 l) (ht : isTail t) : bfC 32 (l ++ t) = l ∧ afC 32 (l ++ t) = t.tail ∧ hasC 32 (l ++ t) = !t.isEmpty := by
  rcases ht with rfl | ⟨r, rfl⟩
  · rw [List.append_nil]
    obtain ⟨h1, h2, h3⟩ := cut_none h
    exact ⟨h1, by rw [h2]; rfl, by rw [h3]; rfl⟩
  · obtain ⟨h1, h2, h3⟩ := cut_at (r := r) h
    exact ⟨h1, by rw [h2]; rfl, by rw [h3]; rfl⟩
set_option maxRecDepth 100000 in
theorem dec_digit (u : Nat) : ∀ b ∈ Lib.decDigits u, 48 ≤ b.toNat ∧ b.toNat ≤ 57 := by
  induction u using Nat.strongRecOn with
  | ind u ih =>
    rw [Lib.decDigits]
    split
    · rename_i h
      intro b hb
      rw [List.mem_singleton] at hb
      subst hb
      have : (UInt8.ofNat (48 + u)).toNat = 48 + u := by rw [UInt8.toNat_ofNat']; omega
      rw [this]
      omega
    · rename_i h
      intro b hb
      rcases List.mem_append.1 hb with g | g
      · exact ih (u / 10) (by omega) b g
      · rw [List.mem_singleton] at g
        subst g
        have : (UInt8.ofNat (48 + u % 10)).toNat = 48 + u % 10 := by rw [UInt8.toNat_ofNat']; omega
        rw [this]
        omega
set_option maxRecDepth 100000 in
theorem dec_ne (u : Nat) : Lib.decDigits u ≠ [] := by
  rw [Lib.decDigits]
  split <;> simp
set_option maxRecDepth 100000 in
theorem itoa_dec (n : Int) (h : 0 ≤ n) : Lib.itoa n = Lib.decDigits n.toNat := by rw [Lib.itoa, if_neg (by omega)]
set_option maxRecDepth 100000 in
theorem itoa_no (n : Int) (h : 0 ≤ n) (c : UInt8) (hc : c.toNat < 48) : noC c (Lib.itoa n) := by
  rw [itoa_dec n h]
  intro b hb e
  have := dec_digit n.toNat b hb
  subst e
  omega
set_option maxRecDepth 100000 in
theorem parse_snoc (d : UInt8) : ∀ (l : List UInt8) (acc x : Nat), Lib.parseUint10 acc l = .ok x → Lib.parseUint10 acc (l ++ [d]) = Lib.parseUint10 x [d]
  | [], acc, x, h => by
    simp only [Lib.parseUint10] at h
    injection h with h
    subst h
    rfl
  | c :: l, acc, x, h => by
    rw [List.cons_append]
    rw [Lib.parseUint10] at h ⊢
    split at h
    · rename_i h1
      rw [if_pos h1]
      split at h
      · cases h
      · rename_i h2
        rw [if_neg h2]
        split at h
        · cases h
        · rename_i h3
          rw [if_neg h3]
          exact parse_snoc d l _ x h
    · cases h
set_option maxRecDepth 100000 in
theorem parse_dec (u : Nat) (hu : u < 9223372036854775808) : Lib.parseUint10 0 (Lib.decDigits u) = .ok u := by
  induction u using Nat.strongRecOn with
  | ind u ih =>
    rw [Lib.decDigits]
    split
    · rename_i h
      have e : (UInt8.ofNat (48 + u)).toNat = 48 + u := by rw [UInt8.toNat_ofNat']; omega
      rw [Lib.parseUint10, e, if_pos (by omega), if_neg (by omega), if_neg (by omega), Lib.parseUint10]
      congr 1
      omega
    · rename_i h
      rw [parse_snoc _ _ _ _ (ih (u / 10) (by omega) (by omega))]
      have e : (UInt8.ofNat (48 + u % 10)).toNat = 48 + u % 10 := by rw [UInt8.toNat_ofNat']; omega
      rw [Lib.parseUint10, e, if_pos (by omega), if_neg (by omega), if_neg (by omega), Lib.parseUint10]
      congr 1
      omega
set_option maxRecDepth 100000 in
theorem atoi_itoa (n : Int) (h : 0 ≤ n) (hb : n ≤ 9223372036854775807) : Lib.atoiAll (Lib.itoa n) = .ok n := by
  rw [itoa_dec n h]
  have hp := parse_dec n.toNat (by omega)
  have hd := dec_digit n.toNat
  have hne := dec_ne n.toNat
  cases hl : Lib.decDigits n.toNat with
  | nil => exact absurd hl hne
  | cons c r =>
    rw [hl] at hp hd
    have hc := hd c (by simp)
    rw [Lib.atoiAll_plain c r (by omega) (by omega)]
    have hm : Lib.parseMag (c :: r) = .ok n.toNat := by rw [Lib.parseMag, if_neg (by simp)]; exact hp
    rw [hm]
    have e : ((n.toNat : Nat) : Int) = n := by omega
    simp only [Lib.signless]
    rw [if_neg (by omega), e]
set_option maxRecDepth 100000 in
theorem num_itoa (n : Int) (h : 0 ≤ n) (hb : n ≤ 9223372036854775807) : numB (Lib.itoa n) = true ∧ numA (Lib.itoa n) = n := by
  have hv : numV (Lib.itoa n) = n := by
    unfold numV
    rw [atoi_itoa n h hb]
    simp [h]
  have h1 : numB (Lib.itoa n) = true := by unfold numB; rw [hv]; simp [h]
  exact ⟨h1, by rw [numA, if_pos h1, hv]⟩
set_option maxRecDepth 100000 in
theorem hxv_hxd : ∀ n : Nat, n < 16 → hxv (hxd n) = n := by
  intro n hn
  have key : ∀ n : Fin 16, hxv (hxd n.val) = (n.val : Int) := by decide +kernel
  exact key ⟨n, hn⟩
set_option maxRecDepth 100000 in
theorem hxd_digit : ∀ n : Nat, n < 16 → 48 ≤ (hxd n).toNat := by
  intro n hn
  have key : ∀ n : Fin 16, 48 ≤ (hxd n.val).toNat := by decide +kernel
  exact key ⟨n, hn⟩
set_option maxRecDepth 100000 in
theorem unhex_hexU : ∀ l : List UInt8, unhex (hexU l) = some l
  | [] => rfl
  | c :: l => by
    have hc := c.toNat_lt
    have e : hexU (c :: l) = hxd (c.toNat / 16) :: hxd (c.toNat % 16) :: hexU l := by simp [hexU]
    have h1 := hxv_hxd (c.toNat / 16) (by omega)
    have h2 := hxv_hxd (c.toNat % 16) (by omega)
    rw [e, unhex, h1, h2, if_neg (by omega), unhex_hexU l, Option.map_some]
    congr 2
    have : 16 * ((c.toNat / 16 : Nat) : Int).toNat + ((c.toNat % 16 : Nat) : Int).toNat = c.toNat := by omega
    rw [this]
    simp
set_option maxRecDepth 100000 in
theorem txt_hexU (l : List UInt8) : txtB (hexU l) = true ∧ txtA (hexU l) = l := by
  unfold txtB txtA
  rw [unhex_hexU]
  exact ⟨rfl, rfl⟩
set_option maxRecDepth 100000 in
theorem hexU_no (l : List UInt8) (c : UInt8) (hc : c.toNat < 48) : noC c (hexU l) := by
  intro b hb e
  simp only [hexU, List.mem_flatMap] at hb
  obtain ⟨x, _, hx⟩ := hb
  have h1 := hxd_digit (x.toNat / 16) (by have := x.toNat_lt; omega)
  have h2 := hxd_digit (x.toNat % 16) (by omega)
  simp only [List.mem_cons, List.not_mem_nil, or_false] at hx
  subst e
  rcases hx with rfl | rfl <;> omega
set_option maxRecDepth 100000 in
theorem word_no (k : Int) (c : UInt8) (hc : c.toNat < 48) : noC c (wordL k) := by
  have key : ∀ j : Fin 11, ∀ b ∈ wordL ((j.val : Nat) : Int), 48 ≤ b.toNat := by decide +kernel
  intro b hb e
  by_cases h : 0 ≤ k ∧ k ≤ 10
  · obtain ⟨j, rfl⟩ : ∃ j : Nat, k = j := ⟨k.toNat, by omega⟩
    have := key ⟨j, by omega⟩ b hb
    subst e
    omega
  · have : wordL k = [] := by
      unfold wordL
      repeat rw [if_neg (by omega)]
    rw [this] at hb
    cases hb
/-- The line of an act without its end. -/
def AV.body (a : AV) : List UInt8 := wordL a.k ++ ((if hN a.k = true then 32 :: Lib.itoa a.n else []) ++ ((if hP a.k = true then 32 :: Lib.itoa a.p else []) ++ (if hT a.k = true then 32 :: hexU a.t.data.toList else [])))
set_option maxRecDepth 100000 in
theorem AV.line_body (a : AV) : a.line = a.body ++ [10] := by
  unfold AV.line lineU AV.body
  simp
set_option maxRecDepth 100000 in
theorem tail_if {b : Bool} {x t : List UInt8} (ht : isTail t) : isTail ((if b = true then 32 :: x else []) ++ t) := by
  cases b
  · simpa using ht
  · exact .inr ⟨x ++ t, rfl⟩
set_option maxRecDepth 100000 in
theorem body_no {a : AV} (h : a.e = 0) : noC 10 a.body := by
  obtain ⟨_, h2, h3, _, _⟩ := ok_bounds h
  have n10 : (10 : UInt8).toNat < 48 := by decide
  have n32 : ∀ x : List UInt8, noC 10 x → noC 10 (32 :: x) := fun x hx b hb => by
    rcases List.mem_cons.1 hb with rfl | g
    · decide
    · exact hx b g
  have nil : noC 10 [] := fun b hb => by cases hb
  refine noC_app (word_no _ _ n10) (noC_app ?_ (noC_app ?_ ?_))
  · split
    · exact n32 _ (itoa_no _ h2.1 _ n10)
    · exact nil
  · split
    · exact n32 _ (itoa_no _ h3.1 _ n10)
    · exact nil
  · split
    · exact n32 _ (hexU_no _ _ n10)
    · exact nil
set_option maxRecDepth 100000 in
theorem ba_list (t : ByteArray) : (⟨t.data.toList.toArray⟩ : ByteArray) = t := by cases t; simp
set_option maxRecDepth 100000 in
/-- A line is read as its act. -/
theorem rd_body {a : AV} (h : a.e = 0) : rdB a.body = true ∧ rdV a.body = a := by
  obtain ⟨h1, h2, h3, h4, h5⟩ := ok_bounds h
  have n32 : (32 : UInt8).toNat < 48 := by decide
  have t3 : isTail [] := .inl rfl
  have t2 : isTail (if hT a.k = true then 32 :: hexU a.t.data.toList else []) := by
    have := tail_if (b := hT a.k) (x := hexU a.t.data.toList) t3
    rwa [List.append_nil] at this
  have t1 := tail_if (b := hP a.k) (x := Lib.itoa a.p) t2
  have t0 := tail_if (b := hN a.k) (x := Lib.itoa a.n) t1
  have c0 := cut_tail (word_no a.k 32 n32) t0
  have hb : bfC 32 a.body = wordL a.k := c0.1
  have hk : kindL (bfC 32 a.body) = a.k := by rw [hb]; exact kindL_word a.k h1
  obtain ⟨b1, v1⟩ := num_itoa a.n h2.1 (by omega)
  obtain ⟨b2, v2⟩ := num_itoa a.p h3.1 (by omega)
  obtain ⟨b3, v3⟩ := txt_hexU a.t.data.toList
  have cN := cut_tail (itoa_no a.n h2.1 32 n32) t1
  have cP := cut_tail (itoa_no a.p h3.1 32 n32) t2
  have cT := cut_tail (hexU_no a.t.data.toList 32 n32) t3
  rw [List.append_nil] at cT
  have m1 : hN a.k = false → a.n = 0 := by
    intro e
    simp only [moreB, e, Bool.not_false, Bool.and_true, Bool.or_eq_false_iff, decide_eq_false_iff_not, Decidable.not_not] at h5
    exact h5.1.1
  have m2 : hP a.k = false → a.p = 0 := by
    intro e
    simp only [moreB, e, Bool.not_false, Bool.and_true, Bool.or_eq_false_iff, decide_eq_false_iff_not, Decidable.not_not] at h5
    exact h5.1.2
  have m3 : hT a.k = false → a.t.data.toList = [] := by
    intro e
    simp only [moreB, e, Bool.not_false, Bool.and_true, Bool.or_eq_false_iff, decide_eq_false_iff_not, Decidable.not_not] at h5
    have h6 := h5.2
    exact List.eq_nil_of_length_eq_zero (by rw [show a.t.data.toList.length = a.t.size from Array.length_toList]; exact h6)
  have s0 : stJ a.k a.body 0 = ⟨((if hN a.k = true then 32 :: Lib.itoa a.n else []) ++ ((if hP a.k = true then 32 :: Lib.itoa a.p else []) ++ (if hT a.k = true then 32 :: hexU a.t.data.toList else []))).tail, !((if hN a.k = true then 32 :: Lib.itoa a.n else []) ++ ((if hP a.k = true then 32 :: Lib.itoa a.p else []) ++ (if hT a.k = true then 32 :: hexU a.t.data.toList else []))).isEmpty, 0, 0, [], false, false, false⟩ := by
    show (⟨afC 32 a.body, hasC 32 a.body, 0, 0, [], false, false, false⟩ : St) = _
    rw [show afC 32 a.body = _ from c0.2.1, show hasC 32 a.body = _ from c0.2.2]
  have s1 : stJ a.k a.body 1 = ⟨((if hP a.k = true then 32 :: Lib.itoa a.p else []) ++ (if hT a.k = true then 32 :: hexU a.t.data.toList else [])).tail, !((if hP a.k = true then 32 :: Lib.itoa a.p else []) ++ (if hT a.k = true then 32 :: hexU a.t.data.toList else [])).isEmpty, a.n, 0, [], hN a.k, false, false⟩ := by
    rw [stJ1, s0]
    cases e : hN a.k
    · rw [st1, if_neg (by rw [e]; simp), m1 e]; rfl
    · rw [st1, if_pos ⟨e, rfl⟩]
      simp only [if_true, List.cons_append, List.tail_cons]
      rw [cN.1, cN.2.1, cN.2.2, b1, v1]
  have s2 : stJ a.k a.body 2 = ⟨(if hT a.k = true then 32 :: hexU a.t.data.toList else []).tail, !(if hT a.k = true then 32 :: hexU a.t.data.toList else []).isEmpty, a.n, a.p, [], hN a.k, hP a.k, false⟩ := by
    rw [stJ2, s1]
    cases e : hP a.k
    · rw [st2, if_neg (by rw [e]; simp), m2 e]; rfl
    · rw [st2, if_pos ⟨e, rfl⟩]
      simp only [if_true, List.cons_append, List.tail_cons]
      rw [cP.1, cP.2.1, cP.2.2, b2, v2]
  have s3 : stJ a.k a.body 3 = ⟨[], false, a.n, a.p, a.t.data.toList, hN a.k, hP a.k, hT a.k⟩ := by
    rw [stJ3, s2]
    cases e : hT a.k
    · rw [st3, if_neg (by rw [e]; simp), m3 e]; rfl
    · rw [st3, if_pos ⟨e, rfl⟩]
      simp only [if_true, List.tail_cons]
      rw [cT.1, cT.2.1, cT.2.2, b3, v3]; rfl
  constructor
  · unfold rdB
    rw [hk, s3, decide_eq_true (show a.k ≠ 0 by omega)]
    simp
  · unfold rdV
    rw [hk, s3]
set_option maxRecDepth 100000 in
/-- ACTS ARE READ AS THEY WERE SHOWN. -/
theorem rdAll_line : ∀ (l : List AV) (f k : Nat) (r : List UInt8), (∀ a ∈ l, a.e = 0) → (l.flatMap AV.line ++ r).length < f → k + l.length ≤ 3000 → ∃ f', r.length < f' ∧ rdAll f k (l.flatMap AV.line ++ r) = (l ++ (rdAll f' (k + l.length) r).1, (rdAll f' (k + l.length) r).2)
  | [], f, k, r, _, hf, _ => ⟨f, by simpa using hf, by simp⟩
  | a :: l, 0, k, r, _, hf, _ => by omega
  | a :: l, f + 1, k, r, h, hf, hk => by
    have ha : a.e = 0 := h a (by simp)
    have hx : (a :: l).flatMap AV.line ++ r = a.body ++ 10 :: (l.flatMap AV.line ++ r) := by
      simp [AV.line_body]
    have hc := cut_at (r := l.flatMap AV.line ++ r) (body_no ha)
    obtain ⟨b1, b2⟩ := rd_body ha
    have hlen : (l.flatMap AV.line ++ r).length < f := by
      rw [hx] at hf
      simp at hf ⊢
      omega
    obtain ⟨f', g1, g2⟩ := rdAll_line l f (k + 1) r (fun x hx => h x (by simp [hx])) hlen (by simp at hk; omega)
    refine ⟨f', g1, ?_⟩
    have hn : nextE k a.body true = 0 := by
      unfold nextE
      rw [if_neg (by simp at hk; omega), if_neg (by simp), if_neg (by rw [b1]; simp), b2, ha]
    rw [hx, rdAll, if_neg (by simp), hc.1, hc.2.1, hc.2.2, hn, if_neg (by simp), b2, g2]
    have e : k + 1 + l.length = k + (a :: l).length := by simp; omega
    rw [e]
    rfl
set_option maxRecDepth 100000 in
theorem read_line (l : List AV) (h : ∀ a ∈ l, a.e = 0) (hl : l.length ≤ 3000) : readE (l.flatMap AV.line) = 0 ∧ readP (l.flatMap AV.line) = 0 ∧ readAs (l.flatMap AV.line) = l := by
  obtain ⟨f', g1, g2⟩ := rdAll_line l ((l.flatMap AV.line).length + 1) 0 [] h (by simp) (by omega)
  obtain ⟨m, rfl⟩ : ∃ m, f' = m + 1 := ⟨f' - 1, by omega⟩
  have e0 : rdAll (m + 1) (0 + l.length) [] = ([], 0) := by rw [rdAll, if_pos rfl]
  rw [e0] at g2
  simp only [List.append_nil] at g2
  have e : readR (l.flatMap AV.line) = (l, 0) := g2
  unfold readE readP readAs
  rw [e]
  exact ⟨rfl, rfl, rfl⟩
end Go.Proofs.YtnpkpkknbflacaaDoor
