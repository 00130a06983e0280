/- Which words are numbers, reckoned digit by digit. -/
import Derived.Test.YtnpkpkknbflacaaDoorLnM2
namespace Go.Proofs.YtnpkpkknbflacaaDoor
open Go.RowKit

def digs (l : List UInt8) : Bool := l.all fun c => decide (48 ≤ c.toNat) && decide (c.toNat ≤ 57)
def valL (l : List UInt8) : Nat := l.foldl (fun a c => a * 10 + (c.toNat - 48)) 0
/-- Digits, without noughts ahead. -/
def formN (l : List UInt8) : Bool := digs l && decide (l ≠ []) && (decide (l.length = 1) || decide (l.head? ≠ some 48))
set_option maxRecDepth 100000 in
theorem valL_snoc (l : List UInt8) (d : UInt8) : valL (l ++ [d]) = valL l * 10 + (d.toNat - 48) := by simp [valL]
set_option maxRecDepth 100000 in
theorem digs_snoc (l : List UInt8) (d : UInt8) : digs (l ++ [d]) = (digs l && (decide (48 ≤ d.toNat) && decide (d.toNat ≤ 57))) := by simp [digs]
set_option maxRecDepth 100000 in
theorem val_dec (u : Nat) : valL (Lib.decDigits u) = u := by
  induction u using Nat.strongRecOn with
  | ind u ih =>
    rw [Lib.decDigits]
    split
    · rename_i h
      have e : (UInt8.ofNat (48 + u)).toNat = 48 + u := by rw [UInt8.toNat_ofNat']; omega
      show 0 * 10 + ((UInt8.ofNat (48 + u)).toNat - 48) = u
      omega
    · rename_i h
      have e : (UInt8.ofNat (48 + u % 10)).toNat = 48 + u % 10 := by rw [UInt8.toNat_ofNat']; omega
      rw [valL_snoc, ih (u / 10) (by omega), e]
      omega
set_option maxRecDepth 100000 in
theorem digs_dec (u : Nat) : digs (Lib.decDigits u) = true := by
  unfold digs
  rw [List.all_eq_true]
  intro b hb
  have := dec_digit u b hb
  simp [this.1, this.2]
set_option maxRecDepth 100000 in
theorem head_app {a b : List UInt8} (h : a ≠ []) : (a ++ b).head? = a.head? := by
  cases a with
  | nil => exact absurd rfl h
  | cons x a => rfl
set_option maxRecDepth 100000 in
theorem head_dec (u : Nat) : (Lib.decDigits u).length = 1 ∨ (Lib.decDigits u).head? ≠ some 48 := by
  induction u using Nat.strongRecOn with
  | ind u ih =>
    by_cases h : u < 10
    · left; rw [Lib.decDigits_one h]; rfl
    · right
      have e : Lib.decDigits u = Lib.decDigits (u / 10) ++ [UInt8.ofNat (48 + u % 10)] := by rw [Lib.decDigits, dif_neg h]
      rw [e, head_app (dec_ne _)]
      rcases ih (u / 10) (by omega) with g | g
      · by_cases h2 : u / 10 < 10
        · rw [Lib.decDigits_one h2]
          intro h3
          have h4 : UInt8.ofNat (48 + u / 10) = 48 := by simpa using h3
          have h5 := congrArg UInt8.toNat h4
          rw [UInt8.toNat_ofNat'] at h5
          have h6 : (48 : UInt8).toNat = 48 := rfl
          omega
        · have e2 : Lib.decDigits (u / 10) = Lib.decDigits (u / 10 / 10) ++ [UInt8.ofNat (48 + u / 10 % 10)] := by rw [Lib.decDigits, dif_neg h2]
          rw [e2] at g
          have := dec_ne (u / 10 / 10)
          simp at g
          exact absurd g this
      · exact g
set_option maxRecDepth 100000 in
theorem form_dec (u : Nat) : formN (Lib.decDigits u) = true := by
  unfold formN
  rw [digs_dec]
  have h1 := dec_ne u
  rcases head_dec u with h | h
  · simp [h1, h]
  · simp [h1, h]
set_option maxRecDepth 100000 in
theorem snoc_split : ∀ l : List UInt8, l ≠ [] → ∃ a d, l = a ++ [d]
  | [], h => absurd rfl h
  | [x], _ => ⟨[], x, rfl⟩
  | x :: y :: l, _ => by
    obtain ⟨a, d, h⟩ := snoc_split (y :: l) (by simp)
    exact ⟨x :: a, d, by rw [h]; rfl⟩
set_option maxRecDepth 100000 in
theorem dec_val : ∀ (n : Nat) (l : List UInt8), l.length ≤ n → formN l = true → Lib.decDigits (valL l) = l ∧ (l.head? ≠ some 48 → 1 ≤ valL l)
  | 0, l, h, hf => by
    obtain rfl : l = [] := List.eq_nil_of_length_eq_zero (by omega)
    simp [formN] at hf
  | n + 1, l, h, hf => by
    have hf' := hf
    simp only [formN, Bool.and_eq_true, Bool.or_eq_true, decide_eq_true_eq] at hf
    obtain ⟨⟨hd, hne⟩, hh⟩ := hf
    obtain ⟨a, d, rfl⟩ := snoc_split l hne
    rw [digs_snoc] at hd
    simp only [Bool.and_eq_true, decide_eq_true_eq] at hd
    obtain ⟨hda, hd1, hd2⟩ := hd
    have hof : UInt8.ofNat (48 + (d.toNat - 48)) = d := by rw [show 48 + (d.toNat - 48) = d.toNat by omega]; simp
    rw [valL_snoc]
    by_cases ha : a = []
    · subst ha
      have e : valL [] * 10 + (d.toNat - 48) = d.toNat - 48 := by simp [valL]
      rw [e, Lib.decDigits_one (by omega), hof]
      refine ⟨rfl, fun g => ?_⟩
      have : d ≠ 48 := by simpa using g
      have h6 : d.toNat ≠ 48 := fun e => this (UInt8.toNat_inj.1 e)
      omega
    · have hha : a.head? ≠ some 48 := by
        rcases hh with g | g
        · simp at g; exact absurd g ha
        · rwa [head_app ha] at g
      have hfa : formN a = true := by simp [formN, hda, ha, hha]
      obtain ⟨i1, i2⟩ := dec_val n a (by simp at h; omega) hfa
      have i3 := i2 hha
      refine ⟨?_, fun _ => by omega⟩
      rw [Lib.decDigits, dif_neg (by omega), show (valL a * 10 + (d.toNat - 48)) / 10 = valL a by omega, show (valL a * 10 + (d.toNat - 48)) % 10 = d.toNat - 48 by omega, i1, hof]
set_option maxRecDepth 100000 in
/-- A word is a number, if it is digits without noughts ahead, and fits into 64 bits. -/
theorem num_form (l : List UInt8) : numB l = (formN l && decide (valL l ≤ 9223372036854775807)) ∧ (numB l = true → numA l = valL l) := by
  by_cases h : formN l = true ∧ valL l ≤ 9223372036854775807
  · obtain ⟨hf, hv⟩ := h
    obtain ⟨i1, _⟩ := dec_val l.length l (Nat.le_refl _) hf
    have e : Lib.itoa (valL l : Int) = l := by rw [itoa_dec _ (by omega)]; simpa using i1
    obtain ⟨n1, n2⟩ := num_itoa (valL l : Int) (by omega) (by omega)
    rw [e] at n1 n2
    exact ⟨by rw [n1, hf]; simp [hv], fun _ => n2⟩
  · have hb : numB l = false := by
      cases hn : numB l with
      | false => rfl
      | true =>
        exfalso
        obtain ⟨e, h0, h1⟩ := numV_ok hn
        rw [itoa_dec _ h0] at e
        apply h
        rw [← e]
        exact ⟨form_dec _, by rw [val_dec]; omega⟩
    refine ⟨?_, fun g => by rw [hb] at g; cases g⟩
    rw [hb]
    by_cases hf : formN l = true
    · have : ¬ valL l ≤ 9223372036854775807 := fun g => h ⟨hf, g⟩
      simp [this]
    · simp [eq_false_of_ne_true hf]
def numB' (l : List UInt8) : Bool := formN l && decide (valL l ≤ 9223372036854775807)
def numA' (l : List UInt8) : Int := if numB' l = true then (valL l : Int) else 0
set_option maxRecDepth 100000 in
theorem numB_eq : numB = numB' := funext fun l => (num_form l).1
set_option maxRecDepth 100000 in
theorem numA_eq : numA = numA' := funext fun l => by
  unfold numA'
  rw [← numB_eq]
  split
  · rename_i h; exact (num_form l).2 h
  · rename_i h; unfold numA; rw [if_neg h]
/-- The same, so that a closed line can be reckoned. -/
def st1' (k : Int) (s : St) : St := if hN k = true ∧ s.m = true then ⟨afC 32 s.r, hasC 32 s.r, numA' (bfC 32 s.r), s.p, s.t, numB' (bfC 32 s.r), s.b1, s.b2⟩ else s
def st2' (k : Int) (s : St) : St := if hP k = true ∧ s.m = true then ⟨afC 32 s.r, hasC 32 s.r, s.n, numA' (bfC 32 s.r), s.t, s.b0, numB' (bfC 32 s.r), s.b2⟩ else s
def endS (l : List UInt8) : St := st3 (kindL (bfC 32 l)) (st2' (kindL (bfC 32 l)) (st1' (kindL (bfC 32 l)) ⟨afC 32 l, hasC 32 l, 0, 0, [], false, false, false⟩))
set_option maxRecDepth 100000 in
theorem endS_eq (l : List UInt8) : stJ (kindL (bfC 32 l)) l 3 = endS l := by
  show st3 _ (st2 _ (st1 _ _)) = _
  unfold endS st1 st2 st1' st2'
  rw [numA_eq, numB_eq]
def nextC (l : List UInt8) : Int :=
  if hasC 10 l = false then 4 else if (decide (kindL (bfC 32 (bfC 10 l)) ≠ 0) && ((endS (bfC 10 l)).b0 == hN (kindL (bfC 32 (bfC 10 l))) && (endS (bfC 10 l)).b1 == hP (kindL (bfC 32 (bfC 10 l))) && (endS (bfC 10 l)).b2 == hT (kindL (bfC 32 (bfC 10 l)))) && !(endS (bfC 10 l)).m) = false then 4
  else actF (kindL (bfC 32 (bfC 10 l))) (endS (bfC 10 l)).n (endS (bfC 10 l)).p (endS (bfC 10 l)).t.length
set_option maxRecDepth 100000 in
theorem next_eq (k : Nat) (hk : k < 3000) (l : List UInt8) : nextE k (bfC 10 l) (hasC 10 l) = nextC l := by
  unfold nextE nextC
  rw [if_neg (by omega)]
  unfold rdB rdV AV.e
  simp only [endS_eq, mk_size]
set_option maxRecDepth 100000 in
theorem bad_first (k f : Nat) (hk : k < 3000) (l : List UInt8) (hl : l ≠ []) (e : Int) (he : nextC l = e) (h0 : e ≠ 0) : rdAll (f + 1) k l = ([], e) := by
  rw [rdAll, if_neg hl, next_eq k hk, he, if_pos h0]
set_option maxRecDepth 100000 in
theorem forge_bad : nextC [102, 111, 114, 103, 101, 32, 48, 32, 48, 71, 10] = 4 := by decide +kernel
end Go.Proofs.YtnpkpkknbflacaaDoor
