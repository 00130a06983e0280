/- The document's numberOf and tooGreat, for every text. -/
import Derived.Test.YtnpkpkknbflacaaDoorLrA
namespace Go.Proofs.YtnpkpkknbflacaaDoor
open Go.RowKit

set_option maxRecDepth 100000 in
theorem foldl_val (l : List UInt8) : ∀ a : Nat, l.foldl (fun a c => a * 10 + (c.toNat - 48)) a = a * 10 ^ l.length + valL l := by
  induction l with
  | nil => intro a; simp [valL]
  | cons c l ih =>
    intro a
    have h1 := ih (a * 10 + (c.toNat - 48))
    have h2 := ih (0 * 10 + (c.toNat - 48))
    simp only [List.foldl_cons, valL] at *
    rw [h1, h2, List.length_cons, Nat.pow_succ, Nat.add_mul]
    simp only [Nat.zero_mul, Nat.zero_add]
    rw [Nat.mul_assoc, Nat.mul_comm 10 (10 ^ l.length)]
    omega
set_option maxRecDepth 100000 in
theorem valL_cons (c : UInt8) (l : List UInt8) : valL (c :: l) = (c.toNat - 48) * 10 ^ l.length + valL l := by
  have := foldl_val l (0 * 10 + (c.toNat - 48))
  simpa [valL] using this
set_option maxRecDepth 100000 in
theorem digs_cons (c : UInt8) (l : List UInt8) : digs (c :: l) = true ↔ (48 ≤ c.toNat ∧ c.toNat ≤ 57) ∧ digs l = true := by simp [digs]
set_option maxRecDepth 100000 in
theorem val_lt : ∀ l : List UInt8, digs l = true → valL l < 10 ^ l.length
  | [], _ => by simp [valL]
  | c :: l, h => by
    have ⟨h1, h2⟩ := (digs_cons c l).1 h
    have ih := val_lt l h2
    rw [valL_cons, List.length_cons, Nat.pow_succ]
    have : (c.toNat - 48) * 10 ^ l.length ≤ 9 * 10 ^ l.length := Nat.mul_le_mul_right _ (by omega)
    omega
set_option maxRecDepth 100000 in
theorem less_val : ∀ a b : List UInt8, a.length = b.length → digs a = true → digs b = true → Op.bytesLess a b = decide (valL a < valL b)
  | [], [], _, _, _ => by simp [Op.bytesLess]
  | [], _ :: _, h, _, _ => by simp at h
  | _ :: _, [], h, _, _ => by simp at h
  | x :: a, y :: b, h, ha, hb => by
    have hl : a.length = b.length := by simpa using h
    have ⟨x1, x2⟩ := (digs_cons x a).1 ha
    have ⟨y1, y2⟩ := (digs_cons y b).1 hb
    have ih := less_val a b hl x2 y2
    have va := val_lt a x2
    have vb := val_lt b y2
    rw [valL_cons, valL_cons, Op.bytesLess, ih, hl]
    rw [hl] at va
    generalize 10 ^ b.length = P at *
    generalize valL a = A at *
    generalize valL b = B at *
    rcases Nat.lt_trichotomy x.toNat y.toNat with g | g | g
    · have hxy : x < y := UInt8.lt_iff_toNat_lt.2 g
      have : (x.toNat - 48) * P + P ≤ (y.toNat - 48) * P := by
        have : (x.toNat - 48 + 1) * P ≤ (y.toNat - 48) * P := Nat.mul_le_mul_right _ (by omega)
        rw [Nat.add_mul] at this
        omega
      simp [hxy]
      omega
    · have e : x = y := UInt8.toNat_inj.1 g
      subst e
      simp
    · have hxy : ¬ x < y := by rw [UInt8.lt_iff_toNat_lt]; omega
      have hne : ¬ x = y := fun e => by subst e; omega
      have : (y.toNat - 48) * P + P ≤ (x.toNat - 48) * P := by
        have : (y.toNat - 48 + 1) * P ≤ (x.toNat - 48) * P := Nat.mul_le_mul_right _ (by omega)
        rw [Nat.add_mul] at this
        omega
      have e1 : decide (x < y) = false := decide_eq_false hxy
      have e2 : (x == y) = false := by simpa using hne
      rw [e1, e2, Bool.false_and, Bool.or_false]
      symm
      apply decide_eq_false
      omega
def mostL : List UInt8 := [57, 50, 50, 51, 51, 55, 50, 48, 51, 54, 56, 53, 52, 55, 55, 53, 56, 48, 55]
set_option maxRecDepth 100000 in
theorem most_val : valL mostL = 9223372036854775807 := by decide
set_option maxRecDepth 100000 in
theorem most_digs : digs mostL = true := by decide
set_option maxRecDepth 100000 in
theorem form_digs {l : List UInt8} (h : formN l = true) : digs l = true := by
  simp only [formN, Bool.and_eq_true] at h
  exact h.1.1
set_option maxRecDepth 100000 in
theorem form_big {l : List UInt8} (h : formN l = true) (hl : 20 ≤ l.length) : 10000000000000000000 ≤ valL l := by
  cases l with
  | nil => simp at hl
  | cons c l =>
    have hd := (digs_cons c l).1 (form_digs h)
    have h48 : c ≠ 48 := by
      simp only [formN, Bool.and_eq_true, Bool.or_eq_true, decide_eq_true_eq] at h
      rcases h.2 with g | g
      · simp only [List.length_cons] at g hl; omega
      · simpa using g
    have h1 : 1 ≤ c.toNat - 48 := by
      have : c.toNat ≠ 48 := fun e => h48 (UInt8.toNat_inj.1 e)
      omega
    rw [valL_cons]
    have h2 : 10 ^ 19 ≤ 10 ^ l.length := Nat.pow_le_pow_right (by omega) (by simp at hl; omega)
    have h3 : 1 * 10 ^ l.length ≤ (c.toNat - 48) * 10 ^ l.length := Nat.mul_le_mul_right _ h1
    have h4 : (10 : Nat) ^ 19 = 10000000000000000000 := by decide
    omega
set_option maxRecDepth 100000 in
theorem form_small {l : List UInt8} (h : digs l = true) (hl : l.length ≤ 18) : valL l < 1000000000000000000 := by
  have h1 := val_lt l h
  have h2 : 10 ^ l.length ≤ 10 ^ 18 := Nat.pow_le_pow_right (by omega) hl
  have h4 : (10 : Nat) ^ 18 = 1000000000000000000 := by decide
  omega
set_option maxRecDepth 100000 in
theorem dec_less (x y : Nat) : (!(decide (x < y) || decide (x = y))) = decide (y < x) := by
  rcases Nat.lt_trichotomy x y with h | h | h
  · simp [h]; omega
  · simp [h]
  · have : ¬ x < y := by omega
    have : ¬ x = y := by omega
    simp [*]
set_option maxRecDepth 100000 in
theorem val_inj {a b : List UInt8} (hl : a.length = b.length) (ha : digs a = true) (hb : digs b = true) (h : valL a = valL b) : a = b := by
  induction a generalizing b with
  | nil => cases b with
    | nil => rfl
    | cons _ _ => simp at hl
  | cons x a ih => cases b with
    | nil => simp at hl
    | cons y b =>
      have hl2 : a.length = b.length := by simpa using hl
      have ⟨x1, x2⟩ := (digs_cons x a).1 ha
      have ⟨y1, y2⟩ := (digs_cons y b).1 hb
      have va := val_lt a x2
      have vb := val_lt b y2
      rw [valL_cons, valL_cons, hl2] at h
      rw [hl2] at va
      have hxy : x.toNat = y.toNat := by
        rcases Nat.lt_trichotomy x.toNat y.toNat with g | g | g
        · have : (x.toNat - 48 + 1) * 10 ^ b.length ≤ (y.toNat - 48) * 10 ^ b.length := Nat.mul_le_mul_right _ (by omega)
          rw [Nat.add_mul] at this
          omega
        · exact g
        · have : (y.toNat - 48 + 1) * 10 ^ b.length ≤ (x.toNat - 48) * 10 ^ b.length := Nat.mul_le_mul_right _ (by omega)
          rw [Nat.add_mul] at this
          omega
      have e : x = y := UInt8.toNat_inj.1 hxy
      subst e
      rw [ih hl2 x2 y2 (by omega)]
set_option maxRecDepth 100000 in
theorem tooGreat_any (s : ByteArray) (w : World) (hs : s.size ≤ 140737488355328) (hf : formN s.data.toList = true) :
    Calls Tryd.prog 34 #[.string s] w fun e w' => e = .returned (.bool (decide (9223372036854775807 < valL s.data.toList))) ∧ w = w' := by
  have hlen : s.data.toList.length = s.size := Array.length_toList
  rcases Nat.lt_trichotomy s.size 19 with g | g | g
  · have HH : Hid (decide (9223372036854775807 < valL s.data.toList) = false) := by
      show _ = _
      have := form_small (form_digs hf) (by omega)
      simp
      omega
    have g1 : ¬ (19 : Int) < s.size := by omega
    have g2 : ¬ (s.size : Int) = 19 := by omega
    clear hf hlen g
    go_enter Tryd.func34, Tryd.ntmps34
    go_wp2_with fail
    go_ret
    exact ⟨ret_bool HH.out.symm, rfl⟩
  · have HH : Hid ((!Op.bytesLess s.toList mostL && !(s.toList == mostL)) = decide (9223372036854775807 < valL s.data.toList)) := by
      show _ = _
      have hd := form_digs hf
      have hl2 : s.data.toList.length = mostL.length := by rw [hlen, g]; rfl
      have key : (s.data.toList == mostL) = decide (valL s.data.toList = valL mostL) := by
        by_cases e : s.data.toList = mostL
        · simp [e]
        · have h2 : ¬ valL s.data.toList = valL mostL := fun h => e (val_inj hl2 hd most_digs h)
          rw [decide_eq_false h2]
          simpa using e
      rw [← Bool.not_or, ByteArray.toList_eq, less_val _ _ hl2 hd most_digs, key, dec_less, most_val]
    have g1 : ¬ (19 : Int) < s.size := by omega
    have g2 : (s.size : Int) = 19 := by omega
    clear hf hlen g
    go_enter Tryd.func34, Tryd.ntmps34
    go_wp2_with fail
    go_ret
    exact ⟨ret_bool HH.out, rfl⟩
  · have HH : Hid (decide (9223372036854775807 < valL s.data.toList) = true) := by
      show _ = _
      have := form_big hf (by omega)
      simp
      omega
    have g1 : (19 : Int) < s.size := by omega
    clear hf hlen g
    go_enter Tryd.func34, Tryd.ntmps34
    go_wp2_with fail
    go_ret
    exact ⟨ret_bool HH.out.symm, rfl⟩
/-- What numberOf answers. -/
def nrD (l : List UInt8) : Int := if formN l = true then ((min (valL l) 1000000 : Nat) : Int) else -1
set_option maxRecDepth 100000 in
set_option maxHeartbeats 600000 in
theorem numberOf_any (s : ByteArray) (w : World) (hs : s.size ≤ 140737488355328) :
    Calls Tryd.prog 33 #[.string s] w fun e w' => e = .returned (.int .i64 (nrD s.data.toList)) ∧ w = w' := by
  have hlen : s.data.toList.length = s.size := Array.length_toList
  have hix : ∀ k (h : k < s.size), ∀ w : World, (Instr.index 9 (.string s) (.int .i64 (k : Int))).run Tryd.prog w = .ok (.int .u8 (s[k].toNat : Int)) w := by
    intro k h w
    have e : s[k]? = some s[k] := getElem?_pos s k h
    simp [Instr.index, asIntOf, e]
  by_cases h0 : s.size = 0
  · have HH : Hid (nrD s.data.toList = -1) := by
      show _ = _
      rw [List.eq_nil_of_length_eq_zero (l := s.data.toList) (by rw [hlen]; exact h0)]
      rfl
    have h0I : (s.size : Int) = 0 := by omega
    clear hix hlen h0
    go_enter Tryd.func33, Tryd.ntmps33
    go_wp2_with fail
    go_ret
    exact ⟨ret_int HH.out.symm, rfl⟩
  have h0I : ((s.size : Int) == 0) = false := by rw [beq_eq_false_iff_ne]; omega
  have hp : 0 < s.size := by omega
  by_cases hz : 1 < s.size ∧ s[0]'hp = 48
  · have HH : Hid (nrD s.data.toList = -1) := by
      show _ = _
      have hh : s.data.toList.head? = some (s[0]'hp) := by
        rw [List.head?_eq_getElem?, List.getElem?_eq_getElem (by rw [hlen]; omega)]
        rfl
      rw [nrD, if_neg]
      simp only [formN, hh, hz.2, hlen]
      simp
      intros
      omega
    have hc0 : ((s[0]'hp).toNat : Int) = 48 := by rw [hz.2]; rfl
    have h2 : (1 : Int) < s.size := by omega
    clear hix hlen hz h0
    go_enter Tryd.func33, Tryd.ntmps33
    go_wp2_with fail
    go_ret
    exact ⟨ret_int HH.out.symm, rfl⟩
  have HF : Hid (formN s.data.toList = digs s.data.toList) := by
    show _ = _
    have hh : s.data.toList.head? = some (s[0]'hp) := by
      rw [List.head?_eq_getElem?, List.getElem?_eq_getElem (by rw [hlen]; omega)]
      rfl
    have hne : s.data.toList ≠ [] := fun e => by rw [e] at hlen; simp at hlen; omega
    simp only [formN, hh, hlen]
    by_cases h1 : s.size = 1
    · simp [hne, h1]
    · have : ¬ s[0]'hp = 48 := fun e => hz ⟨by omega, e⟩
      simp [hne, this]
  have hfirst : (s.size : Int) = 1 ∨ ((1 : Int) < s.size ∧ (((s[0]'hp).toNat : Int) == 48) = false) := by
    by_cases h1 : s.size = 1
    · exact .inl (by omega)
    · refine .inr ⟨by omega, beq_eq_false_iff_ne.2 fun e => hz ⟨by omega, UInt8.toNat_inj.1 ?_⟩⟩
      have : (48 : UInt8).toNat = 48 := rfl
      omega
  have hx0 := hix 0 (by omega)
  have HX : Hid _ := hix
  clear hz hix
  go_enter Tryd.func33, Tryd.ntmps33
  rcases hfirst with g | ⟨g, g0⟩
  all_goals
    go_wp2_with fail
    clear hx0
    try clear g0
    try generalize ((s[0]'hp).toNat : Int) = c0 at *
    clear g
    go_loop [4, 3] (fun i v => ∃ k n : Nat, k ≤ s.size ∧ i = .int .i64 k ∧ v = .int .i64 n ∧ n ≤ 1000000 ∧ Hid (digs (s.data.toList.take k) = true) ∧ Hid (n = min (valL (s.data.toList.take k)) 1000000)) (fun i _ => s.size - (intOf i).toNat)
    case atStart => exact ⟨0, 0, by omega, rfl, rfl, by omega, rfl, rfl⟩
    case round =>
      obtain ⟨k, n, hk, rfl, rfl, hn, hd, hv⟩ := hrel
      by_cases hlt : k < s.size
      · have hltI : (k : Int) < s.size := by omega
        have hx := HX.out k hlt
        have htk : s.data.toList.take (k + 1) = s.data.toList.take k ++ [s[k]] := take_snocU s k hlt
        have hb1 := s[k].toNat_lt
        have HT : Hid (digs (s.data.toList.take (k + 1)) = (decide (48 ≤ s[k].toNat) && decide (s[k].toNat ≤ 57)) ∧ valL (s.data.toList.take (k + 1)) = valL (s.data.toList.take k) * 10 + (s[k].toNat - 48)) := by
          show _ ∧ _
          rw [htk, digs_snoc, valL_snoc, hd.out]
          simp
        have HI := in_bool (s[k].toNat : Int) 48 57 (decide ((48 : Int) ≤ s[k].toNat ∧ (s[k].toNat : Int) ≤ 57)) w rfl
        clear htk
        generalize s[k].toNat = c at *
        by_cases hc : 48 ≤ c ∧ c ≤ 57
        · have hd2 : Hid (digs (s.data.toList.take (k + 1)) = true) := by show _ = _; rw [HT.out.1]; simp [hc]
          have e1 : decide ((48 : Int) ≤ c ∧ (c : Int) ≤ 57) = true := by simp; omega
          rw [e1] at HI
          obtain ⟨x, hcx⟩ : ∃ x : Int, (c : Int) = x := ⟨_, rfl⟩
          have hv2 : Hid (valL (s.data.toList.take (k + 1)) = valL (s.data.toList.take k) * 10 + (x - 48).toNat) := by show _ = _; rw [HT.out.2]; omega
          rw [hcx] at hx HI
          have hx1 : 48 ≤ x := by omega
          have hx2 : x ≤ 57 := by omega
          clear hcx
          clear HT e1 hc hb1
          go_wp2_with fail
          refine HI.mono ?_
          rintro e w1 ⟨he, rfl⟩
          subst he
          dsimp only
          clear HI
          by_cases hbig : 1000000 < 10 * (n : Int) + (x - 48)
          · have hv3 : Hid (1000000 = min (valL (s.data.toList.take (k + 1))) 1000000) := by
              show _ = _
              have := hv.out
              have := hv2.out
              omega
            go_wp2_with fail
            go_round
            case rel => exact ⟨k + 1, 1000000, by omega, by go_num, by simp, by omega, hd2, hv3⟩
            case measure => simp [intOf]; omega
          · have hv3 : Hid (10 * n + (x - 48).toNat = min (valL (s.data.toList.take (k + 1))) 1000000) := by
              show _ = _
              have := hv.out
              have := hv2.out
              omega
            have hnb : 10 * n + (x - 48).toNat ≤ 1000000 := by omega
            go_wp2_with fail
            go_round
            case rel => exact ⟨k + 1, 10 * n + (x - 48).toNat, by omega, by go_num, by congr 1; omega, hnb, hd2, hv3⟩
            case measure => simp [intOf]; omega
        · have hd2 : Hid (digs (s.data.toList.take (k + 1)) = false) := by
            show _ = _
            rw [HT.out.1]
            simp
            omega
          have HH : Hid (nrD s.data.toList = -1) := by
            show _ = _
            rw [nrD, if_neg]
            rw [HF.out]
            intro h
            have h3 : digs (s.data.toList.take (k + 1)) = true := by
              simp only [digs, List.all_eq_true] at h ⊢
              exact fun x hx => h x (List.mem_of_mem_take hx)
            rw [hd2.out] at h3
            cases h3
          have e1 : decide ((48 : Int) ≤ c ∧ (c : Int) ≤ 57) = false := by simp; omega
          rw [e1] at HI
          clear HT e1 hc
          go_wp2_with fail
          refine HI.mono ?_
          rintro e w1 ⟨he, rfl⟩
          subst he
          dsimp only
          clear HI
          go_wp2_with fail
          go_ret
          exact ⟨ret_int HH.out.symm, rfl⟩
      · have hltI : ¬ (k : Int) < s.size := by omega
        have HH : Hid (nrD s.data.toList = n) := by
          show _ = _
          have ht : s.data.toList.take k = s.data.toList := List.take_of_length_le (by rw [hlen]; omega)
          have h1 := hd.out
          have h2 := hv.out
          rw [ht] at h1 h2
          rw [nrD, HF.out, h1, if_pos rfl, h2]
        go_wp2_with fail
        go_ret
        exact ⟨ret_int HH.out.symm, rfl⟩
end Go.Proofs.YtnpkpkknbflacaaDoor
