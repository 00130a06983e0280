/- lines.readNumber, kindOf, readText: for every text. -/
import Derived.Test.YtnpkpkknbflacaaDoorLnR0
import Derived.Test.YtnpkpkknbflacaaDoorLnS
namespace Go.Proofs.YtnpkpkknbflacaaDoor
open Go.RowKit

/-- A number as it is shown; -1: it is none. -/
def numV (l : List UInt8) : Int := match Lib.atoiAll l with | .ok v => if 0 ≤ v ∧ Lib.itoa v = l then v else -1 | _ => -1
def numB (l : List UInt8) : Bool := decide (0 ≤ numV l)
/-- What stands in the act then. -/
def numA (l : List UInt8) : Int := if numB l = true then numV l else 0
set_option maxRecDepth 100000 in
theorem numV_ok {l : List UInt8} (h : numB l = true) : Lib.itoa (numV l) = l ∧ 0 ≤ numV l ∧ numV l ≤ 9223372036854775807 := by
  unfold numB at h
  have h0 : 0 ≤ numV l := by simpa using h
  unfold numV at h0 ⊢
  split
  · rename_i v hv
    rw [hv] at h0
    split
    · rename_i h2
      exact ⟨h2.2, h2.1, (Lib.atoiAll_bounds hv).2⟩
    · rename_i h2
      simp only [if_neg h2] at h0
      omega
  · rename_i hv
    exfalso
    cases hx : Lib.atoiAll l with
    | ok v => exact hv v hx
    | range => rw [hx] at h0; simp at h0
    | _ => rw [hx] at h0; simp at h0
set_option maxRecDepth 100000 in
theorem numA_bounds (l : List UInt8) : 0 ≤ numA l ∧ numA l ≤ 9223372036854775807 := by
  unfold numA
  split
  · rename_i h; exact (numV_ok h).2
  · omega
set_option maxRecDepth 100000 in
theorem ret_numb {a a' : Int} {b b' : Bool} (h1 : a' = a) (h2 : b' = b) : Ending.returned (.tuple #[.int .i64 a, .bool b]) = .returned (.tuple #[.int .i64 a', .bool b']) := by rw [h1, h2]
set_option maxRecDepth 100000 in
theorem str_eq_list (s : ByteArray) (l : List UInt8) : ((⟨l.toArray⟩ : ByteArray).toList == s.toList) = decide (l = s.data.toList) := by
  rw [ByteArray.toList_eq, ByteArray.toList_eq]
  by_cases h : l = s.data.toList
  · simp [h]
  · simp [h]
set_option maxRecDepth 100000 in
set_option maxHeartbeats 2000000 in
theorem readNumber_any (s : ByteArray) (w : World) (hs : s.size ≤ 140737488355328) (hT : LTabs w) :
    Calls Tryd.prog 53 #[.string s] w fun e w' => e = .returned (.tuple #[.int .i64 (numA s.data.toList), .bool (numB s.data.toList)]) ∧ Below w.heap.size w w' := by
  rcases hA : Lib.atoiAll s.data.toList with v | _ | _
  · obtain ⟨b1, b2⟩ := Lib.atoiAll_bounds hA
    have HC : Calls Tryd.prog 60 #[.string s] w fun e w' => e = .returned (.tuple #[.int .i64 v, .nilIface]) ∧ Below w.heap.size w w' :=
      Calls.mono (Any.strconv_Atoi_ok layAtoi s (by omega) v hA w) (fun e w' ⟨he, hw⟩ => ⟨he, by rcases hw with rfl | ⟨t, rfl⟩; exact Below.refl _ _; exact Lib.bytesWorld_below _ _ _⟩)
    by_cases hv : 0 ≤ v
    · have hvI : ¬ v < 0 := by omega
      have hq := str_eq_list s (Lib.itoa v)
      have H1 : Hid (numB s.data.toList = decide (Lib.itoa v = s.data.toList)) := by
        show _ = _
        unfold numB numV
        rw [hA]
        by_cases h : Lib.itoa v = s.data.toList
        · simp [h, hv]
        · simp [h]
      have H2 : Hid (Lib.itoa v = s.data.toList → numA s.data.toList = v) := by
        show _ → _
        intro h
        unfold numA
        rw [H1.out, if_pos (by simp [h])]
        unfold numV
        rw [hA]
        simp [h, hv]
      clear hA
      go_enter Tryd.func53, Tryd.ntmps53
      go_wp2_with fail
      refine HC.mono ?_
      rintro e w1 ⟨he, hb1⟩
      subst he
      dsimp only
      have HI := itoa_any v w1 b1 b2 (hT.below hb1).p
      by_cases h : Lib.itoa v = s.data.toList
      · have hqb : ((⟨(Lib.itoa v).toArray⟩ : ByteArray).toList == s.toList) = true := by rw [hq]; simp [h]
        have H3 : Hid (numB s.data.toList = true) := by show _ = _; rw [H1.out]; simp [h]
        have H4 : Hid (numA s.data.toList = v) := H2.out h
        clear H1 H2 h hq
        generalize (⟨(Lib.itoa v).toArray⟩ : ByteArray) = y at *
        go_wp2_with fail
        refine HI.mono ?_
        rintro e w2 ⟨he, hb2⟩
        subst he
        dsimp only
        go_wp2_with fail
        go_ret2
        exact ⟨ret_numb H4.out H3.out, hb1.trans (hb2.mono hb1.size)⟩
      · have hqb : ((⟨(Lib.itoa v).toArray⟩ : ByteArray).toList == s.toList) = false := by rw [hq]; simp [h]
        have H3 : Hid (numB s.data.toList = false) := by show _ = _; rw [H1.out]; simp [h]
        have H4 : Hid (numA s.data.toList = 0) := by show _ = _; unfold numA; rw [H3.out]; simp
        clear H1 H2 h hq
        generalize (⟨(Lib.itoa v).toArray⟩ : ByteArray) = y at *
        go_wp2_with fail
        refine HI.mono ?_
        rintro e w2 ⟨he, hb2⟩
        subst he
        dsimp only
        go_wp2_with fail
        go_ret2
        exact ⟨ret_numb H4.out H3.out, hb1.trans (hb2.mono hb1.size)⟩
    · have hvI : v < 0 := by omega
      have H3 : Hid (numB s.data.toList = false) := by
        show _ = _
        unfold numB numV
        rw [hA]
        simp [hv]
      have H4 : Hid (numA s.data.toList = 0) := by show _ = _; unfold numA; rw [H3.out]; simp
      clear hA
      go_enter Tryd.func53, Tryd.ntmps53
      go_wp2_with fail
      refine HC.mono ?_
      rintro e w1 ⟨he, hb1⟩
      subst he
      dsimp only
      go_wp2_with fail
      go_ret2
      exact ⟨ret_numb H4.out H3.out, hb1⟩
  all_goals
    have H3 : Hid (numB s.data.toList = false) := by
      show _ = _
      unfold numB numV
      rw [hA]
      simp
    have H4 : Hid (numA s.data.toList = 0) := by show _ = _; unfold numA; rw [H3.out]; simp
    obtain ⟨⟨t1, p1, e1⟩, ⟨t2, p2, e2⟩⟩ := hT.e
    have HC : Calls Tryd.prog 60 #[.string s] w fun e w' => ∃ (v : Int) (T : TypeId) (N : Addr), e = .returned (.tuple #[.int .i64 v, .iface T (.pointer (some N))]) ∧ Below w.heap.size w w' := by
      first
      | exact Calls.mono (Any.strconv_Atoi_syntax layAtoi s (by omega) hA (.iface t1 p1) w e1 (.inr ⟨_, _, rfl⟩)) (fun e w' ⟨N, he, _, _, hb⟩ => ⟨_, _, _, he, hb⟩)
      | exact Calls.mono (Any.strconv_Atoi_range layAtoi s (by omega) hA (.iface t2 p2) w e2 (.inr ⟨_, _, rfl⟩)) (fun e w' ⟨N, he, _, _, hb⟩ => ⟨_, _, _, he, hb⟩)
    clear hA e1 e2
    go_enter Tryd.func53, Tryd.ntmps53
    go_wp2_with fail
    refine HC.mono ?_
    rintro e w1 ⟨v, T, N, he, hb1⟩
    subst he
    dsimp only
    go_wp2_with fail
    go_ret2
    exact ⟨ret_numb H4.out H3.out, hb1⟩
/-- The kind of a word; 0: it is none. -/
def kindTo (l : List UInt8) : Nat → Int
  | 0 => 0
  | n + 1 => if kindTo l n ≠ 0 then kindTo l n else if wordL ((n + 1 : Nat) : Int) = l then ((n + 1 : Nat) : Int) else 0
def kindL (l : List UInt8) : Int := kindTo l 10
def noKind (l : List UInt8) (n : Nat) : Prop := ∀ k : Nat, 1 ≤ k → k < n → wordL (k : Int) ≠ l
set_option maxRecDepth 100000 in
theorem kindTo_none {l : List UInt8} : ∀ n : Nat, noKind l (n + 1) → kindTo l n = 0
  | 0, _ => rfl
  | n + 1, h => by
    rw [kindTo, kindTo_none n (fun k a b => h k a (by omega)), if_neg (by simp), if_neg (h (n + 1) (by omega) (by omega))]
set_option maxRecDepth 100000 in
theorem kindTo_stay {l : List UInt8} {m : Nat} (h : kindTo l m ≠ 0) : ∀ n, m ≤ n → kindTo l n = kindTo l m
  | 0, hn => by obtain rfl : m = 0 := by omega
                rfl
  | n + 1, hn => by
    by_cases e : m = n + 1
    · rw [e]
    · have := kindTo_stay h n (by omega)
      rw [kindTo, this, if_pos h]
set_option maxRecDepth 100000 in
theorem kindL_hit {l : List UInt8} {n : Nat} (h1 : 1 ≤ n) (h2 : n ≤ 10) (hno : noKind l n) (h : wordL (n : Int) = l) : kindL l = n := by
  obtain ⟨m, rfl⟩ : ∃ m, n = m + 1 := ⟨n - 1, by omega⟩
  have e : kindTo l (m + 1) = ((m + 1 : Nat) : Int) := by
    rw [kindTo, kindTo_none m hno, if_neg (by simp), if_pos h]
  rw [kindL, kindTo_stay (m := m + 1) (by rw [e]; omega) 10 h2, e]
set_option maxRecDepth 100000 in
theorem kindL_none {l : List UInt8} (hno : noKind l 11) : kindL l = 0 := kindTo_none 10 hno
set_option maxRecDepth 100000 in
theorem kindTo_bounds (l : List UInt8) : ∀ n : Nat, kindTo l n = 0 ∨ (1 ≤ kindTo l n ∧ kindTo l n ≤ n ∧ wordL (kindTo l n) = l)
  | 0 => .inl rfl
  | n + 1 => by
    rw [kindTo]
    rcases kindTo_bounds l n with h | ⟨h1, h2, h3⟩
    · rw [h, if_neg (by simp)]
      split
      · rename_i hw
        exact .inr ⟨by omega, by omega, hw⟩
      · exact .inl rfl
    · rw [if_pos (by omega)]
      exact .inr ⟨h1, by omega, h3⟩
set_option maxRecDepth 100000 in
theorem kindL_bounds (l : List UInt8) : kindL l = 0 ∨ (1 ≤ kindL l ∧ kindL l ≤ 10 ∧ wordL (kindL l) = l) := kindTo_bounds l 10
set_option maxRecDepth 100000 in
theorem kindL_word (k : Int) (h : 1 ≤ k ∧ k ≤ 10) : kindL (wordL k) = k := by
  have hc : k = 1 ∨ k = 2 ∨ k = 3 ∨ k = 4 ∨ k = 5 ∨ k = 6 ∨ k = 7 ∨ k = 8 ∨ k = 9 ∨ k = 10 := by omega
  rcases hc with rfl | rfl | rfl | rfl | rfl | rfl | rfl | rfl | rfl | rfl <;> decide +kernel
set_option maxRecDepth 100000 in
set_option maxHeartbeats 1000000 in
theorem kindOf_any (s : ByteArray) (w : World) (hT : KTab w) :
    Calls Tryd.prog 44 #[.string s] w fun e w' => e = .returned (.int .i64 (kindL s.data.toList)) ∧ w = w' := by
  go_enter Tryd.func44, Tryd.ntmps44
  go_wp2_with fail
  go_loop [3] (fun i => ∃ n : Nat, 1 ≤ n ∧ n ≤ 11 ∧ i = .int .i64 n ∧ Hid (noKind s.data.toList n)) (fun i => 11 - (intOf i).toNat)
  case atStart => exact ⟨1, by omega, by omega, rfl, by show noKind _ _; intro k a b; omega⟩
  case round =>
    obtain ⟨n, h1, h2, rfl, hno⟩ := hrel
    by_cases hlt : n ≤ 10
    · have hltI : (n : Int) ≤ 10 := by omega
      have cw := hT.word n h1 hlt
      have hq := str_eq_list s (wordL n)
      by_cases h : wordL (n : Int) = s.data.toList
      · have HK : Hid (kindL s.data.toList = n) := kindL_hit h1 hlt hno.out h
        have hqb : ((⟨(wordL n).toArray⟩ : ByteArray).toList == s.toList) = true := by rw [hq]; simp [h]
        clear h hq
        generalize (⟨(wordL n).toArray⟩ : ByteArray) = y at *
        go_wp2_with fail
        go_ret
        exact ⟨ret_int HK.out.symm, rfl⟩
      · have hno2 : Hid (noKind s.data.toList (n + 1)) := by
          show noKind _ _
          intro k a b
          by_cases hk : k = n
          · subst hk; exact h
          · exact hno.out k a (by omega)
        have hqb : ((⟨(wordL n).toArray⟩ : ByteArray).toList == s.toList) = false := by rw [hq]; simp [h]
        clear h hq
        generalize (⟨(wordL n).toArray⟩ : ByteArray) = y at *
        go_wp2_with fail
        go_round
        case rel => exact ⟨n + 1, by omega, by omega, by go_num, hno2⟩
        case measure => simp [intOf]; omega
    · obtain rfl : n = 11 := by omega
      have HK : Hid (kindL s.data.toList = 0) := kindL_none hno.out
      go_wp2_with fail
      go_ret
      exact ⟨ret_int HK.out.symm, rfl⟩
end Go.Proofs.YtnpkpkknbflacaaDoor
