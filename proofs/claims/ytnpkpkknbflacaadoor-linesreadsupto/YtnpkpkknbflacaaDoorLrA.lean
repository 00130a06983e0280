/- The document's hasNode, hasPick, hasText, actWord, hexDigit, valueOf. -/
import Derived.Test.YtnpkpkknbflacaaDoorLnM3
import Derived.Test.YtnpkpkknbflacaaDoorRIn
namespace Go.Proofs.YtnpkpkknbflacaaDoor
open Go.RowKit

set_option maxRecDepth 100000 in
theorem hasText_any (k : Int) (w : World) :
    Calls Tryd.prog 36 #[.int .i64 k] w fun e w' => e = .returned (.bool (hT k)) ∧ w = w' := by
  by_cases h : k = 1 ∨ k = 9
  · have HH : Hid (hT k = true) := by show _ = _; simp [hT, h]
    rcases h with rfl | rfl
    all_goals
      go_enter Tryd.func36, Tryd.ntmps36
      go_wp2_with fail
      go_ret
      exact ⟨ret_bool HH.out.symm, rfl⟩
  · have HH : Hid (hT k = false) := by show _ = _; simp [hT, h]
    have h1 : ¬ k = 1 := by omega
    have h2 : ¬ k = 9 := by omega
    clear h
    go_enter Tryd.func36, Tryd.ntmps36
    go_wp2_with fail
    go_ret
    exact ⟨ret_bool (by rw [HH.out]; simp [h1, h2]), rfl⟩
set_option maxRecDepth 100000 in
theorem hasNode_any (k : Int) (w : World) :
    Calls Tryd.prog 32 #[.int .i64 k] w fun e w' => e = .returned (.bool (hN k)) ∧ w = w' := by
  by_cases h : k = 1 ∨ k = 2 ∨ k = 3 ∨ k = 7 ∨ k = 8 ∨ k = 9
  · have HH : Hid (hN k = true) := by show _ = _; simp [hN, h]
    rcases h with rfl | rfl | rfl | rfl | rfl | rfl
    all_goals
      go_enter Tryd.func32, Tryd.ntmps32
      go_wp2_with fail
      go_ret
      exact ⟨ret_bool HH.out.symm, rfl⟩
  · have HH : Hid (hN k = false) := by show _ = _; simp [hN, h]
    have h1 : ¬ k = 1 := by omega
    have h2 : ¬ k = 2 := by omega
    have h3 : ¬ k = 3 := by omega
    have h7 : ¬ k = 7 := by omega
    have h8 : ¬ k = 8 := by omega
    have h9 : ¬ k = 9 := by omega
    clear h
    go_enter Tryd.func32, Tryd.ntmps32
    go_wp2_with fail
    go_ret
    exact ⟨ret_bool (by rw [HH.out]; simp [h1, h2, h3, h7, h8, h9]), rfl⟩
set_option maxRecDepth 100000 in
theorem hasPick_any (k : Int) (w : World) :
    Calls Tryd.prog 35 #[.int .i64 k] w fun e w' => e = .returned (.bool (hP k)) ∧ w = w' := by
  have HI := in_bool k 4 7 (hP k) w rfl
  go_enter Tryd.func35, Tryd.ntmps35
  go_wp2_with fail
  refine HI.mono ?_
  rintro e w1 ⟨he, rfl⟩
  subst he
  dsimp only
  clear HI
  go_wp2_with fail
  go_ret
  exact ⟨rfl, rfl⟩
set_option maxRecDepth 100000 in
set_option maxHeartbeats 2000000 in
theorem actWord_any (k : Nat) (w : World) (h1 : 1 ≤ k) (h2 : k ≤ 10) :
    Calls Tryd.prog 31 #[.int .i64 k] w fun e w' => e = .returned (.string ⟨(wordL k).toArray⟩) ∧ Below w.heap.size w w' := by
  have hc : k = 1 ∨ k = 2 ∨ k = 3 ∨ k = 4 ∨ k = 5 ∨ k = 6 ∨ k = 7 ∨ k = 8 ∨ k = 9 ∨ k = 10 := by omega
  rcases hc with rfl | rfl | rfl | rfl | rfl | rfl | rfl | rfl | rfl | rfl
  all_goals
    go_enter Tryd.func31, Tryd.ntmps31
    go_wp2_with fail
    go_ret
    exact ⟨rfl, (Below.refl _ _).alloc (Nat.le_refl _) _⟩
set_option maxRecDepth 100000 in
theorem hexDigit_any (n : Nat) (w : World) (h : n < 16) :
    Calls Tryd.prog 55 #[.int .i64 n] w fun e w' => e = .returned (.int .u8 ((hxd n).toNat : Int)) ∧ w = w' := by
  have hc : n = 0 ∨ n = 1 ∨ n = 2 ∨ n = 3 ∨ n = 4 ∨ n = 5 ∨ n = 6 ∨ n = 7 ∨ n = 8 ∨ n = 9 ∨ n = 10 ∨ n = 11 ∨ n = 12 ∨ n = 13 ∨ n = 14 ∨ n = 15 := by omega
  rcases hc with rfl | rfl | rfl | rfl | rfl | rfl | rfl | rfl | rfl | rfl | rfl | rfl | rfl | rfl | rfl | rfl
  all_goals
    go_enter Tryd.func55, Tryd.ntmps55
    go_wp2_with fail
    go_ret
    exact ⟨rfl, rfl⟩
set_option maxRecDepth 100000 in
theorem valueOf_any (c : UInt8) (w : World) :
    Calls Tryd.prog 46 #[.int .u8 (c.toNat : Int)] w fun e w' => e = .returned (.int .i64 (hxv c)) ∧ w = w' := by
  go_enter Tryd.func46, Tryd.ntmps46
  go_wp2_with fail
  go_loop [3] (fun i => ∃ n : Nat, n ≤ 16 ∧ i = .int .i64 n ∧ Hid (∀ m : Nat, m < n → hxd m ≠ c)) (fun i => 16 - (intOf i).toNat)
  case atStart => exact ⟨0, by omega, rfl, by intro m hm; omega⟩
  case round =>
    obtain ⟨n, hn, rfl, hno⟩ := hrel
    by_cases hlt : n < 16
    · have hltI : (n : Int) < 16 := by omega
      have HD := hexDigit_any n w hlt
      by_cases h : hxd n = c
      · have HH : Hid (hxv c = n) := by show _ = _; rw [← h]; exact hxv_hxd n hlt
        rw [h] at HD
        clear h
        go_wp2_with fail
        refine HD.mono ?_
        rintro e w1 ⟨he, rfl⟩
        subst he
        dsimp only
        clear HD
        go_wp2_with fail
        go_ret
        exact ⟨ret_int HH.out.symm, rfl⟩
      · have hno2 : Hid (∀ m : Nat, m < n + 1 → hxd m ≠ c) := by
          intro m hm
          by_cases hk : m = n
          · subst hk; exact h
          · exact hno.out m (by omega)
        have hne : ¬ ((hxd n).toNat : Int) = c.toNat := by
          intro e
          exact h (UInt8.toNat_inj.1 (by omega))
        clear h
        generalize ((hxd n).toNat : Int) = y at *
        go_wp2_with fail
        refine HD.mono ?_
        rintro e w1 ⟨he, rfl⟩
        subst he
        dsimp only
        clear HD
        go_wp2_with fail
        go_round
        case rel => exact ⟨n + 1, by omega, by go_num, hno2⟩
        case measure => simp [intOf]; omega
    · obtain rfl : n = 16 := by omega
      have HH : Hid (hxv c = -1) := by
        show _ = _
        have b := hxv_bounds c
        by_cases hx : 0 ≤ hxv c
        · exact absurd (hxd_hxv c hx) (hno.out _ (by omega))
        · omega
      go_wp2_with fail
      go_ret
      exact ⟨ret_int HH.out.symm, rfl⟩
end Go.Proofs.YtnpkpkknbflacaaDoor
