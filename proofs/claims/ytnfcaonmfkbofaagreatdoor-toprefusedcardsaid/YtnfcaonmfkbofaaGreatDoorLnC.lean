/- lines.hasMore and lines.Check, for every act. -/
import Derived.Test.YtnfcaonmfkbofaaGreatDoorLnF
namespace Go.Proofs.YtnfcaonmfkbofaaGreatDoor
open Go.RowKit

set_option maxRecDepth 100000 in
theorem empty_size (t : ByteArray) : (!t.toList.isEmpty) = decide (t.size ≠ 0) := by
  have h : t.size = t.toList.length := by rw [ByteArray.toList_eq]; rfl
  rw [h]
  cases t.toList <;> simp
set_option maxRecDepth 100000 in
theorem ne_dec (n : Int) : (n != 0) = decide (n ≠ 0) := by
  by_cases h : n = 0 <;> simp [h]
def badP (f h : Bool) : Bool := f && !h
def bads (f0 f1 f2 h0 h1 h2 : Bool) (m : Nat) : Bool := (decide (0 < m) && badP f0 h0) || (decide (1 < m) && badP f1 h1) || (decide (2 < m) && badP f2 h2)
set_option maxRecDepth 100000 in
set_option maxHeartbeats 1000000 in
theorem hasMore_any (k n p : Int) (t : ByteArray) (w : World) (hk : 1 ≤ k ∧ k ≤ 10) (hT : KTab w) :
    Calls Tryz.prog 48 #[.agg #[.int .i64 k, .int .i64 n, .int .i64 p, .string t]] w fun e w' => e = .returned (.bool (moreB k n p t.size)) ∧ Below w.heap.size w w' := by
  obtain ⟨j, rfl⟩ : ∃ j : Nat, k = j := ⟨k.toNat, by omega⟩
  have h1 : 1 ≤ j := by omega
  have h2 : j ≤ 10 := by omega
  have hL := hT.lt
  have hA := hT.alloc (.cells #[.int .i64 j, .int .i64 n, .int .i64 p, .string t] 35)
  have c1 := hA.node j h1 h2
  have c2 := hA.pick j h1 h2
  have c3 := hA.text j h1 h2
  have HM : Hid (moreB j n p t.size = bads (n != 0) (p != 0) (!t.toList.isEmpty) (hN j) (hP j) (Go.Proofs.YtnfcaonmfkbofaaGreatDoor.hT j) 3) := by
    show _ = _
    rw [empty_size, ne_dec, ne_dec]
    simp [moreB, bads, badP]
  generalize hN j = b0 at *
  generalize hP j = b1 at *
  generalize Go.Proofs.YtnfcaonmfkbofaaGreatDoor.hT j = b2 at *
  go_enter Tryz.func48, Tryz.ntmps48
  go_wp2_with fail
  generalize (n != 0) = f0 at *
  generalize (p != 0) = f1 at *
  generalize (!t.toList.isEmpty) = f2 at *
  clear c1 c2 c3 hA
  go_loop [21] (fun i => ∃ m : Nat, m ≤ 3 ∧ i = .int .i64 m ∧ Hid (bads f0 f1 f2 b0 b1 b2 m = false)) (fun i => 3 - (intOf i).toNat)
  case atStart => exact ⟨0, by omega, rfl, by show _ = _; simp [bads]⟩
  case round =>
    obtain ⟨m, hm, rfl, hno⟩ := hrel
    have hB : Below w.heap.size w (((w.alloc (.cells #[.int .i64 j, .int .i64 n, .int .i64 p, .string t] 35)).alloc (.cells #[.bool b0, .bool b1, .bool b2] 140)).alloc (.cells #[.bool f0, .bool f1, .bool f2] 140)) :=
      ((((Below.refl _ _).alloc (Nat.le_refl _) _).alloc (by simp) _).alloc (by simp; omega) _)
    obtain rfl | rfl | rfl | rfl : m = 0 ∨ m = 1 ∨ m = 2 ∨ m = 3 := by omega
    · cases f0 <;> cases b0
      all_goals
        go_wp2_with fail
        first
        | (go_ret; exact ⟨ret_bool (by rw [HM.out]; simp [bads, badP]), hB⟩)
        | (go_round
           case rel => exact ⟨1, by omega, by go_num, by have := hno.out; show _ = _; simp [bads, badP] at this ⊢; first | done | simp_all⟩
           case measure => simp [intOf])
    · cases f1 <;> cases b1
      all_goals
        go_wp2_with fail
        first
        | (go_ret; exact ⟨ret_bool (by rw [HM.out]; simp [bads, badP]), hB⟩)
        | (go_round
           case rel => exact ⟨2, by omega, by go_num, by have := hno.out; show _ = _; simp [bads, badP] at this ⊢; first | done | simp_all⟩
           case measure => simp [intOf])
    · cases f2 <;> cases b2
      all_goals
        go_wp2_with fail
        first
        | (go_ret; exact ⟨ret_bool (by rw [HM.out]; simp [bads, badP]), hB⟩)
        | (go_round
           case rel => exact ⟨3, by omega, by go_num, by have := hno.out; show _ = _; simp [bads, badP] at this ⊢; first | done | simp_all⟩
           case measure => simp [intOf])
    · go_wp2_with fail
      go_ret
      exact ⟨ret_bool (by rw [HM.out]; exact hno.out.symm), hB⟩
set_option maxRecDepth 100000 in
set_option maxHeartbeats 1000000 in
/-- lines.Check: P9.1. -/
theorem actCheck_any (k n p : Int) (t : ByteArray) (w : World) (ht : t.size ≤ maxLen) (hT : KTab w) :
    Calls Tryz.prog 25 #[.agg #[.int .i64 k, .int .i64 n, .int .i64 p, .string t]] w fun e w' => e = .returned (.int .i64 (actF k n p t.size)) ∧ Below w.heap.size w w' := by
  unfold maxLen at ht
  have hB : Below w.heap.size w (w.alloc (.cells #[.int .i64 k, .int .i64 n, .int .i64 p, .string t] 35)) := (Below.refl _ _).alloc (Nat.le_refl _) _
  by_cases h1 : k < 1 ∨ 10 < k
  · have HF : Hid (actF k n p t.size = 3) := by show _ = _; simp [actF, h1]
    rcases Int.lt_or_le k 1 with a | a
    all_goals
      go_enter Tryz.func25, Tryz.ntmps25
      go_wp2_with fail
      go_ret
      exact ⟨ret_int HF.out.symm, hB⟩
  have g1 : ¬ k < 1 := by omega
  have g2 : ¬ 10 < k := by omega
  by_cases h2 : n < 0 ∨ 4 ≤ n
  · have HF : Hid (actF k n p t.size = 2) := by show _ = _; simp [actF, h1, h2]
    rcases Int.lt_or_le n 0 with a | a
    all_goals
      go_enter Tryz.func25, Tryz.ntmps25
      go_wp2_with fail
      go_ret
      exact ⟨ret_int HF.out.symm, hB⟩
  have g3 : ¬ n < 0 := by omega
  have g4 : ¬ 4 ≤ n := by omega
  by_cases h3 : p < 0 ∨ 400000 < p
  · have HF : Hid (actF k n p t.size = 2) := by show _ = _; simp [actF, h1, h2, h3]
    rcases Int.lt_or_le p 0 with a | a
    all_goals
      go_enter Tryz.func25, Tryz.ntmps25
      go_wp2_with fail
      go_ret
      exact ⟨ret_int HF.out.symm, hB⟩
  have g5 : ¬ p < 0 := by omega
  have g6 : ¬ 400000 < p := by omega
  by_cases h4 : 4000 < t.size
  · have HF : Hid (actF k n p t.size = 1) := by show _ = _; simp [actF, h1, h2, h3, h4]
    have h4I : (4000 : Int) < t.size := by omega
    go_enter Tryz.func25, Tryz.ntmps25
    go_wp2_with fail
    go_ret
    exact ⟨ret_int HF.out.symm, hB⟩
  have g7 : ¬ (4000 : Int) < t.size := by omega
  have HF : Hid (actF k n p t.size = if moreB k n p t.size = true then 4 else 0) := by show _ = _; simp [actF, h1, h2, h3, h4]
  clear h1 h2 h3 h4
  have HC := hasMore_any k n p t (w.alloc (.cells #[.int .i64 k, .int .i64 n, .int .i64 p, .string t] 35)) (by omega) (hT.alloc _)
  generalize hm : moreB k n p t.size = m at HC HF
  clear hm
  go_enter Tryz.func25, Tryz.ntmps25
  go_wp2_with fail
  refine HC.mono ?_
  rintro e w1 ⟨he, hb⟩
  subst he
  dsimp only
  have hB2 := hB.trans (hb.mono (by simp))
  cases m
  · go_wp2_with fail
    go_ret
    exact ⟨ret_int (by rw [HF.out]; rfl), hB2⟩
  · go_wp2_with fail
    go_ret
    exact ⟨ret_int (by rw [HF.out]; rfl), hB2⟩
end Go.Proofs.YtnfcaonmfkbofaaGreatDoor
