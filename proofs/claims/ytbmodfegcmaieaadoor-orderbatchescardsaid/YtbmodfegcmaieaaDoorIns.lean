/- wire.isNode and wire.isRound, for every number. -/
import Derived.Test.YtbmodfegcmaieaaDoorPK
namespace Go.Proofs.YtbmodfegcmaieaaDoor
open Go.RowKit

set_option maxRecDepth 100000 in
theorem isNode_bool (n : Int) (r : Bool) (w : World) (h : r = decide (0 ≤ n ∧ n < 4)) : Calls Tryd.prog 81 #[.int .i64 n] w fun e w' => e = .returned (.bool r) ∧ w = w' := by
  by_cases h1 : 0 ≤ n
  · by_cases h2 : n < 4
    · obtain rfl : r = true := by simp [h, h1, h2]
      clear h
      go_enter Tryd.func81, Tryd.ntmps81
      go_wp2
      go_ret
      exact ⟨rfl, rfl⟩
    · obtain rfl : r = false := by simp [h, h2]
      clear h
      go_enter Tryd.func81, Tryd.ntmps81
      go_wp2
      go_ret
      exact ⟨rfl, rfl⟩
  · obtain rfl : r = false := by simp [h, h1]
    clear h
    go_enter Tryd.func81, Tryd.ntmps81
    go_wp2
    go_ret
    exact ⟨rfl, rfl⟩
set_option maxRecDepth 100000 in
theorem isRound_bool (n : Int) (r : Bool) (w : World) (h : r = decide (1 ≤ n ∧ n ≤ 1048576)) : Calls Tryd.prog 82 #[.int .i64 n] w fun e w' => e = .returned (.bool r) ∧ w = w' := by
  by_cases h1 : 1 ≤ n
  · by_cases h2 : n ≤ 1048576
    · obtain rfl : r = true := by simp [h, h1, h2]
      clear h
      go_enter Tryd.func82, Tryd.ntmps82
      go_wp2
      go_ret
      exact ⟨rfl, rfl⟩
    · obtain rfl : r = false := by simp [h, h2]
      clear h
      go_enter Tryd.func82, Tryd.ntmps82
      go_wp2
      go_ret
      exact ⟨rfl, rfl⟩
  · obtain rfl : r = false := by simp [h, h1]
    clear h
    go_enter Tryd.func82, Tryd.ntmps82
    go_wp2
    go_ret
    exact ⟨rfl, rfl⟩
set_option maxRecDepth 100000 in
theorem isNode_true (n : Int) (w : World) (h : 0 ≤ n ∧ n < 4) : Calls Tryd.prog 81 #[.int .i64 n] w fun e w' => e = .returned (.bool true) ∧ w = w' := isNode_bool n true w (by simp [h])
set_option maxRecDepth 100000 in
theorem isNode_false (n : Int) (w : World) (h : ¬ (0 ≤ n ∧ n < 4)) : Calls Tryd.prog 81 #[.int .i64 n] w fun e w' => e = .returned (.bool false) ∧ w = w' := isNode_bool n false w (by rw [decide_eq_false h])
set_option maxRecDepth 100000 in
theorem isRound_true (n : Int) (w : World) (h : 1 ≤ n ∧ n ≤ 1048576) : Calls Tryd.prog 82 #[.int .i64 n] w fun e w' => e = .returned (.bool true) ∧ w = w' := isRound_bool n true w (by simp [h])
set_option maxRecDepth 100000 in
theorem isRound_false (n : Int) (w : World) (h : ¬ (1 ≤ n ∧ n ≤ 1048576)) : Calls Tryd.prog 82 #[.int .i64 n] w fun e w' => e = .returned (.bool false) ∧ w = w' := isRound_bool n false w (by rw [decide_eq_false h])
end Go.Proofs.YtbmodfegcmaieaaDoor
