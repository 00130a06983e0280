/- The document's In, for every number. -/
import Derived.Test.YtdjaafnghlcjbaaPK
namespace Go.Proofs.Ytdjaafnghlcjbaa
open Go.RowKit

set_option maxRecDepth 100000 in
theorem in_bool (n a b : Int) (r : Bool) (w : World) (h : r = decide (a ≤ n ∧ n ≤ b)) : Calls Try.prog 25 #[.int .i64 n, .int .i64 a, .int .i64 b] w fun e w' => e = .returned (.bool r) ∧ w = w' := by
  by_cases h1 : a ≤ n
  · by_cases h2 : n ≤ b
    · obtain rfl : r = true := by simp [h, h1, h2]
      clear h
      go_enter Try.func25, Try.ntmps25
      go_wp2
      go_ret
      exact ⟨rfl, rfl⟩
    · obtain rfl : r = false := by simp [h, h2]
      clear h
      go_enter Try.func25, Try.ntmps25
      go_wp2
      go_ret
      exact ⟨rfl, rfl⟩
  · obtain rfl : r = false := by simp [h, h1]
    clear h
    go_enter Try.func25, Try.ntmps25
    go_wp2
    go_ret
    exact ⟨rfl, rfl⟩
set_option maxRecDepth 100000 in
theorem in_true (n a b : Int) (w : World) (h : a ≤ n ∧ n ≤ b) : Calls Try.prog 25 #[.int .i64 n, .int .i64 a, .int .i64 b] w fun e w' => e = .returned (.bool true) ∧ w = w' := in_bool n a b true w (by simp [h])
set_option maxRecDepth 100000 in
theorem in_false (n a b : Int) (w : World) (h : ¬ (a ≤ n ∧ n ≤ b)) : Calls Try.prog 25 #[.int .i64 n, .int .i64 a, .int .i64 b] w fun e w' => e = .returned (.bool false) ∧ w = w' := in_bool n a b false w (by rw [decide_eq_false h])
end Go.Proofs.Ytdjaafnghlcjbaa
