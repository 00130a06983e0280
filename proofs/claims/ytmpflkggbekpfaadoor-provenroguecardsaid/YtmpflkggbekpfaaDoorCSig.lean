/- seal.isNode, checkSign, for all signs. -/
import Derived.Test.YtmpflkggbekpfaaDoorSignsL
import Derived.Test.YtmpflkggbekpfaaDoorSx
import Derived.Test.YtmpflkggbekpfaaDoorCalls
import Derived.Deep.RegionHeld3
namespace Go.Proofs.YtmpflkggbekpfaaDoor
open Go.RowKit

set_option maxRecDepth 100000 in
theorem gNode_bool (n : Int) (r : Bool) (w : World) (h : r = decide (0 ≤ n ∧ n < 4)) : Calls Tryd.prog 33 #[.int .i64 n] w fun e w' => e = .returned (.bool r) ∧ w = w' := by
  by_cases h1 : 0 ≤ n
  · by_cases h2 : n < 4
    · obtain rfl : r = true := by simp [h, h1, h2]
      clear h
      go_enter Tryd.func33, Tryd.ntmps33
      go_wp2
      go_ret
      exact ⟨rfl, rfl⟩
    · obtain rfl : r = false := by simp [h, h2]
      clear h
      go_enter Tryd.func33, Tryd.ntmps33
      go_wp2
      go_ret
      exact ⟨rfl, rfl⟩
  · obtain rfl : r = false := by simp [h, h1]
    clear h
    go_enter Tryd.func33, Tryd.ntmps33
    go_wp2
    go_ret
    exact ⟨rfl, rfl⟩
set_option maxRecDepth 100000 in
set_option maxHeartbeats 1000000 in
theorem checkSign_any (nd au rd : Int) (sa : Option Addr) (n cap : Nat) (w : World) :
    Calls Tryd.prog 49 #[.agg #[.int .i64 nd, .int .i64 au, .int .i64 rd, .slice sa n cap]] w fun e w' => e = .returned (.int .i64 (signF nd au rd n)) ∧ Below w.heap.size w w' := by
  by_cases ha : 0 ≤ nd ∧ nd < 4
  · have hF : Hid (signF nd au rd n = slotF au rd n) := by show _ = _; rw [signF, if_neg (by simpa using ha)]
    have hA := (Below.refl w.heap.size w).alloc (Nat.le_refl _) (.cells #[.int .i64 nd, .int .i64 au, .int .i64 rd, .slice sa n cap] 52)
    go_enter Tryd.func49, Tryd.ntmps49
    go_wp2_with (first | (go_at_call 33; refine (gNode_bool _ true _ (by simp [ha])).mono ?_; rintro e w' ⟨rfl, rfl⟩) | (go_at_call 65; refine (checkSlot_any _ _ _ _ _ _).mono ?_; rintro e w' ⟨rfl, hb⟩))
    go_ret
    exact ⟨ret_int hF.out.symm, hA.trans (hb.mono hA.size)⟩
  · have hF : Hid (signF nd au rd n = 2) := by show _ = _; rw [signF, if_pos ha]
    go_enter Tryd.func49, Tryd.ntmps49
    go_wp2_with (go_at_call 33; refine (gNode_bool _ false _ (by simp [ha])).mono ?_; rintro e w' ⟨rfl, rfl⟩)
    go_ret
    exact ⟨ret_int hF.out.symm, (Below.refl _ _).alloc (Nat.le_refl _) _⟩
end Go.Proofs.YtmpflkggbekpfaaDoor
