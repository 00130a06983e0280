/- The walk of KnownSums. -/
import Derived.Test.YtkldpdekicljaaaDoorHexed
import Derived.Test.YtkldpdekicljaaaDoorKnown
import Derived.Lib.SlBytesConst
namespace Go.Proofs.YtkldpdekicljaaaDoor
open Go.RowKit

theorem hex_abc : bstr (hexTo (sumL [97, 98, 99]) (sumL [97, 98, 99]).length) = ⟨#[53, 48, 56, 99, 53, 101, 56, 99, 51, 50, 55, 99, 49, 52, 101, 50, 101, 49, 97, 55, 50, 98, 97, 51, 52, 101, 101, 98, 52, 53, 50, 102, 51, 55, 52, 53, 56, 98, 50, 48, 57, 101, 100, 54, 51, 97, 50, 57, 52, 100, 57, 57, 57, 98, 52, 99, 56, 54, 54, 55, 53, 57, 56, 50]⟩ := by rw [known_abc]; decide +kernel
theorem hex_nil : bstr (hexTo (sumL []) (sumL []).length) = ⟨#[54, 57, 50, 49, 55, 97, 51, 48, 55, 57, 57, 48, 56, 48, 57, 52, 101, 49, 49, 49, 50, 49, 100, 48, 52, 50, 51, 53, 52, 97, 55, 99, 49, 102, 53, 53, 98, 54, 52, 56, 50, 99, 97, 49, 97, 53, 49, 101, 49, 98, 50, 53, 48, 100, 102, 100, 49, 101, 100, 48, 101, 101, 102, 57]⟩ := by rw [known_nil]; decide +kernel
theorem u8_abc : AllU8 (sumL [97, 98, 99]) := by rw [known_abc]; unfold AllU8; decide
theorem u8_nil : AllU8 (sumL []) := by rw [known_nil]; unfold AllU8; decide

set_option maxRecDepth 100000 in
set_option maxHeartbeats 1000000 in
theorem knownSums_walk (w : World) (hT : Tabs w) :
    Calls Tryd.prog 5 #[] w fun e w' => e = .returned (.bool true) ∧ Below w.heap.size w w' := by
  have kc := fun (w : World) (C : Array Value) (n c : Nat) => Lib.run_convert_bytes_const (P := Tryd.prog) w 22 5 C n c Tryd.underlying22 Tryd.underlying5
  have hb0 : Below w.heap.size w (w.alloc (.cells #[.int .u8 97, .int .u8 98, .int .u8 99] 5 (3, 4))) := (Below.refl _ _).alloc (Nat.le_refl _) _
  have hs0 : SliceAt (w.alloc (.cells #[.int .u8 97, .int .u8 98, .int .u8 99] 5 (3, 4))) (some ⟨w.heap.size, 0, none⟩) 3 [97, 98, 99] :=
    ⟨by decide, by decide, .inr ⟨_, _, rfl⟩, .inr ⟨_, _, rfl, fun j hj => by
      have hr : (w.alloc (.cells #[.int .u8 97, .int .u8 98, .int .u8 99] 5 (3, 4))).heap[w.heap.size]? = some (.cells #[.int .u8 97, .int .u8 98, .int .u8 99] 5 (3, 4)) := heap_alloc_new _ _
      rw [Nat.zero_add, cell_of_row _ _ j _ _ _ hr]
      have : j = 0 ∨ j = 1 ∨ j = 2 := by simp at hj; omega
      rcases this with rfl | rfl | rfl <;> rfl⟩⟩
  go_enter Tryd.func5, Tryd.ntmps5
  go_wp2_with fail
  refine (sum_ok [97, 98, 99] _ _ _ _ rfl (by decide) hs0 (hT.below hb0)).mono ?_
  rintro e w1 ⟨b1, rfl, hle1, hb1, hr1⟩
  go_wp2_with fail
  have hB1 := hb0.trans (hb1.mono hb0.size)
  refine (sum_ok [] _ _ _ _ rfl (by decide) ⟨Nat.le_refl _, by decide, .inl rfl, .inl rfl⟩ (hT.below hB1)).mono ?_
  rintro e w2 ⟨b2, rfl, hle2, hb2, hr2⟩
  go_wp2_with fail
  have hB2 := hB1.trans (hb2.mono hB1.size)
  refine (hexed_any (sumL [97, 98, 99]) _ _ _ _ _ (sumL_length _).symm (by rw [sumL_length]; decide) (hr1.below hb2) u8_abc hex_abc).mono ?_
  rintro e w3 ⟨rfl, hb3⟩
  go_wp2_with fail
  have hB3 := hB2.trans (hb3.mono hB2.size)
  refine (hexed_any (sumL []) _ _ _ _ _ (sumL_length _).symm (by rw [sumL_length]; decide) (hr2.below hb3) u8_nil hex_nil).mono ?_
  rintro e w4 ⟨rfl, hb4⟩
  go_wp2_with fail
  go_ret
  exact ⟨rfl, hB3.trans (hb4.mono hB3.size)⟩
end Go.Proofs.YtkldpdekicljaaaDoor
