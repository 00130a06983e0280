/- sheaveskeep.some: a digest of raw numbers. -/
import Derived.Test.YtnpjhpmgelaonabDoorGApp
import Derived.Test.YtnpjhpmgelaonabDoorGSteps
namespace Go.Proofs.YtnpjhpmgelaonabDoor
open Go.RowKit

def someL (n m : Int) : List Int := (((List.replicate 32 0).set 0 (pk n 256)).set 1 (m % 256)).set 31 1
set_option maxRecDepth 100000 in
theorem someL_length (n m : Int) : (someL n m).length = 32 := by simp [someL]
set_option maxRecDepth 100000 in
theorem makeSome (w : World) : (Instr.makeSlice 54 (.int .i64 32) (.int .i64 32)).run Tryd.prog w = .ok (.slice (some ⟨w.heap.size, 0, none⟩) 32 32) (w.alloc (.cells (ub (List.replicate 32 0)).toArray 5)) := by kernel_rfl
set_option maxRecDepth 100000 in
theorem ub_set (l : List Int) (i : Nat) (x : Int) : (ub l).set i (.int .u8 x) = ub (l.set i x) := by simp [ub, List.map_set]

set_option maxRecDepth 100000 in
set_option maxHeartbeats 1000000 in
theorem some_any (n m : Int) (w : World) (hn : I64 n) :
    Calls Tryd.prog 23 #[.int .i64 n, .int .i64 m] w fun e w' => e = .returned (.slice (some ⟨w.heap.size, 0, none⟩) 32 32) ∧ w'.ownsRow w.heap.size 5 1 (.slice (some ⟨w.heap.size, 0, none⟩) 32 32) 32 (ub (someL n m)) ∧ Below w.heap.size w w' := by
  have hmk := fun w => makeSome w
  have ho := World.ownsRow_lit (base := w.heap.size) (e := 5) (size := 1) w (ub (List.replicate 32 0)).toArray 32 (Nat.le_refl _) (by decide) rfl
  have c0 := (World.ownsRow.cellAt ho 0 (by omega))
  have c1 := (World.ownsRow.cellAt ho 1 (by omega))
  have c31 := (World.ownsRow.cellAt ho 31 (by omega))
  have f0 := World.ownsRow.frozenAt ho 0
  have f1 := World.ownsRow.frozenAt ho 1
  have f31 := World.ownsRow.frozenAt ho 31
  obtain ⟨hp0, hp1⟩ := pk_bounds n 256 (by decide)
  have hO := World.ownsRow_lit (base := w.heap.size) (e := 5) (size := 1) w (ub (someL n m)).toArray 32 (Nat.le_refl _) (by decide) (by simp [ub, someL])
  go_enter Tryd.func23, Tryd.ntmps23
  go_wp2_with (go_at_call 9; refine (picked_any n 256 _ hn.1 hn.2 (by decide) (by decide)).mono ?_; rintro e w' ⟨rfl, rfl⟩)
  go_ret
  refine ⟨rfl, ?_, (Below.refl _ _).alloc (Nat.le_refl _) _⟩
  rw [ub_set, ub_set, ub_set]
  exact hO
end Go.Proofs.YtnpjhpmgelaonabDoor
