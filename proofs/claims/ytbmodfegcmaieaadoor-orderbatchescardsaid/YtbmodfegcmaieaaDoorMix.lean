/- blake.turn and blake.mix: what each call answers and does to memory, for every word and every row of sixteen words; the four places of mix are apart. -/
import Derived.Test.YtbmodfegcmaieaaDoorK
import Derived.Deep.QuietTactic
import Derived.BigQuiet
import Derived.BigRegion
import Derived.Deep.CutRange
namespace Go.Proofs.YtbmodfegcmaieaaDoor
open Go.RowKit

set_option maxRecDepth 100000 in
set_option maxHeartbeats 400000 in
theorem turn_any (x n : Int) (w : World) (h : n = 16 ∨ n = 12 ∨ n = 8 ∨ n = 7) :
    Calls Tryd.prog 137 #[.int .u32 x, .int .i64 n] w fun e w' => e = .returned (.int .u32 (rotI n x)) ∧ w' = w := by
  have e1 : bits .and .u64 (IntKind.u64.wrap (-16)) 31 = 16 := by decide
  have e2 : bits .and .u64 (IntKind.u64.wrap (-12)) 31 = 20 := by decide
  have e3 : bits .and .u64 (IntKind.u64.wrap (-8)) 31 = 24 := by decide
  have e4 : bits .and .u64 (IntKind.u64.wrap (-7)) 31 = 25 := by decide
  rcases h with rfl | rfl | rfl | rfl
  all_goals
    go_enter Tryd.func137, Tryd.ntmps137
    go_wp2
    go_ret
    exact ⟨rfl, rfl⟩

set_option maxRecDepth 100000 in
set_option maxHeartbeats 1000000 in
theorem mix_cells (bv l0 l1 l2 l3 : Nat) (a b c d x y : Int) (w : World) (hbv : bv < w.heap.size)
   (h0 : l0 < 16) (h1 : l1 < 16) (h2 : l2 < 16) (h3 : l3 < 16)
   (n01 : ¬ l0 = l1) (n02 : ¬ l0 = l2) (n03 : ¬ l0 = l3) (n12 : ¬ l1 = l2) (n13 : ¬ l1 = l3) (n23 : ¬ l2 = l3)
   (ha : w.cell? ⟨bv, l0, none⟩ = some (.int .u32 a)) (hb : w.cell? ⟨bv, l1, none⟩ = some (.int .u32 b)) (hc : w.cell? ⟨bv, l2, none⟩ = some (.int .u32 c)) (hd : w.cell? ⟨bv, l3, none⟩ = some (.int .u32 d))
   (fa : ∀ j, w.frozen? ⟨bv, j, none⟩ = false) :
    Calls Tryd.prog 130 #[.pointer (some ⟨bv, 0, none⟩), .agg #[.int .u8 l0, .int .u8 l1, .int .u8 l2, .int .u8 l3], .int .u32 x, .int .u32 y] w fun e w' => e = .returned (.tuple #[]) ∧ ∃ n, w' = (((((w.alloc (.cells #[.int .u8 l0, .int .u8 l1, .int .u8 l2, .int .u8 l3] 173)).drewN n).setCell ⟨bv, l0, none⟩ (.int .u32 (mA a b c d x y))).setCell ⟨bv, l1, none⟩ (.int .u32 (mB a b c d x y))).setCell ⟨bv, l2, none⟩ (.int .u32 (mC a b c d x y))).setCell ⟨bv, l3, none⟩ (.int .u32 (mD a b c d x y)) := by
  have g0 : (l0 : Int) < 16 := by omega
  have g1 : (l1 : Int) < 16 := by omega
  have g2 : (l2 : Int) < 16 := by omega
  have g3 : (l3 : Int) < 16 := by omega
  go_enter Tryd.func130, Tryd.ntmps130
  go_wp2
  go_quiet (fail)
  go_wp2_with (go_at_call 137; refine (turn_any _ _ _ (by decide)).mono ?_; rintro e w' ⟨rfl, rfl⟩)
  go_region
  go_end0
  exact ⟨rfl, _, rfl⟩

set_option maxRecDepth 100000 in
/-- blake.mix: the row of sixteen words is rewritten as P1.2 says. -/
theorem mix_any (vs : List Int) (bv l0 l1 l2 l3 : Nat) (x y : Int) (w : World) (hl : vs.length = 16) (hb : w.heap[bv]? = some (.cells (ua vs) 168 (0, 0)))
   (h0 : l0 < 16) (h1 : l1 < 16) (h2 : l2 < 16) (h3 : l3 < 16)
   (n01 : ¬ l0 = l1) (n02 : ¬ l0 = l2) (n03 : ¬ l0 = l3) (n12 : ¬ l1 = l2) (n13 : ¬ l1 = l3) (n23 : ¬ l2 = l3) :
    Calls Tryd.prog 130 #[.pointer (some ⟨bv, 0, none⟩), .agg #[.int .u8 l0, .int .u8 l1, .int .u8 l2, .int .u8 l3], .int .u32 x, .int .u32 y] w fun e w' => e = .returned (.tuple #[]) ∧ Upd bv (.cells (ua (mixL vs l0 l1 l2 l3 x y)) 168 (0, 0)) w w' := by
  have hc : ∀ j, j < 16 → w.cell? ⟨bv, j, none⟩ = some (.int .u32 (vs.getD j 0)) := fun j hj => by
    rw [cell_of_row w bv j _ _ _ hb, ua_get _ _ (by omega)]
  refine (mix_cells bv l0 l1 l2 l3 _ _ _ _ x y w (lt_of_heap hb) h0 h1 h2 h3 n01 n02 n03 n12 n13 n23 (hc _ h0) (hc _ h1) (hc _ h2) (hc _ h3) (fun j => frozen_of_row w bv j _ _ hb)).mono ?_
  rintro e w' ⟨rfl, n, rfl⟩
  refine ⟨rfl, ?_⟩
  have h := (((((Upd.refl hb).alloc (.cells #[.int .u8 l0, .int .u8 l1, .int .u8 l2, .int .u8 l3] 173)).drewN n).setCell l0 (.int .u32 (mA (vs.getD l0 0) (vs.getD l1 0) (vs.getD l2 0) (vs.getD l3 0) x y))).setCell l1 (.int .u32 (mB (vs.getD l0 0) (vs.getD l1 0) (vs.getD l2 0) (vs.getD l3 0) x y))).setCell l2 (.int .u32 (mC (vs.getD l0 0) (vs.getD l1 0) (vs.getD l2 0) (vs.getD l3 0) x y)) |>.setCell l3 (.int .u32 (mD (vs.getD l0 0) (vs.getD l1 0) (vs.getD l2 0) (vs.getD l3 0) x y))
  rw [ua_set, ua_set, ua_set, ua_set] at h
  exact h
end Go.Proofs.YtbmodfegcmaieaaDoor
