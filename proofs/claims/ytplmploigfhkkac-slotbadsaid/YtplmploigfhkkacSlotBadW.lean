/- The walk of SlotBad. -/
import Derived.Test.YtplmploigfhkkacVoteM
import Derived.Test.YtplmploigfhkkacSome
import Derived.Test.YtplmploigfhkkacOpenR
import Derived.Deep.RegionHeld2
import Derived.Deep.CutRange
import Derived.Deep.DeepCutAuto
namespace Go.Proofs.Ytplmploigfhkkac
open Go.RowKit

set_option maxRecDepth 100000 in
set_option maxHeartbeats 2000000 in
theorem slotBad_walk (ki ra rb rc : Int) (sa : Option Addr) (cap : Nat) (ss : List ByteArray) (n : Int) (w : World) (_h1 : I64 ki) (h2 : I64 ra) (h3 : I64 rb) (h4 : I64 rc) (_h5 : TextsAt w sa cap ss) (n0 : -9223372036854775808 ≤ n) (n1 : n ≤ 9223372036854775807) :
    Calls Try.prog 5 #[.agg #[.int .i64 ki, .int .i64 ra, .int .i64 rb, .int .i64 rc, .slice sa ss.length cap], .int .i64 n] w fun e w' => e = .returned (.bool true) ∧ Below w.heap.size w w' := by
  obtain ⟨pa0, pa1⟩ := pk_bounds ra 4 (by decide)
  obtain ⟨pb0, pb1⟩ := pk_bounds rb 9 (by decide)
  have q0 := heap_alloc_new w (.cells #[.int .i64 ki, .int .i64 ra, .int .i64 rb, .int .i64 rc, .slice sa ss.length cap] 24)
  have k1 := cells_at q0 1 _ rfl
  have k2 := cells_at q0 2 _ rfl
  have k3 := cells_at q0 3 _ rfl
  have hw : IntKind.i64.wrap (1 + pk rb 9) = 1 + pk rb 9 := by rw [IntKind.wrap_i64]; omega
  go_enter Try.func5, Try.ntmps5
  go_upto_region 1 with (fail)
  go_cut [5] (fun v wx => ∃ b g, v = .pointer (some ⟨b, 0, none⟩) ∧ w.heap.size ≤ b ∧ Below w.heap.size w wx ∧ wx.heap[b]? = some (.cells #[.int .i64 (pk ra 4), .int .i64 (1 + pk rb 9), .slice (some ⟨g, 0, none⟩) 32 32] 32 (0, 0)))
  case first =>
    go_region_held2 (fun w' => w'.cell? ⟨w.heap.size, 1, none⟩ = some (.int .i64 ra) ∧ w'.cell? ⟨w.heap.size, 2, none⟩ = some (.int .i64 rb) ∧ w'.cell? ⟨w.heap.size, 3, none⟩ = some (.int .i64 rc)) (go_keep) (first | (go_at_call 7; refine (picked_any _ _ _ (by first | exact h2.1 | exact h3.1) (by first | exact h2.2 | exact h3.2) (by omega) (by omega)).mono ?_; rintro e w9 ⟨rfl, rfl⟩) | (go_at_call 13; refine (some_any rc 1 _ h4).mono ?_; rintro e w1 ⟨rfl, ho1, hb1⟩; first | (have r0 := row_new (below_drew hb1); have c1 := cells_at r0 1 _ rfl; have c2 := cells_at r0 2 _ rfl; have c3 := cells_at r0 3 _ rfl) | (have r1 := row_new (below_drew hb1); have r0 := row_new (below_alloc (below_drew hb1)); rw [size_alloc] at r1; have c1 := cells_at r0 1 _ rfl; have c2 := cells_at r0 2 _ rfl; have c3 := cells_at r0 3 _ rfl; have d0 := cells_at r1 0 _ rfl; have d1 := cells_at r1 1 _ rfl; have d2 := cells_at r1 2 _ rfl; have f0 := frozen_at r1 0; have f1 := frozen_at r1 1; have f2 := frozen_at r1 2)))
    all_goals
      go_wp2_with fail
      go_meet
      case rel =>
        first
          | exact ⟨_, _, rfl, (below_alloc (below_drew hb1)).size, (below_alloc (below_drew hb1)).alloc (below_alloc (below_drew hb1)).size _, heap_alloc_new _ _⟩
          | exact ⟨w.heap.size + 1, _, rfl, Nat.le_succ _, (((below_alloc (below_alloc (below_drew hb1))).setCell (Nat.le_succ _) _).setCell (Nat.le_succ _) _).setCell (Nat.le_succ _) _, by simpa using heap_setCell_same _ _ 2 _ _ _ (heap_setCell_same _ _ 1 _ _ _ (heap_setCell_same _ _ 0 _ _ _ r1))⟩
  case rest =>
    obtain ⟨b, g, rfl, hbw, hW, hr⟩ := hcut
    clear k1 k2 k3 q0
    have c0 := cells_at hr 0 _ rfl
    have c1 := cells_at hr 1 _ rfl
    have c2 := cells_at hr 2 _ rfl
    have hF : slotF (pk ra 4) (1 + pk rb 9) 32 = 0 := by
      have e1 : 0 ≤ pk ra 4 ∧ pk ra 4 < 4 := ⟨pa0, pa1⟩
      have e2 : 1 ≤ 1 + pk rb 9 ∧ 1 + pk rb 9 ≤ 1048576 := ⟨by omega, by omega⟩
      simp [slotF, e1, e2]
    go_wp2_with fail
    refine (checkSlot_any _ _ _ _ _ _).mono ?_
    rintro e w2 ⟨rfl, hb2⟩
    rw [hF]
    have hr2 := (hb2.block b (lt_of_heap hr)).trans hr
    have hW2 := hW.trans (hb2.mono hW.size)
    clear c0 c1 c2
    have c0 := cells_at hr2 0 _ rfl
    have c1 := cells_at hr2 1 _ rfl
    have c2 := cells_at hr2 2 _ rfl
    have f0 := frozen_at hr2 0
    have f1 := frozen_at hr2 1
    have f2 := frozen_at hr2 2
    obtain ⟨pn0, pn1⟩ := pk_bounds n 4 (by decide)
    go_wp2_with fail
    refine (picked_any n 4 _ n0 n1 (by decide) (by decide)).mono ?_
    rintro e w3 ⟨rfl, rfl⟩
    generalize pk n 4 = q at *
    have hq : q = 0 ∨ q = 1 ∨ q = 2 ∨ q = 3 := by omega
    rcases hq with rfl | rfl | rfl | rfl
    · have hF2 : slotF (4) (1 + pk rb 9) 32 = 2 := by
        have e1 : 0 ≤ pk ra 4 ∧ pk ra 4 < 4 := ⟨pa0, pa1⟩
        have e2 : 1 ≤ 1 + pk rb 9 ∧ 1 + pk rb 9 ≤ 1048576 := ⟨by omega, by omega⟩
        simp [slotF, e2]
      have hs2 := heap_setCell_same w2 b 0 _ _ (.int .i64 4) hr2
      have hWs := hW2.setCell (p := ⟨b, 0, none⟩) hbw (.int .i64 4)
      go_wp2_with fail
      refine (checkSlot_any _ _ _ _ _ _).mono ?_
      rintro e w3 ⟨rfl, hb3⟩
      rw [hF2]
      have hr3 := (hb3.block b (lt_of_heap hs2)).trans hs2
      have hW3 := hWs.trans (hb3.mono hWs.size)
      have d0 := cells_at hr3 0 _ rfl
      have d1 := cells_at hr3 1 _ rfl
      have d2 := cells_at hr3 2 _ rfl
      go_wp2_with fail
      refine (check_vote 0 0 (4) (1 + pk rb 9) _ _ _ _ (by omega) (by omega)).mono ?_
      rintro e w4 ⟨rfl, hb4⟩
      rw [hF2]
      go_wp2_with fail
      go_ret
      exact ⟨by first | rfl | simp, hW3.trans (hb4.mono hW3.size)⟩
    · have hF2 : slotF (pk ra 4) (0) 32 = 2 := by
        have e1 : 0 ≤ pk ra 4 ∧ pk ra 4 < 4 := ⟨pa0, pa1⟩
        have e2 : 1 ≤ 1 + pk rb 9 ∧ 1 + pk rb 9 ≤ 1048576 := ⟨by omega, by omega⟩
        simp [slotF, e1]
      have hs2 := heap_setCell_same w2 b 1 _ _ (.int .i64 0) hr2
      have hWs := hW2.setCell (p := ⟨b, 1, none⟩) hbw (.int .i64 0)
      go_wp2_with fail
      refine (checkSlot_any _ _ _ _ _ _).mono ?_
      rintro e w3 ⟨rfl, hb3⟩
      rw [hF2]
      have hr3 := (hb3.block b (lt_of_heap hs2)).trans hs2
      have hW3 := hWs.trans (hb3.mono hWs.size)
      have d0 := cells_at hr3 0 _ rfl
      have d1 := cells_at hr3 1 _ rfl
      have d2 := cells_at hr3 2 _ rfl
      go_wp2_with fail
      refine (check_vote 0 0 (pk ra 4) (0) _ _ _ _ (by omega) (by omega)).mono ?_
      rintro e w4 ⟨rfl, hb4⟩
      rw [hF2]
      go_wp2_with fail
      go_ret
      exact ⟨by first | rfl | simp, hW3.trans (hb4.mono hW3.size)⟩
    · have hF2 : slotF (pk ra 4) (1048577) 32 = 2 := by
        have e1 : 0 ≤ pk ra 4 ∧ pk ra 4 < 4 := ⟨pa0, pa1⟩
        have e2 : 1 ≤ 1 + pk rb 9 ∧ 1 + pk rb 9 ≤ 1048576 := ⟨by omega, by omega⟩
        simp [slotF, e1]
      have hs2 := heap_setCell_same w2 b 1 _ _ (.int .i64 1048577) hr2
      have hWs := hW2.setCell (p := ⟨b, 1, none⟩) hbw (.int .i64 1048577)
      go_wp2_with fail
      refine (checkSlot_any _ _ _ _ _ _).mono ?_
      rintro e w3 ⟨rfl, hb3⟩
      rw [hF2]
      have hr3 := (hb3.block b (lt_of_heap hs2)).trans hs2
      have hW3 := hWs.trans (hb3.mono hWs.size)
      have d0 := cells_at hr3 0 _ rfl
      have d1 := cells_at hr3 1 _ rfl
      have d2 := cells_at hr3 2 _ rfl
      go_wp2_with fail
      refine (check_vote 0 0 (pk ra 4) (1048577) _ _ _ _ (by omega) (by omega)).mono ?_
      rintro e w4 ⟨rfl, hb4⟩
      rw [hF2]
      go_wp2_with fail
      go_ret
      exact ⟨by first | rfl | simp, hW3.trans (hb4.mono hW3.size)⟩
    · have hF2 : slotF (pk ra 4) (1 + pk rb 9) 31 = 4 := by
        have e1 : 0 ≤ pk ra 4 ∧ pk ra 4 < 4 := ⟨pa0, pa1⟩
        have e2 : 1 ≤ 1 + pk rb 9 ∧ 1 + pk rb 9 ≤ 1048576 := ⟨by omega, by omega⟩
        simp [slotF, e1, e2]
      have hs2 := heap_setCell_same w2 b 2 _ _ (.slice (some ⟨g, 0, none⟩) 31 32) hr2
      have hWs := hW2.setCell (p := ⟨b, 2, none⟩) hbw (.slice (some ⟨g, 0, none⟩) 31 32)
      go_wp2_with fail
      refine (checkSlot_any _ _ _ _ _ _).mono ?_
      rintro e w3 ⟨rfl, hb3⟩
      rw [hF2]
      have hr3 := (hb3.block b (lt_of_heap hs2)).trans hs2
      have hW3 := hWs.trans (hb3.mono hWs.size)
      have d0 := cells_at hr3 0 _ rfl
      have d1 := cells_at hr3 1 _ rfl
      have d2 := cells_at hr3 2 _ rfl
      go_wp2_with fail
      refine (check_vote 0 0 (pk ra 4) (1 + pk rb 9) _ _ _ _ (by omega) (by omega)).mono ?_
      rintro e w4 ⟨rfl, hb4⟩
      rw [hF2]
      go_wp2_with fail
      go_ret
      exact ⟨by first | rfl | simp, hW3.trans (hb4.mono hW3.size)⟩
end Go.Proofs.Ytplmploigfhkkac
