/- The document's words of 32 bits, reckoned in 64: the same numbers. For all words. -/
import Derived.Test.YtbmodfegcmaieaaDoorApp
import Derived.Test.YtbmodfegcmaieaaDoorOrderBatchesM12
import Derived.Test.YtbmodfegcmaieaaDoorAppT
import Derived.Lib.ConvBytes
import Derived.Deep.RegionHeld3
import Derived.Deep.CutRange
import Derived.Deep.DeepCutAuto
import Derived.Test.YtbmodfegcmaieaaDoorAppB
import Derived.Test.YtbmodfegcmaieaaDoorPK
import Derived.Test.YtbmodfegcmaieaaDoorStrs
import Derived.Test.YtbmodfegcmaieaaDoorK
namespace Go.Proofs.YtbmodfegcmaieaaDoor
open Go.RowKit

set_option maxRecDepth 100000 in
set_option maxHeartbeats 1000000 in
theorem joined_any (xs ys : List Int) (sa sb : Option Addr) (n m c d : Nat) (w : World) (hn : n = xs.length) (hm : m = ys.length) (ha : SliceAt w sa c xs) (hb : SliceAt w sb d ys) (hl : xs.length + ys.length ≤ 140737488355328) :
    Calls Tryd.prog 68 #[.slice sa n c, .slice sb m d] w fun e w' => ∃ v, e = .returned v ∧ w'.ownsRow w.heap.size 5 1 v (xs.length + ys.length) (ub (xs ++ ys)) ∧ Below w.heap.size w w' := by
  subst hn hm
  obtain ⟨i, hi, hz0, hz1, hz2⟩ := info_parts infoU8
  go_enter Tryd.func68, Tryd.ntmps68
  go_wp2_with fail
  go_loopw [6, 5] (fun j v wr => ∃ k : Nat, k ≤ xs.length ∧ j = .int .i64 k ∧ Below w.heap.size w wr ∧ wr.ownsRow w.heap.size 5 1 v (k) (ub (xs.take k))) (fun j _ _ => xs.length - (intOf j).toNat)
  case atStart => exact ⟨0, Nat.zero_le _, rfl, Below.refl _ _, World.ownsRow_nil _ _ _ _⟩
  case round =>
    obtain ⟨k, hk, rfl, hbw, ho⟩ := hrel
    by_cases hlt : k < xs.length
    · obtain ⟨tb, tq, rfl, hc⟩ : ∃ tb tq, sa = some ⟨tb, tq, none⟩ ∧ ∀ j, j < xs.length → w.cell? ⟨tb, tq + j, none⟩ = some (.int .u8 (xs.getD j 0)) := by
        rcases ha.bytes with h | h
        · rw [h] at hlt; simp at hlt
        · exact h
      have ck := (hbw.cell (p := ⟨tb, tq + k, none⟩) (block_lt_of_cell (hc k hlt))).trans (hc k hlt)
      have hltI : (k : Int) < xs.length := by omega
      have hst : Hid (xs.take (k + 1) = xs.take k ++ [xs.getD k 0]) := by
        show _ = _
        rw [List.take_succ_eq_append_getElem hlt]
        simp [List.getD, hlt]
      clear hc
      generalize xs.getD k 0 = x at ck hst
      go_wp2_with (at_builtin; refine wpList_append_own _ rfl _ _ 46 rfl w.heap.size 5 i (.int .u8 0) 1 1 Tryd.underlying46 hi hz0 hz1 hz2 rfl (by decide) _ (k) _ rfl (World.ownsRow.alloc ho _) ⟨wr.heap.size, 0, none⟩ 1 1 [.int .u8 x] rfl rfl (cells_new _ _ _) (u8_one [_]) (by unfold maxLen; omega) (by omega) (le_alloc hbw.size _) ?_; intro v1 w2 ho1 hg1 _)
      have hb2 := Below.grown (hbw.alloc hbw.size _) hg1 (le_alloc hbw.size _) (fun q e => (ho.lt q e).1)
      go_roundw
      case rel =>
        have hR : ∃ k' : Nat, k' ≤ xs.length ∧ (Value.int .i64 ((k : Int) + 1)) = .int .i64 k' ∧ Below w.heap.size w w2 ∧ w2.ownsRow w.heap.size 5 1 v1 (k') (ub (xs.take k')) :=
          ⟨k + 1, by omega, by go_num, hb2, by rw [hst.out]; simpa [ub, Nat.add_assoc] using ho1⟩
        first | exact hR | ((repeat apply Exists.intro); exact ⟨hR, rfl⟩)
      case measure => simp [intOf]; omega
    · obtain rfl : k = xs.length := by omega
      rw [List.take_of_length_le (Nat.le_refl _)] at ho
      go_wp2_with fail
      go_loopw [7, 5] (fun j v wr => ∃ k : Nat, k ≤ ys.length ∧ j = .int .i64 k ∧ Below w.heap.size w wr ∧ wr.ownsRow w.heap.size 5 1 v (xs.length + k) (ub (xs ++ ys.take k))) (fun j _ _ => ys.length - (intOf j).toNat)
      case atStart => exact ⟨0, Nat.zero_le _, rfl, hbw, by simpa using ho⟩
      case round =>
        clear ho hbw
        obtain ⟨k, hk, rfl, hbw, ho⟩ := hrel
        by_cases hlt : k < ys.length
        · obtain ⟨tb, tq, rfl, hc⟩ : ∃ tb tq, sb = some ⟨tb, tq, none⟩ ∧ ∀ j, j < ys.length → w.cell? ⟨tb, tq + j, none⟩ = some (.int .u8 (ys.getD j 0)) := by
            rcases hb.bytes with h | h
            · rw [h] at hlt; simp at hlt
            · exact h
          have ck := (hbw.cell (p := ⟨tb, tq + k, none⟩) (block_lt_of_cell (hc k hlt))).trans (hc k hlt)
          have hltI : (k : Int) < ys.length := by omega
          have hst : Hid (ys.take (k + 1) = ys.take k ++ [ys.getD k 0]) := by
            show _ = _
            rw [List.take_succ_eq_append_getElem hlt]
            simp [List.getD, hlt]
          clear hc
          generalize ys.getD k 0 = x at ck hst
          go_wp2_with (at_builtin; refine wpList_append_own _ rfl _ _ 46 rfl w.heap.size 5 i (.int .u8 0) 1 1 Tryd.underlying46 hi hz0 hz1 hz2 rfl (by decide) _ (xs.length + k) _ rfl (World.ownsRow.alloc ho _) ⟨wr.heap.size, 0, none⟩ 1 1 [.int .u8 x] rfl rfl (cells_new _ _ _) (u8_one [_]) (by unfold maxLen; omega) (by omega) (le_alloc hbw.size _) ?_; intro v1 w2 ho1 hg1 _)
          have hb2 := Below.grown (hbw.alloc hbw.size _) hg1 (le_alloc hbw.size _) (fun q e => (ho.lt q e).1)
          go_roundw
          case rel =>
            have hR : ∃ k' : Nat, k' ≤ ys.length ∧ (Value.int .i64 ((k : Int) + 1)) = .int .i64 k' ∧ Below w.heap.size w w2 ∧ w2.ownsRow w.heap.size 5 1 v1 (xs.length + k') (ub (xs ++ ys.take k')) :=
              ⟨k + 1, by omega, by go_num, hb2, by rw [hst.out]; simpa [ub, Nat.add_assoc] using ho1⟩
            first | exact hR | ((repeat apply Exists.intro); exact ⟨hR, rfl⟩)
          case measure => simp [intOf]; omega
        · obtain rfl : k = ys.length := by omega
          rw [List.take_of_length_le (Nat.le_refl _)] at ho
          go_wp2_with fail
          go_ret
          exact ⟨_, rfl, ho, hbw⟩
end Go.Proofs.YtbmodfegcmaieaaDoor

namespace Go.Proofs.YtbmodfegcmaieaaDoor
open Go.RowKit

set_option maxRecDepth 100000 in
theorem bytesWorld_below (w : World) (e : TypeId) (s : ByteArray) : Below w.heap.size w (Lib.bytesWorld w e s) := ⟨rfl, rfl, rfl, by rw [Lib.bytesWorld_size]; omega, fun k hk => Lib.bytesWorld_at_old w e s k hk⟩
set_option maxRecDepth 100000 in
theorem bytesWorld_slice (w : World) (s : ByteArray) (hs : s.size ≤ 1000) : SliceAt (Lib.bytesWorld w 5 s) (some ⟨w.heap.size, 0, none⟩) (grownCap w s.size 0 5) (tb s) := by
  refine ⟨by rw [tb_length]; exact grownCap_ge w s.size 0 _, grownCap_le_maxLen w s.size 0 _ (by unfold maxLen; omega), .inr ⟨_, _, rfl⟩, (fun e => by cases e), .inr ⟨w.heap.size, 0, rfl, fun j hj => ?_⟩⟩
  rw [tb_length] at hj
  rw [Nat.zero_add, Lib.bytesWorld_cell w _ s j hj]
  simp [tb, List.getD, hj]
set_option maxRecDepth 100000 in
theorem slice_row {w : World} {b : Nat} {a : Int} {t : TypeId} (h : w.heap[b]? = some (.cells #[.int .u8 a] t (0, 0))) : SliceAt w (some ⟨b, 0, none⟩) 1 [a] :=
  ⟨Nat.le_refl _, by decide, .inr ⟨_, _, rfl⟩, (fun e => by cases e), .inr ⟨b, 0, rfl, fun j hj => by
    obtain rfl : j = 0 := by simpa using hj
    exact cells_at h 0 _ rfl⟩⟩
end Go.Proofs.YtbmodfegcmaieaaDoor

namespace Go.Proofs.YtbmodfegcmaieaaDoor
open Go.RowKit

set_option maxRecDepth 100000 in
set_option maxHeartbeats 2000000 in
theorem batchBytes_any (au nu : Int) (sa : Option Addr) (n cap : Nat) (ss : List ByteArray) (w : World) (ha : 0 ≤ au ∧ au < 4) (hr : 0 ≤ nu ∧ nu ≤ 1048576) (hn : n = ss.length) (hl : ss.length ≤ 4) (hz : ∀ s ∈ ss, s.size ≤ 20) (hs : StrsAt w sa ss) :
    Calls Tryd.prog 51 #[.agg #[.int .i64 au, .int .i64 nu, .slice sa n cap]] w fun e w' => ∃ v, e = .returned v ∧ w'.ownsRow w.heap.size 5 1 v (batchB au nu ss).length (ub (batchB au nu ss)) ∧ Below w.heap.size w w' := by
  subst hn
  obtain ⟨i, hi, hz0, hz1, hz2⟩ := info_parts infoU8
  obtain ⟨ha0, ha1⟩ := ha
  have q0 := heap_alloc_new w (.cells #[.int .i64 au, .int .i64 nu, .slice sa ss.length cap] 42)
  have k0 : (w.alloc (.cells #[.int .i64 au, .int .i64 nu, .slice sa ss.length cap] 42)).cell? ⟨w.heap.size, 0, none⟩ = some (.int .i64 au) := cells_at q0 0 _ rfl
  have k1 : (w.alloc (.cells #[.int .i64 au, .int .i64 nu, .slice sa ss.length cap] 42)).cell? ⟨w.heap.size, 1, none⟩ = some (.int .i64 nu) := cells_at q0 1 _ rfl
  have wu : IntKind.u8.wrap au = au := by rw [IntKind.wrap_u8']; omega
  have hJ : ∀ (wx : World) (xa ya : Option Addr) (c d : Nat), SliceAt wx xa c [au] → SliceAt wx ya d (rd3 nu) → Calls Tryd.prog 68 #[.slice xa 1 c, .slice ya 3 d] wx fun e w' => ∃ v, e = .returned v ∧ w'.ownsRow wx.heap.size 5 1 v 4 (ub ([au] ++ rd3 nu)) ∧ Below wx.heap.size wx w' := fun wx xa ya c d h1 h2 => joined_any [au] (rd3 nu) xa ya 1 3 c d wx rfl rfl h1 h2 (by simp [rd3])
  have hT : ∀ wx, _ := fun wx => three_any nu wx hr
  have HJ : Hid _ := hJ
  have HT : Hid _ := hT
  clear hJ hT
  go_enter Tryd.func51, Tryd.ntmps51
  go_upto_region 1 with (fail)
  go_cut [3] (fun v wx => wx.ownsRow (w.heap.size + 1) 5 1 v 4 (ub ([au] ++ rd3 nu)) ∧ Below w.heap.size w wx ∧ wx.heap[w.heap.size]? = some (.cells #[.int .i64 au, .int .i64 nu, .slice sa ss.length cap] 42 (0, 0)))
  case first =>
    go_region_held3 (fun w' => w'.cell? ⟨w.heap.size, 0, none⟩ = some (.int .i64 au) ∧ w'.cell? ⟨w.heap.size, 1, none⟩ = some (.int .i64 nu)) (go_keep) (first | (go_at_call 69; refine (HT.out _).mono ?_; rintro e w1 ⟨rfl, ho1, hb1⟩; have s1 := (sliceAt_of_owns ho1).2; first | (have r1 := row_new (below_drew hb1); have t0 := row_new (below_alloc (below_drew hb1)); rw [size_alloc] at r1; have c0 : w1.cell? ⟨w.heap.size, 0, none⟩ = some (.int .i64 au) := cells_at t0 0 _ rfl; have c1 : w1.cell? ⟨w.heap.size, 1, none⟩ = some (.int .i64 nu) := cells_at t0 1 _ rfl) | (have t0 := row_new (below_drew hb1); have c0 : w1.cell? ⟨w.heap.size, 0, none⟩ = some (.int .i64 au) := cells_at t0 0 _ rfl; have c1 : w1.cell? ⟨w.heap.size, 1, none⟩ = some (.int .i64 nu) := cells_at t0 1 _ rfl)) | (go_at_call 68; first | (rw [heap_drew, size_alloc, size_alloc] at s1; refine (HJ.out _ _ _ _ _ (slice_row r1) s1).mono ?_; rintro e w3 ⟨v3, rfl, ho3, hb3⟩; have u0 := (hb3.block _ (lt_of_heap t0)).trans t0; have hB3 := (below_alloc (below_alloc (below_drew hb1))).trans (hb3.mono (below_alloc (below_alloc (below_drew hb1))).size); have ho3' := ownsRow_base' ho3 (lt_of_heap t0); have c0 : w3.cell? ⟨w.heap.size, 0, none⟩ = some (.int .i64 au) := cells_at u0 0 _ rfl; have c1 : w3.cell? ⟨w.heap.size, 1, none⟩ = some (.int .i64 nu) := cells_at u0 1 _ rfl) | (rw [heap_drew, size_alloc] at s1; refine (HJ.out _ _ _ _ _ (slice_row (heap_alloc_new w1 _)) (s1.below ((Below.refl _ _).alloc (Nat.le_refl _) _))).mono ?_; rintro e w3 ⟨v3, rfl, ho3, hb3⟩; have u0 := ((below_alloc hb3).block _ (lt_of_heap t0)).trans t0; have hB3 := (below_alloc (below_drew hb1)).trans ((below_alloc hb3).mono (below_alloc (below_drew hb1)).size); have ho3' := ownsRow_base' ho3 (Nat.le_trans (lt_of_heap t0) (by simp)); have c0 : w3.cell? ⟨w.heap.size, 0, none⟩ = some (.int .i64 au) := cells_at u0 0 _ rfl; have c1 : w3.cell? ⟨w.heap.size, 1, none⟩ = some (.int .i64 nu) := cells_at u0 1 _ rfl)))
    all_goals
      go_wp2_with fail
      go_meet
      case rel => exact ⟨ho3', hB3, u0⟩
  case rest =>
    obtain ⟨ho, hW, r0⟩ := hcut
    clear k0 k1 q0 wu HJ HT
    have c2 : wc.cell? ⟨w.heap.size, 2, none⟩ = some (.slice sa ss.length cap) := cells_at r0 2 _ rfl
    have hlt0 : w.heap.size < wc.heap.size := lt_of_heap r0
    have hv0 : u3.ownBlock ≠ some w.heap.size := fun e => by have := (ho.lt _ e).1; omega
    go_wp2_with (at_builtin; refine wpList_append_own_at _ rfl _ _ 46 rfl (w.heap.size + 1) 5 i (.int .u8 0) 1 1 Tryd.underlying46 hi hz0 hz1 hz2 rfl (by decide) _ 4 _ rfl (World.ownsRow.alloc ho _) ⟨wc.heap.size, 0, none⟩ 1 1 [.int .u8 (ss.length : Int)] rfl rfl (cells_new _ _ _) (u8_one [_]) (by unfold maxLen; omega) (by omega) (le_alloc hlt0 _) ?_; intro v1 w1 ho1 hg1 _ hat; have G1 := (Grew.of hg1 hat).alloc)
    have ho1' : w1.ownsRow (w.heap.size + 1) 5 1 v1 5 (ub ([au] ++ rd3 nu ++ [(ss.length : Int)])) := by simpa [ub] using ho1
    have r1 := G1.row r0 hv0
    have hW1 : Below w.heap.size w w1 := hW.trans (G1.below hW.size (fun q e => by have := (ho.lt q e).1; omega))
    clear ho1 hg1 hat G1 r0 hW ho hv0 c2 hlt0
    go_loopw [4, 3] (fun j t wr => ∃ (m : Nat) (tv : Value), m ≤ ss.length ∧ j = .int .i64 m ∧ tv = t ∧ wr.ownsRow (w.heap.size + 1) 5 1 tv (5 + (txsB (ss.take m)).length) (ub ([au] ++ rd3 nu ++ [(ss.length : Int)] ++ txsB (ss.take m))) ∧ Below w.heap.size w wr ∧ wr.heap[w.heap.size]? = some (.cells #[.int .i64 au, .int .i64 nu, .slice sa ss.length cap] 42 (0, 0))) (fun j _ _ => ss.length - (intOf j).toNat)
    case atStart => exact ⟨0, _, Nat.zero_le _, rfl, rfl, by simpa [txsB] using ho1', hW1, r1⟩
    case round =>
      clear ho1' hW1 r1
      obtain ⟨m, tv, hm, rfl, rfl, ho, hW, r0⟩ := hrel
      have c2 : wr.cell? ⟨w.heap.size, 2, none⟩ = some (.slice sa ss.length cap) := cells_at r0 2 _ rfl
      have hlt0 : w.heap.size < wr.heap.size := lt_of_heap r0
      by_cases hlt : m < ss.length
      · obtain ⟨sb, so, rfl, hc⟩ : ∃ sb so, sa = some ⟨sb, so, none⟩ ∧ ∀ j, j < ss.length → w.cell? ⟨sb, so + j, none⟩ = some (.string (ss.getD j ByteArray.empty)) := by
          rcases hs.cells with h | h
          · rw [h] at hlt; simp at hlt
          · exact h
        have ck0 := hc m hlt
        have ck := (hW.cell (p := ⟨sb, so + m, none⟩) (block_lt_of_cell ck0)).trans ck0
        have hsz : (ss.getD m ByteArray.empty).size ≤ 20 := hz _ (by simp [List.getD, hlt])
        have hst : Hid (txsB (ss.take (m + 1)) = txsB (ss.take m) ++ (((ss.getD m ByteArray.empty).size : Int) :: tb (ss.getD m ByteArray.empty))) := by
          show _ = _
          rw [List.take_succ_eq_append_getElem hlt, txsB_snoc]
          simp only [List.getD, List.getElem?_eq_getElem hlt, Option.getD_some]
        have hLe : (txsB (ss.take m)).length ≤ 84 := by
          have h1 := txsB_le (ss.take m) (fun s h => hz s (List.mem_of_mem_take h))
          have h2 : (ss.take m).length ≤ 4 := by rw [List.length_take]; omega
          omega
        have hltI : (m : Int) < ss.length := by omega
        have hbt0 := block_lt_of_cell ck0
        clear hc
        generalize ss.getD m ByteArray.empty = x at ck ck0 hst hsz
        generalize txsB (ss.take m) = T at ho hst hLe
        have hv0 : tv.ownBlock ≠ some w.heap.size := fun e => by have := (ho.lt _ e).1; omega
        have hcv := fun wx : World => Lib.run_convert_string_bytes (P := Tryd.prog) wx 9 46 5 x Tryd.underlying9 Tryd.underlying46 Tryd.underlying5
        go_wp2_with (at_builtin; refine wpList_append_own_at _ rfl _ _ 46 rfl (w.heap.size + 1) 5 i (.int .u8 0) 1 1 Tryd.underlying46 hi hz0 hz1 hz2 rfl (by decide) _ (5 + T.length) _ rfl (World.ownsRow.alloc ho _) ⟨wr.heap.size, 0, none⟩ 1 1 [.int .u8 (x.size : Int)] rfl rfl (cells_new _ _ _) (u8_one [_]) (by unfold maxLen; omega) (by omega) (le_alloc hlt0 _) ?_; intro v4 w4 ho4 hg4 _ hat4; have G4 := (Grew.of hg4 hat4).alloc; have r4 := G4.row r0 hv0; have hW4 : Below w.heap.size w w4 := hW.trans (G4.below hW.size (fun q e => by have := (ho.lt q e).1; omega)); have d2 : w4.cell? ⟨w.heap.size, 2, none⟩ = some (.slice (some ⟨sb, so, none⟩) ss.length cap) := cells_at r4 2 _ rfl; have dk : w4.cell? ⟨sb, so + m, none⟩ = some (.string x) := (hW4.cell (p := ⟨sb, so + m, none⟩) hbt0).trans ck0)
        have ho4' : w4.ownsRow (w.heap.size + 1) 5 1 v4 (5 + T.length + 1) (ub ([au] ++ rd3 nu ++ [(ss.length : Int)] ++ T ++ [(x.size : Int)])) := by simpa [ub] using ho4
        obtain ⟨xa, xc, hv, hxl, hx⟩ := owns_form ho4'
        subst hv
        have hbx := bytesWorld_below w4 5 x
        have hJ := joined_any ([au] ++ rd3 nu ++ [(ss.length : Int)] ++ T ++ [(x.size : Int)]) (tb x) xa (some ⟨w4.heap.size, 0, none⟩) (5 + T.length + 1) x.size xc (grownCap w4 x.size 0 5) (Lib.bytesWorld w4 5 x) hxl (tb_length x).symm (hx.below hbx) (bytesWorld_slice w4 x (by omega)) (by rw [← hxl, tb_length]; omega)
        refine hJ.mono ?_
        rintro e w5 ⟨v5, rfl, ho5, hb5⟩
        rw [Lib.bytesWorld_size] at hb5 ho5
        have hB5 : Below w4.heap.size w4 w5 := ⟨hb5.os, hb5.tape, hb5.output, Nat.le_trans hbx.size hb5.size, fun k hk => (hb5.block k (by omega)).trans (hbx.block k hk)⟩
        have r5 := (hB5.block _ (lt_of_heap r4)).trans r4
        have hW5 := hW4.trans (hB5.mono hW4.size)
        have hl4 : w.heap.size + 1 ≤ w4.heap.size + 1 := by have := hW4.size; omega
        clear hJ hcv
        go_wp2_with fail
        go_roundw
        case rel =>
          have hR : ∃ (m' : Nat) (tv' : Value), m' ≤ ss.length ∧ (Value.int .i64 ((m : Int) + 1)) = .int .i64 m' ∧ tv' = v5 ∧ w5.ownsRow (w.heap.size + 1) 5 1 tv' (5 + (txsB (ss.take m')).length) (ub ([au] ++ rd3 nu ++ [(ss.length : Int)] ++ txsB (ss.take m'))) ∧ Below w.heap.size w w5 ∧ w5.heap[w.heap.size]? = some (.cells #[.int .i64 au, .int .i64 nu, .slice (some ⟨sb, so, none⟩) ss.length cap] 42 (0, 0)) :=
            ⟨m + 1, v5, by omega, by go_num, rfl, by
              rw [hst.out]
              have h9 := ownsRow_base' ho5 hl4
              rw [← hxl, tb_length] at h9
              simp only [List.length_append, List.length_cons, tb_length]
              rw [show 5 + (T.length + (x.size + 1)) = 5 + T.length + 1 + x.size by omega]
              simpa using h9, hW5, r5⟩
          first | exact hR | ((repeat apply Exists.intro); exact ⟨hR, rfl⟩)
        case measure => simp [intOf]; omega
      · obtain rfl : m = ss.length := by omega
        rw [List.take_of_length_le (Nat.le_refl _)] at ho
        have hltI : ¬ (ss.length : Int) < ss.length := by omega
        go_wp2_with fail
        go_ret
        refine ⟨_, rfl, ?_, hW⟩
        rw [show (batchB au nu ss).length = 5 + (txsB ss).length by simp [batchB, rd3]; omega]
        exact ownsRow_base' ho (Nat.le_succ _)
end Go.Proofs.YtbmodfegcmaieaaDoor

namespace Go.Proofs.YtbmodfegcmaieaaDoor
open Go.RowKit

set_option maxRecDepth 100000 in
theorem in_bool (n a b : Int) (r : Bool) (w : World) (h : r = decide (a ≤ n ∧ n ≤ b)) : Calls Tryd.prog 50 #[.int .i64 n, .int .i64 a, .int .i64 b] w fun e w' => e = .returned (.bool r) ∧ w = w' := by
  by_cases h1 : a ≤ n
  · by_cases h2 : n ≤ b
    · obtain rfl : r = true := by simp [h, h1, h2]
      clear h
      go_enter Tryd.func50, Tryd.ntmps50
      go_wp2
      go_ret
      exact ⟨rfl, rfl⟩
    · obtain rfl : r = false := by simp [h, h2]
      clear h
      go_enter Tryd.func50, Tryd.ntmps50
      go_wp2
      go_ret
      exact ⟨rfl, rfl⟩
  · obtain rfl : r = false := by simp [h, h1]
    clear h
    go_enter Tryd.func50, Tryd.ntmps50
    go_wp2
    go_ret
    exact ⟨rfl, rfl⟩
set_option maxRecDepth 100000 in
theorem in_true (n a b : Int) (w : World) (h : a ≤ n ∧ n ≤ b) : Calls Tryd.prog 50 #[.int .i64 n, .int .i64 a, .int .i64 b] w fun e w' => e = .returned (.bool true) ∧ w = w' := in_bool n a b true w (by simp [h])
set_option maxRecDepth 100000 in
theorem in_false (n a b : Int) (w : World) (h : ¬ (a ≤ n ∧ n ≤ b)) : Calls Tryd.prog 50 #[.int .i64 n, .int .i64 a, .int .i64 b] w fun e w' => e = .returned (.bool false) ∧ w = w' := in_bool n a b false w (by rw [decide_eq_false h])
end Go.Proofs.YtbmodfegcmaieaaDoor

namespace Go.Proofs.YtbmodfegcmaieaaDoor
open Go.RowKit

set_option maxRecDepth 100000 in
set_option maxHeartbeats 1000000 in
theorem batchFault_any (au nu : Int) (sa : Option Addr) (n cap : Nat) (ss : List ByteArray) (w : World) (hn : n = ss.length) (hm : n ≤ maxLen) (hs : StrsAt w sa ss) :
    Calls Tryd.prog 30 #[.agg #[.int .i64 au, .int .i64 nu, .slice sa n cap]] w fun e w' => e = .returned (.int .i64 (batchF au nu ss)) ∧ Below w.heap.size w w' := by
  subst hn
  unfold maxLen at hm
  by_cases ha : 0 ≤ au ∧ au < 4
  · by_cases hr : 1 ≤ nu ∧ nu ≤ 1048576
    · by_cases hl : ss.length < 1 ∨ 4 < ss.length
      · have hF : Hid (batchF au nu ss = 1) := by show _ = _; rw [batchF, if_neg (by simp [ha, hr]), if_pos hl]
        have hlI : ¬ (1 ≤ (ss.length : Int) ∧ (ss.length : Int) ≤ 4) := by omega
        rcases hl with hl | hl
        · have hl0 : ss.length = 0 := by omega
          rw [hl0]
          go_enter Tryd.func30, Tryd.ntmps30
          go_wp2_with (go_at_call 50; first | (refine (in_true _ _ _ _ (by omega)).mono ?_; rintro e w' ⟨rfl, rfl⟩) | (refine (in_false _ _ _ _ (by omega)).mono ?_; rintro e w' ⟨rfl, rfl⟩))
          go_ret
          exact ⟨ret_int hF.out.symm, (Below.refl _ _).alloc (Nat.le_refl _) _⟩
        · have hl1 : (4 : Int) < ss.length := by omega
          have hl2 : ¬ (ss.length : Int) < 1 := by omega
          go_enter Tryd.func30, Tryd.ntmps30
          go_wp2_with (go_at_call 50; first | (refine (in_true _ _ _ _ (by omega)).mono ?_; rintro e w' ⟨rfl, rfl⟩) | (refine (in_false _ _ _ _ (by omega)).mono ?_; rintro e w' ⟨rfl, rfl⟩))
          go_ret
          exact ⟨ret_int hF.out.symm, (Below.refl _ _).alloc (Nat.le_refl _) _⟩
      · have hF : Hid (batchF au nu ss = if ss.all txOk then 0 else 1) := by show _ = _; rw [batchF, if_neg (by simp [ha, hr]), if_neg hl]
        have hl1 : ¬ (4 : Int) < ss.length := by omega
        have hl2 : ¬ (ss.length : Int) < 1 := by omega
        go_enter Tryd.func30, Tryd.ntmps30
        go_wp2_with (go_at_call 50; first | (refine (in_true _ _ _ _ (by omega)).mono ?_; rintro e w' ⟨rfl, rfl⟩) | (refine (in_false _ _ _ _ (by omega)).mono ?_; rintro e w' ⟨rfl, rfl⟩))
        go_loop [3] (fun i => ∃ k : Nat, k ≤ ss.length ∧ i = .int .i64 k ∧ ∀ q, q < k → txOk (ss.getD q ByteArray.empty) = true) (fun i => ss.length - (intOf i).toNat)
        case atStart => exact ⟨0, Nat.zero_le _, rfl, fun q hq => by omega⟩
        case round =>
          obtain ⟨k, hk, rfl, hall⟩ := hrel
          by_cases hlt : k < ss.length
          · rcases hs.cells with hc | ⟨sb, so, rfl, hc⟩
            · subst hc; simp at hlt
            have hltI : (k : Int) < ss.length := by omega
            have ck := hc k hlt
            have ck2 := (((Below.refl w.heap.size w).alloc (Nat.le_refl _) (.cells #[.int .i64 au, .int .i64 nu, .slice (some ⟨sb, so, none⟩) ss.length cap] 42)).cell (p := ⟨sb, so + k, none⟩) (block_lt_of_cell ck)).trans ck
            have hz : (ss.getD k ByteArray.empty).size ≤ 9223372036854775807 := hs.size _ (by simp [List.getD, hlt])
            have hT : txOk (ss.getD k ByteArray.empty) = decide (1 ≤ (ss.getD k ByteArray.empty).size ∧ (ss.getD k ByteArray.empty).size ≤ 20) := rfl
            have hstep : Hid (txOk (ss.getD k ByteArray.empty) = true → ∀ q, q < k + 1 → txOk (ss.getD q ByteArray.empty) = true) := by
              show _ → _
              intro h q hq
              rcases Nat.lt_or_ge q k with g | g
              · exact hall q g
              · obtain rfl : q = k := by omega
                exact h
            have hno : Hid (txOk (ss.getD k ByteArray.empty) = false → ss.all txOk = false) := by
              show _ → _
              exact all_false ss txOk ByteArray.empty k hlt
            clear hall hc ck
            generalize ss.getD k ByteArray.empty = s at *
            by_cases h1 : 1 ≤ s.size
            · have h1I : ¬ (s.size : Int) < 1 := by omega
              by_cases h2 : s.size ≤ 20
              · have h2I : ¬ (20 : Int) < s.size := by omega
                have hst := hstep.out (by rw [hT]; simp [h1, h2])
                clear hT hstep hno
                go_wp2_with (go_at_call 50; first | (refine (in_true _ _ _ _ (by omega)).mono ?_; rintro e w' ⟨rfl, rfl⟩) | (refine (in_false _ _ _ _ (by omega)).mono ?_; rintro e w' ⟨rfl, rfl⟩))
                go_round
                case rel => exact ⟨k + 1, by omega, by go_num, hst⟩
                case measure => simp [intOf]; omega
              · have h2I : (20 : Int) < s.size := by omega
                have hst := hno.out (by rw [hT]; simp [h2])
                clear hT hstep hno
                rw [hst] at hF
                go_wp2_with (go_at_call 50; first | (refine (in_true _ _ _ _ (by omega)).mono ?_; rintro e w' ⟨rfl, rfl⟩) | (refine (in_false _ _ _ _ (by omega)).mono ?_; rintro e w' ⟨rfl, rfl⟩))
                go_ret
                exact ⟨ret_int (by rw [hF.out]; rfl), (Below.refl _ _).alloc (Nat.le_refl _) _⟩
            · have h1I : (s.size : Int) < 1 := by omega
              have hst := hno.out (by rw [hT]; simp [h1])
              clear hT hstep hno
              rw [hst] at hF
              go_wp2_with (go_at_call 50; first | (refine (in_true _ _ _ _ (by omega)).mono ?_; rintro e w' ⟨rfl, rfl⟩) | (refine (in_false _ _ _ _ (by omega)).mono ?_; rintro e w' ⟨rfl, rfl⟩))
              go_ret
              exact ⟨ret_int (by rw [hF.out]; rfl), (Below.refl _ _).alloc (Nat.le_refl _) _⟩
          · obtain rfl : k = ss.length := by omega
            have hst := all_true ss txOk ByteArray.empty hall
            rw [hst] at hF
            go_wp2_with fail
            go_ret
            exact ⟨ret_int (by rw [hF.out]; rfl), (Below.refl _ _).alloc (Nat.le_refl _) _⟩
    · have hF : Hid (batchF au nu ss = 2) := by show _ = _; simp [batchF, hr]
      go_enter Tryd.func30, Tryd.ntmps30
      go_wp2_with (go_at_call 50; first | (refine (in_true _ _ _ _ (by omega)).mono ?_; rintro e w' ⟨rfl, rfl⟩) | (refine (in_false _ _ _ _ (by omega)).mono ?_; rintro e w' ⟨rfl, rfl⟩))
      go_ret
      exact ⟨ret_int hF.out.symm, (Below.refl _ _).alloc (Nat.le_refl _) _⟩
  · have hF : Hid (batchF au nu ss = 2) := by show _ = _; simp [batchF, ha]
    go_enter Tryd.func30, Tryd.ntmps30
    go_wp2_with (go_at_call 50; first | (refine (in_true _ _ _ _ (by omega)).mono ?_; rintro e w' ⟨rfl, rfl⟩) | (refine (in_false _ _ _ _ (by omega)).mono ?_; rintro e w' ⟨rfl, rfl⟩))
    go_ret
    exact ⟨ret_int hF.out.symm, (Below.refl _ _).alloc (Nat.le_refl _) _⟩
end Go.Proofs.YtbmodfegcmaieaaDoor

namespace Go.Proofs.YtbmodfegcmaieaaDoor

/-- A word. -/
def W1 (x : Int) : Prop := 0 ≤ x ∧ x < 4294967296
set_option maxRecDepth 100000 in
theorem i64_nat (a b : Nat) (ha : a < 9223372036854775808) (hb : b < 9223372036854775808) :
    bits .and .i64 (a : Int) (b : Int) = ((a &&& b : Nat) : Int) ∧ bits .or .i64 (a : Int) (b : Int) = ((a ||| b : Nat) : Int) := by
  refine bits_nat .i64 63 (by decide) (fun n h0 h1 => ?_) a b (by omega) (by omega)
  rw [IntKind.wrap_i64]
  have : n < 9223372036854775808 := by simpa using h1
  omega
set_option maxRecDepth 100000 in
theorem i64_xor_nat (a b : Nat) (ha : a < 9223372036854775808) (hb : b < 9223372036854775808) : bits .xor .i64 (a : Int) (b : Int) = ((a ^^^ b : Nat) : Int) := by
  have hx : a ^^^ b < 2 ^ 63 := Nat.xor_lt_two_pow (by omega) (by omega)
  have h1 : (BitVec.ofInt 64 (a : Int)).toNat = a := by
    rw [BitVec.ofInt_natCast, BitVec.toNat_ofNat]; exact Nat.mod_eq_of_lt (by omega)
  have h2 : (BitVec.ofInt 64 (b : Int)).toNat = b := by
    rw [BitVec.ofInt_natCast, BitVec.toNat_ofNat]; exact Nat.mod_eq_of_lt (by omega)
  show IntKind.i64.wrap ((BitVec.ofInt 64 (a : Int) ^^^ BitVec.ofInt 64 (b : Int)).toNat : Int) = _
  rw [BitVec.toNat_xor, h1, h2, IntKind.wrap_i64]
  omega
set_option maxRecDepth 100000 in
theorem W1.nat {x : Int} (h : W1 x) : ∃ n : Nat, x = n ∧ n < 4294967296 := ⟨x.toNat, by have := h.1; omega, by have := h.1; have := h.2; omega⟩
set_option maxRecDepth 100000 in
theorem xor64 {x y : Int} (hx : W1 x) (hy : W1 y) : bits .xor .i64 x y = bits .xor .u32 x y := by
  obtain ⟨a, rfl, ha⟩ := hx.nat
  obtain ⟨b, rfl, hb⟩ := hy.nat
  rw [i64_xor_nat a b (by omega) (by omega), u32_xor_nat a b ha hb]
set_option maxRecDepth 100000 in
theorem W1.xor {x y : Int} (hx : W1 x) (hy : W1 y) : W1 (bits .xor .u32 x y) := by
  obtain ⟨a, rfl, ha⟩ := hx.nat
  obtain ⟨b, rfl, hb⟩ := hy.nat
  rw [u32_xor_nat a b ha hb]
  have : a ^^^ b < 2 ^ 32 := Nat.xor_lt_two_pow (by omega) (by omega)
  exact ⟨by omega, by omega⟩
set_option maxRecDepth 100000 in
theorem W1.mod (z : Int) : W1 (z % 4294967296) := ⟨Int.emod_nonneg _ (by decide), Int.emod_lt_of_pos _ (by decide)⟩
set_option maxRecDepth 100000 in
theorem and_mask (z : Int) (h0 : 0 ≤ z) (h1 : z < 9223372036854775808) : bits .and .i64 z 4294967295 = z % 4294967296 := by
  obtain ⟨n, rfl⟩ := Int.eq_ofNat_of_zero_le h0
  have e := (i64_nat n 4294967295 (by omega) (by decide)).1
  rw [show ((4294967295 : Nat) : Int) = 4294967295 from rfl] at e
  rw [e, show (4294967295 : Nat) = 2 ^ 32 - 1 from rfl, Nat.and_two_pow_sub_one_eq_mod]
  omega
set_option maxRecDepth 100000 in
/-- (x >> n | x << (32 - n)) and the mask is the word, turned. -/
theorem turned_eq (x : Int) (hx : W1 x) (n : Nat) (hn : 1 ≤ n) (_hn2 : n < 32) (y z : Int) (hy : y = x / 2 ^ n) (hz : z = x * 2 ^ (32 - n)) :
    bits .and .i64 (bits .or .i64 y z) 4294967295 = bits .or .u32 (x * 2 ^ (32 - n) % 4294967296) (x / 2 ^ n) := by
  obtain ⟨a, rfl, ha⟩ := hx.nat
  subst hy hz
  have e1 : ((a : Int) / 2 ^ n) = ((a / 2 ^ n : Nat) : Int) := by simp
  have e2 : ((a : Int) * 2 ^ (32 - n)) = ((a * 2 ^ (32 - n) : Nat) : Int) := by simp
  have e3 : ((a * 2 ^ (32 - n) : Nat) : Int) % 4294967296 = ((a * 2 ^ (32 - n) % 4294967296 : Nat) : Int) := by omega
  have b1 : a / 2 ^ n < 4294967296 := Nat.lt_of_le_of_lt (Nat.div_le_self _ _) ha
  have h31 : (2 : Nat) ^ (32 - n) ≤ 2 ^ 31 := Nat.pow_le_pow_right (by decide) (by omega)
  have b2 : a * 2 ^ (32 - n) < 2 ^ 63 :=
    Nat.lt_of_lt_of_le (Nat.mul_lt_mul_of_pos_right ha (Nat.pow_pos (by decide))) (Nat.le_trans (Nat.mul_le_mul_left _ h31) (by decide))
  rw [e1, e2, e3]
  generalize a / 2 ^ n = p at *
  generalize a * 2 ^ (32 - n) = q at *
  rw [(i64_nat p q (by omega) (by omega)).2]
  have hpq : p ||| q < 2 ^ 63 := Nat.or_lt_two_pow (by omega) b2
  rw [and_mask _ (by omega) (by omega), u32_or_nat _ _ (by omega) b1]
  have hm : (p ||| q) % 2 ^ 32 = p % 2 ^ 32 ||| q % 2 ^ 32 := Nat.or_mod_two_pow
  rw [Nat.or_comm (q % 4294967296) p]
  have hp' : p % 2 ^ 32 = p := Nat.mod_eq_of_lt (by omega)
  rw [hp'] at hm
  have : ((p ||| q) % 4294967296 : Nat) = p ||| q % 4294967296 := hm
  omega
set_option maxRecDepth 100000 in
theorem W1.rot {x : Int} (hx : W1 x) (n : Int) : W1 (rotI n x) := by
  obtain ⟨a, rfl, ha⟩ := hx.nat
  have e1 : ((a : Int) / 2 ^ n.toNat) = ((a / 2 ^ n.toNat : Nat) : Int) := by simp
  have e2 : ((a : Int) * 2 ^ (32 - n).toNat) % 4294967296 = ((a * 2 ^ (32 - n).toNat % 4294967296 : Nat) : Int) := by simp
  have b1 : a / 2 ^ n.toNat < 4294967296 := Nat.lt_of_le_of_lt (Nat.div_le_self _ _) ha
  unfold rotI
  rw [e1, e2, u32_or_nat _ _ (by omega) b1]
  have : (a * 2 ^ (32 - n).toNat % 4294967296) ||| (a / 2 ^ n.toNat) < 2 ^ 32 := Nat.or_lt_two_pow (by omega) b1
  exact ⟨by omega, by omega⟩
end Go.Proofs.YtbmodfegcmaieaaDoor
