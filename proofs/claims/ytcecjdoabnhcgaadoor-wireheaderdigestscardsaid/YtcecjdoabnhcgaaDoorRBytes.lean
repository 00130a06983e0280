/- The document's batchBytes: P2.6. -/
import Derived.Test.YtcecjdoabnhcgaaDoorThree
import Derived.Test.YtcecjdoabnhcgaaDoorJoined
import Derived.Test.YtcecjdoabnhcgaaDoorAppB
import Derived.Lib.ConvBytes
import Derived.Deep.RegionHeld3
import Derived.Deep.CutRange
import Derived.Deep.DeepCutAuto
namespace Go.Proofs.YtcecjdoabnhcgaaDoor
open Go.RowKit

set_option maxRecDepth 100000 in
theorem bytesWorld_below (w : World) (e : TypeId) (s : ByteArray) : Below w.heap.size w (Lib.bytesWorld w e s) := ⟨rfl, rfl, rfl, by rw [Lib.bytesWorld_size]; omega, fun k hk => Lib.bytesWorld_at_old w e s k hk⟩
set_option maxRecDepth 100000 in
theorem bytesWorld_slice (w : World) (s : ByteArray) (hs : s.size ≤ 1000) : SliceAt (Lib.bytesWorld w 5 s) (some ⟨w.heap.size, 0, none⟩) (grownCap w s.size 0 5) (tb s) := by
  refine ⟨by rw [tb_length]; exact grownCap_ge w s.size 0 _, grownCap_le_maxLen w s.size 0 _ (by unfold maxLen; omega), .inr ⟨_, _, rfl⟩, (fun e => by cases e), .inr ⟨w.heap.size, 0, rfl, fun j hj => ?_⟩⟩
  rw [tb_length] at hj
  rw [Nat.zero_add, Lib.bytesWorld_cell w _ s j hj]
  simp [tb, List.getD, hj]
set_option maxRecDepth 100000 in
theorem slice_row {w : World} {b : Nat} {a : Int} {t : TypeId} (h : w.heap[b]? = some (.cells #[.int .u8 a] t (0, 0))) : SliceAt w (some ⟨b, 0, none⟩) 1 [a] :=
  ⟨Nat.le_refl _, by decide, .inr ⟨_, _, rfl⟩, (fun e => by cases e), .inr ⟨b, 0, rfl, fun j hj => by
    obtain rfl : j = 0 := by simpa using hj
    exact cells_at h 0 _ rfl⟩⟩
set_option maxRecDepth 100000 in
set_option maxHeartbeats 2000000 in
theorem batchBytes_any (au nu : Int) (sa : Option Addr) (n cap : Nat) (ss : List ByteArray) (w : World) (ha : 0 ≤ au ∧ au < 4) (hr : 0 ≤ nu ∧ nu ≤ 1048576) (hn : n = ss.length) (hl : ss.length ≤ 4) (hz : ∀ s ∈ ss, s.size ≤ 20) (hs : StrsAt w sa ss) :
    Calls Tryd.prog 46 #[.agg #[.int .i64 au, .int .i64 nu, .slice sa n cap]] w fun e w' => ∃ v, e = .returned v ∧ w'.ownsRow w.heap.size 5 1 v (batchB au nu ss).length (ub (batchB au nu ss)) ∧ Below w.heap.size w w' := by
  subst hn
  obtain ⟨i, hi, hz0, hz1, hz2⟩ := info_parts infoU8
  obtain ⟨ha0, ha1⟩ := ha
  have q0 := heap_alloc_new w (.cells #[.int .i64 au, .int .i64 nu, .slice sa ss.length cap] 24)
  have k0 : (w.alloc (.cells #[.int .i64 au, .int .i64 nu, .slice sa ss.length cap] 24)).cell? ⟨w.heap.size, 0, none⟩ = some (.int .i64 au) := cells_at q0 0 _ rfl
  have k1 : (w.alloc (.cells #[.int .i64 au, .int .i64 nu, .slice sa ss.length cap] 24)).cell? ⟨w.heap.size, 1, none⟩ = some (.int .i64 nu) := cells_at q0 1 _ rfl
  have wu : IntKind.u8.wrap au = au := by rw [IntKind.wrap_u8']; omega
  have hJ : ∀ (wx : World) (xa ya : Option Addr) (c d : Nat), SliceAt wx xa c [au] → SliceAt wx ya d (rd3 nu) → Calls Tryd.prog 48 #[.slice xa 1 c, .slice ya 3 d] wx fun e w' => ∃ v, e = .returned v ∧ w'.ownsRow wx.heap.size 5 1 v 4 (ub ([au] ++ rd3 nu)) ∧ Below wx.heap.size wx w' := fun wx xa ya c d h1 h2 => joined_any [au] (rd3 nu) xa ya 1 3 c d wx rfl rfl h1 h2 (by simp [rd3])
  have hT : ∀ wx, _ := fun wx => three_any nu wx hr
  have HJ : Hid _ := hJ
  have HT : Hid _ := hT
  clear hJ hT
  go_enter Tryd.func46, Tryd.ntmps46
  go_upto_region 1 with (fail)
  go_cut [3] (fun v wx => wx.ownsRow (w.heap.size + 1) 5 1 v 4 (ub ([au] ++ rd3 nu)) ∧ Below w.heap.size w wx ∧ wx.heap[w.heap.size]? = some (.cells #[.int .i64 au, .int .i64 nu, .slice sa ss.length cap] 24 (0, 0)))
  case first =>
    go_region_held3 (fun w' => w'.cell? ⟨w.heap.size, 0, none⟩ = some (.int .i64 au) ∧ w'.cell? ⟨w.heap.size, 1, none⟩ = some (.int .i64 nu)) (go_keep) (first | (go_at_call 62; refine (HT.out _).mono ?_; rintro e w1 ⟨rfl, ho1, hb1⟩; have s1 := (sliceAt_of_owns ho1).2; first | (have r1 := row_new (below_drew hb1); have t0 := row_new (below_alloc (below_drew hb1)); rw [size_alloc] at r1; have c0 : w1.cell? ⟨w.heap.size, 0, none⟩ = some (.int .i64 au) := cells_at t0 0 _ rfl; have c1 : w1.cell? ⟨w.heap.size, 1, none⟩ = some (.int .i64 nu) := cells_at t0 1 _ rfl) | (have t0 := row_new (below_drew hb1); have c0 : w1.cell? ⟨w.heap.size, 0, none⟩ = some (.int .i64 au) := cells_at t0 0 _ rfl; have c1 : w1.cell? ⟨w.heap.size, 1, none⟩ = some (.int .i64 nu) := cells_at t0 1 _ rfl)) | (go_at_call 48; first | (rw [heap_drew, size_alloc, size_alloc] at s1; refine (HJ.out _ _ _ _ _ (slice_row r1) s1).mono ?_; rintro e w3 ⟨v3, rfl, ho3, hb3⟩; have u0 := (hb3.block _ (lt_of_heap t0)).trans t0; have hB3 := (below_alloc (below_alloc (below_drew hb1))).trans (hb3.mono (below_alloc (below_alloc (below_drew hb1))).size); have ho3' := ownsRow_base' ho3 (lt_of_heap t0); have c0 : w3.cell? ⟨w.heap.size, 0, none⟩ = some (.int .i64 au) := cells_at u0 0 _ rfl; have c1 : w3.cell? ⟨w.heap.size, 1, none⟩ = some (.int .i64 nu) := cells_at u0 1 _ rfl) | (rw [heap_drew, size_alloc] at s1; refine (HJ.out _ _ _ _ _ (slice_row (heap_alloc_new w1 _)) (s1.below ((Below.refl _ _).alloc (Nat.le_refl _) _))).mono ?_; rintro e w3 ⟨v3, rfl, ho3, hb3⟩; have u0 := ((below_alloc hb3).block _ (lt_of_heap t0)).trans t0; have hB3 := (below_alloc (below_drew hb1)).trans ((below_alloc hb3).mono (below_alloc (below_drew hb1)).size); have ho3' := ownsRow_base' ho3 (Nat.le_trans (lt_of_heap t0) (by simp)); have c0 : w3.cell? ⟨w.heap.size, 0, none⟩ = some (.int .i64 au) := cells_at u0 0 _ rfl; have c1 : w3.cell? ⟨w.heap.size, 1, none⟩ = some (.int .i64 nu) := cells_at u0 1 _ rfl)))
    all_goals
      go_wp2_with fail
      go_meet
      case rel => exact ⟨ho3', hB3, u0⟩
  case rest =>
    obtain ⟨ho, hW, r0⟩ := hcut
    clear k0 k1 q0 wu HJ HT
    have c2 : wc.cell? ⟨w.heap.size, 2, none⟩ = some (.slice sa ss.length cap) := cells_at r0 2 _ rfl
    have hlt0 : w.heap.size < wc.heap.size := lt_of_heap r0
    have hv0 : u3.ownBlock ≠ some w.heap.size := fun e => by have := (ho.lt _ e).1; omega
    go_wp2_with (at_builtin; refine wpList_append_own_at _ rfl _ _ 25 rfl (w.heap.size + 1) 5 i (.int .u8 0) 1 1 Tryd.underlying25 hi hz0 hz1 hz2 rfl (by decide) _ 4 _ rfl (World.ownsRow.alloc ho _) ⟨wc.heap.size, 0, none⟩ 1 1 [.int .u8 (ss.length : Int)] rfl rfl (cells_new _ _ _) (u8_one [_]) (by unfold maxLen; omega) (by omega) (le_alloc hlt0 _) ?_; intro v1 w1 ho1 hg1 _ hat; have G1 := (Grew.of hg1 hat).alloc)
    have ho1' : w1.ownsRow (w.heap.size + 1) 5 1 v1 5 (ub ([au] ++ rd3 nu ++ [(ss.length : Int)])) := by simpa [ub] using ho1
    have r1 := G1.row r0 hv0
    have hW1 : Below w.heap.size w w1 := hW.trans (G1.below hW.size (fun q e => by have := (ho.lt q e).1; omega))
    clear ho1 hg1 hat G1 r0 hW ho hv0 c2 hlt0
    go_loopw [4, 3] (fun j t wr => ∃ (m : Nat) (tv : Value), m ≤ ss.length ∧ j = .int .i64 m ∧ tv = t ∧ wr.ownsRow (w.heap.size + 1) 5 1 tv (5 + (txsB (ss.take m)).length) (ub ([au] ++ rd3 nu ++ [(ss.length : Int)] ++ txsB (ss.take m))) ∧ Below w.heap.size w wr ∧ wr.heap[w.heap.size]? = some (.cells #[.int .i64 au, .int .i64 nu, .slice sa ss.length cap] 24 (0, 0))) (fun j _ _ => ss.length - (intOf j).toNat)
    case atStart => exact ⟨0, _, Nat.zero_le _, rfl, rfl, by simpa [txsB] using ho1', hW1, r1⟩
    case round =>
      clear ho1' hW1 r1
      obtain ⟨m, tv, hm, rfl, rfl, ho, hW, r0⟩ := hrel
      have c2 : wr.cell? ⟨w.heap.size, 2, none⟩ = some (.slice sa ss.length cap) := cells_at r0 2 _ rfl
      have hlt0 : w.heap.size < wr.heap.size := lt_of_heap r0
      by_cases hlt : m < ss.length
      · obtain ⟨sb, so, rfl, hc⟩ : ∃ sb so, sa = some ⟨sb, so, none⟩ ∧ ∀ j, j < ss.length → w.cell? ⟨sb, so + j, none⟩ = some (.string (ss.getD j ByteArray.empty)) := by
          rcases hs.cells with h | h
          · rw [h] at hlt; simp at hlt
          · exact h
        have ck0 := hc m hlt
        have ck := (hW.cell (p := ⟨sb, so + m, none⟩) (block_lt_of_cell ck0)).trans ck0
        have hsz : (ss.getD m ByteArray.empty).size ≤ 20 := hz _ (by simp [List.getD, hlt])
        have hst : Hid (txsB (ss.take (m + 1)) = txsB (ss.take m) ++ (((ss.getD m ByteArray.empty).size : Int) :: tb (ss.getD m ByteArray.empty))) := by
          show _ = _
          rw [List.take_succ_eq_append_getElem hlt, txsB_snoc]
          simp only [List.getD, List.getElem?_eq_getElem hlt, Option.getD_some]
        have hLe : (txsB (ss.take m)).length ≤ 84 := by
          have h1 := txsB_le (ss.take m) (fun s h => hz s (List.mem_of_mem_take h))
          have h2 : (ss.take m).length ≤ 4 := by rw [List.length_take]; omega
          omega
        have hltI : (m : Int) < ss.length := by omega
        have hbt0 := block_lt_of_cell ck0
        clear hc
        generalize ss.getD m ByteArray.empty = x at ck ck0 hst hsz
        generalize txsB (ss.take m) = T at ho hst hLe
        have hv0 : tv.ownBlock ≠ some w.heap.size := fun e => by have := (ho.lt _ e).1; omega
        have hcv := fun wx : World => Lib.run_convert_string_bytes (P := Tryd.prog) wx 9 25 5 x Tryd.underlying9 Tryd.underlying25 Tryd.underlying5
        go_wp2_with (at_builtin; refine wpList_append_own_at _ rfl _ _ 25 rfl (w.heap.size + 1) 5 i (.int .u8 0) 1 1 Tryd.underlying25 hi hz0 hz1 hz2 rfl (by decide) _ (5 + T.length) _ rfl (World.ownsRow.alloc ho _) ⟨wr.heap.size, 0, none⟩ 1 1 [.int .u8 (x.size : Int)] rfl rfl (cells_new _ _ _) (u8_one [_]) (by unfold maxLen; omega) (by omega) (le_alloc hlt0 _) ?_; intro v4 w4 ho4 hg4 _ hat4; have G4 := (Grew.of hg4 hat4).alloc; have r4 := G4.row r0 hv0; have hW4 : Below w.heap.size w w4 := hW.trans (G4.below hW.size (fun q e => by have := (ho.lt q e).1; omega)); have d2 : w4.cell? ⟨w.heap.size, 2, none⟩ = some (.slice (some ⟨sb, so, none⟩) ss.length cap) := cells_at r4 2 _ rfl; have dk : w4.cell? ⟨sb, so + m, none⟩ = some (.string x) := (hW4.cell (p := ⟨sb, so + m, none⟩) hbt0).trans ck0)
        have ho4' : w4.ownsRow (w.heap.size + 1) 5 1 v4 (5 + T.length + 1) (ub ([au] ++ rd3 nu ++ [(ss.length : Int)] ++ T ++ [(x.size : Int)])) := by simpa [ub] using ho4
        obtain ⟨xa, xc, hv, hxl, hx⟩ := owns_form ho4'
        subst hv
        have hbx := bytesWorld_below w4 5 x
        have hJ := joined_any ([au] ++ rd3 nu ++ [(ss.length : Int)] ++ T ++ [(x.size : Int)]) (tb x) xa (some ⟨w4.heap.size, 0, none⟩) (5 + T.length + 1) x.size xc (grownCap w4 x.size 0 5) (Lib.bytesWorld w4 5 x) hxl (tb_length x).symm (hx.below hbx) (bytesWorld_slice w4 x (by omega)) (by rw [← hxl, tb_length]; omega)
        refine hJ.mono ?_
        rintro e w5 ⟨v5, rfl, ho5, hb5⟩
        rw [Lib.bytesWorld_size] at hb5 ho5
        have hB5 : Below w4.heap.size w4 w5 := ⟨hb5.os, hb5.tape, hb5.output, Nat.le_trans hbx.size hb5.size, fun k hk => (hb5.block k (by omega)).trans (hbx.block k hk)⟩
        have r5 := (hB5.block _ (lt_of_heap r4)).trans r4
        have hW5 := hW4.trans (hB5.mono hW4.size)
        have hl4 : w.heap.size + 1 ≤ w4.heap.size + 1 := by have := hW4.size; omega
        clear hJ hcv
        go_wp2_with fail
        go_roundw
        case rel =>
          have hR : ∃ (m' : Nat) (tv' : Value), m' ≤ ss.length ∧ (Value.int .i64 ((m : Int) + 1)) = .int .i64 m' ∧ tv' = v5 ∧ w5.ownsRow (w.heap.size + 1) 5 1 tv' (5 + (txsB (ss.take m')).length) (ub ([au] ++ rd3 nu ++ [(ss.length : Int)] ++ txsB (ss.take m'))) ∧ Below w.heap.size w w5 ∧ w5.heap[w.heap.size]? = some (.cells #[.int .i64 au, .int .i64 nu, .slice (some ⟨sb, so, none⟩) ss.length cap] 24 (0, 0)) :=
            ⟨m + 1, v5, by omega, by go_num, rfl, by
              rw [hst.out]
              have h9 := ownsRow_base' ho5 hl4
              rw [← hxl, tb_length] at h9
              simp only [List.length_append, List.length_cons, tb_length]
              rw [show 5 + (T.length + (x.size + 1)) = 5 + T.length + 1 + x.size by omega]
              simpa using h9, hW5, r5⟩
          first | exact hR | ((repeat apply Exists.intro); exact ⟨hR, rfl⟩)
        case measure => simp [intOf]; omega
      · obtain rfl : m = ss.length := by omega
        rw [List.take_of_length_le (Nat.le_refl _)] at ho
        have hltI : ¬ (ss.length : Int) < ss.length := by omega
        go_wp2_with fail
        go_ret
        refine ⟨_, rfl, ?_, hW⟩
        rw [show (batchB au nu ss).length = 5 + (txsB ss).length by simp [batchB, rd3]; omega]
        exact ownsRow_base' ho (Nat.le_succ _)
end Go.Proofs.YtcecjdoabnhcgaaDoor
