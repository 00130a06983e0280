/- The document's sameBytes, for all bytes. -/
import Derived.Test.YtdddimkankdmdaaWireEncodesM6
import Derived.Test.YtdddimkankdmdaaAppB
import Derived.Lib.ConvBytes
import Derived.Deep.RegionHeld3
import Derived.Deep.CutRange
import Derived.Deep.DeepCutAuto
import Derived.Test.YtdddimkankdmdaaAppH
import Derived.Test.YtdddimkankdmdaaPK
import Derived.Test.YtdddimkankdmdaaMsg
import Derived.Test.YtdddimkankdmdaaStrs
import Derived.Test.YtdddimkankdmdaaTxL
import Derived.Deep.RegionHeld2
namespace Go.Proofs.Ytdddimkankdmdaa
open Go.RowKit

set_option maxRecDepth 100000 in
set_option maxHeartbeats 2000000 in
theorem batchBytes_any (au nu : Int) (sa : Option Addr) (n cap : Nat) (ss : List ByteArray) (w : World) (ha : 0 ≤ au ∧ au < 4) (hr : 0 ≤ nu ∧ nu ≤ 1048576) (hn : n = ss.length) (hl : ss.length ≤ 4) (hz : ∀ s ∈ ss, s.size ≤ 20) (hs : StrsAt w sa ss) :
    Calls Try.prog 20 #[.agg #[.int .i64 au, .int .i64 nu, .slice sa n cap]] w fun e w' => ∃ v, e = .returned v ∧ w'.ownsRow w.heap.size 5 1 v (batchB au nu ss).length (ub (batchB au nu ss)) ∧ Below w.heap.size w w' := by
  subst hn
  obtain ⟨i, hi, hz0, hz1, hz2⟩ := info_parts infoU8
  obtain ⟨ha0, ha1⟩ := ha
  have q0 := heap_alloc_new w (.cells #[.int .i64 au, .int .i64 nu, .slice sa ss.length cap] 24)
  have k0 : (w.alloc (.cells #[.int .i64 au, .int .i64 nu, .slice sa ss.length cap] 24)).cell? ⟨w.heap.size, 0, none⟩ = some (.int .i64 au) := cells_at q0 0 _ rfl
  have k1 : (w.alloc (.cells #[.int .i64 au, .int .i64 nu, .slice sa ss.length cap] 24)).cell? ⟨w.heap.size, 1, none⟩ = some (.int .i64 nu) := cells_at q0 1 _ rfl
  have wu : IntKind.u8.wrap au = au := by rw [IntKind.wrap_u8']; omega
  have hJ : ∀ (wx : World) (xa ya : Option Addr) (c d : Nat), SliceAt wx xa c [au] → SliceAt wx ya d (rd3 nu) → Calls Try.prog 19 #[.slice xa 1 c, .slice ya 3 d] wx fun e w' => ∃ v, e = .returned v ∧ w'.ownsRow wx.heap.size 5 1 v 4 (ub ([au] ++ rd3 nu)) ∧ Below wx.heap.size wx w' := fun wx xa ya c d h1 h2 => joined_any [au] (rd3 nu) xa ya 1 3 c d wx rfl rfl h1 h2 (by simp [rd3])
  have hT : ∀ wx, _ := fun wx => three_any nu wx hr
  have HJ : Hid _ := hJ
  have HT : Hid _ := hT
  clear hJ hT
  go_enter Try.func20, Try.ntmps20
  go_upto_region 1 with (fail)
  go_cut [3] (fun v wx => wx.ownsRow (w.heap.size + 1) 5 1 v 4 (ub ([au] ++ rd3 nu)) ∧ Below w.heap.size w wx ∧ wx.heap[w.heap.size]? = some (.cells #[.int .i64 au, .int .i64 nu, .slice sa ss.length cap] 24 (0, 0)))
  case first =>
    go_region_held3 (fun w' => w'.cell? ⟨w.heap.size, 0, none⟩ = some (.int .i64 au) ∧ w'.cell? ⟨w.heap.size, 1, none⟩ = some (.int .i64 nu)) (go_keep) (first | (go_at_call 22; refine (HT.out _).mono ?_; rintro e w1 ⟨rfl, ho1, hb1⟩; have s1 := (sliceAt_of_owns ho1).2; first | (have r1 := row_new (below_drew hb1); have t0 := row_new (below_alloc (below_drew hb1)); rw [size_alloc] at r1; have c0 : w1.cell? ⟨w.heap.size, 0, none⟩ = some (.int .i64 au) := cells_at t0 0 _ rfl; have c1 : w1.cell? ⟨w.heap.size, 1, none⟩ = some (.int .i64 nu) := cells_at t0 1 _ rfl) | (have t0 := row_new (below_drew hb1); have c0 : w1.cell? ⟨w.heap.size, 0, none⟩ = some (.int .i64 au) := cells_at t0 0 _ rfl; have c1 : w1.cell? ⟨w.heap.size, 1, none⟩ = some (.int .i64 nu) := cells_at t0 1 _ rfl)) | (go_at_call 19; first | (rw [heap_drew, size_alloc, size_alloc] at s1; refine (HJ.out _ _ _ _ _ (slice_row r1) s1).mono ?_; rintro e w3 ⟨v3, rfl, ho3, hb3⟩; have u0 := (hb3.block _ (lt_of_heap t0)).trans t0; have hB3 := (below_alloc (below_alloc (below_drew hb1))).trans (hb3.mono (below_alloc (below_alloc (below_drew hb1))).size); have ho3' := ownsRow_base' ho3 (lt_of_heap t0); have c0 : w3.cell? ⟨w.heap.size, 0, none⟩ = some (.int .i64 au) := cells_at u0 0 _ rfl; have c1 : w3.cell? ⟨w.heap.size, 1, none⟩ = some (.int .i64 nu) := cells_at u0 1 _ rfl) | (rw [heap_drew, size_alloc] at s1; refine (HJ.out _ _ _ _ _ (slice_row (heap_alloc_new w1 _)) (s1.below ((Below.refl _ _).alloc (Nat.le_refl _) _))).mono ?_; rintro e w3 ⟨v3, rfl, ho3, hb3⟩; have u0 := ((below_alloc hb3).block _ (lt_of_heap t0)).trans t0; have hB3 := (below_alloc (below_drew hb1)).trans ((below_alloc hb3).mono (below_alloc (below_drew hb1)).size); have ho3' := ownsRow_base' ho3 (Nat.le_trans (lt_of_heap t0) (by simp)); have c0 : w3.cell? ⟨w.heap.size, 0, none⟩ = some (.int .i64 au) := cells_at u0 0 _ rfl; have c1 : w3.cell? ⟨w.heap.size, 1, none⟩ = some (.int .i64 nu) := cells_at u0 1 _ rfl)))
    all_goals
      go_wp2_with fail
      go_meet
      case rel => exact ⟨ho3', hB3, u0⟩
  case rest =>
    obtain ⟨ho, hW, r0⟩ := hcut
    clear k0 k1 q0 wu HJ HT
    have c2 : wc.cell? ⟨w.heap.size, 2, none⟩ = some (.slice sa ss.length cap) := cells_at r0 2 _ rfl
    have hlt0 : w.heap.size < wc.heap.size := lt_of_heap r0
    have hv0 : u3.ownBlock ≠ some w.heap.size := fun e => by have := (ho.lt _ e).1; omega
    go_wp2_with (at_builtin; refine wpList_append_own_at _ rfl _ _ 28 rfl (w.heap.size + 1) 5 i (.int .u8 0) 1 1 Try.underlying28 hi hz0 hz1 hz2 rfl (by decide) _ 4 _ rfl (World.ownsRow.alloc ho _) ⟨wc.heap.size, 0, none⟩ 1 1 [.int .u8 (ss.length : Int)] rfl rfl (cells_new _ _ _) (u8_one [_]) (by unfold maxLen; omega) (by omega) (le_alloc hlt0 _) ?_; intro v1 w1 ho1 hg1 _ hat; have G1 := (Grew.of hg1 hat).alloc)
    have ho1' : w1.ownsRow (w.heap.size + 1) 5 1 v1 5 (ub ([au] ++ rd3 nu ++ [(ss.length : Int)])) := by simpa [ub] using ho1
    have r1 := G1.row r0 hv0
    have hW1 : Below w.heap.size w w1 := hW.trans (G1.below hW.size (fun q e => by have := (ho.lt q e).1; omega))
    clear ho1 hg1 hat G1 r0 hW ho hv0 c2 hlt0
    go_loopw [4, 3] (fun j t wr => ∃ (m : Nat) (tv : Value), m ≤ ss.length ∧ j = .int .i64 m ∧ tv = t ∧ wr.ownsRow (w.heap.size + 1) 5 1 tv (5 + (txsB (ss.take m)).length) (ub ([au] ++ rd3 nu ++ [(ss.length : Int)] ++ txsB (ss.take m))) ∧ Below w.heap.size w wr ∧ wr.heap[w.heap.size]? = some (.cells #[.int .i64 au, .int .i64 nu, .slice sa ss.length cap] 24 (0, 0))) (fun j _ _ => ss.length - (intOf j).toNat)
    case atStart => exact ⟨0, _, Nat.zero_le _, rfl, rfl, by simpa [txsB] using ho1', hW1, r1⟩
    case round =>
      clear ho1' hW1 r1
      obtain ⟨m, tv, hm, rfl, rfl, ho, hW, r0⟩ := hrel
      have c2 : wr.cell? ⟨w.heap.size, 2, none⟩ = some (.slice sa ss.length cap) := cells_at r0 2 _ rfl
      have hlt0 : w.heap.size < wr.heap.size := lt_of_heap r0
      by_cases hlt : m < ss.length
      · obtain ⟨sb, so, rfl, hc⟩ : ∃ sb so, sa = some ⟨sb, so, none⟩ ∧ ∀ j, j < ss.length → w.cell? ⟨sb, so + j, none⟩ = some (.string (ss.getD j ByteArray.empty)) := by
          rcases hs.cells with h | h
          · rw [h] at hlt; simp at hlt
          · exact h
        have ck0 := hc m hlt
        have ck := (hW.cell (p := ⟨sb, so + m, none⟩) (block_lt_of_cell ck0)).trans ck0
        have hsz : (ss.getD m ByteArray.empty).size ≤ 20 := hz _ (by simp [List.getD, hlt])
        have hst : Hid (txsB (ss.take (m + 1)) = txsB (ss.take m) ++ (((ss.getD m ByteArray.empty).size : Int) :: tb (ss.getD m ByteArray.empty))) := by
          show _ = _
          rw [List.take_succ_eq_append_getElem hlt, txsB_snoc]
          simp only [List.getD, List.getElem?_eq_getElem hlt, Option.getD_some]
        have hLe : (txsB (ss.take m)).length ≤ 84 := by
          have h1 := txsB_le (ss.take m) (fun s h => hz s (List.mem_of_mem_take h))
          have h2 : (ss.take m).length ≤ 4 := by rw [List.length_take]; omega
          omega
        have hltI : (m : Int) < ss.length := by omega
        have hbt0 := block_lt_of_cell ck0
        clear hc
        generalize ss.getD m ByteArray.empty = x at ck ck0 hst hsz
        generalize txsB (ss.take m) = T at ho hst hLe
        have hv0 : tv.ownBlock ≠ some w.heap.size := fun e => by have := (ho.lt _ e).1; omega
        have hcv := fun wx : World => Lib.run_convert_string_bytes (P := Try.prog) wx 9 28 5 x Try.underlying9 Try.underlying28 Try.underlying5
        go_wp2_with (at_builtin; refine wpList_append_own_at _ rfl _ _ 28 rfl (w.heap.size + 1) 5 i (.int .u8 0) 1 1 Try.underlying28 hi hz0 hz1 hz2 rfl (by decide) _ (5 + T.length) _ rfl (World.ownsRow.alloc ho _) ⟨wr.heap.size, 0, none⟩ 1 1 [.int .u8 (x.size : Int)] rfl rfl (cells_new _ _ _) (u8_one [_]) (by unfold maxLen; omega) (by omega) (le_alloc hlt0 _) ?_; intro v4 w4 ho4 hg4 _ hat4; have G4 := (Grew.of hg4 hat4).alloc; have r4 := G4.row r0 hv0; have hW4 : Below w.heap.size w w4 := hW.trans (G4.below hW.size (fun q e => by have := (ho.lt q e).1; omega)); have d2 : w4.cell? ⟨w.heap.size, 2, none⟩ = some (.slice (some ⟨sb, so, none⟩) ss.length cap) := cells_at r4 2 _ rfl; have dk : w4.cell? ⟨sb, so + m, none⟩ = some (.string x) := (hW4.cell (p := ⟨sb, so + m, none⟩) hbt0).trans ck0)
        have ho4' : w4.ownsRow (w.heap.size + 1) 5 1 v4 (5 + T.length + 1) (ub ([au] ++ rd3 nu ++ [(ss.length : Int)] ++ T ++ [(x.size : Int)])) := by simpa [ub] using ho4
        obtain ⟨xa, xc, hv, hxl, hx⟩ := owns_form ho4'
        subst hv
        have hbx := bytesWorld_below w4 5 x
        have hJ := joined_any ([au] ++ rd3 nu ++ [(ss.length : Int)] ++ T ++ [(x.size : Int)]) (tb x) xa (some ⟨w4.heap.size, 0, none⟩) (5 + T.length + 1) x.size xc (grownCap w4 x.size 0 5) (Lib.bytesWorld w4 5 x) hxl (tb_length x).symm (hx.below hbx) (bytesWorld_slice w4 x (by omega)) (by rw [← hxl, tb_length]; omega)
        refine hJ.mono ?_
        rintro e w5 ⟨v5, rfl, ho5, hb5⟩
        rw [Lib.bytesWorld_size] at hb5 ho5
        have hB5 : Below w4.heap.size w4 w5 := ⟨hb5.os, hb5.tape, hb5.output, Nat.le_trans hbx.size hb5.size, fun k hk => (hb5.block k (by omega)).trans (hbx.block k hk)⟩
        have r5 := (hB5.block _ (lt_of_heap r4)).trans r4
        have hW5 := hW4.trans (hB5.mono hW4.size)
        have hl4 : w.heap.size + 1 ≤ w4.heap.size + 1 := by have := hW4.size; omega
        clear hJ hcv
        go_wp2_with fail
        go_roundw
        case rel =>
          have hR : ∃ (m' : Nat) (tv' : Value), m' ≤ ss.length ∧ (Value.int .i64 ((m : Int) + 1)) = .int .i64 m' ∧ tv' = v5 ∧ w5.ownsRow (w.heap.size + 1) 5 1 tv' (5 + (txsB (ss.take m')).length) (ub ([au] ++ rd3 nu ++ [(ss.length : Int)] ++ txsB (ss.take m'))) ∧ Below w.heap.size w w5 ∧ w5.heap[w.heap.size]? = some (.cells #[.int .i64 au, .int .i64 nu, .slice (some ⟨sb, so, none⟩) ss.length cap] 24 (0, 0)) :=
            ⟨m + 1, v5, by omega, by go_num, rfl, by
              rw [hst.out]
              have h9 := ownsRow_base' ho5 hl4
              rw [← hxl, tb_length] at h9
              simp only [List.length_append, List.length_cons, tb_length]
              rw [show 5 + (T.length + (x.size + 1)) = 5 + T.length + 1 + x.size by omega]
              simpa using h9, hW5, r5⟩
          first | exact hR | ((repeat apply Exists.intro); exact ⟨hR, rfl⟩)
        case measure => simp [intOf]; omega
      · obtain rfl : m = ss.length := by omega
        rw [List.take_of_length_le (Nat.le_refl _)] at ho
        have hltI : ¬ (ss.length : Int) < ss.length := by omega
        go_wp2_with fail
        go_ret
        refine ⟨_, rfl, ?_, hW⟩
        rw [show (batchB au nu ss).length = 5 + (txsB ss).length by simp [batchB, rd3]; omega]
        exact ownsRow_base' ho (Nat.le_succ _)
end Go.Proofs.Ytdddimkankdmdaa

namespace Go.Proofs.Ytdddimkankdmdaa
open Go.RowKit

set_option maxRecDepth 100000 in
set_option maxHeartbeats 2000000 in
theorem headerBytes_any (au nu : Int) (ba : Option Addr) (bn bc : Nat) (bl : List Part) (pa : Option Addr) (pn pc : Nat) (pl : List Part) (w : World) (ha : 0 ≤ au ∧ au < 4) (hr : 0 ≤ nu ∧ nu ≤ 1048576) (hbn : bn = bl.length) (hpn : pn = pl.length) (hbl : bl.length ≤ 4) (hpl : pl.length ≤ 4) (hb32 : ∀ p ∈ bl, p.bs.length = 32) (hp32 : ∀ p ∈ pl, p.bs.length = 32) (hLb : ListAt w ba bc bl) (hLp : ListAt w pa pc pl) :
    Calls Try.prog 21 #[.agg #[.int .i64 au, .int .i64 nu, .slice ba bn bc, .slice pa pn pc]] w fun e w' => ∃ v, e = .returned v ∧ w'.ownsRow w.heap.size 5 1 v (headB au nu bl pl).length (ub (headB au nu bl pl)) ∧ Below w.heap.size w w' := by
  subst hbn hpn
  obtain ⟨i, hi, hz0, hz1, hz2⟩ := info_parts infoU8
  obtain ⟨ha0, ha1⟩ := ha
  have q0 := heap_alloc_new w (.cells #[.int .i64 au, .int .i64 nu, .slice ba bl.length bc, .slice pa pl.length pc] 27)
  have k0 : (w.alloc (.cells #[.int .i64 au, .int .i64 nu, .slice ba bl.length bc, .slice pa pl.length pc] 27)).cell? ⟨w.heap.size, 0, none⟩ = some (.int .i64 au) := cells_at q0 0 _ rfl
  have k1 : (w.alloc (.cells #[.int .i64 au, .int .i64 nu, .slice ba bl.length bc, .slice pa pl.length pc] 27)).cell? ⟨w.heap.size, 1, none⟩ = some (.int .i64 nu) := cells_at q0 1 _ rfl
  have wu : IntKind.u8.wrap au = au := by rw [IntKind.wrap_u8']; omega
  have hJ : ∀ (wx : World) (xa ya : Option Addr) (c d : Nat), SliceAt wx xa c [au] → SliceAt wx ya d (rd3 nu) → Calls Try.prog 19 #[.slice xa 1 c, .slice ya 3 d] wx fun e w' => ∃ v, e = .returned v ∧ w'.ownsRow wx.heap.size 5 1 v 4 (ub ([au] ++ rd3 nu)) ∧ Below wx.heap.size wx w' := fun wx xa ya c d h1 h2 => joined_any [au] (rd3 nu) xa ya 1 3 c d wx rfl rfl h1 h2 (by simp [rd3])
  have hT : ∀ wx, _ := fun wx => three_any nu wx hr
  have HJ : Hid _ := hJ
  have HT : Hid _ := hT
  clear hJ hT
  go_enter Try.func21, Try.ntmps21
  go_upto_region 1 with (fail)
  go_cut [3] (fun v wx => wx.ownsRow (w.heap.size + 1) 5 1 v 4 (ub ([au] ++ rd3 nu)) ∧ Below w.heap.size w wx ∧ wx.heap[w.heap.size]? = some (.cells #[.int .i64 au, .int .i64 nu, .slice ba bl.length bc, .slice pa pl.length pc] 27 (0, 0)))
  case first =>
    go_region_held3 (fun w' => w'.cell? ⟨w.heap.size, 0, none⟩ = some (.int .i64 au) ∧ w'.cell? ⟨w.heap.size, 1, none⟩ = some (.int .i64 nu)) (go_keep) (first | (go_at_call 22; refine (HT.out _).mono ?_; rintro e w1 ⟨rfl, ho1, hb1⟩; have s1 := (sliceAt_of_owns ho1).2; first | (have r1 := row_new (below_drew hb1); have t0 := row_new (below_alloc (below_drew hb1)); rw [size_alloc] at r1; have c0 : w1.cell? ⟨w.heap.size, 0, none⟩ = some (.int .i64 au) := cells_at t0 0 _ rfl; have c1 : w1.cell? ⟨w.heap.size, 1, none⟩ = some (.int .i64 nu) := cells_at t0 1 _ rfl) | (have t0 := row_new (below_drew hb1); have c0 : w1.cell? ⟨w.heap.size, 0, none⟩ = some (.int .i64 au) := cells_at t0 0 _ rfl; have c1 : w1.cell? ⟨w.heap.size, 1, none⟩ = some (.int .i64 nu) := cells_at t0 1 _ rfl)) | (go_at_call 19; first | (rw [heap_drew, size_alloc, size_alloc] at s1; refine (HJ.out _ _ _ _ _ (slice_row r1) s1).mono ?_; rintro e w3 ⟨v3, rfl, ho3, hb3⟩; have u0 := (hb3.block _ (lt_of_heap t0)).trans t0; have hB3 := (below_alloc (below_alloc (below_drew hb1))).trans (hb3.mono (below_alloc (below_alloc (below_drew hb1))).size); have ho3' := ownsRow_base' ho3 (lt_of_heap t0); have c0 : w3.cell? ⟨w.heap.size, 0, none⟩ = some (.int .i64 au) := cells_at u0 0 _ rfl; have c1 : w3.cell? ⟨w.heap.size, 1, none⟩ = some (.int .i64 nu) := cells_at u0 1 _ rfl) | (rw [heap_drew, size_alloc] at s1; refine (HJ.out _ _ _ _ _ (slice_row (heap_alloc_new w1 _)) (s1.below ((Below.refl _ _).alloc (Nat.le_refl _) _))).mono ?_; rintro e w3 ⟨v3, rfl, ho3, hb3⟩; have u0 := ((below_alloc hb3).block _ (lt_of_heap t0)).trans t0; have hB3 := (below_alloc (below_drew hb1)).trans ((below_alloc hb3).mono (below_alloc (below_drew hb1)).size); have ho3' := ownsRow_base' ho3 (Nat.le_trans (lt_of_heap t0) (by simp)); have c0 : w3.cell? ⟨w.heap.size, 0, none⟩ = some (.int .i64 au) := cells_at u0 0 _ rfl; have c1 : w3.cell? ⟨w.heap.size, 1, none⟩ = some (.int .i64 nu) := cells_at u0 1 _ rfl)))
    all_goals
      go_wp2_with fail
      go_meet
      case rel => exact ⟨ho3', hB3, u0⟩
  case rest =>
    obtain ⟨ho, hW, r0⟩ := hcut
    clear k0 k1 q0 wu HJ HT
    have c2 : wc.cell? ⟨w.heap.size, 2, none⟩ = some (.slice ba bl.length bc) := cells_at r0 2 _ rfl
    have hlt0 : w.heap.size < wc.heap.size := lt_of_heap r0
    have hv0 : u3.ownBlock ≠ some w.heap.size := fun e => by have := (ho.lt _ e).1; omega
    go_wp2_with (at_builtin; refine wpList_append_own_at _ rfl _ _ 28 rfl (w.heap.size + 1) 5 i (.int .u8 0) 1 1 Try.underlying28 hi hz0 hz1 hz2 rfl (by decide) _ (4) _ rfl (World.ownsRow.alloc ho _) ⟨wc.heap.size, 0, none⟩ 1 1 [.int .u8 (bl.length : Int)] rfl rfl (cells_new _ _ _) (u8_one [_]) (by unfold maxLen; omega) (by omega) (le_alloc hlt0 _) ?_; intro v1 w1 ho1 hg1 _ hat; have G1 := (Grew.of hg1 hat).alloc)
    have ho1' : w1.ownsRow (w.heap.size + 1) 5 1 v1 (4 + 1) (ub (([au] ++ rd3 nu) ++ [(bl.length : Int)])) := owns_snoc ho1
    have r1 := G1.row r0 hv0
    have hW1 : Below w.heap.size w w1 := hW.trans (G1.below hW.size (fun q e => by have := (ho.lt q e).1; omega))
    clear ho1 hg1 hat G1 r0 hW ho hv0 hlt0
    clear c2
    go_loopw [4, 3] (fun j t wr => ∃ (m : Nat) (tv : Value), m ≤ bl.length ∧ j = .int .i64 m ∧ tv = t ∧ wr.ownsRow (w.heap.size + 1) 5 1 tv (4 + 1 + (flatB (bl.take m)).length) (ub ((([au] ++ rd3 nu) ++ [(bl.length : Int)]) ++ flatB (bl.take m))) ∧ Below w.heap.size w wr ∧ wr.heap[w.heap.size]? = some (.cells #[.int .i64 au, .int .i64 nu, .slice ba bl.length bc, .slice pa pl.length pc] 27 (0, 0))) (fun j _ _ => bl.length - (intOf j).toNat)
    case atStart => exact ⟨0, _, Nat.zero_le _, rfl, rfl, by simpa [flatB] using ho1', hW1, r1⟩
    case round =>
      clear ho1' hW1 r1
      obtain ⟨m, tv, hm, rfl, rfl, ho, hW, r0⟩ := hrel
      have c2 : wr.cell? ⟨w.heap.size, 2, none⟩ = some (.slice ba bl.length bc) := cells_at r0 2 _ rfl
      have hlt0 : w.heap.size < wr.heap.size := lt_of_heap r0
      by_cases hlt : m < bl.length
      · have hLr := hLb.below hW
        obtain ⟨sb, so, hla, hc⟩ : ∃ sb so, ba = some ⟨sb, so, none⟩ ∧ ∀ j (h : j < bl.length), wr.cell? ⟨sb, so + j, none⟩ = some (.slice (bl[j]).sa (bl[j]).bs.length (bl[j]).cap) := by
          rcases hLr.parts.cells with h | h
          · rw [h] at hlt; simp at hlt
          · exact h
        subst hla
        have ck := hc m hlt
        have hp := hLr.parts.each bl[m] (List.getElem_mem hlt)
        have hq32 := hb32 bl[m] (List.getElem_mem hlt)
        have hst : Hid (flatB (bl.take (m + 1)) = flatB (bl.take m) ++ (bl[m]).bs) := by
          show _ = _
          rw [List.take_succ_eq_append_getElem hlt, flatB_snoc]
        have hLe : (flatB (bl.take m)).length ≤ 128 := by
          rw [flatB_length _ (fun p h => hb32 p (List.mem_of_mem_take h)), List.length_take]; omega
        have hltI : (m : Int) < bl.length := by omega
        clear hc hLr
        generalize bl[m] = p at *
        generalize flatB (bl.take m) = T at ho hst hLe
        obtain ⟨xa, xc, hv, hxl, hx⟩ := owns_form ho
        subst hv
        have hJ := joined_any ((([au] ++ rd3 nu) ++ [(bl.length : Int)]) ++ T) p.bs xa p.sa (4 + 1 + T.length) p.bs.length xc p.cap wr hxl rfl hx hp (by rw [← hxl]; omega)
        have HXL : Hid _ := hxl
        have H32 : Hid _ := hq32
        clear hxl hq32
        go_wp2_with fail
        refine hJ.mono ?_
        rintro e w5 ⟨v5, rfl, ho5, hb5⟩
        have r5 := (hb5.block _ (lt_of_heap r0)).trans r0
        have hW5 := hW.trans (hb5.mono hW.size)
        clear hJ
        go_wp2_with fail
        go_roundw
        case rel =>
          have hR : ∃ (m' : Nat) (tv' : Value), m' ≤ bl.length ∧ (Value.int .i64 ((m : Int) + 1)) = .int .i64 m' ∧ tv' = v5 ∧ w5.ownsRow (w.heap.size + 1) 5 1 tv' (4 + 1 + (flatB (bl.take m')).length) (ub ((([au] ++ rd3 nu) ++ [(bl.length : Int)]) ++ flatB (bl.take m'))) ∧ Below w.heap.size w w5 ∧ w5.heap[w.heap.size]? = some (.cells #[.int .i64 au, .int .i64 nu, .slice (some ⟨sb, so, none⟩) bl.length bc, .slice pa pl.length pc] 27 (0, 0)) :=
            ⟨m + 1, v5, by omega, by go_num, rfl, by
              rw [hst.out]
              have h9 := ownsRow_base' ho5 hlt0
              rw [← HXL.out] at h9
              rw [List.length_append, ← Nat.add_assoc]
              simpa using h9, hW5, r5⟩
          first | exact hR | ((repeat apply Exists.intro); exact ⟨hR, rfl⟩)
        case measure => simp [intOf]; omega
      · obtain rfl : m = bl.length := by omega
        rw [List.take_of_length_le (Nat.le_refl _)] at ho
        have hltI : ¬ (bl.length : Int) < bl.length := by omega
        have c3 : wr.cell? ⟨w.heap.size, 3, none⟩ = some (.slice pa pl.length pc) := cells_at r0 3 _ rfl
        have hfl := flatB_length bl hb32
        have hf4 : (flatB bl).length ≤ 128 := by omega
        have HFL : Hid _ := hfl
        clear hfl
        rename World => wl
        have hv0 : tv.ownBlock ≠ some w.heap.size := fun e => by have := (ho.lt _ e).1; omega
        go_wp2_with (at_builtin; refine wpList_append_own_at _ rfl _ _ 28 rfl (w.heap.size + 1) 5 i (.int .u8 0) 1 1 Try.underlying28 hi hz0 hz1 hz2 rfl (by decide) _ (4 + 1 + (flatB bl).length) _ rfl (World.ownsRow.alloc ho _) ⟨wl.heap.size, 0, none⟩ 1 1 [.int .u8 (pl.length : Int)] rfl rfl (cells_new _ _ _) (u8_one [_]) (by unfold maxLen; omega) (by omega) (le_alloc hlt0 _) ?_; intro v1 w1 ho1 hg1 _ hat; have G1 := (Grew.of hg1 hat).alloc)
        have ho1' : w1.ownsRow (w.heap.size + 1) 5 1 v1 (4 + 1 + (flatB bl).length + 1) (ub (((([au] ++ rd3 nu) ++ [(bl.length : Int)]) ++ flatB bl) ++ [(pl.length : Int)])) := owns_snoc ho1
        have r1 := G1.row r0 hv0
        have hW1 : Below w.heap.size w w1 := hW.trans (G1.below hW.size (fun q e => by have := (ho.lt q e).1; omega))
        clear ho1 hg1 hat G1 r0 hW ho hv0 hlt0
        clear c2 c3
        go_loopw [5, 3] (fun j t wr => ∃ (m : Nat) (tv : Value), m ≤ pl.length ∧ j = .int .i64 m ∧ tv = t ∧ wr.ownsRow (w.heap.size + 1) 5 1 tv (4 + 1 + (flatB bl).length + 1 + (flatB (pl.take m)).length) (ub ((((([au] ++ rd3 nu) ++ [(bl.length : Int)]) ++ flatB bl) ++ [(pl.length : Int)]) ++ flatB (pl.take m))) ∧ Below w.heap.size w wr ∧ wr.heap[w.heap.size]? = some (.cells #[.int .i64 au, .int .i64 nu, .slice ba bl.length bc, .slice pa pl.length pc] 27 (0, 0))) (fun j _ _ => pl.length - (intOf j).toNat)
        case atStart => exact ⟨0, _, Nat.zero_le _, rfl, rfl, by simpa [flatB] using ho1', hW1, r1⟩
        case round =>
          clear ho1' hW1 r1
          obtain ⟨m, tv, hm, rfl, rfl, ho, hW, r0⟩ := hrel
          have c3 : wr.cell? ⟨w.heap.size, 3, none⟩ = some (.slice pa pl.length pc) := cells_at r0 3 _ rfl
          have hlt0 : w.heap.size < wr.heap.size := lt_of_heap r0
          by_cases hlt : m < pl.length
          · have hLr := hLp.below hW
            obtain ⟨sb, so, hla, hc⟩ : ∃ sb so, pa = some ⟨sb, so, none⟩ ∧ ∀ j (h : j < pl.length), wr.cell? ⟨sb, so + j, none⟩ = some (.slice (pl[j]).sa (pl[j]).bs.length (pl[j]).cap) := by
              rcases hLr.parts.cells with h | h
              · rw [h] at hlt; simp at hlt
              · exact h
            subst hla
            have ck := hc m hlt
            have hp := hLr.parts.each pl[m] (List.getElem_mem hlt)
            have hq32 := hp32 pl[m] (List.getElem_mem hlt)
            have hst : Hid (flatB (pl.take (m + 1)) = flatB (pl.take m) ++ (pl[m]).bs) := by
              show _ = _
              rw [List.take_succ_eq_append_getElem hlt, flatB_snoc]
            have hLe : (flatB (pl.take m)).length ≤ 128 := by
              rw [flatB_length _ (fun p h => hp32 p (List.mem_of_mem_take h)), List.length_take]; omega
            have hltI : (m : Int) < pl.length := by omega
            clear hc hLr
            generalize pl[m] = p at *
            generalize flatB (pl.take m) = T at ho hst hLe
            obtain ⟨xa, xc, hv, hxl, hx⟩ := owns_form ho
            subst hv
            have hJ := joined_any ((((([au] ++ rd3 nu) ++ [(bl.length : Int)]) ++ flatB bl) ++ [(pl.length : Int)]) ++ T) p.bs xa p.sa (4 + 1 + (flatB bl).length + 1 + T.length) p.bs.length xc p.cap wr hxl rfl hx hp (by rw [← hxl]; omega)
            have HXL : Hid _ := hxl
            have H32 : Hid _ := hq32
            clear hxl hq32
            go_wp2_with fail
            refine hJ.mono ?_
            rintro e w5 ⟨v5, rfl, ho5, hb5⟩
            have r5 := (hb5.block _ (lt_of_heap r0)).trans r0
            have hW5 := hW.trans (hb5.mono hW.size)
            clear hJ
            go_wp2_with fail
            go_roundw
            case rel =>
              have hR : ∃ (m' : Nat) (tv' : Value), m' ≤ pl.length ∧ (Value.int .i64 ((m : Int) + 1)) = .int .i64 m' ∧ tv' = v5 ∧ w5.ownsRow (w.heap.size + 1) 5 1 tv' (4 + 1 + (flatB bl).length + 1 + (flatB (pl.take m')).length) (ub ((((([au] ++ rd3 nu) ++ [(bl.length : Int)]) ++ flatB bl) ++ [(pl.length : Int)]) ++ flatB (pl.take m'))) ∧ Below w.heap.size w w5 ∧ w5.heap[w.heap.size]? = some (.cells #[.int .i64 au, .int .i64 nu, .slice ba bl.length bc, .slice (some ⟨sb, so, none⟩) pl.length pc] 27 (0, 0)) :=
                ⟨m + 1, v5, by omega, by go_num, rfl, by
                  rw [hst.out]
                  have h9 := ownsRow_base' ho5 hlt0
                  rw [← HXL.out] at h9
                  rw [List.length_append, ← Nat.add_assoc]
                  simpa using h9, hW5, r5⟩
              first | exact hR | ((repeat apply Exists.intro); exact ⟨hR, rfl⟩)
            case measure => simp [intOf]; omega
          · obtain rfl : m = pl.length := by omega
            rw [List.take_of_length_le (Nat.le_refl _)] at ho
            have hltI : ¬ (pl.length : Int) < pl.length := by omega
            go_wp2_with fail
            go_ret
            refine ⟨_, rfl, ?_, hW⟩
            rw [show (headB au nu bl pl).length = 4 + 1 + (flatB bl).length + 1 + (flatB pl).length by simp [headB, rd3, digsB]; omega, show headB au nu bl pl = (((([au] ++ rd3 nu) ++ [(bl.length : Int)]) ++ flatB bl) ++ [(pl.length : Int)]) ++ flatB pl by simp [headB, digsB]]
            exact ownsRow_base' ho (Nat.le_succ _)
end Go.Proofs.Ytdddimkankdmdaa

namespace Go.Proofs.Ytdddimkankdmdaa
open Go.RowKit

set_option maxRecDepth 100000 in
theorem in_bool (n a b : Int) (r : Bool) (w : World) (h : r = decide (a ≤ n ∧ n ≤ b)) : Calls Try.prog 34 #[.int .i64 n, .int .i64 a, .int .i64 b] w fun e w' => e = .returned (.bool r) ∧ w = w' := by
  by_cases h1 : a ≤ n
  · by_cases h2 : n ≤ b
    · obtain rfl : r = true := by simp [h, h1, h2]
      clear h
      go_enter Try.func34, Try.ntmps34
      go_wp2
      go_ret
      exact ⟨rfl, rfl⟩
    · obtain rfl : r = false := by simp [h, h2]
      clear h
      go_enter Try.func34, Try.ntmps34
      go_wp2
      go_ret
      exact ⟨rfl, rfl⟩
  · obtain rfl : r = false := by simp [h, h1]
    clear h
    go_enter Try.func34, Try.ntmps34
    go_wp2
    go_ret
    exact ⟨rfl, rfl⟩
set_option maxRecDepth 100000 in
theorem in_true (n a b : Int) (w : World) (h : a ≤ n ∧ n ≤ b) : Calls Try.prog 34 #[.int .i64 n, .int .i64 a, .int .i64 b] w fun e w' => e = .returned (.bool true) ∧ w = w' := in_bool n a b true w (by simp [h])
set_option maxRecDepth 100000 in
theorem in_false (n a b : Int) (w : World) (h : ¬ (a ≤ n ∧ n ≤ b)) : Calls Try.prog 34 #[.int .i64 n, .int .i64 a, .int .i64 b] w fun e w' => e = .returned (.bool false) ∧ w = w' := in_bool n a b false w (by rw [decide_eq_false h])
end Go.Proofs.Ytdddimkankdmdaa

namespace Go.Proofs.Ytdddimkankdmdaa
open Go.RowKit

set_option maxRecDepth 100000 in
set_option maxHeartbeats 400000 in
theorem headerEmpty_bool (au nu : Int) (sa : Option Addr) (n c : Nat) (sb : Option Addr) (m d : Nat) (r : Bool) (w : World) (h : r = decide (au = 0 ∧ nu = 0 ∧ n = 0 ∧ m = 0)) :
    Calls Try.prog 39 #[.agg #[.int .i64 au, .int .i64 nu, .slice sa n c, .slice sb m d]] w fun e w' => e = .returned (.bool r) ∧ Below w.heap.size w w' := by
  by_cases h1 : au = 0
  · by_cases h2 : nu = 0
    · by_cases h3 : n = 0
      · by_cases h4 : m = 0
        · obtain rfl : r = true := by simp [h, h1, h2, h3, h4]
          clear h
          go_enter Try.func39, Try.ntmps39
          go_wp2_with fail
          go_ret
          exact ⟨by first | rfl | exact ret_bool (beq_eq_false_iff_ne.2 (by omega)), (Below.refl _ _).alloc (Nat.le_refl _) _⟩
        · have h4I : ¬ (m : Int) = 0 := by omega
          obtain rfl : r = false := by simp [h, h4]
          clear h
          go_enter Try.func39, Try.ntmps39
          go_wp2_with fail
          go_ret
          exact ⟨by first | rfl | exact ret_bool (beq_eq_false_iff_ne.2 (by omega)), (Below.refl _ _).alloc (Nat.le_refl _) _⟩
      · have h3I : ¬ (n : Int) = 0 := by omega
        obtain rfl : r = false := by simp [h, h3]
        clear h
        go_enter Try.func39, Try.ntmps39
        go_wp2_with fail
        go_ret
        exact ⟨by first | rfl | exact ret_bool (beq_eq_false_iff_ne.2 (by omega)), (Below.refl _ _).alloc (Nat.le_refl _) _⟩
    · obtain rfl : r = false := by simp [h, h2]
      clear h
      go_enter Try.func39, Try.ntmps39
      go_wp2_with fail
      go_ret
      exact ⟨by first | rfl | exact ret_bool (beq_eq_false_iff_ne.2 (by omega)), (Below.refl _ _).alloc (Nat.le_refl _) _⟩
  · obtain rfl : r = false := by simp [h, h1]
    clear h
    go_enter Try.func39, Try.ntmps39
    go_wp2_with fail
    go_ret
    exact ⟨by first | rfl | exact ret_bool (beq_eq_false_iff_ne.2 (by omega)), (Below.refl _ _).alloc (Nat.le_refl _) _⟩
set_option maxRecDepth 100000 in
theorem headerEmpty_true (au nu : Int) (sa : Option Addr) (n c : Nat) (sb : Option Addr) (m d : Nat) (w : World) (h : au = 0 ∧ nu = 0 ∧ n = 0 ∧ m = 0) : Calls Try.prog 39 #[.agg #[.int .i64 au, .int .i64 nu, .slice sa n c, .slice sb m d]] w fun e w' => e = .returned (.bool true) ∧ Below w.heap.size w w' := headerEmpty_bool _ _ _ _ _ _ _ _ true w (by simp [h])
set_option maxRecDepth 100000 in
theorem headerEmpty_false (au nu : Int) (sa : Option Addr) (n c : Nat) (sb : Option Addr) (m d : Nat) (w : World) (h : ¬ (au = 0 ∧ nu = 0 ∧ n = 0 ∧ m = 0)) : Calls Try.prog 39 #[.agg #[.int .i64 au, .int .i64 nu, .slice sa n c, .slice sb m d]] w fun e w' => e = .returned (.bool false) ∧ Below w.heap.size w w' := headerEmpty_bool _ _ _ _ _ _ _ _ false w (by rw [decide_eq_false h])
end Go.Proofs.Ytdddimkankdmdaa

namespace Go.Proofs.Ytdddimkankdmdaa
open Go.RowKit

set_option maxRecDepth 100000 in
set_option maxHeartbeats 1000000 in
theorem batchFault_any (au nu : Int) (sa : Option Addr) (n cap : Nat) (ss : List ByteArray) (w : World) (hn : n = ss.length) (hm : n ≤ maxLen) (hs : StrsAt w sa ss) :
    Calls Try.prog 35 #[.agg #[.int .i64 au, .int .i64 nu, .slice sa n cap]] w fun e w' => e = .returned (.int .i64 (batchF au nu ss)) ∧ Below w.heap.size w w' := by
  subst hn
  unfold maxLen at hm
  by_cases ha : 0 ≤ au ∧ au < 4
  · by_cases hr : 1 ≤ nu ∧ nu ≤ 1048576
    · by_cases hl : ss.length < 1 ∨ 4 < ss.length
      · have hF : Hid (batchF au nu ss = 1) := by show _ = _; rw [batchF, if_neg (by simp [ha, hr]), if_pos hl]
        have hlI : ¬ (1 ≤ (ss.length : Int) ∧ (ss.length : Int) ≤ 4) := by omega
        rcases hl with hl | hl
        · have hl0 : ss.length = 0 := by omega
          rw [hl0]
          go_enter Try.func35, Try.ntmps35
          go_wp2_with (go_at_call 34; first | (refine (in_true _ _ _ _ (by omega)).mono ?_; rintro e w' ⟨rfl, rfl⟩) | (refine (in_false _ _ _ _ (by omega)).mono ?_; rintro e w' ⟨rfl, rfl⟩))
          go_ret
          exact ⟨ret_int hF.out.symm, (Below.refl _ _).alloc (Nat.le_refl _) _⟩
        · have hl1 : (4 : Int) < ss.length := by omega
          have hl2 : ¬ (ss.length : Int) < 1 := by omega
          go_enter Try.func35, Try.ntmps35
          go_wp2_with (go_at_call 34; first | (refine (in_true _ _ _ _ (by omega)).mono ?_; rintro e w' ⟨rfl, rfl⟩) | (refine (in_false _ _ _ _ (by omega)).mono ?_; rintro e w' ⟨rfl, rfl⟩))
          go_ret
          exact ⟨ret_int hF.out.symm, (Below.refl _ _).alloc (Nat.le_refl _) _⟩
      · have hF : Hid (batchF au nu ss = if ss.all txOk then 0 else 1) := by show _ = _; rw [batchF, if_neg (by simp [ha, hr]), if_neg hl]
        have hl1 : ¬ (4 : Int) < ss.length := by omega
        have hl2 : ¬ (ss.length : Int) < 1 := by omega
        go_enter Try.func35, Try.ntmps35
        go_wp2_with (go_at_call 34; first | (refine (in_true _ _ _ _ (by omega)).mono ?_; rintro e w' ⟨rfl, rfl⟩) | (refine (in_false _ _ _ _ (by omega)).mono ?_; rintro e w' ⟨rfl, rfl⟩))
        go_loop [3] (fun i => ∃ k : Nat, k ≤ ss.length ∧ i = .int .i64 k ∧ ∀ q, q < k → txOk (ss.getD q ByteArray.empty) = true) (fun i => ss.length - (intOf i).toNat)
        case atStart => exact ⟨0, Nat.zero_le _, rfl, fun q hq => by omega⟩
        case round =>
          obtain ⟨k, hk, rfl, hall⟩ := hrel
          by_cases hlt : k < ss.length
          · rcases hs.cells with hc | ⟨sb, so, rfl, hc⟩
            · subst hc; simp at hlt
            have hltI : (k : Int) < ss.length := by omega
            have ck := hc k hlt
            have ck2 := (((Below.refl w.heap.size w).alloc (Nat.le_refl _) (.cells #[.int .i64 au, .int .i64 nu, .slice (some ⟨sb, so, none⟩) ss.length cap] 24)).cell (p := ⟨sb, so + k, none⟩) (block_lt_of_cell ck)).trans ck
            have hz : (ss.getD k ByteArray.empty).size ≤ 9223372036854775807 := hs.size _ (by simp [List.getD, hlt])
            have hT : txOk (ss.getD k ByteArray.empty) = decide (1 ≤ (ss.getD k ByteArray.empty).size ∧ (ss.getD k ByteArray.empty).size ≤ 20) := rfl
            have hstep : Hid (txOk (ss.getD k ByteArray.empty) = true → ∀ q, q < k + 1 → txOk (ss.getD q ByteArray.empty) = true) := by
              show _ → _
              intro h q hq
              rcases Nat.lt_or_ge q k with g | g
              · exact hall q g
              · obtain rfl : q = k := by omega
                exact h
            have hno : Hid (txOk (ss.getD k ByteArray.empty) = false → ss.all txOk = false) := by
              show _ → _
              exact all_false ss txOk ByteArray.empty k hlt
            clear hall hc ck
            generalize ss.getD k ByteArray.empty = s at *
            by_cases h1 : 1 ≤ s.size
            · have h1I : ¬ (s.size : Int) < 1 := by omega
              by_cases h2 : s.size ≤ 20
              · have h2I : ¬ (20 : Int) < s.size := by omega
                have hst := hstep.out (by rw [hT]; simp [h1, h2])
                clear hT hstep hno
                go_wp2_with (go_at_call 34; first | (refine (in_true _ _ _ _ (by omega)).mono ?_; rintro e w' ⟨rfl, rfl⟩) | (refine (in_false _ _ _ _ (by omega)).mono ?_; rintro e w' ⟨rfl, rfl⟩))
                go_round
                case rel => exact ⟨k + 1, by omega, by go_num, hst⟩
                case measure => simp [intOf]; omega
              · have h2I : (20 : Int) < s.size := by omega
                have hst := hno.out (by rw [hT]; simp [h2])
                clear hT hstep hno
                rw [hst] at hF
                go_wp2_with (go_at_call 34; first | (refine (in_true _ _ _ _ (by omega)).mono ?_; rintro e w' ⟨rfl, rfl⟩) | (refine (in_false _ _ _ _ (by omega)).mono ?_; rintro e w' ⟨rfl, rfl⟩))
                go_ret
                exact ⟨ret_int (by rw [hF.out]; rfl), (Below.refl _ _).alloc (Nat.le_refl _) _⟩
            · have h1I : (s.size : Int) < 1 := by omega
              have hst := hno.out (by rw [hT]; simp [h1])
              clear hT hstep hno
              rw [hst] at hF
              go_wp2_with (go_at_call 34; first | (refine (in_true _ _ _ _ (by omega)).mono ?_; rintro e w' ⟨rfl, rfl⟩) | (refine (in_false _ _ _ _ (by omega)).mono ?_; rintro e w' ⟨rfl, rfl⟩))
              go_ret
              exact ⟨ret_int (by rw [hF.out]; rfl), (Below.refl _ _).alloc (Nat.le_refl _) _⟩
          · obtain rfl : k = ss.length := by omega
            have hst := all_true ss txOk ByteArray.empty hall
            rw [hst] at hF
            go_wp2_with fail
            go_ret
            exact ⟨ret_int (by rw [hF.out]; rfl), (Below.refl _ _).alloc (Nat.le_refl _) _⟩
    · have hF : Hid (batchF au nu ss = 2) := by show _ = _; simp [batchF, hr]
      go_enter Try.func35, Try.ntmps35
      go_wp2_with (go_at_call 34; first | (refine (in_true _ _ _ _ (by omega)).mono ?_; rintro e w' ⟨rfl, rfl⟩) | (refine (in_false _ _ _ _ (by omega)).mono ?_; rintro e w' ⟨rfl, rfl⟩))
      go_ret
      exact ⟨ret_int hF.out.symm, (Below.refl _ _).alloc (Nat.le_refl _) _⟩
  · have hF : Hid (batchF au nu ss = 2) := by show _ = _; simp [batchF, ha]
    go_enter Try.func35, Try.ntmps35
    go_wp2_with (go_at_call 34; first | (refine (in_true _ _ _ _ (by omega)).mono ?_; rintro e w' ⟨rfl, rfl⟩) | (refine (in_false _ _ _ _ (by omega)).mono ?_; rintro e w' ⟨rfl, rfl⟩))
    go_ret
    exact ⟨ret_int hF.out.symm, (Below.refl _ _).alloc (Nat.le_refl _) _⟩
end Go.Proofs.Ytdddimkankdmdaa

namespace Go.Proofs.Ytdddimkankdmdaa
open Go.RowKit

set_option maxRecDepth 100000 in
theorem sameBytes_any (xs ys : List Int) (sa sb : Option Addr) (n m c d : Nat) (w : World) (hn : n = xs.length) (hm : m = ys.length) (ha : SliceAt w sa c xs) (hb : SliceAt w sb d ys) :
    Calls Try.prog 54 #[.slice sa n c, .slice sb m d] w fun e w' => e = .returned (.bool (decide (txL xs = txL ys))) ∧ w = w' := by
  have h1 := run_text w sa n c xs hn ha
  have h2 := run_text w sb m d ys hm hb
  clear hn hm ha hb
  unfold txL
  generalize bstr xs = A at *
  generalize bstr ys = B at *
  go_enter Try.func54, Try.ntmps54
  go_wp2_with fail
  go_ret
  refine ⟨ret_bool ?_, rfl⟩
  by_cases h : A.toList = B.toList <;> simp [h]
end Go.Proofs.Ytdddimkankdmdaa
