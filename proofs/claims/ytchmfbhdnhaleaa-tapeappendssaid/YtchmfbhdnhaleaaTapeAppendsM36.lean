/- The document's MessageBytes, of one kind. -/
import Derived.Test.YtchmfbhdnhaleaaTapeAppendsM30
import Derived.Test.YtchmfbhdnhaleaaTapeAppendsM18
import Derived.Test.YtchmfbhdnhaleaaAppT
import Derived.Lib.ConvBytes
import Derived.Deep.RegionHeld3
import Derived.Deep.CutRange
import Derived.Deep.DeepCutAuto
import Derived.Test.YtchmfbhdnhaleaaAppB
import Derived.Test.YtchmfbhdnhaleaaTapeAppendsM0
import Derived.Test.YtchmfbhdnhaleaaTapeAppendsM6
namespace Go.Proofs.Ytchmfbhdnhaleaa
open Go.RowKit

set_option maxRecDepth 100000 in
theorem bytesWorld_below (w : World) (e : TypeId) (s : ByteArray) : Below w.heap.size w (Lib.bytesWorld w e s) := ⟨rfl, rfl, rfl, by rw [Lib.bytesWorld_size]; omega, fun k hk => Lib.bytesWorld_at_old w e s k hk⟩
set_option maxRecDepth 100000 in
theorem bytesWorld_slice (w : World) (s : ByteArray) (hs : s.size ≤ 1000) : SliceAt (Lib.bytesWorld w 5 s) (some ⟨w.heap.size, 0, none⟩) (grownCap w s.size 0 5) (tb s) := by
  refine ⟨by rw [tb_length]; exact grownCap_ge w s.size 0 _, grownCap_le_maxLen w s.size 0 _ (by unfold maxLen; omega), .inr ⟨_, _, rfl⟩, (fun e => by cases e), .inr ⟨w.heap.size, 0, rfl, fun j hj => ?_⟩⟩
  rw [tb_length] at hj
  rw [Nat.zero_add, Lib.bytesWorld_cell w _ s j hj]
  simp [tb, List.getD, hj]
set_option maxRecDepth 100000 in
theorem slice_row {w : World} {b : Nat} {a : Int} {t : TypeId} (h : w.heap[b]? = some (.cells #[.int .u8 a] t (0, 0))) : SliceAt w (some ⟨b, 0, none⟩) 1 [a] :=
  ⟨Nat.le_refl _, by decide, .inr ⟨_, _, rfl⟩, (fun e => by cases e), .inr ⟨b, 0, rfl, fun j hj => by
    obtain rfl : j = 0 := by simpa using hj
    exact cells_at h 0 _ rfl⟩⟩
end Go.Proofs.Ytchmfbhdnhaleaa

namespace Go.Proofs.Ytchmfbhdnhaleaa
open Go.RowKit

set_option maxRecDepth 100000 in
set_option maxHeartbeats 2000000 in
theorem batchBytes_any (au nu : Int) (sa : Option Addr) (n cap : Nat) (ss : List ByteArray) (w : World) (ha : 0 ≤ au ∧ au < 4) (hr : 0 ≤ nu ∧ nu ≤ 1048576) (hn : n = ss.length) (hl : ss.length ≤ 4) (hz : ∀ s ∈ ss, s.size ≤ 20) (hs : StrsAt w sa ss) :
    Calls Try.prog 43 #[.agg #[.int .i64 au, .int .i64 nu, .slice sa n cap]] w fun e w' => ∃ v, e = .returned v ∧ w'.ownsRow w.heap.size 5 1 v (batchB au nu ss).length (ub (batchB au nu ss)) ∧ Below w.heap.size w w' := by
  subst hn
  obtain ⟨i, hi, hz0, hz1, hz2⟩ := info_parts infoU8
  obtain ⟨ha0, ha1⟩ := ha
  have q0 := heap_alloc_new w (.cells #[.int .i64 au, .int .i64 nu, .slice sa ss.length cap] 24)
  have k0 : (w.alloc (.cells #[.int .i64 au, .int .i64 nu, .slice sa ss.length cap] 24)).cell? ⟨w.heap.size, 0, none⟩ = some (.int .i64 au) := cells_at q0 0 _ rfl
  have k1 : (w.alloc (.cells #[.int .i64 au, .int .i64 nu, .slice sa ss.length cap] 24)).cell? ⟨w.heap.size, 1, none⟩ = some (.int .i64 nu) := cells_at q0 1 _ rfl
  have wu : IntKind.u8.wrap au = au := by rw [IntKind.wrap_u8']; omega
  have hJ : ∀ (wx : World) (xa ya : Option Addr) (c d : Nat), SliceAt wx xa c [au] → SliceAt wx ya d (rd3 nu) → Calls Try.prog 28 #[.slice xa 1 c, .slice ya 3 d] wx fun e w' => ∃ v, e = .returned v ∧ w'.ownsRow wx.heap.size 5 1 v 4 (ub ([au] ++ rd3 nu)) ∧ Below wx.heap.size wx w' := fun wx xa ya c d h1 h2 => joined_any [au] (rd3 nu) xa ya 1 3 c d wx rfl rfl h1 h2 (by simp [rd3])
  have hT : ∀ wx, _ := fun wx => three_any nu wx hr
  have HJ : Hid _ := hJ
  have HT : Hid _ := hT
  clear hJ hT
  go_enter Try.func43, Try.ntmps43
  go_upto_region 1 with (fail)
  go_cut [3] (fun v wx => wx.ownsRow (w.heap.size + 1) 5 1 v 4 (ub ([au] ++ rd3 nu)) ∧ Below w.heap.size w wx ∧ wx.heap[w.heap.size]? = some (.cells #[.int .i64 au, .int .i64 nu, .slice sa ss.length cap] 24 (0, 0)))
  case first =>
    go_region_held3 (fun w' => w'.cell? ⟨w.heap.size, 0, none⟩ = some (.int .i64 au) ∧ w'.cell? ⟨w.heap.size, 1, none⟩ = some (.int .i64 nu)) (go_keep) (first | (go_at_call 45; refine (HT.out _).mono ?_; rintro e w1 ⟨rfl, ho1, hb1⟩; have s1 := (sliceAt_of_owns ho1).2; first | (have r1 := row_new (below_drew hb1); have t0 := row_new (below_alloc (below_drew hb1)); rw [size_alloc] at r1; have c0 : w1.cell? ⟨w.heap.size, 0, none⟩ = some (.int .i64 au) := cells_at t0 0 _ rfl; have c1 : w1.cell? ⟨w.heap.size, 1, none⟩ = some (.int .i64 nu) := cells_at t0 1 _ rfl) | (have t0 := row_new (below_drew hb1); have c0 : w1.cell? ⟨w.heap.size, 0, none⟩ = some (.int .i64 au) := cells_at t0 0 _ rfl; have c1 : w1.cell? ⟨w.heap.size, 1, none⟩ = some (.int .i64 nu) := cells_at t0 1 _ rfl)) | (go_at_call 28; first | (rw [heap_drew, size_alloc, size_alloc] at s1; refine (HJ.out _ _ _ _ _ (slice_row r1) s1).mono ?_; rintro e w3 ⟨v3, rfl, ho3, hb3⟩; have u0 := (hb3.block _ (lt_of_heap t0)).trans t0; have hB3 := (below_alloc (below_alloc (below_drew hb1))).trans (hb3.mono (below_alloc (below_alloc (below_drew hb1))).size); have ho3' := ownsRow_base' ho3 (lt_of_heap t0); have c0 : w3.cell? ⟨w.heap.size, 0, none⟩ = some (.int .i64 au) := cells_at u0 0 _ rfl; have c1 : w3.cell? ⟨w.heap.size, 1, none⟩ = some (.int .i64 nu) := cells_at u0 1 _ rfl) | (rw [heap_drew, size_alloc] at s1; refine (HJ.out _ _ _ _ _ (slice_row (heap_alloc_new w1 _)) (s1.below ((Below.refl _ _).alloc (Nat.le_refl _) _))).mono ?_; rintro e w3 ⟨v3, rfl, ho3, hb3⟩; have u0 := ((below_alloc hb3).block _ (lt_of_heap t0)).trans t0; have hB3 := (below_alloc (below_drew hb1)).trans ((below_alloc hb3).mono (below_alloc (below_drew hb1)).size); have ho3' := ownsRow_base' ho3 (Nat.le_trans (lt_of_heap t0) (by simp)); have c0 : w3.cell? ⟨w.heap.size, 0, none⟩ = some (.int .i64 au) := cells_at u0 0 _ rfl; have c1 : w3.cell? ⟨w.heap.size, 1, none⟩ = some (.int .i64 nu) := cells_at u0 1 _ rfl)))
    all_goals
      go_wp2_with fail
      go_meet
      case rel => exact ⟨ho3', hB3, u0⟩
  case rest =>
    obtain ⟨ho, hW, r0⟩ := hcut
    clear k0 k1 q0 wu HJ HT
    have c2 : wc.cell? ⟨w.heap.size, 2, none⟩ = some (.slice sa ss.length cap) := cells_at r0 2 _ rfl
    have hlt0 : w.heap.size < wc.heap.size := lt_of_heap r0
    have hv0 : u3.ownBlock ≠ some w.heap.size := fun e => by have := (ho.lt _ e).1; omega
    go_wp2_with (at_builtin; refine wpList_append_own_at _ rfl _ _ 28 rfl (w.heap.size + 1) 5 i (.int .u8 0) 1 1 Try.underlying28 hi hz0 hz1 hz2 rfl (by decide) _ 4 _ rfl (World.ownsRow.alloc ho _) ⟨wc.heap.size, 0, none⟩ 1 1 [.int .u8 (ss.length : Int)] rfl rfl (cells_new _ _ _) (u8_one [_]) (by unfold maxLen; omega) (by omega) (le_alloc hlt0 _) ?_; intro v1 w1 ho1 hg1 _ hat; have G1 := (Grew.of hg1 hat).alloc)
    have ho1' : w1.ownsRow (w.heap.size + 1) 5 1 v1 5 (ub ([au] ++ rd3 nu ++ [(ss.length : Int)])) := by simpa [ub] using ho1
    have r1 := G1.row r0 hv0
    have hW1 : Below w.heap.size w w1 := hW.trans (G1.below hW.size (fun q e => by have := (ho.lt q e).1; omega))
    clear ho1 hg1 hat G1 r0 hW ho hv0 c2 hlt0
    go_loopw [4, 3] (fun j t wr => ∃ (m : Nat) (tv : Value), m ≤ ss.length ∧ j = .int .i64 m ∧ tv = t ∧ wr.ownsRow (w.heap.size + 1) 5 1 tv (5 + (txsB (ss.take m)).length) (ub ([au] ++ rd3 nu ++ [(ss.length : Int)] ++ txsB (ss.take m))) ∧ Below w.heap.size w wr ∧ wr.heap[w.heap.size]? = some (.cells #[.int .i64 au, .int .i64 nu, .slice sa ss.length cap] 24 (0, 0))) (fun j _ _ => ss.length - (intOf j).toNat)
    case atStart => exact ⟨0, _, Nat.zero_le _, rfl, rfl, by simpa [txsB] using ho1', hW1, r1⟩
    case round =>
      clear ho1' hW1 r1
      obtain ⟨m, tv, hm, rfl, rfl, ho, hW, r0⟩ := hrel
      have c2 : wr.cell? ⟨w.heap.size, 2, none⟩ = some (.slice sa ss.length cap) := cells_at r0 2 _ rfl
      have hlt0 : w.heap.size < wr.heap.size := lt_of_heap r0
      by_cases hlt : m < ss.length
      · obtain ⟨sb, so, rfl, hc⟩ : ∃ sb so, sa = some ⟨sb, so, none⟩ ∧ ∀ j, j < ss.length → w.cell? ⟨sb, so + j, none⟩ = some (.string (ss.getD j ByteArray.empty)) := by
          rcases hs.cells with h | h
          · rw [h] at hlt; simp at hlt
          · exact h
        have ck0 := hc m hlt
        have ck := (hW.cell (p := ⟨sb, so + m, none⟩) (block_lt_of_cell ck0)).trans ck0
        have hsz : (ss.getD m ByteArray.empty).size ≤ 20 := hz _ (by simp [List.getD, hlt])
        have hst : Hid (txsB (ss.take (m + 1)) = txsB (ss.take m) ++ (((ss.getD m ByteArray.empty).size : Int) :: tb (ss.getD m ByteArray.empty))) := by
          show _ = _
          rw [List.take_succ_eq_append_getElem hlt, txsB_snoc]
          simp only [List.getD, List.getElem?_eq_getElem hlt, Option.getD_some]
        have hLe : (txsB (ss.take m)).length ≤ 84 := by
          have h1 := txsB_le (ss.take m) (fun s h => hz s (List.mem_of_mem_take h))
          have h2 : (ss.take m).length ≤ 4 := by rw [List.length_take]; omega
          omega
        have hltI : (m : Int) < ss.length := by omega
        have hbt0 := block_lt_of_cell ck0
        clear hc
        generalize ss.getD m ByteArray.empty = x at ck ck0 hst hsz
        generalize txsB (ss.take m) = T at ho hst hLe
        have hv0 : tv.ownBlock ≠ some w.heap.size := fun e => by have := (ho.lt _ e).1; omega
        have hcv := fun wx : World => Lib.run_convert_string_bytes (P := Try.prog) wx 9 28 5 x Try.underlying9 Try.underlying28 Try.underlying5
        go_wp2_with (at_builtin; refine wpList_append_own_at _ rfl _ _ 28 rfl (w.heap.size + 1) 5 i (.int .u8 0) 1 1 Try.underlying28 hi hz0 hz1 hz2 rfl (by decide) _ (5 + T.length) _ rfl (World.ownsRow.alloc ho _) ⟨wr.heap.size, 0, none⟩ 1 1 [.int .u8 (x.size : Int)] rfl rfl (cells_new _ _ _) (u8_one [_]) (by unfold maxLen; omega) (by omega) (le_alloc hlt0 _) ?_; intro v4 w4 ho4 hg4 _ hat4; have G4 := (Grew.of hg4 hat4).alloc; have r4 := G4.row r0 hv0; have hW4 : Below w.heap.size w w4 := hW.trans (G4.below hW.size (fun q e => by have := (ho.lt q e).1; omega)); have d2 : w4.cell? ⟨w.heap.size, 2, none⟩ = some (.slice (some ⟨sb, so, none⟩) ss.length cap) := cells_at r4 2 _ rfl; have dk : w4.cell? ⟨sb, so + m, none⟩ = some (.string x) := (hW4.cell (p := ⟨sb, so + m, none⟩) hbt0).trans ck0)
        have ho4' : w4.ownsRow (w.heap.size + 1) 5 1 v4 (5 + T.length + 1) (ub ([au] ++ rd3 nu ++ [(ss.length : Int)] ++ T ++ [(x.size : Int)])) := by simpa [ub] using ho4
        obtain ⟨xa, xc, hv, hxl, hx⟩ := owns_form ho4'
        subst hv
        have hbx := bytesWorld_below w4 5 x
        have hJ := joined_any ([au] ++ rd3 nu ++ [(ss.length : Int)] ++ T ++ [(x.size : Int)]) (tb x) xa (some ⟨w4.heap.size, 0, none⟩) (5 + T.length + 1) x.size xc (grownCap w4 x.size 0 5) (Lib.bytesWorld w4 5 x) hxl (tb_length x).symm (hx.below hbx) (bytesWorld_slice w4 x (by omega)) (by rw [← hxl, tb_length]; omega)
        refine hJ.mono ?_
        rintro e w5 ⟨v5, rfl, ho5, hb5⟩
        rw [Lib.bytesWorld_size] at hb5 ho5
        have hB5 : Below w4.heap.size w4 w5 := ⟨hb5.os, hb5.tape, hb5.output, Nat.le_trans hbx.size hb5.size, fun k hk => (hb5.block k (by omega)).trans (hbx.block k hk)⟩
        have r5 := (hB5.block _ (lt_of_heap r4)).trans r4
        have hW5 := hW4.trans (hB5.mono hW4.size)
        have hl4 : w.heap.size + 1 ≤ w4.heap.size + 1 := by have := hW4.size; omega
        clear hJ hcv
        go_wp2_with fail
        go_roundw
        case rel =>
          have hR : ∃ (m' : Nat) (tv' : Value), m' ≤ ss.length ∧ (Value.int .i64 ((m : Int) + 1)) = .int .i64 m' ∧ tv' = v5 ∧ w5.ownsRow (w.heap.size + 1) 5 1 tv' (5 + (txsB (ss.take m')).length) (ub ([au] ++ rd3 nu ++ [(ss.length : Int)] ++ txsB (ss.take m'))) ∧ Below w.heap.size w w5 ∧ w5.heap[w.heap.size]? = some (.cells #[.int .i64 au, .int .i64 nu, .slice (some ⟨sb, so, none⟩) ss.length cap] 24 (0, 0)) :=
            ⟨m + 1, v5, by omega, by go_num, rfl, by
              rw [hst.out]
              have h9 := ownsRow_base' ho5 hl4
              rw [← hxl, tb_length] at h9
              simp only [List.length_append, List.length_cons, tb_length]
              rw [show 5 + (T.length + (x.size + 1)) = 5 + T.length + 1 + x.size by omega]
              simpa using h9, hW5, r5⟩
          first | exact hR | ((repeat apply Exists.intro); exact ⟨hR, rfl⟩)
        case measure => simp [intOf]; omega
      · obtain rfl : m = ss.length := by omega
        rw [List.take_of_length_le (Nat.le_refl _)] at ho
        have hltI : ¬ (ss.length : Int) < ss.length := by omega
        go_wp2_with fail
        go_ret
        refine ⟨_, rfl, ?_, hW⟩
        rw [show (batchB au nu ss).length = 5 + (txsB ss).length by simp [batchB, rd3]; omega]
        exact ownsRow_base' ho (Nat.le_succ _)
end Go.Proofs.Ytchmfbhdnhaleaa

namespace Go.Proofs.Ytchmfbhdnhaleaa
open Go.RowKit

set_option maxRecDepth 100000 in
set_option maxHeartbeats 2000000 in
theorem headerBytes_any (au nu : Int) (ba : Option Addr) (bn bc : Nat) (bl : List Part) (pa : Option Addr) (pn pc : Nat) (pl : List Part) (w : World) (ha : 0 ≤ au ∧ au < 4) (hr : 0 ≤ nu ∧ nu ≤ 1048576) (hbn : bn = bl.length) (hpn : pn = pl.length) (hbl : bl.length ≤ 4) (hpl : pl.length ≤ 4) (hb32 : ∀ p ∈ bl, p.bs.length = 32) (hp32 : ∀ p ∈ pl, p.bs.length = 32) (hLb : ListAt w ba bc bl) (hLp : ListAt w pa pc pl) :
    Calls Try.prog 44 #[.agg #[.int .i64 au, .int .i64 nu, .slice ba bn bc, .slice pa pn pc]] w fun e w' => ∃ v, e = .returned v ∧ w'.ownsRow w.heap.size 5 1 v (headB au nu bl pl).length (ub (headB au nu bl pl)) ∧ Below w.heap.size w w' := by
  subst hbn hpn
  obtain ⟨i, hi, hz0, hz1, hz2⟩ := info_parts infoU8
  obtain ⟨ha0, ha1⟩ := ha
  have q0 := heap_alloc_new w (.cells #[.int .i64 au, .int .i64 nu, .slice ba bl.length bc, .slice pa pl.length pc] 27)
  have k0 : (w.alloc (.cells #[.int .i64 au, .int .i64 nu, .slice ba bl.length bc, .slice pa pl.length pc] 27)).cell? ⟨w.heap.size, 0, none⟩ = some (.int .i64 au) := cells_at q0 0 _ rfl
  have k1 : (w.alloc (.cells #[.int .i64 au, .int .i64 nu, .slice ba bl.length bc, .slice pa pl.length pc] 27)).cell? ⟨w.heap.size, 1, none⟩ = some (.int .i64 nu) := cells_at q0 1 _ rfl
  have wu : IntKind.u8.wrap au = au := by rw [IntKind.wrap_u8']; omega
  have hJ : ∀ (wx : World) (xa ya : Option Addr) (c d : Nat), SliceAt wx xa c [au] → SliceAt wx ya d (rd3 nu) → Calls Try.prog 28 #[.slice xa 1 c, .slice ya 3 d] wx fun e w' => ∃ v, e = .returned v ∧ w'.ownsRow wx.heap.size 5 1 v 4 (ub ([au] ++ rd3 nu)) ∧ Below wx.heap.size wx w' := fun wx xa ya c d h1 h2 => joined_any [au] (rd3 nu) xa ya 1 3 c d wx rfl rfl h1 h2 (by simp [rd3])
  have hT : ∀ wx, _ := fun wx => three_any nu wx hr
  have HJ : Hid _ := hJ
  have HT : Hid _ := hT
  clear hJ hT
  go_enter Try.func44, Try.ntmps44
  go_upto_region 1 with (fail)
  go_cut [3] (fun v wx => wx.ownsRow (w.heap.size + 1) 5 1 v 4 (ub ([au] ++ rd3 nu)) ∧ Below w.heap.size w wx ∧ wx.heap[w.heap.size]? = some (.cells #[.int .i64 au, .int .i64 nu, .slice ba bl.length bc, .slice pa pl.length pc] 27 (0, 0)))
  case first =>
    go_region_held3 (fun w' => w'.cell? ⟨w.heap.size, 0, none⟩ = some (.int .i64 au) ∧ w'.cell? ⟨w.heap.size, 1, none⟩ = some (.int .i64 nu)) (go_keep) (first | (go_at_call 45; refine (HT.out _).mono ?_; rintro e w1 ⟨rfl, ho1, hb1⟩; have s1 := (sliceAt_of_owns ho1).2; first | (have r1 := row_new (below_drew hb1); have t0 := row_new (below_alloc (below_drew hb1)); rw [size_alloc] at r1; have c0 : w1.cell? ⟨w.heap.size, 0, none⟩ = some (.int .i64 au) := cells_at t0 0 _ rfl; have c1 : w1.cell? ⟨w.heap.size, 1, none⟩ = some (.int .i64 nu) := cells_at t0 1 _ rfl) | (have t0 := row_new (below_drew hb1); have c0 : w1.cell? ⟨w.heap.size, 0, none⟩ = some (.int .i64 au) := cells_at t0 0 _ rfl; have c1 : w1.cell? ⟨w.heap.size, 1, none⟩ = some (.int .i64 nu) := cells_at t0 1 _ rfl)) | (go_at_call 28; first | (rw [heap_drew, size_alloc, size_alloc] at s1; refine (HJ.out _ _ _ _ _ (slice_row r1) s1).mono ?_; rintro e w3 ⟨v3, rfl, ho3, hb3⟩; have u0 := (hb3.block _ (lt_of_heap t0)).trans t0; have hB3 := (below_alloc (below_alloc (below_drew hb1))).trans (hb3.mono (below_alloc (below_alloc (below_drew hb1))).size); have ho3' := ownsRow_base' ho3 (lt_of_heap t0); have c0 : w3.cell? ⟨w.heap.size, 0, none⟩ = some (.int .i64 au) := cells_at u0 0 _ rfl; have c1 : w3.cell? ⟨w.heap.size, 1, none⟩ = some (.int .i64 nu) := cells_at u0 1 _ rfl) | (rw [heap_drew, size_alloc] at s1; refine (HJ.out _ _ _ _ _ (slice_row (heap_alloc_new w1 _)) (s1.below ((Below.refl _ _).alloc (Nat.le_refl _) _))).mono ?_; rintro e w3 ⟨v3, rfl, ho3, hb3⟩; have u0 := ((below_alloc hb3).block _ (lt_of_heap t0)).trans t0; have hB3 := (below_alloc (below_drew hb1)).trans ((below_alloc hb3).mono (below_alloc (below_drew hb1)).size); have ho3' := ownsRow_base' ho3 (Nat.le_trans (lt_of_heap t0) (by simp)); have c0 : w3.cell? ⟨w.heap.size, 0, none⟩ = some (.int .i64 au) := cells_at u0 0 _ rfl; have c1 : w3.cell? ⟨w.heap.size, 1, none⟩ = some (.int .i64 nu) := cells_at u0 1 _ rfl)))
    all_goals
      go_wp2_with fail
      go_meet
      case rel => exact ⟨ho3', hB3, u0⟩
  case rest =>
    obtain ⟨ho, hW, r0⟩ := hcut
    clear k0 k1 q0 wu HJ HT
    have c2 : wc.cell? ⟨w.heap.size, 2, none⟩ = some (.slice ba bl.length bc) := cells_at r0 2 _ rfl
    have hlt0 : w.heap.size < wc.heap.size := lt_of_heap r0
    have hv0 : u3.ownBlock ≠ some w.heap.size := fun e => by have := (ho.lt _ e).1; omega
    go_wp2_with (at_builtin; refine wpList_append_own_at _ rfl _ _ 28 rfl (w.heap.size + 1) 5 i (.int .u8 0) 1 1 Try.underlying28 hi hz0 hz1 hz2 rfl (by decide) _ (4) _ rfl (World.ownsRow.alloc ho _) ⟨wc.heap.size, 0, none⟩ 1 1 [.int .u8 (bl.length : Int)] rfl rfl (cells_new _ _ _) (u8_one [_]) (by unfold maxLen; omega) (by omega) (le_alloc hlt0 _) ?_; intro v1 w1 ho1 hg1 _ hat; have G1 := (Grew.of hg1 hat).alloc)
    have ho1' : w1.ownsRow (w.heap.size + 1) 5 1 v1 (4 + 1) (ub (([au] ++ rd3 nu) ++ [(bl.length : Int)])) := owns_snoc ho1
    have r1 := G1.row r0 hv0
    have hW1 : Below w.heap.size w w1 := hW.trans (G1.below hW.size (fun q e => by have := (ho.lt q e).1; omega))
    clear ho1 hg1 hat G1 r0 hW ho hv0 hlt0
    clear c2
    go_loopw [4, 3] (fun j t wr => ∃ (m : Nat) (tv : Value), m ≤ bl.length ∧ j = .int .i64 m ∧ tv = t ∧ wr.ownsRow (w.heap.size + 1) 5 1 tv (4 + 1 + (flatB (bl.take m)).length) (ub ((([au] ++ rd3 nu) ++ [(bl.length : Int)]) ++ flatB (bl.take m))) ∧ Below w.heap.size w wr ∧ wr.heap[w.heap.size]? = some (.cells #[.int .i64 au, .int .i64 nu, .slice ba bl.length bc, .slice pa pl.length pc] 27 (0, 0))) (fun j _ _ => bl.length - (intOf j).toNat)
    case atStart => exact ⟨0, _, Nat.zero_le _, rfl, rfl, by simpa [flatB] using ho1', hW1, r1⟩
    case round =>
      clear ho1' hW1 r1
      obtain ⟨m, tv, hm, rfl, rfl, ho, hW, r0⟩ := hrel
      have c2 : wr.cell? ⟨w.heap.size, 2, none⟩ = some (.slice ba bl.length bc) := cells_at r0 2 _ rfl
      have hlt0 : w.heap.size < wr.heap.size := lt_of_heap r0
      by_cases hlt : m < bl.length
      · have hLr := hLb.below hW
        obtain ⟨sb, so, hla, hc⟩ : ∃ sb so, ba = some ⟨sb, so, none⟩ ∧ ∀ j (h : j < bl.length), wr.cell? ⟨sb, so + j, none⟩ = some (.slice (bl[j]).sa (bl[j]).bs.length (bl[j]).cap) := by
          rcases hLr.parts.cells with h | h
          · rw [h] at hlt; simp at hlt
          · exact h
        subst hla
        have ck := hc m hlt
        have hp := hLr.parts.each bl[m] (List.getElem_mem hlt)
        have hq32 := hb32 bl[m] (List.getElem_mem hlt)
        have hst : Hid (flatB (bl.take (m + 1)) = flatB (bl.take m) ++ (bl[m]).bs) := by
          show _ = _
          rw [List.take_succ_eq_append_getElem hlt, flatB_snoc]
        have hLe : (flatB (bl.take m)).length ≤ 128 := by
          rw [flatB_length _ (fun p h => hb32 p (List.mem_of_mem_take h)), List.length_take]; omega
        have hltI : (m : Int) < bl.length := by omega
        clear hc hLr
        generalize bl[m] = p at *
        generalize flatB (bl.take m) = T at ho hst hLe
        obtain ⟨xa, xc, hv, hxl, hx⟩ := owns_form ho
        subst hv
        have hJ := joined_any ((([au] ++ rd3 nu) ++ [(bl.length : Int)]) ++ T) p.bs xa p.sa (4 + 1 + T.length) p.bs.length xc p.cap wr hxl rfl hx hp (by rw [← hxl]; omega)
        have HXL : Hid _ := hxl
        have H32 : Hid _ := hq32
        clear hxl hq32
        go_wp2_with fail
        refine hJ.mono ?_
        rintro e w5 ⟨v5, rfl, ho5, hb5⟩
        have r5 := (hb5.block _ (lt_of_heap r0)).trans r0
        have hW5 := hW.trans (hb5.mono hW.size)
        clear hJ
        go_wp2_with fail
        go_roundw
        case rel =>
          have hR : ∃ (m' : Nat) (tv' : Value), m' ≤ bl.length ∧ (Value.int .i64 ((m : Int) + 1)) = .int .i64 m' ∧ tv' = v5 ∧ w5.ownsRow (w.heap.size + 1) 5 1 tv' (4 + 1 + (flatB (bl.take m')).length) (ub ((([au] ++ rd3 nu) ++ [(bl.length : Int)]) ++ flatB (bl.take m'))) ∧ Below w.heap.size w w5 ∧ w5.heap[w.heap.size]? = some (.cells #[.int .i64 au, .int .i64 nu, .slice (some ⟨sb, so, none⟩) bl.length bc, .slice pa pl.length pc] 27 (0, 0)) :=
            ⟨m + 1, v5, by omega, by go_num, rfl, by
              rw [hst.out]
              have h9 := ownsRow_base' ho5 hlt0
              rw [← HXL.out] at h9
              rw [List.length_append, ← Nat.add_assoc]
              simpa using h9, hW5, r5⟩
          first | exact hR | ((repeat apply Exists.intro); exact ⟨hR, rfl⟩)
        case measure => simp [intOf]; omega
      · obtain rfl : m = bl.length := by omega
        rw [List.take_of_length_le (Nat.le_refl _)] at ho
        have hltI : ¬ (bl.length : Int) < bl.length := by omega
        have c3 : wr.cell? ⟨w.heap.size, 3, none⟩ = some (.slice pa pl.length pc) := cells_at r0 3 _ rfl
        have hfl := flatB_length bl hb32
        have hf4 : (flatB bl).length ≤ 128 := by omega
        have HFL : Hid _ := hfl
        clear hfl
        rename World => wl
        have hv0 : tv.ownBlock ≠ some w.heap.size := fun e => by have := (ho.lt _ e).1; omega
        go_wp2_with (at_builtin; refine wpList_append_own_at _ rfl _ _ 28 rfl (w.heap.size + 1) 5 i (.int .u8 0) 1 1 Try.underlying28 hi hz0 hz1 hz2 rfl (by decide) _ (4 + 1 + (flatB bl).length) _ rfl (World.ownsRow.alloc ho _) ⟨wl.heap.size, 0, none⟩ 1 1 [.int .u8 (pl.length : Int)] rfl rfl (cells_new _ _ _) (u8_one [_]) (by unfold maxLen; omega) (by omega) (le_alloc hlt0 _) ?_; intro v1 w1 ho1 hg1 _ hat; have G1 := (Grew.of hg1 hat).alloc)
        have ho1' : w1.ownsRow (w.heap.size + 1) 5 1 v1 (4 + 1 + (flatB bl).length + 1) (ub (((([au] ++ rd3 nu) ++ [(bl.length : Int)]) ++ flatB bl) ++ [(pl.length : Int)])) := owns_snoc ho1
        have r1 := G1.row r0 hv0
        have hW1 : Below w.heap.size w w1 := hW.trans (G1.below hW.size (fun q e => by have := (ho.lt q e).1; omega))
        clear ho1 hg1 hat G1 r0 hW ho hv0 hlt0
        clear c2 c3
        go_loopw [5, 3] (fun j t wr => ∃ (m : Nat) (tv : Value), m ≤ pl.length ∧ j = .int .i64 m ∧ tv = t ∧ wr.ownsRow (w.heap.size + 1) 5 1 tv (4 + 1 + (flatB bl).length + 1 + (flatB (pl.take m)).length) (ub ((((([au] ++ rd3 nu) ++ [(bl.length : Int)]) ++ flatB bl) ++ [(pl.length : Int)]) ++ flatB (pl.take m))) ∧ Below w.heap.size w wr ∧ wr.heap[w.heap.size]? = some (.cells #[.int .i64 au, .int .i64 nu, .slice ba bl.length bc, .slice pa pl.length pc] 27 (0, 0))) (fun j _ _ => pl.length - (intOf j).toNat)
        case atStart => exact ⟨0, _, Nat.zero_le _, rfl, rfl, by simpa [flatB] using ho1', hW1, r1⟩
        case round =>
          clear ho1' hW1 r1
          obtain ⟨m, tv, hm, rfl, rfl, ho, hW, r0⟩ := hrel
          have c3 : wr.cell? ⟨w.heap.size, 3, none⟩ = some (.slice pa pl.length pc) := cells_at r0 3 _ rfl
          have hlt0 : w.heap.size < wr.heap.size := lt_of_heap r0
          by_cases hlt : m < pl.length
          · have hLr := hLp.below hW
            obtain ⟨sb, so, hla, hc⟩ : ∃ sb so, pa = some ⟨sb, so, none⟩ ∧ ∀ j (h : j < pl.length), wr.cell? ⟨sb, so + j, none⟩ = some (.slice (pl[j]).sa (pl[j]).bs.length (pl[j]).cap) := by
              rcases hLr.parts.cells with h | h
              · rw [h] at hlt; simp at hlt
              · exact h
            subst hla
            have ck := hc m hlt
            have hp := hLr.parts.each pl[m] (List.getElem_mem hlt)
            have hq32 := hp32 pl[m] (List.getElem_mem hlt)
            have hst : Hid (flatB (pl.take (m + 1)) = flatB (pl.take m) ++ (pl[m]).bs) := by
              show _ = _
              rw [List.take_succ_eq_append_getElem hlt, flatB_snoc]
            have hLe : (flatB (pl.take m)).length ≤ 128 := by
              rw [flatB_length _ (fun p h => hp32 p (List.mem_of_mem_take h)), List.length_take]; omega
            have hltI : (m : Int) < pl.length := by omega
            clear hc hLr
            generalize pl[m] = p at *
            generalize flatB (pl.take m) = T at ho hst hLe
            obtain ⟨xa, xc, hv, hxl, hx⟩ := owns_form ho
            subst hv
            have hJ := joined_any ((((([au] ++ rd3 nu) ++ [(bl.length : Int)]) ++ flatB bl) ++ [(pl.length : Int)]) ++ T) p.bs xa p.sa (4 + 1 + (flatB bl).length + 1 + T.length) p.bs.length xc p.cap wr hxl rfl hx hp (by rw [← hxl]; omega)
            have HXL : Hid _ := hxl
            have H32 : Hid _ := hq32
            clear hxl hq32
            go_wp2_with fail
            refine hJ.mono ?_
            rintro e w5 ⟨v5, rfl, ho5, hb5⟩
            have r5 := (hb5.block _ (lt_of_heap r0)).trans r0
            have hW5 := hW.trans (hb5.mono hW.size)
            clear hJ
            go_wp2_with fail
            go_roundw
            case rel =>
              have hR : ∃ (m' : Nat) (tv' : Value), m' ≤ pl.length ∧ (Value.int .i64 ((m : Int) + 1)) = .int .i64 m' ∧ tv' = v5 ∧ w5.ownsRow (w.heap.size + 1) 5 1 tv' (4 + 1 + (flatB bl).length + 1 + (flatB (pl.take m')).length) (ub ((((([au] ++ rd3 nu) ++ [(bl.length : Int)]) ++ flatB bl) ++ [(pl.length : Int)]) ++ flatB (pl.take m'))) ∧ Below w.heap.size w w5 ∧ w5.heap[w.heap.size]? = some (.cells #[.int .i64 au, .int .i64 nu, .slice ba bl.length bc, .slice (some ⟨sb, so, none⟩) pl.length pc] 27 (0, 0)) :=
                ⟨m + 1, v5, by omega, by go_num, rfl, by
                  rw [hst.out]
                  have h9 := ownsRow_base' ho5 hlt0
                  rw [← HXL.out] at h9
                  rw [List.length_append, ← Nat.add_assoc]
                  simpa using h9, hW5, r5⟩
              first | exact hR | ((repeat apply Exists.intro); exact ⟨hR, rfl⟩)
            case measure => simp [intOf]; omega
          · obtain rfl : m = pl.length := by omega
            rw [List.take_of_length_le (Nat.le_refl _)] at ho
            have hltI : ¬ (pl.length : Int) < pl.length := by omega
            go_wp2_with fail
            go_ret
            refine ⟨_, rfl, ?_, hW⟩
            rw [show (headB au nu bl pl).length = 4 + 1 + (flatB bl).length + 1 + (flatB pl).length by simp [headB, rd3, digsB]; omega, show headB au nu bl pl = (((([au] ++ rd3 nu) ++ [(bl.length : Int)]) ++ flatB bl) ++ [(pl.length : Int)]) ++ flatB pl by simp [headB, digsB]]
            exact ownsRow_base' ho (Nat.le_succ _)
end Go.Proofs.Ytchmfbhdnhaleaa

namespace Go.Proofs.Ytchmfbhdnhaleaa
open Go.RowKit

set_option maxRecDepth 100000 in
set_option maxHeartbeats 2000000 in
theorem mBytes1 (m : Msg) (ss : List ByteArray) (w : World) (hk : m.ki = 1) (hf : 0 ≤ m.fr ∧ m.fr < 4) (ht : 0 ≤ m.tt ∧ m.tt < 4) (ha : 0 ≤ m.bau ∧ m.bau < 4) (hr : 0 ≤ m.bnu ∧ m.bnu ≤ 1048576) (hn : m.btn = ss.length) (hl : ss.length ≤ 4) (hz : ∀ s ∈ ss, s.size ≤ 20) (hs : StrsAt w m.bta ss)
    (hc : ∀ w1, Below w.heap.size w w1 → Calls Try.prog 23 #[.agg #[.int .i64 m.fr, .int .i64 m.tt, .int .i64 m.ki, .int .i64 m.bau, .int .i64 m.bnu, .slice m.bta m.btn m.btc, .int .i64 m.hau, .int .i64 m.hrd, .slice m.hba m.hbn m.hbc, .slice m.hpa m.hpn m.hpc, .int .i64 m.sau, .int .i64 m.srd, .slice m.sda m.sdn m.sdc, .int .i64 m.cau, .int .i64 m.crd, .slice m.cba m.cbn m.cbc, .slice m.cpa m.cpn m.cpc, .slice m.cva m.cvn m.cvc, .int .i64 m.ro]] w1 fun e w' => e = .returned (.int .i64 0) ∧ Below w1.heap.size w1 w') :
    Calls Try.prog 27 #[.agg #[.int .i64 m.fr, .int .i64 m.tt, .int .i64 m.ki, .int .i64 m.bau, .int .i64 m.bnu, .slice m.bta m.btn m.btc, .int .i64 m.hau, .int .i64 m.hrd, .slice m.hba m.hbn m.hbc, .slice m.hpa m.hpn m.hpc, .int .i64 m.sau, .int .i64 m.srd, .slice m.sda m.sdn m.sdc, .int .i64 m.cau, .int .i64 m.crd, .slice m.cba m.cbn m.cbc, .slice m.cpa m.cpn m.cpc, .slice m.cva m.cvn m.cvc, .int .i64 m.ro]] w fun e w' => ∃ v, e = .returned (.tuple #[v, .int .i64 0]) ∧ w'.ownsRow w.heap.size 5 1 v (3 + (batchB m.bau m.bnu ss).length) (ub ([1, m.fr, m.tt] ++ batchB m.bau m.bnu ss)) ∧ Below w.heap.size w w' := by
  have hq := heap_alloc_new w (.cells #[.int .i64 m.fr, .int .i64 m.tt, .int .i64 m.ki, .int .i64 m.bau, .int .i64 m.bnu, .slice m.bta m.btn m.btc, .int .i64 m.hau, .int .i64 m.hrd, .slice m.hba m.hbn m.hbc, .slice m.hpa m.hpn m.hpc, .int .i64 m.sau, .int .i64 m.srd, .slice m.sda m.sdn m.sdc, .int .i64 m.cau, .int .i64 m.crd, .slice m.cba m.cbn m.cbc, .slice m.cpa m.cpn m.cpc, .slice m.cva m.cvn m.cvc, .int .i64 m.ro] 35)
  have hB : Below w.heap.size w (w.alloc (.cells #[.int .i64 m.fr, .int .i64 m.tt, .int .i64 m.ki, .int .i64 m.bau, .int .i64 m.bnu, .slice m.bta m.btn m.btc, .int .i64 m.hau, .int .i64 m.hrd, .slice m.hba m.hbn m.hbc, .slice m.hpa m.hpn m.hpc, .int .i64 m.sau, .int .i64 m.srd, .slice m.sda m.sdn m.sdc, .int .i64 m.cau, .int .i64 m.crd, .slice m.cba m.cbn m.cbc, .slice m.cpa m.cpn m.cpc, .slice m.cva m.cvn m.cvc, .int .i64 m.ro] 35)) := (Below.refl _ _).alloc (Nat.le_refl _) _
  rw [hk] at hc hq hB ⊢
  obtain ⟨hf0, hf1⟩ := hf
  obtain ⟨ht0, ht1⟩ := ht
  have Hn : Hid (m.btn = ss.length) := hn
  clear hn
  clear hk
  go_enter Try.func27, Try.ntmps27
  go_wp2_with (refine wpList_load_row rfl 35 _ rfl w.heap.size rfl 35 _ (0, 0) _ hq Try.underlying35 rfl sMsg ?_)
  refine (hc _ hB).mono ?_
  rintro e w1 ⟨rfl, hb1⟩
  have r1 := row_new hb1
  replace hb1 := below_alloc hb1
  have c0 : w1.cell? ⟨w.heap.size, 0, none⟩ = some (.int .i64 m.fr) := cells_at r1 0 _ rfl
  have c1 : w1.cell? ⟨w.heap.size, 1, none⟩ = some (.int .i64 m.tt) := cells_at r1 1 _ rfl
  have c2 : w1.cell? ⟨w.heap.size, 2, none⟩ = some (.int .i64 1) := cells_at r1 2 _ rfl
  have c3 : w1.cell? ⟨w.heap.size, 3, none⟩ = some (.int .i64 m.bau) := cells_at r1 3 _ rfl
  have c4 : w1.cell? ⟨w.heap.size, 4, none⟩ = some (.int .i64 m.bnu) := cells_at r1 4 _ rfl
  have c5 : w1.cell? ⟨w.heap.size, 5, none⟩ = some (.slice m.bta m.btn m.btc) := cells_at r1 5 _ rfl
  have hlt : w.heap.size < w1.heap.size := lt_of_heap r1
  have hlit := World.ownsRow_lit (base := w1.heap.size) (e := 5) (size := 1) w1 (ub [1, m.fr, m.tt]).toArray 3 (Nat.le_refl _) (by decide) rfl
  have hA1 : Below w1.heap.size w1 (w1.alloc (.cells (ub [1, m.fr, m.tt]).toArray 5)) := (Below.refl _ _).alloc (Nat.le_refl _) _
  have hB1 := hb1.trans (hA1.mono hb1.size)
  go_wp2_with fail
  refine (batchBytes_any m.bau m.bnu m.bta m.btn m.btc ss _ ha hr Hn.out hl hz ((hs.below hb1).below hA1)).mono ?_
  rintro e w2 ⟨v2, he, ho2, hb2⟩
  subst he
  dsimp only
  obtain ⟨-, hl1⟩ := sliceAt_of_owns (owns_keep hlit hb2)
  obtain ⟨ra, rc, hv, -, hs2⟩ := owns_form ho2
  subst hv
  have hB2 := hB1.trans (hb2.mono hB1.size)
  have hBL : (batchB m.bau m.bnu ss).length ≤ 400 := by have := txsB_le ss hz; simp [batchB, rd3]; omega
  generalize hBB : batchB m.bau m.bnu ss = BB at *
  have HBB : Hid (batchB m.bau m.bnu ss = BB) := hBB
  clear hBB
  go_wp2_with fail
  refine (joined_any [1, m.fr, m.tt] BB _ ra 3 _ 3 rc w2 rfl rfl hl1 hs2 (by show 3 + _ ≤ _; omega)).mono ?_
  rintro e w3 ⟨v3, he, ho3, hb3⟩
  subst he
  dsimp only
  go_wp2_with fail
  go_ret2
  refine ⟨v3, rfl, ?_, hB2.trans (hb3.mono hB2.size)⟩
  rw [HBB.out]
  exact ownsRow_base' ho3 hB2.size
end Go.Proofs.Ytchmfbhdnhaleaa

namespace Go.Proofs.Ytchmfbhdnhaleaa
open Go.RowKit

set_option maxRecDepth 100000 in
set_option maxHeartbeats 2000000 in
theorem mBytes2 (m : Msg) (bl pl : List Part) (w : World) (hk : m.ki = 2) (hf : 0 ≤ m.fr ∧ m.fr < 4) (ht : 0 ≤ m.tt ∧ m.tt < 4) (ha : 0 ≤ m.hau ∧ m.hau < 4) (hr : 0 ≤ m.hrd ∧ m.hrd ≤ 1048576) (hbn : m.hbn = bl.length) (hpn : m.hpn = pl.length) (hbl : bl.length ≤ 4) (hpl : pl.length ≤ 4) (hb32 : ∀ p ∈ bl, p.bs.length = 32) (hp32 : ∀ p ∈ pl, p.bs.length = 32) (hLb : ListAt w m.hba m.hbc bl) (hLp : ListAt w m.hpa m.hpc pl)
    (hc : ∀ w1, Below w.heap.size w w1 → Calls Try.prog 23 #[.agg #[.int .i64 m.fr, .int .i64 m.tt, .int .i64 m.ki, .int .i64 m.bau, .int .i64 m.bnu, .slice m.bta m.btn m.btc, .int .i64 m.hau, .int .i64 m.hrd, .slice m.hba m.hbn m.hbc, .slice m.hpa m.hpn m.hpc, .int .i64 m.sau, .int .i64 m.srd, .slice m.sda m.sdn m.sdc, .int .i64 m.cau, .int .i64 m.crd, .slice m.cba m.cbn m.cbc, .slice m.cpa m.cpn m.cpc, .slice m.cva m.cvn m.cvc, .int .i64 m.ro]] w1 fun e w' => e = .returned (.int .i64 0) ∧ Below w1.heap.size w1 w') :
    Calls Try.prog 27 #[.agg #[.int .i64 m.fr, .int .i64 m.tt, .int .i64 m.ki, .int .i64 m.bau, .int .i64 m.bnu, .slice m.bta m.btn m.btc, .int .i64 m.hau, .int .i64 m.hrd, .slice m.hba m.hbn m.hbc, .slice m.hpa m.hpn m.hpc, .int .i64 m.sau, .int .i64 m.srd, .slice m.sda m.sdn m.sdc, .int .i64 m.cau, .int .i64 m.crd, .slice m.cba m.cbn m.cbc, .slice m.cpa m.cpn m.cpc, .slice m.cva m.cvn m.cvc, .int .i64 m.ro]] w fun e w' => ∃ v, e = .returned (.tuple #[v, .int .i64 0]) ∧ w'.ownsRow w.heap.size 5 1 v (3 + (headB m.hau m.hrd bl pl).length) (ub ([2, m.fr, m.tt] ++ headB m.hau m.hrd bl pl)) ∧ Below w.heap.size w w' := by
  have hq := heap_alloc_new w (.cells #[.int .i64 m.fr, .int .i64 m.tt, .int .i64 m.ki, .int .i64 m.bau, .int .i64 m.bnu, .slice m.bta m.btn m.btc, .int .i64 m.hau, .int .i64 m.hrd, .slice m.hba m.hbn m.hbc, .slice m.hpa m.hpn m.hpc, .int .i64 m.sau, .int .i64 m.srd, .slice m.sda m.sdn m.sdc, .int .i64 m.cau, .int .i64 m.crd, .slice m.cba m.cbn m.cbc, .slice m.cpa m.cpn m.cpc, .slice m.cva m.cvn m.cvc, .int .i64 m.ro] 35)
  have hB : Below w.heap.size w (w.alloc (.cells #[.int .i64 m.fr, .int .i64 m.tt, .int .i64 m.ki, .int .i64 m.bau, .int .i64 m.bnu, .slice m.bta m.btn m.btc, .int .i64 m.hau, .int .i64 m.hrd, .slice m.hba m.hbn m.hbc, .slice m.hpa m.hpn m.hpc, .int .i64 m.sau, .int .i64 m.srd, .slice m.sda m.sdn m.sdc, .int .i64 m.cau, .int .i64 m.crd, .slice m.cba m.cbn m.cbc, .slice m.cpa m.cpn m.cpc, .slice m.cva m.cvn m.cvc, .int .i64 m.ro] 35)) := (Below.refl _ _).alloc (Nat.le_refl _) _
  rw [hk] at hc hq hB ⊢
  obtain ⟨hf0, hf1⟩ := hf
  obtain ⟨ht0, ht1⟩ := ht
  have Hn : Hid (m.hbn = bl.length ∧ m.hpn = pl.length) := ⟨hbn, hpn⟩
  clear hbn hpn
  clear hk
  go_enter Try.func27, Try.ntmps27
  go_wp2_with (refine wpList_load_row rfl 35 _ rfl w.heap.size rfl 35 _ (0, 0) _ hq Try.underlying35 rfl sMsg ?_)
  refine (hc _ hB).mono ?_
  rintro e w1 ⟨rfl, hb1⟩
  have r1 := row_new hb1
  replace hb1 := below_alloc hb1
  have c0 : w1.cell? ⟨w.heap.size, 0, none⟩ = some (.int .i64 m.fr) := cells_at r1 0 _ rfl
  have c1 : w1.cell? ⟨w.heap.size, 1, none⟩ = some (.int .i64 m.tt) := cells_at r1 1 _ rfl
  have c2 : w1.cell? ⟨w.heap.size, 2, none⟩ = some (.int .i64 2) := cells_at r1 2 _ rfl
  have c6 : w1.cell? ⟨w.heap.size, 6, none⟩ = some (.int .i64 m.hau) := cells_at r1 6 _ rfl
  have c7 : w1.cell? ⟨w.heap.size, 7, none⟩ = some (.int .i64 m.hrd) := cells_at r1 7 _ rfl
  have c8 : w1.cell? ⟨w.heap.size, 8, none⟩ = some (.slice m.hba m.hbn m.hbc) := cells_at r1 8 _ rfl
  have c9 : w1.cell? ⟨w.heap.size, 9, none⟩ = some (.slice m.hpa m.hpn m.hpc) := cells_at r1 9 _ rfl
  have hlt : w.heap.size < w1.heap.size := lt_of_heap r1
  have hlit := World.ownsRow_lit (base := w1.heap.size) (e := 5) (size := 1) w1 (ub [2, m.fr, m.tt]).toArray 3 (Nat.le_refl _) (by decide) rfl
  have hA1 : Below w1.heap.size w1 (w1.alloc (.cells (ub [2, m.fr, m.tt]).toArray 5)) := (Below.refl _ _).alloc (Nat.le_refl _) _
  have hB1 := hb1.trans (hA1.mono hb1.size)
  go_wp2_with fail
  refine (headerBytes_any m.hau m.hrd m.hba m.hbn m.hbc bl m.hpa m.hpn m.hpc pl _ ha hr Hn.out.1 Hn.out.2 hbl hpl hb32 hp32 ((hLb.below hb1).below hA1) ((hLp.below hb1).below hA1)).mono ?_
  rintro e w2 ⟨v2, he, ho2, hb2⟩
  subst he
  dsimp only
  obtain ⟨-, hl1⟩ := sliceAt_of_owns (owns_keep hlit hb2)
  obtain ⟨ra, rc, hv, -, hs2⟩ := owns_form ho2
  subst hv
  have hB2 := hB1.trans (hb2.mono hB1.size)
  have hBL : (headB m.hau m.hrd bl pl).length ≤ 400 := by have := headB_le m.hau m.hrd bl pl hbl hpl hb32 hp32; omega
  generalize hBB : headB m.hau m.hrd bl pl = BB at *
  have HBB : Hid (headB m.hau m.hrd bl pl = BB) := hBB
  clear hBB
  go_wp2_with fail
  refine (joined_any [2, m.fr, m.tt] BB _ ra 3 _ 3 rc w2 rfl rfl hl1 hs2 (by show 3 + _ ≤ _; omega)).mono ?_
  rintro e w3 ⟨v3, he, ho3, hb3⟩
  subst he
  dsimp only
  go_wp2_with fail
  go_ret2
  refine ⟨v3, rfl, ?_, hB2.trans (hb3.mono hB2.size)⟩
  rw [HBB.out]
  exact ownsRow_base' ho3 hB2.size
end Go.Proofs.Ytchmfbhdnhaleaa

namespace Go.Proofs.Ytchmfbhdnhaleaa
open Go.RowKit

set_option maxRecDepth 100000 in
theorem three_v (n : Int) (w : World) (hn : 0 ≤ n ∧ n ≤ 1048576) :
    Calls Try.prog 45 #[.int .i64 n] w fun e w' => ∃ v, e = .returned v ∧ w'.ownsRow w.heap.size 5 1 v (rd3 n).length (ub (rd3 n)) ∧ Below w.heap.size w w' :=
  (three_any n w hn).mono (fun _ _ h => ⟨_, h.1, h.2.1, h.2.2⟩)
set_option maxRecDepth 100000 in
set_option maxHeartbeats 2000000 in
theorem mBytes5 (m : Msg) (w : World) (hk : m.ki = 5) (hf : 0 ≤ m.fr ∧ m.fr < 4) (ht : 0 ≤ m.tt ∧ m.tt < 4) (hr : 0 ≤ m.ro ∧ m.ro ≤ 1048576)
    (hc : ∀ w1, Below w.heap.size w w1 → Calls Try.prog 23 #[.agg #[.int .i64 m.fr, .int .i64 m.tt, .int .i64 m.ki, .int .i64 m.bau, .int .i64 m.bnu, .slice m.bta m.btn m.btc, .int .i64 m.hau, .int .i64 m.hrd, .slice m.hba m.hbn m.hbc, .slice m.hpa m.hpn m.hpc, .int .i64 m.sau, .int .i64 m.srd, .slice m.sda m.sdn m.sdc, .int .i64 m.cau, .int .i64 m.crd, .slice m.cba m.cbn m.cbc, .slice m.cpa m.cpn m.cpc, .slice m.cva m.cvn m.cvc, .int .i64 m.ro]] w1 fun e w' => e = .returned (.int .i64 0) ∧ Below w1.heap.size w1 w') :
    Calls Try.prog 27 #[.agg #[.int .i64 m.fr, .int .i64 m.tt, .int .i64 m.ki, .int .i64 m.bau, .int .i64 m.bnu, .slice m.bta m.btn m.btc, .int .i64 m.hau, .int .i64 m.hrd, .slice m.hba m.hbn m.hbc, .slice m.hpa m.hpn m.hpc, .int .i64 m.sau, .int .i64 m.srd, .slice m.sda m.sdn m.sdc, .int .i64 m.cau, .int .i64 m.crd, .slice m.cba m.cbn m.cbc, .slice m.cpa m.cpn m.cpc, .slice m.cva m.cvn m.cvc, .int .i64 m.ro]] w fun e w' => ∃ v, e = .returned (.tuple #[v, .int .i64 0]) ∧ w'.ownsRow w.heap.size 5 1 v (3 + (rd3 m.ro).length) (ub ([5, m.fr, m.tt] ++ rd3 m.ro)) ∧ Below w.heap.size w w' := by
  have hq := heap_alloc_new w (.cells #[.int .i64 m.fr, .int .i64 m.tt, .int .i64 m.ki, .int .i64 m.bau, .int .i64 m.bnu, .slice m.bta m.btn m.btc, .int .i64 m.hau, .int .i64 m.hrd, .slice m.hba m.hbn m.hbc, .slice m.hpa m.hpn m.hpc, .int .i64 m.sau, .int .i64 m.srd, .slice m.sda m.sdn m.sdc, .int .i64 m.cau, .int .i64 m.crd, .slice m.cba m.cbn m.cbc, .slice m.cpa m.cpn m.cpc, .slice m.cva m.cvn m.cvc, .int .i64 m.ro] 35)
  have hB : Below w.heap.size w (w.alloc (.cells #[.int .i64 m.fr, .int .i64 m.tt, .int .i64 m.ki, .int .i64 m.bau, .int .i64 m.bnu, .slice m.bta m.btn m.btc, .int .i64 m.hau, .int .i64 m.hrd, .slice m.hba m.hbn m.hbc, .slice m.hpa m.hpn m.hpc, .int .i64 m.sau, .int .i64 m.srd, .slice m.sda m.sdn m.sdc, .int .i64 m.cau, .int .i64 m.crd, .slice m.cba m.cbn m.cbc, .slice m.cpa m.cpn m.cpc, .slice m.cva m.cvn m.cvc, .int .i64 m.ro] 35)) := (Below.refl _ _).alloc (Nat.le_refl _) _
  rw [hk] at hc hq hB ⊢
  obtain ⟨hf0, hf1⟩ := hf
  obtain ⟨ht0, ht1⟩ := ht
  clear hk
  go_enter Try.func27, Try.ntmps27
  go_wp2_with (refine wpList_load_row rfl 35 _ rfl w.heap.size rfl 35 _ (0, 0) _ hq Try.underlying35 rfl sMsg ?_)
  refine (hc _ hB).mono ?_
  rintro e w1 ⟨rfl, hb1⟩
  have r1 := row_new hb1
  replace hb1 := below_alloc hb1
  have c0 : w1.cell? ⟨w.heap.size, 0, none⟩ = some (.int .i64 m.fr) := cells_at r1 0 _ rfl
  have c1 : w1.cell? ⟨w.heap.size, 1, none⟩ = some (.int .i64 m.tt) := cells_at r1 1 _ rfl
  have c2 : w1.cell? ⟨w.heap.size, 2, none⟩ = some (.int .i64 5) := cells_at r1 2 _ rfl
  have c18 : w1.cell? ⟨w.heap.size, 18, none⟩ = some (.int .i64 m.ro) := cells_at r1 18 _ rfl
  have hlt : w.heap.size < w1.heap.size := lt_of_heap r1
  have hlit := World.ownsRow_lit (base := w1.heap.size) (e := 5) (size := 1) w1 (ub [5, m.fr, m.tt]).toArray 3 (Nat.le_refl _) (by decide) rfl
  have hA1 : Below w1.heap.size w1 (w1.alloc (.cells (ub [5, m.fr, m.tt]).toArray 5)) := (Below.refl _ _).alloc (Nat.le_refl _) _
  have hB1 := hb1.trans (hA1.mono hb1.size)
  go_wp2_with fail
  refine (three_v m.ro _ hr).mono ?_
  rintro e w2 ⟨v2, he, ho2, hb2⟩
  subst he
  dsimp only
  obtain ⟨-, hl1⟩ := sliceAt_of_owns (owns_keep hlit hb2)
  obtain ⟨ra, rc, hv, -, hs2⟩ := owns_form ho2
  subst hv
  have hB2 := hB1.trans (hb2.mono hB1.size)
  have hBL : (rd3 m.ro).length ≤ 400 := by simp [rd3]
  generalize hBB : rd3 m.ro = BB at *
  have HBB : Hid (rd3 m.ro = BB) := hBB
  clear hBB
  go_wp2_with fail
  refine (joined_any [5, m.fr, m.tt] BB _ ra 3 _ 3 rc w2 rfl rfl hl1 hs2 (by show 3 + _ ≤ _; omega)).mono ?_
  rintro e w3 ⟨v3, he, ho3, hb3⟩
  subst he
  dsimp only
  go_wp2_with fail
  go_ret2
  refine ⟨v3, rfl, ?_, hB2.trans (hb3.mono hB2.size)⟩
  rw [HBB.out]
  exact ownsRow_base' ho3 hB2.size
end Go.Proofs.Ytchmfbhdnhaleaa
