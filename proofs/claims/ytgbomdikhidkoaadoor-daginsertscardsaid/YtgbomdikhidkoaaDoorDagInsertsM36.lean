/- The document's answer, package sheavesref: wordsOf and turnsOf. -/
import Derived.Test.YtgbomdikhidkoaaDoorDagInsertsM30
import Derived.Test.YtgbomdikhidkoaaDoorAppH
import Derived.Test.YtgbomdikhidkoaaDoorK
import Derived.Test.YtgbomdikhidkoaaDoorLib
import Derived.Deep.QuietTactic
import Derived.BigQuiet
import Derived.BigRegion
import Derived.Deep.DeepCutAuto
import Derived.Deep.RegionWith
import Derived.Test.YtgbomdikhidkoaaDoorApp
namespace Go.Proofs.YtgbomdikhidkoaaDoor
open Go.RowKit

set_option maxRecDepth 100000 in
set_option maxHeartbeats 2000000 in
theorem headerBytes_any (au nu : Int) (ba : Option Addr) (bn bc : Nat) (bl : List Part) (pa : Option Addr) (pn pc : Nat) (pl : List Part) (w : World) (ha : 0 ≤ au ∧ au < 4) (hr : 0 ≤ nu ∧ nu ≤ 1048576) (hbn : bn = bl.length) (hpn : pn = pl.length) (hbl : bl.length ≤ 4) (hpl : pl.length ≤ 4) (hb32 : ∀ p ∈ bl, p.bs.length = 32) (hp32 : ∀ p ∈ pl, p.bs.length = 32) (hLb : ListAt w ba bc bl) (hLp : ListAt w pa pc pl) :
    Calls Tryd.prog 62 #[.agg #[.int .i64 au, .int .i64 nu, .slice ba bn bc, .slice pa pn pc]] w fun e w' => ∃ v, e = .returned v ∧ w'.ownsRow w.heap.size 5 1 v (headB au nu bl pl).length (ub (headB au nu bl pl)) ∧ Below w.heap.size w w' := by
  subst hbn hpn
  obtain ⟨i, hi, hz0, hz1, hz2⟩ := info_parts infoU8
  obtain ⟨ha0, ha1⟩ := ha
  have q0 := heap_alloc_new w (.cells #[.int .i64 au, .int .i64 nu, .slice ba bl.length bc, .slice pa pl.length pc] 32)
  have k0 : (w.alloc (.cells #[.int .i64 au, .int .i64 nu, .slice ba bl.length bc, .slice pa pl.length pc] 32)).cell? ⟨w.heap.size, 0, none⟩ = some (.int .i64 au) := cells_at q0 0 _ rfl
  have k1 : (w.alloc (.cells #[.int .i64 au, .int .i64 nu, .slice ba bl.length bc, .slice pa pl.length pc] 32)).cell? ⟨w.heap.size, 1, none⟩ = some (.int .i64 nu) := cells_at q0 1 _ rfl
  have wu : IntKind.u8.wrap au = au := by rw [IntKind.wrap_u8']; omega
  have hJ : ∀ (wx : World) (xa ya : Option Addr) (c d : Nat), SliceAt wx xa c [au] → SliceAt wx ya d (rd3 nu) → Calls Tryd.prog 41 #[.slice xa 1 c, .slice ya 3 d] wx fun e w' => ∃ v, e = .returned v ∧ w'.ownsRow wx.heap.size 5 1 v 4 (ub ([au] ++ rd3 nu)) ∧ Below wx.heap.size wx w' := fun wx xa ya c d h1 h2 => joined_any [au] (rd3 nu) xa ya 1 3 c d wx rfl rfl h1 h2 (by simp [rd3])
  have hT : ∀ wx, _ := fun wx => three_any nu wx hr
  have HJ : Hid _ := hJ
  have HT : Hid _ := hT
  clear hJ hT
  go_enter Tryd.func62, Tryd.ntmps62
  go_upto_region 1 with (fail)
  go_cut [3] (fun v wx => wx.ownsRow (w.heap.size + 1) 5 1 v 4 (ub ([au] ++ rd3 nu)) ∧ Below w.heap.size w wx ∧ wx.heap[w.heap.size]? = some (.cells #[.int .i64 au, .int .i64 nu, .slice ba bl.length bc, .slice pa pl.length pc] 32 (0, 0)))
  case first =>
    go_region_held3 (fun w' => w'.cell? ⟨w.heap.size, 0, none⟩ = some (.int .i64 au) ∧ w'.cell? ⟨w.heap.size, 1, none⟩ = some (.int .i64 nu)) (go_keep) (first | (go_at_call 77; refine (HT.out _).mono ?_; rintro e w1 ⟨rfl, ho1, hb1⟩; have s1 := (sliceAt_of_owns ho1).2; first | (have r1 := row_new (below_drew hb1); have t0 := row_new (below_alloc (below_drew hb1)); rw [size_alloc] at r1; have c0 : w1.cell? ⟨w.heap.size, 0, none⟩ = some (.int .i64 au) := cells_at t0 0 _ rfl; have c1 : w1.cell? ⟨w.heap.size, 1, none⟩ = some (.int .i64 nu) := cells_at t0 1 _ rfl) | (have t0 := row_new (below_drew hb1); have c0 : w1.cell? ⟨w.heap.size, 0, none⟩ = some (.int .i64 au) := cells_at t0 0 _ rfl; have c1 : w1.cell? ⟨w.heap.size, 1, none⟩ = some (.int .i64 nu) := cells_at t0 1 _ rfl)) | (go_at_call 41; first | (rw [heap_drew, size_alloc, size_alloc] at s1; refine (HJ.out _ _ _ _ _ (slice_row r1) s1).mono ?_; rintro e w3 ⟨v3, rfl, ho3, hb3⟩; have u0 := (hb3.block _ (lt_of_heap t0)).trans t0; have hB3 := (below_alloc (below_alloc (below_drew hb1))).trans (hb3.mono (below_alloc (below_alloc (below_drew hb1))).size); have ho3' := ownsRow_base' ho3 (lt_of_heap t0); have c0 : w3.cell? ⟨w.heap.size, 0, none⟩ = some (.int .i64 au) := cells_at u0 0 _ rfl; have c1 : w3.cell? ⟨w.heap.size, 1, none⟩ = some (.int .i64 nu) := cells_at u0 1 _ rfl) | (rw [heap_drew, size_alloc] at s1; refine (HJ.out _ _ _ _ _ (slice_row (heap_alloc_new w1 _)) (s1.below ((Below.refl _ _).alloc (Nat.le_refl _) _))).mono ?_; rintro e w3 ⟨v3, rfl, ho3, hb3⟩; have u0 := ((below_alloc hb3).block _ (lt_of_heap t0)).trans t0; have hB3 := (below_alloc (below_drew hb1)).trans ((below_alloc hb3).mono (below_alloc (below_drew hb1)).size); have ho3' := ownsRow_base' ho3 (Nat.le_trans (lt_of_heap t0) (by simp)); have c0 : w3.cell? ⟨w.heap.size, 0, none⟩ = some (.int .i64 au) := cells_at u0 0 _ rfl; have c1 : w3.cell? ⟨w.heap.size, 1, none⟩ = some (.int .i64 nu) := cells_at u0 1 _ rfl)))
    all_goals
      go_wp2_with fail
      go_meet
      case rel => exact ⟨ho3', hB3, u0⟩
  case rest =>
    obtain ⟨ho, hW, r0⟩ := hcut
    clear k0 k1 q0 wu HJ HT
    have c2 : wc.cell? ⟨w.heap.size, 2, none⟩ = some (.slice ba bl.length bc) := cells_at r0 2 _ rfl
    have hlt0 : w.heap.size < wc.heap.size := lt_of_heap r0
    have hv0 : u3.ownBlock ≠ some w.heap.size := fun e => by have := (ho.lt _ e).1; omega
    go_wp2_with (at_builtin; refine wpList_append_own_at _ rfl _ _ 29 rfl (w.heap.size + 1) 5 i (.int .u8 0) 1 1 Tryd.underlying29 hi hz0 hz1 hz2 rfl (by decide) _ (4) _ rfl (World.ownsRow.alloc ho _) ⟨wc.heap.size, 0, none⟩ 1 1 [.int .u8 (bl.length : Int)] rfl rfl (cells_new _ _ _) (u8_one [_]) (by unfold maxLen; omega) (by omega) (le_alloc hlt0 _) ?_; intro v1 w1 ho1 hg1 _ hat; have G1 := (Grew.of hg1 hat).alloc)
    have ho1' : w1.ownsRow (w.heap.size + 1) 5 1 v1 (4 + 1) (ub (([au] ++ rd3 nu) ++ [(bl.length : Int)])) := owns_snoc ho1
    have r1 := G1.row r0 hv0
    have hW1 : Below w.heap.size w w1 := hW.trans (G1.below hW.size (fun q e => by have := (ho.lt q e).1; omega))
    clear ho1 hg1 hat G1 r0 hW ho hv0 hlt0
    clear c2
    go_loopw [4, 3] (fun j t wr => ∃ (m : Nat) (tv : Value), m ≤ bl.length ∧ j = .int .i64 m ∧ tv = t ∧ wr.ownsRow (w.heap.size + 1) 5 1 tv (4 + 1 + (flatB (bl.take m)).length) (ub ((([au] ++ rd3 nu) ++ [(bl.length : Int)]) ++ flatB (bl.take m))) ∧ Below w.heap.size w wr ∧ wr.heap[w.heap.size]? = some (.cells #[.int .i64 au, .int .i64 nu, .slice ba bl.length bc, .slice pa pl.length pc] 32 (0, 0))) (fun j _ _ => bl.length - (intOf j).toNat)
    case atStart => exact ⟨0, _, Nat.zero_le _, rfl, rfl, by simpa [flatB] using ho1', hW1, r1⟩
    case round =>
      clear ho1' hW1 r1
      obtain ⟨m, tv, hm, rfl, rfl, ho, hW, r0⟩ := hrel
      have c2 : wr.cell? ⟨w.heap.size, 2, none⟩ = some (.slice ba bl.length bc) := cells_at r0 2 _ rfl
      have hlt0 : w.heap.size < wr.heap.size := lt_of_heap r0
      by_cases hlt : m < bl.length
      · have hLr := hLb.below hW
        obtain ⟨sb, so, hla, hc⟩ : ∃ sb so, ba = some ⟨sb, so, none⟩ ∧ ∀ j (h : j < bl.length), wr.cell? ⟨sb, so + j, none⟩ = some (.slice (bl[j]).sa (bl[j]).bs.length (bl[j]).cap) := by
          rcases hLr.parts.cells with h | h
          · rw [h] at hlt; simp at hlt
          · exact h
        subst hla
        have ck := hc m hlt
        have hp := hLr.parts.each bl[m] (List.getElem_mem hlt)
        have hq32 := hb32 bl[m] (List.getElem_mem hlt)
        have hst : Hid (flatB (bl.take (m + 1)) = flatB (bl.take m) ++ (bl[m]).bs) := by
          show _ = _
          rw [List.take_succ_eq_append_getElem hlt, flatB_snoc]
        have hLe : (flatB (bl.take m)).length ≤ 128 := by
          rw [flatB_length _ (fun p h => hb32 p (List.mem_of_mem_take h)), List.length_take]; omega
        have hltI : (m : Int) < bl.length := by omega
        clear hc hLr
        generalize bl[m] = p at *
        generalize flatB (bl.take m) = T at ho hst hLe
        obtain ⟨xa, xc, hv, hxl, hx⟩ := owns_form ho
        subst hv
        have hJ := joined_any ((([au] ++ rd3 nu) ++ [(bl.length : Int)]) ++ T) p.bs xa p.sa (4 + 1 + T.length) p.bs.length xc p.cap wr hxl rfl hx hp (by rw [← hxl]; omega)
        have HXL : Hid _ := hxl
        have H32 : Hid _ := hq32
        clear hxl hq32
        go_wp2_with fail
        refine hJ.mono ?_
        rintro e w5 ⟨v5, rfl, ho5, hb5⟩
        have r5 := (hb5.block _ (lt_of_heap r0)).trans r0
        have hW5 := hW.trans (hb5.mono hW.size)
        clear hJ
        go_wp2_with fail
        go_roundw
        case rel =>
          have hR : ∃ (m' : Nat) (tv' : Value), m' ≤ bl.length ∧ (Value.int .i64 ((m : Int) + 1)) = .int .i64 m' ∧ tv' = v5 ∧ w5.ownsRow (w.heap.size + 1) 5 1 tv' (4 + 1 + (flatB (bl.take m')).length) (ub ((([au] ++ rd3 nu) ++ [(bl.length : Int)]) ++ flatB (bl.take m'))) ∧ Below w.heap.size w w5 ∧ w5.heap[w.heap.size]? = some (.cells #[.int .i64 au, .int .i64 nu, .slice (some ⟨sb, so, none⟩) bl.length bc, .slice pa pl.length pc] 32 (0, 0)) :=
            ⟨m + 1, v5, by omega, by go_num, rfl, by
              rw [hst.out]
              have h9 := ownsRow_base' ho5 hlt0
              rw [← HXL.out] at h9
              rw [List.length_append, ← Nat.add_assoc]
              simpa using h9, hW5, r5⟩
          first | exact hR | ((repeat apply Exists.intro); exact ⟨hR, rfl⟩)
        case measure => simp [intOf]; omega
      · obtain rfl : m = bl.length := by omega
        rw [List.take_of_length_le (Nat.le_refl _)] at ho
        have hltI : ¬ (bl.length : Int) < bl.length := by omega
        have c3 : wr.cell? ⟨w.heap.size, 3, none⟩ = some (.slice pa pl.length pc) := cells_at r0 3 _ rfl
        have hfl := flatB_length bl hb32
        have hf4 : (flatB bl).length ≤ 128 := by omega
        have HFL : Hid _ := hfl
        clear hfl
        rename World => wl
        have hv0 : tv.ownBlock ≠ some w.heap.size := fun e => by have := (ho.lt _ e).1; omega
        go_wp2_with (at_builtin; refine wpList_append_own_at _ rfl _ _ 29 rfl (w.heap.size + 1) 5 i (.int .u8 0) 1 1 Tryd.underlying29 hi hz0 hz1 hz2 rfl (by decide) _ (4 + 1 + (flatB bl).length) _ rfl (World.ownsRow.alloc ho _) ⟨wl.heap.size, 0, none⟩ 1 1 [.int .u8 (pl.length : Int)] rfl rfl (cells_new _ _ _) (u8_one [_]) (by unfold maxLen; omega) (by omega) (le_alloc hlt0 _) ?_; intro v1 w1 ho1 hg1 _ hat; have G1 := (Grew.of hg1 hat).alloc)
        have ho1' : w1.ownsRow (w.heap.size + 1) 5 1 v1 (4 + 1 + (flatB bl).length + 1) (ub (((([au] ++ rd3 nu) ++ [(bl.length : Int)]) ++ flatB bl) ++ [(pl.length : Int)])) := owns_snoc ho1
        have r1 := G1.row r0 hv0
        have hW1 : Below w.heap.size w w1 := hW.trans (G1.below hW.size (fun q e => by have := (ho.lt q e).1; omega))
        clear ho1 hg1 hat G1 r0 hW ho hv0 hlt0
        clear c2 c3
        go_loopw [5, 3] (fun j t wr => ∃ (m : Nat) (tv : Value), m ≤ pl.length ∧ j = .int .i64 m ∧ tv = t ∧ wr.ownsRow (w.heap.size + 1) 5 1 tv (4 + 1 + (flatB bl).length + 1 + (flatB (pl.take m)).length) (ub ((((([au] ++ rd3 nu) ++ [(bl.length : Int)]) ++ flatB bl) ++ [(pl.length : Int)]) ++ flatB (pl.take m))) ∧ Below w.heap.size w wr ∧ wr.heap[w.heap.size]? = some (.cells #[.int .i64 au, .int .i64 nu, .slice ba bl.length bc, .slice pa pl.length pc] 32 (0, 0))) (fun j _ _ => pl.length - (intOf j).toNat)
        case atStart => exact ⟨0, _, Nat.zero_le _, rfl, rfl, by simpa [flatB] using ho1', hW1, r1⟩
        case round =>
          clear ho1' hW1 r1
          obtain ⟨m, tv, hm, rfl, rfl, ho, hW, r0⟩ := hrel
          have c3 : wr.cell? ⟨w.heap.size, 3, none⟩ = some (.slice pa pl.length pc) := cells_at r0 3 _ rfl
          have hlt0 : w.heap.size < wr.heap.size := lt_of_heap r0
          by_cases hlt : m < pl.length
          · have hLr := hLp.below hW
            obtain ⟨sb, so, hla, hc⟩ : ∃ sb so, pa = some ⟨sb, so, none⟩ ∧ ∀ j (h : j < pl.length), wr.cell? ⟨sb, so + j, none⟩ = some (.slice (pl[j]).sa (pl[j]).bs.length (pl[j]).cap) := by
              rcases hLr.parts.cells with h | h
              · rw [h] at hlt; simp at hlt
              · exact h
            subst hla
            have ck := hc m hlt
            have hp := hLr.parts.each pl[m] (List.getElem_mem hlt)
            have hq32 := hp32 pl[m] (List.getElem_mem hlt)
            have hst : Hid (flatB (pl.take (m + 1)) = flatB (pl.take m) ++ (pl[m]).bs) := by
              show _ = _
              rw [List.take_succ_eq_append_getElem hlt, flatB_snoc]
            have hLe : (flatB (pl.take m)).length ≤ 128 := by
              rw [flatB_length _ (fun p h => hp32 p (List.mem_of_mem_take h)), List.length_take]; omega
            have hltI : (m : Int) < pl.length := by omega
            clear hc hLr
            generalize pl[m] = p at *
            generalize flatB (pl.take m) = T at ho hst hLe
            obtain ⟨xa, xc, hv, hxl, hx⟩ := owns_form ho
            subst hv
            have hJ := joined_any ((((([au] ++ rd3 nu) ++ [(bl.length : Int)]) ++ flatB bl) ++ [(pl.length : Int)]) ++ T) p.bs xa p.sa (4 + 1 + (flatB bl).length + 1 + T.length) p.bs.length xc p.cap wr hxl rfl hx hp (by rw [← hxl]; omega)
            have HXL : Hid _ := hxl
            have H32 : Hid _ := hq32
            clear hxl hq32
            go_wp2_with fail
            refine hJ.mono ?_
            rintro e w5 ⟨v5, rfl, ho5, hb5⟩
            have r5 := (hb5.block _ (lt_of_heap r0)).trans r0
            have hW5 := hW.trans (hb5.mono hW.size)
            clear hJ
            go_wp2_with fail
            go_roundw
            case rel =>
              have hR : ∃ (m' : Nat) (tv' : Value), m' ≤ pl.length ∧ (Value.int .i64 ((m : Int) + 1)) = .int .i64 m' ∧ tv' = v5 ∧ w5.ownsRow (w.heap.size + 1) 5 1 tv' (4 + 1 + (flatB bl).length + 1 + (flatB (pl.take m')).length) (ub ((((([au] ++ rd3 nu) ++ [(bl.length : Int)]) ++ flatB bl) ++ [(pl.length : Int)]) ++ flatB (pl.take m'))) ∧ Below w.heap.size w w5 ∧ w5.heap[w.heap.size]? = some (.cells #[.int .i64 au, .int .i64 nu, .slice ba bl.length bc, .slice (some ⟨sb, so, none⟩) pl.length pc] 32 (0, 0)) :=
                ⟨m + 1, v5, by omega, by go_num, rfl, by
                  rw [hst.out]
                  have h9 := ownsRow_base' ho5 hlt0
                  rw [← HXL.out] at h9
                  rw [List.length_append, ← Nat.add_assoc]
                  simpa using h9, hW5, r5⟩
              first | exact hR | ((repeat apply Exists.intro); exact ⟨hR, rfl⟩)
            case measure => simp [intOf]; omega
          · obtain rfl : m = pl.length := by omega
            rw [List.take_of_length_le (Nat.le_refl _)] at ho
            have hltI : ¬ (pl.length : Int) < pl.length := by omega
            go_wp2_with fail
            go_ret
            refine ⟨_, rfl, ?_, hW⟩
            rw [show (headB au nu bl pl).length = 4 + 1 + (flatB bl).length + 1 + (flatB pl).length by simp [headB, rd3, digsB]; omega, show headB au nu bl pl = (((([au] ++ rd3 nu) ++ [(bl.length : Int)]) ++ flatB bl) ++ [(pl.length : Int)]) ++ flatB pl by simp [headB, digsB]]
            exact ownsRow_base' ho (Nat.le_succ _)
end Go.Proofs.YtgbomdikhidkoaaDoor

namespace Go.Proofs.YtgbomdikhidkoaaDoor

/-- A word. -/
def W1 (x : Int) : Prop := 0 ≤ x ∧ x < 4294967296
set_option maxRecDepth 100000 in
theorem i64_nat (a b : Nat) (ha : a < 9223372036854775808) (hb : b < 9223372036854775808) :
    bits .and .i64 (a : Int) (b : Int) = ((a &&& b : Nat) : Int) ∧ bits .or .i64 (a : Int) (b : Int) = ((a ||| b : Nat) : Int) := by
  refine bits_nat .i64 63 (by decide) (fun n h0 h1 => ?_) a b (by omega) (by omega)
  rw [IntKind.wrap_i64]
  have : n < 9223372036854775808 := by simpa using h1
  omega
set_option maxRecDepth 100000 in
theorem i64_xor_nat (a b : Nat) (ha : a < 9223372036854775808) (hb : b < 9223372036854775808) : bits .xor .i64 (a : Int) (b : Int) = ((a ^^^ b : Nat) : Int) := by
  have hx : a ^^^ b < 2 ^ 63 := Nat.xor_lt_two_pow (by omega) (by omega)
  have h1 : (BitVec.ofInt 64 (a : Int)).toNat = a := by
    rw [BitVec.ofInt_natCast, BitVec.toNat_ofNat]; exact Nat.mod_eq_of_lt (by omega)
  have h2 : (BitVec.ofInt 64 (b : Int)).toNat = b := by
    rw [BitVec.ofInt_natCast, BitVec.toNat_ofNat]; exact Nat.mod_eq_of_lt (by omega)
  show IntKind.i64.wrap ((BitVec.ofInt 64 (a : Int) ^^^ BitVec.ofInt 64 (b : Int)).toNat : Int) = _
  rw [BitVec.toNat_xor, h1, h2, IntKind.wrap_i64]
  omega
set_option maxRecDepth 100000 in
theorem W1.nat {x : Int} (h : W1 x) : ∃ n : Nat, x = n ∧ n < 4294967296 := ⟨x.toNat, by have := h.1; omega, by have := h.1; have := h.2; omega⟩
set_option maxRecDepth 100000 in
theorem xor64 {x y : Int} (hx : W1 x) (hy : W1 y) : bits .xor .i64 x y = bits .xor .u32 x y := by
  obtain ⟨a, rfl, ha⟩ := hx.nat
  obtain ⟨b, rfl, hb⟩ := hy.nat
  rw [i64_xor_nat a b (by omega) (by omega), u32_xor_nat a b ha hb]
set_option maxRecDepth 100000 in
theorem W1.xor {x y : Int} (hx : W1 x) (hy : W1 y) : W1 (bits .xor .u32 x y) := by
  obtain ⟨a, rfl, ha⟩ := hx.nat
  obtain ⟨b, rfl, hb⟩ := hy.nat
  rw [u32_xor_nat a b ha hb]
  have : a ^^^ b < 2 ^ 32 := Nat.xor_lt_two_pow (by omega) (by omega)
  exact ⟨by omega, by omega⟩
set_option maxRecDepth 100000 in
theorem W1.mod (z : Int) : W1 (z % 4294967296) := ⟨Int.emod_nonneg _ (by decide), Int.emod_lt_of_pos _ (by decide)⟩
set_option maxRecDepth 100000 in
theorem and_mask (z : Int) (h0 : 0 ≤ z) (h1 : z < 9223372036854775808) : bits .and .i64 z 4294967295 = z % 4294967296 := by
  obtain ⟨n, rfl⟩ := Int.eq_ofNat_of_zero_le h0
  have e := (i64_nat n 4294967295 (by omega) (by decide)).1
  rw [show ((4294967295 : Nat) : Int) = 4294967295 from rfl] at e
  rw [e, show (4294967295 : Nat) = 2 ^ 32 - 1 from rfl, Nat.and_two_pow_sub_one_eq_mod]
  omega
set_option maxRecDepth 100000 in
/-- (x >> n | x << (32 - n)) and the mask is the word, turned. -/
theorem turned_eq (x : Int) (hx : W1 x) (n : Nat) (hn : 1 ≤ n) (_hn2 : n < 32) (y z : Int) (hy : y = x / 2 ^ n) (hz : z = x * 2 ^ (32 - n)) :
    bits .and .i64 (bits .or .i64 y z) 4294967295 = bits .or .u32 (x * 2 ^ (32 - n) % 4294967296) (x / 2 ^ n) := by
  obtain ⟨a, rfl, ha⟩ := hx.nat
  subst hy hz
  have e1 : ((a : Int) / 2 ^ n) = ((a / 2 ^ n : Nat) : Int) := by simp
  have e2 : ((a : Int) * 2 ^ (32 - n)) = ((a * 2 ^ (32 - n) : Nat) : Int) := by simp
  have e3 : ((a * 2 ^ (32 - n) : Nat) : Int) % 4294967296 = ((a * 2 ^ (32 - n) % 4294967296 : Nat) : Int) := by omega
  have b1 : a / 2 ^ n < 4294967296 := Nat.lt_of_le_of_lt (Nat.div_le_self _ _) ha
  have h31 : (2 : Nat) ^ (32 - n) ≤ 2 ^ 31 := Nat.pow_le_pow_right (by decide) (by omega)
  have b2 : a * 2 ^ (32 - n) < 2 ^ 63 :=
    Nat.lt_of_lt_of_le (Nat.mul_lt_mul_of_pos_right ha (Nat.pow_pos (by decide))) (Nat.le_trans (Nat.mul_le_mul_left _ h31) (by decide))
  rw [e1, e2, e3]
  generalize a / 2 ^ n = p at *
  generalize a * 2 ^ (32 - n) = q at *
  rw [(i64_nat p q (by omega) (by omega)).2]
  have hpq : p ||| q < 2 ^ 63 := Nat.or_lt_two_pow (by omega) b2
  rw [and_mask _ (by omega) (by omega), u32_or_nat _ _ (by omega) b1]
  have hm : (p ||| q) % 2 ^ 32 = p % 2 ^ 32 ||| q % 2 ^ 32 := Nat.or_mod_two_pow
  rw [Nat.or_comm (q % 4294967296) p]
  have hp' : p % 2 ^ 32 = p := Nat.mod_eq_of_lt (by omega)
  rw [hp'] at hm
  have : ((p ||| q) % 4294967296 : Nat) = p ||| q % 4294967296 := hm
  omega
set_option maxRecDepth 100000 in
theorem W1.rot {x : Int} (hx : W1 x) (n : Int) : W1 (rotI n x) := by
  obtain ⟨a, rfl, ha⟩ := hx.nat
  have e1 : ((a : Int) / 2 ^ n.toNat) = ((a / 2 ^ n.toNat : Nat) : Int) := by simp
  have e2 : ((a : Int) * 2 ^ (32 - n).toNat) % 4294967296 = ((a * 2 ^ (32 - n).toNat % 4294967296 : Nat) : Int) := by simp
  have b1 : a / 2 ^ n.toNat < 4294967296 := Nat.lt_of_le_of_lt (Nat.div_le_self _ _) ha
  unfold rotI
  rw [e1, e2, u32_or_nat _ _ (by omega) b1]
  have : (a * 2 ^ (32 - n).toNat % 4294967296) ||| (a / 2 ^ n.toNat) < 2 ^ 32 := Nat.or_lt_two_pow (by omega) b1
  exact ⟨by omega, by omega⟩
end Go.Proofs.YtgbomdikhidkoaaDoor

namespace Go.Proofs.YtgbomdikhidkoaaDoor
open Go.RowKit

set_option maxRecDepth 100000 in
set_option maxHeartbeats 1000000 in
theorem turned_any (x n : Int) (w : World) (h : n = 16 ∨ n = 12 ∨ n = 8 ∨ n = 7) (hx : W1 x) :
    Calls Tryd.prog 94 #[.int .i64 x, .int .i64 n] w fun e w' => e = .returned (.int .i64 (rotI n x)) ∧ ∃ k, w' = w.drewN k := by
  have h0 := hx.1
  have h1 := hx.2
  rcases h with rfl | rfl | rfl | rfl
  · have e : Hid (bits .and .i64 (bits .or .i64 (x / 65536) (x * 65536)) 4294967295 = rotI 16 x) := turned_eq x hx 16 (by decide) (by decide) _ _ rfl rfl
    go_enter Tryd.func94, Tryd.ntmps94
    go_wp2
    go_quiet (fail)
    go_wp2
    go_ret
    exact ⟨ret_int e.out, _, rfl⟩
  · have e : Hid (bits .and .i64 (bits .or .i64 (x / 4096) (x * 1048576)) 4294967295 = rotI 12 x) := turned_eq x hx 12 (by decide) (by decide) _ _ rfl rfl
    go_enter Tryd.func94, Tryd.ntmps94
    go_wp2
    go_quiet (fail)
    go_wp2
    go_ret
    exact ⟨ret_int e.out, _, rfl⟩
  · have e : Hid (bits .and .i64 (bits .or .i64 (x / 256) (x * 16777216)) 4294967295 = rotI 8 x) := turned_eq x hx 8 (by decide) (by decide) _ _ rfl rfl
    go_enter Tryd.func94, Tryd.ntmps94
    go_wp2
    go_quiet (fail)
    go_wp2
    go_ret
    exact ⟨ret_int e.out, _, rfl⟩
  · have e : Hid (bits .and .i64 (bits .or .i64 (x / 128) (x * 33554432)) 4294967295 = rotI 7 x) := turned_eq x hx 7 (by decide) (by decide) _ _ rfl rfl
    go_enter Tryd.func94, Tryd.ntmps94
    go_wp2
    go_quiet (fail)
    go_wp2
    go_ret
    exact ⟨ret_int e.out, _, rfl⟩
end Go.Proofs.YtgbomdikhidkoaaDoor

namespace Go.Proofs.YtgbomdikhidkoaaDoor
open Go.RowKit

/-- A row of words as cells of 64 bits. -/
def ia (vs : List Int) : List Value := vs.map (Value.int .i64)
set_option maxRecDepth 100000 in
theorem ia_set (vs : List Int) (i : Nat) (x : Int) : (ia vs).set i (.int .i64 x) = ia (vs.set i x) := by simp [ia, List.map_set]
set_option maxRecDepth 100000 in
theorem ia_get (vs : List Int) (i : Nat) (h : i < vs.length) : (ia vs)[i]? = some (.int .i64 (vs.getD i 0)) := by simp [ia, h]
/-- A list that parts from another at four places. -/
structure St (vs : List Int) (a b c d : Nat) (A B C D : Int) (L : List Int) : Prop where
  len : L.length = 16
  ha : L.getD a 0 = A
  hb : L.getD b 0 = B
  hc : L.getD c 0 = C
  hd : L.getD d 0 = D
  rest : ∀ j, ¬ j = a → ¬ j = b → ¬ j = c → ¬ j = d → L.getD j 0 = vs.getD j 0
set_option maxRecDepth 100000 in
theorem getD_set_eq (L : List Int) (i : Nat) (x : Int) (h : i < L.length) : (L.set i x).getD i 0 = x := by simp [List.getD, h]
set_option maxRecDepth 100000 in
theorem getD_set_ne (L : List Int) (i j : Nat) (x : Int) (h : ¬ j = i) : (L.set i x).getD j 0 = L.getD j 0 := by
  simp only [List.getD]
  rw [List.getElem?_set_ne (fun e => h e.symm)]
set_option maxRecDepth 100000 in
theorem grown_trans {w w1 w2 : World} {r : Option Nat} (h : w.grownBy w1 r) (k : w1.grownBy w2 r) : w.grownBy w2 r :=
  ⟨k.os.trans h.os, k.tape.trans h.tape, k.output.trans h.output, Nat.le_trans h.size k.size, fun i hi hr => (k.block i (Nat.lt_of_lt_of_le hi h.size) hr).trans (h.block i hi hr)⟩
set_option maxRecDepth 100000 in
theorem grown_as {w w1 w2 : World} {r : Option Nat} (h : w.grownBy w1 r) (e1 : w2.os = w1.os) (e2 : w2.tape = w1.tape) (e3 : w2.output = w1.output) (e4 : w2.heap = w1.heap) : w.grownBy w2 r :=
  ⟨e1.trans h.os, e2.trans h.tape, e3.trans h.output, by rw [e4]; exact h.size, fun k hk hr => by rw [e4]; exact h.block k hk hr⟩
set_option maxRecDepth 100000 in
theorem grown_drewN {w w1 : World} {r : Option Nat} (n : Nat) (k : (w.drewN n).grownBy w1 r) : w.grownBy w1 r := ⟨k.os, k.tape, k.output, k.size, k.block⟩
set_option maxRecDepth 100000 in
theorem St.sa {vs : List Int} {a b c d : Nat} {A B C D : Int} {L : List Int} (h : St vs a b c d A B C D L) (ha : a < 16) (nab : ¬ a = b) (nac : ¬ a = c) (nad : ¬ a = d) (x : Int) : St vs a b c d x B C D (L.set a x) :=
  ⟨by simp [h.len], getD_set_eq _ _ _ (by rw [h.len]; exact ha), (getD_set_ne _ _ _ _ (fun e => nab e.symm)).trans h.hb, (getD_set_ne _ _ _ _ (fun e => nac e.symm)).trans h.hc, (getD_set_ne _ _ _ _ (fun e => nad e.symm)).trans h.hd, fun j ja jb jc jd => (getD_set_ne _ _ _ _ ja).trans (h.rest j ja jb jc jd)⟩
set_option maxRecDepth 100000 in
theorem St.sb {vs : List Int} {a b c d : Nat} {A B C D : Int} {L : List Int} (h : St vs a b c d A B C D L) (hb : b < 16) (nab : ¬ a = b) (nbc : ¬ b = c) (nbd : ¬ b = d) (x : Int) : St vs a b c d A x C D (L.set b x) :=
  ⟨by simp [h.len], (getD_set_ne _ _ _ _ nab).trans h.ha, getD_set_eq _ _ _ (by rw [h.len]; exact hb), (getD_set_ne _ _ _ _ (fun e => nbc e.symm)).trans h.hc, (getD_set_ne _ _ _ _ (fun e => nbd e.symm)).trans h.hd, fun j ja jb jc jd => (getD_set_ne _ _ _ _ jb).trans (h.rest j ja jb jc jd)⟩
set_option maxRecDepth 100000 in
theorem St.sc {vs : List Int} {a b c d : Nat} {A B C D : Int} {L : List Int} (h : St vs a b c d A B C D L) (hc : c < 16) (nac : ¬ a = c) (nbc : ¬ b = c) (ncd : ¬ c = d) (x : Int) : St vs a b c d A B x D (L.set c x) :=
  ⟨by simp [h.len], (getD_set_ne _ _ _ _ nac).trans h.ha, (getD_set_ne _ _ _ _ nbc).trans h.hb, getD_set_eq _ _ _ (by rw [h.len]; exact hc), (getD_set_ne _ _ _ _ (fun e => ncd e.symm)).trans h.hd, fun j ja jb jc jd => (getD_set_ne _ _ _ _ jc).trans (h.rest j ja jb jc jd)⟩
set_option maxRecDepth 100000 in
theorem St.sd {vs : List Int} {a b c d : Nat} {A B C D : Int} {L : List Int} (h : St vs a b c d A B C D L) (hd : d < 16) (nad : ¬ a = d) (nbd : ¬ b = d) (ncd : ¬ c = d) (x : Int) : St vs a b c d A B C x (L.set d x) :=
  ⟨by simp [h.len], (getD_set_ne _ _ _ _ nad).trans h.ha, (getD_set_ne _ _ _ _ nbd).trans h.hb, (getD_set_ne _ _ _ _ ncd).trans h.hc, getD_set_eq _ _ _ (by rw [h.len]; exact hd), fun j ja jb jc jd => (getD_set_ne _ _ _ _ jd).trans (h.rest j ja jb jc jd)⟩
set_option maxRecDepth 100000 in
theorem St.eq {vs : List Int} {a b c d : Nat} {A B C D : Int} {L L' : List Int} (h : St vs a b c d A B C D L) (k : St vs a b c d A B C D L') : L = L' := by
  apply List.ext_getElem
  · rw [h.len, k.len]
  · intro j h1 h2
    have e : L.getD j 0 = L'.getD j 0 := by
      by_cases ja : j = a
      · subst ja; rw [h.ha, k.ha]
      by_cases jb : j = b
      · subst jb; rw [h.hb, k.hb]
      by_cases jc : j = c
      · subst jc; rw [h.hc, k.hc]
      by_cases jd : j = d
      · subst jd; rw [h.hd, k.hd]
      rw [h.rest j ja jb jc jd, k.rest j ja jb jc jd]
    simpa [List.getD, h1, h2] using e

set_option maxRecDepth 100000 in
theorem W1.mA1 (a b x : Int) : W1 (mA1 a b x) := W1.mod _
set_option maxRecDepth 100000 in
theorem W1.mC1 (a b c d x : Int) : W1 (mC1 a b c d x) := W1.mod _
set_option maxRecDepth 100000 in
theorem W1.mA (a b c d x y : Int) : W1 (mA a b c d x y) := W1.mod _
set_option maxRecDepth 100000 in
theorem W1.mC (a b c d x y : Int) : W1 (mC a b c d x y) := W1.mod _
set_option maxRecDepth 100000 in
theorem W1.mD1 {a b d x : Int} (hd : W1 d) : W1 (mD1 a b d x) := (hd.xor (W1.mA1 _ _ _)).rot _
set_option maxRecDepth 100000 in
theorem W1.mB1 {a b c d x : Int} (hb : W1 b) : W1 (mB1 a b c d x) := (hb.xor (W1.mC1 _ _ _ _ _)).rot _
set_option maxRecDepth 100000 in
theorem W1.mD {a b c d x y : Int} (hd : W1 d) : W1 (mD a b c d x y) := ((W1.mD1 hd).xor (W1.mA _ _ _ _ _ _)).rot _
set_option maxRecDepth 100000 in
theorem W1.mB {a b c d x y : Int} (hb : W1 b) : W1 (mB a b c d x y) := ((W1.mB1 hb).xor (W1.mC _ _ _ _ _ _)).rot _
set_option maxRecDepth 100000 in
theorem mixL_W1 (vs : List Int) (hv : ∀ z ∈ vs, W1 z) (hl : vs.length = 16) (i j k l : Nat) (hj : j < 16) (hd : l < 16) (x y : Int) : ∀ z ∈ mixL vs i j k l x y, W1 z := by
  have hg : ∀ q, q < 16 → W1 (vs.getD q 0) := fun q hq => hv _ (by rw [List.getD, List.getElem?_eq_getElem (by omega)]; exact List.getElem_mem _)
  intro z hz
  unfold mixL at hz
  rcases List.mem_or_eq_of_mem_set hz with hz | rfl
  · rcases List.mem_or_eq_of_mem_set hz with hz | rfl
    · rcases List.mem_or_eq_of_mem_set hz with hz | rfl
      · rcases List.mem_or_eq_of_mem_set hz with hz | rfl
        · exact hv z hz
        · exact W1.mA _ _ _ _ _ _
      · exact W1.mB (hg j hj)
    · exact W1.mC _ _ _ _ _ _
  · exact W1.mD (hg l hd)

set_option maxRecDepth 100000 in
set_option maxHeartbeats 4000000 in
theorem mixed_any (vs : List Int) (base g la lb lc ld cap : Nat) (ai bi ci di x y : Int) (w : World) (ea : ai = la) (eb : bi = lb) (ec : ci = lc) (ed : di = ld)
    (hl : vs.length = 16) (hvs : ∀ z ∈ vs, W1 z) (hx : W1 x) (hy : W1 y) (ho : w.ownsRow base 3 1 (.slice (some ⟨g, 0, none⟩) 16 cap) 16 (ia vs))
    (ha : la < 16) (hb : lb < 16) (hc : lc < 16) (hd : ld < 16) (nab : ¬ la = lb) (nac : ¬ la = lc) (nad : ¬ la = ld) (nbc : ¬ lb = lc) (nbd : ¬ lb = ld) (ncd : ¬ lc = ld) :
    Calls Tryd.prog 90 #[.slice (some ⟨g, 0, none⟩) 16 cap, .int .i64 ai, .int .i64 bi, .int .i64 ci, .int .i64 di, .int .i64 x, .int .i64 y] w fun e w' => e = .returned (.tuple #[]) ∧ w'.ownsRow base 3 1 (.slice (some ⟨g, 0, none⟩) 16 cap) 16 (ia (mixL vs la lb lc ld x y)) ∧ w.grownBy w' (some g) := by
  subst ea eb ec ed
  have ga : (la : Int) < 16 := by omega
  have gb : (lb : Int) < 16 := by omega
  have gc : (lc : Int) < 16 := by omega
  have gd : (ld : Int) < 16 := by omega
  have hg : ∀ j, j < 16 → W1 (vs.getD j 0) := fun j hj => hvs _ (by rw [List.getD, List.getElem?_eq_getElem (by omega)]; exact List.getElem_mem _)
  have wA := hg la ha
  have wB := hg lb hb
  have wC := hg lc hc
  have wD := hg ld hd
  have HM : Hid (mixL vs la lb lc ld x y = (((vs.set la (mA (vs.getD la 0) (vs.getD lb 0) (vs.getD lc 0) (vs.getD ld 0) x y)).set lb (mB (vs.getD la 0) (vs.getD lb 0) (vs.getD lc 0) (vs.getD ld 0) x y)).set lc (mC (vs.getD la 0) (vs.getD lb 0) (vs.getD lc 0) (vs.getD ld 0) x y)).set ld (mD (vs.getD la 0) (vs.getD lb 0) (vs.getD lc 0) (vs.getD ld 0) x y)) := rfl
  have hS : St vs la lb lc ld (vs.getD la 0) (vs.getD lb 0) (vs.getD lc 0) (vs.getD ld 0) vs := ⟨hl, rfl, rfl, rfl, rfl, fun _ _ _ _ _ => rfl⟩
  generalize vs.getD la 0 = A at *
  generalize vs.getD lb 0 = B at *
  generalize vs.getD lc 0 = C at *
  generalize vs.getD ld 0 = D at *
  clear hg hvs
  have hG : w.grownBy w (some g) := World.grownBy.refl _ _
  have hS0 := hS
  go_enter Tryd.func90, Tryd.ntmps90
  go_upto_region 0 with (fail)
  go_cut [] (fun wx => ∃ L, St vs la lb lc ld (mA1 A B x) B C D L ∧ wx.ownsRow base 3 1 (.slice (some ⟨g, 0, none⟩) 16 cap) 16 (ia L) ∧ w.grownBy wx (some g))
  case first =>
    have cs := (World.ownsRow.cellAt ho la (by omega)).trans (ia_get _ _ (by rw [hS.len]; exact ha))
    have cr := (World.ownsRow.cellAt ho lb (by omega)).trans (ia_get _ _ (by rw [hS.len]; exact hb))
    rw [hS.ha] at cs
    rw [hS.hb] at cr
    have fr := fun j => World.ownsRow.frozenAt ho j
    have ws := wA
    have wr := wB
    have hS' := hS.sa ha nab nac nad (mA1 A B x)
    have wx := hx
    have ev : Hid (bits .and .i64 (A + B + x) 4294967295 = (mA1 A B x)) := by
      show _ = _
      rw [and_mask _ (by have := ws.1; have := wr.1; have := wx.1; omega) (by have := ws.2; have := wr.2; have := wx.2; omega)]
      simp only [mA1]; omega
    generalize (mA1 A B x) = V at *
    obtain ⟨s0, s1⟩ := ws
    obtain ⟨r0, r1⟩ := wr
    obtain ⟨x0, x1⟩ := wx
    go_region
    all_goals
      go_wp2_with fail
      go_meet
      case rel =>
        have hst := ho.stored la (.int .i64 V)
        rw [ia_set] at hst
        rw [ev.out]
        exact ⟨_, hS', hst.1, grown_as (grown_trans hG hst.2) rfl rfl rfl rfl⟩
  case rest =>
    clear ho hS hG
    obtain ⟨L0, hS, ho, hG⟩ := hcut
    go_upto_region 1 with (fail)
    go_cut [] (fun wx => ∃ L, St vs la lb lc ld (mA1 A B x) B C (mD1 A B D x) L ∧ wx.ownsRow base 3 1 (.slice (some ⟨g, 0, none⟩) 16 cap) 16 (ia L) ∧ w.grownBy wx (some g))
    case first =>
      have cs := (World.ownsRow.cellAt ho ld (by omega)).trans (ia_get _ _ (by rw [hS.len]; exact hd))
      have cr := (World.ownsRow.cellAt ho la (by omega)).trans (ia_get _ _ (by rw [hS.len]; exact ha))
      rw [hS.hd] at cs
      rw [hS.ha] at cr
      have fr := fun j => World.ownsRow.frozenAt ho j
      have ws := wD
      have wr := (show W1 (mA1 A B x) from W1.mA1 _ _ _)
      have hS' := hS.sd hd nad nbd ncd (mD1 A B D x)
      have ev := xor64 ws wr
      have wq := W1.xor ws wr
      have en : Hid (rotI 16 (bits .xor .u32 D (mA1 A B x)) = (mD1 A B D x)) := rfl
      generalize (mD1 A B D x) = V at *
      generalize (mA1 A B x) = R at *
      obtain ⟨s0, s1⟩ := ws
      obtain ⟨r0, r1⟩ := wr
      go_region_with (go_at_call 94; refine (turned_any _ 16 _ (by decide) wq).mono ?_; rintro e w' ⟨rfl, kk, rfl⟩)
      all_goals
        go_wp2_with fail
        go_meet
        case rel =>
          have hst := ho.stored ld (.int .i64 V)
          rw [ia_set] at hst
          rw [en.out]
          exact ⟨_, hS', hst.1, grown_as (grown_trans hG hst.2) rfl rfl rfl rfl⟩
    case rest =>
      clear ho hS hG
      obtain ⟨L1, hS, ho, hG⟩ := hcut
      go_upto_region 2 with (fail)
      go_cut [] (fun wx => ∃ L, St vs la lb lc ld (mA1 A B x) B (mC1 A B C D x) (mD1 A B D x) L ∧ wx.ownsRow base 3 1 (.slice (some ⟨g, 0, none⟩) 16 cap) 16 (ia L) ∧ w.grownBy wx (some g))
      case first =>
        have cs := (World.ownsRow.cellAt ho lc (by omega)).trans (ia_get _ _ (by rw [hS.len]; exact hc))
        have cr := (World.ownsRow.cellAt ho ld (by omega)).trans (ia_get _ _ (by rw [hS.len]; exact hd))
        rw [hS.hc] at cs
        rw [hS.hd] at cr
        have fr := fun j => World.ownsRow.frozenAt ho j
        have ws := wC
        have wr := (show W1 (mD1 A B D x) from W1.mD1 wD)
        have hS' := hS.sc hc nac nbc ncd (mC1 A B C D x)
        have ev : Hid (bits .and .i64 (C + (mD1 A B D x)) 4294967295 = (mC1 A B C D x)) := by
          show _ = _
          rw [and_mask _ (by have := ws.1; have := wr.1; omega) (by have := ws.2; have := wr.2; omega)]
          rfl
        generalize (mC1 A B C D x) = V at *
        generalize (mD1 A B D x) = R at *
        obtain ⟨s0, s1⟩ := ws
        obtain ⟨r0, r1⟩ := wr
        go_region
        all_goals
          go_wp2_with fail
          go_meet
          case rel =>
            have hst := ho.stored lc (.int .i64 V)
            rw [ia_set] at hst
            rw [ev.out]
            exact ⟨_, hS', hst.1, grown_as (grown_trans hG hst.2) rfl rfl rfl rfl⟩
      case rest =>
        clear ho hS hG
        obtain ⟨L2, hS, ho, hG⟩ := hcut
        go_upto_region 3 with (fail)
        go_cut [] (fun wx => ∃ L, St vs la lb lc ld (mA1 A B x) (mB1 A B C D x) (mC1 A B C D x) (mD1 A B D x) L ∧ wx.ownsRow base 3 1 (.slice (some ⟨g, 0, none⟩) 16 cap) 16 (ia L) ∧ w.grownBy wx (some g))
        case first =>
          have cs := (World.ownsRow.cellAt ho lb (by omega)).trans (ia_get _ _ (by rw [hS.len]; exact hb))
          have cr := (World.ownsRow.cellAt ho lc (by omega)).trans (ia_get _ _ (by rw [hS.len]; exact hc))
          rw [hS.hb] at cs
          rw [hS.hc] at cr
          have fr := fun j => World.ownsRow.frozenAt ho j
          have ws := wB
          have wr := (show W1 (mC1 A B C D x) from W1.mC1 _ _ _ _ _)
          have hS' := hS.sb hb nab nbc nbd (mB1 A B C D x)
          have ev := xor64 ws wr
          have wq := W1.xor ws wr
          have en : Hid (rotI 12 (bits .xor .u32 B (mC1 A B C D x)) = (mB1 A B C D x)) := rfl
          generalize (mB1 A B C D x) = V at *
          generalize (mC1 A B C D x) = R at *
          obtain ⟨s0, s1⟩ := ws
          obtain ⟨r0, r1⟩ := wr
          go_region_with (go_at_call 94; refine (turned_any _ 12 _ (by decide) wq).mono ?_; rintro e w' ⟨rfl, kk, rfl⟩)
          all_goals
            go_wp2_with fail
            go_meet
            case rel =>
              have hst := ho.stored lb (.int .i64 V)
              rw [ia_set] at hst
              rw [en.out]
              exact ⟨_, hS', hst.1, grown_as (grown_trans hG hst.2) rfl rfl rfl rfl⟩
        case rest =>
          clear ho hS hG
          obtain ⟨L3, hS, ho, hG⟩ := hcut
          go_upto_region 4 with (fail)
          go_cut [] (fun wx => ∃ L, St vs la lb lc ld (mA A B C D x y) (mB1 A B C D x) (mC1 A B C D x) (mD1 A B D x) L ∧ wx.ownsRow base 3 1 (.slice (some ⟨g, 0, none⟩) 16 cap) 16 (ia L) ∧ w.grownBy wx (some g))
          case first =>
            have cs := (World.ownsRow.cellAt ho la (by omega)).trans (ia_get _ _ (by rw [hS.len]; exact ha))
            have cr := (World.ownsRow.cellAt ho lb (by omega)).trans (ia_get _ _ (by rw [hS.len]; exact hb))
            rw [hS.ha] at cs
            rw [hS.hb] at cr
            have fr := fun j => World.ownsRow.frozenAt ho j
            have ws := (show W1 (mA1 A B x) from W1.mA1 _ _ _)
            have wr := (show W1 (mB1 A B C D x) from W1.mB1 wB)
            have hS' := hS.sa ha nab nac nad (mA A B C D x y)
            have wx := hy
            have ev : Hid (bits .and .i64 ((mA1 A B x) + (mB1 A B C D x) + y) 4294967295 = (mA A B C D x y)) := by
              show _ = _
              rw [and_mask _ (by have := ws.1; have := wr.1; have := wx.1; omega) (by have := ws.2; have := wr.2; have := wx.2; omega)]
              simp only [mA1, mA]; omega
            generalize (mA A B C D x y) = V at *
            generalize (mA1 A B x) = S at *
            generalize (mB1 A B C D x) = R at *
            obtain ⟨s0, s1⟩ := ws
            obtain ⟨r0, r1⟩ := wr
            obtain ⟨x0, x1⟩ := wx
            go_region
            all_goals
              go_wp2_with fail
              go_meet
              case rel =>
                have hst := ho.stored la (.int .i64 V)
                rw [ia_set] at hst
                rw [ev.out]
                exact ⟨_, hS', hst.1, grown_as (grown_trans hG hst.2) rfl rfl rfl rfl⟩
          case rest =>
            clear ho hS hG
            obtain ⟨L4, hS, ho, hG⟩ := hcut
            go_upto_region 5 with (fail)
            go_cut [] (fun wx => ∃ L, St vs la lb lc ld (mA A B C D x y) (mB1 A B C D x) (mC1 A B C D x) (mD A B C D x y) L ∧ wx.ownsRow base 3 1 (.slice (some ⟨g, 0, none⟩) 16 cap) 16 (ia L) ∧ w.grownBy wx (some g))
            case first =>
              have cs := (World.ownsRow.cellAt ho ld (by omega)).trans (ia_get _ _ (by rw [hS.len]; exact hd))
              have cr := (World.ownsRow.cellAt ho la (by omega)).trans (ia_get _ _ (by rw [hS.len]; exact ha))
              rw [hS.hd] at cs
              rw [hS.ha] at cr
              have fr := fun j => World.ownsRow.frozenAt ho j
              have ws := (show W1 (mD1 A B D x) from W1.mD1 wD)
              have wr := (show W1 (mA A B C D x y) from W1.mA _ _ _ _ _ _)
              have hS' := hS.sd hd nad nbd ncd (mD A B C D x y)
              have ev := xor64 ws wr
              have wq := W1.xor ws wr
              have en : Hid (rotI 8 (bits .xor .u32 (mD1 A B D x) (mA A B C D x y)) = (mD A B C D x y)) := rfl
              generalize (mD A B C D x y) = V at *
              generalize (mD1 A B D x) = S at *
              generalize (mA A B C D x y) = R at *
              obtain ⟨s0, s1⟩ := ws
              obtain ⟨r0, r1⟩ := wr
              go_region_with (go_at_call 94; refine (turned_any _ 8 _ (by decide) wq).mono ?_; rintro e w' ⟨rfl, kk, rfl⟩)
              all_goals
                go_wp2_with fail
                go_meet
                case rel =>
                  have hst := ho.stored ld (.int .i64 V)
                  rw [ia_set] at hst
                  rw [en.out]
                  exact ⟨_, hS', hst.1, grown_as (grown_trans hG hst.2) rfl rfl rfl rfl⟩
            case rest =>
              clear ho hS hG
              obtain ⟨L5, hS, ho, hG⟩ := hcut
              go_upto_region 6 with (fail)
              go_cut [] (fun wx => ∃ L, St vs la lb lc ld (mA A B C D x y) (mB1 A B C D x) (mC A B C D x y) (mD A B C D x y) L ∧ wx.ownsRow base 3 1 (.slice (some ⟨g, 0, none⟩) 16 cap) 16 (ia L) ∧ w.grownBy wx (some g))
              case first =>
                have cs := (World.ownsRow.cellAt ho lc (by omega)).trans (ia_get _ _ (by rw [hS.len]; exact hc))
                have cr := (World.ownsRow.cellAt ho ld (by omega)).trans (ia_get _ _ (by rw [hS.len]; exact hd))
                rw [hS.hc] at cs
                rw [hS.hd] at cr
                have fr := fun j => World.ownsRow.frozenAt ho j
                have ws := (show W1 (mC1 A B C D x) from W1.mC1 _ _ _ _ _)
                have wr := (show W1 (mD A B C D x y) from W1.mD wD)
                have hS' := hS.sc hc nac nbc ncd (mC A B C D x y)
                have ev : Hid (bits .and .i64 ((mC1 A B C D x) + (mD A B C D x y)) 4294967295 = (mC A B C D x y)) := by
                  show _ = _
                  rw [and_mask _ (by have := ws.1; have := wr.1; omega) (by have := ws.2; have := wr.2; omega)]
                  simp only [mC1, mC]; omega
                generalize (mC A B C D x y) = V at *
                generalize (mC1 A B C D x) = S at *
                generalize (mD A B C D x y) = R at *
                obtain ⟨s0, s1⟩ := ws
                obtain ⟨r0, r1⟩ := wr
                go_region
                all_goals
                  go_wp2_with fail
                  go_meet
                  case rel =>
                    have hst := ho.stored lc (.int .i64 V)
                    rw [ia_set] at hst
                    rw [ev.out]
                    exact ⟨_, hS', hst.1, grown_as (grown_trans hG hst.2) rfl rfl rfl rfl⟩
              case rest =>
                clear ho hS hG
                obtain ⟨L6, hS, ho, hG⟩ := hcut
                go_upto_region 7 with (fail)
                have cs := (World.ownsRow.cellAt ho lb (by omega)).trans (ia_get _ _ (by rw [hS.len]; exact hb))
                have cr := (World.ownsRow.cellAt ho lc (by omega)).trans (ia_get _ _ (by rw [hS.len]; exact hc))
                rw [hS.hb] at cs
                rw [hS.hc] at cr
                have fr := fun j => World.ownsRow.frozenAt ho j
                have ws := (show W1 (mB1 A B C D x) from W1.mB1 wB)
                have wr := (show W1 (mC A B C D x y) from W1.mC _ _ _ _ _ _)
                have hS' := hS.sb hb nab nbc nbd (mB A B C D x y)
                have ev := xor64 ws wr
                have wq := W1.xor ws wr
                have en : Hid (rotI 7 (bits .xor .u32 (mB1 A B C D x) (mC A B C D x y)) = (mB A B C D x y)) := rfl
                generalize (mB A B C D x y) = V at *
                generalize (mB1 A B C D x) = S at *
                generalize (mC A B C D x y) = R at *
                obtain ⟨s0, s1⟩ := ws
                obtain ⟨r0, r1⟩ := wr
                go_region_with (go_at_call 94; refine (turned_any _ 7 _ (by decide) wq).mono ?_; rintro e w' ⟨rfl, kk, rfl⟩)
                all_goals
                  go_end0
                  have hst := ho.stored lb (.int .i64 V)
                  rw [ia_set] at hst
                  rw [en.out]
                  refine ⟨rfl, ?_, grown_as (grown_trans hG hst.2) rfl rfl rfl rfl⟩
                  rw [HM.out, ← hS'.eq ((((hS0.sa ha nab nac nad _).sb hb nab nbc nbd V).sc hc nac nbc ncd R).sd hd nad nbd ncd _)]
                  exact hst.1
end Go.Proofs.YtgbomdikhidkoaaDoor

namespace Go.Proofs.YtgbomdikhidkoaaDoor
open Go.RowKit

set_option maxRecDepth 100000 in
theorem infoInt : (Tryd.prog.info? 3).map (fun i => (i.zero, i.size, i.bytes)) = some (some (.int .i64 0), 1, 8) := by kernel_rfl

set_option maxRecDepth 100000 in
set_option maxHeartbeats 1000000 in
theorem firstWord_any (k : Nat) (hk : k < 8) (w : World) :
    Calls Tryd.prog 83 #[.int .i64 k] w fun e w' => e = .returned (.int .i64 (fw.getD k 0)) ∧ Below w.heap.size w w' := by
  have h : k = 0 ∨ k = 1 ∨ k = 2 ∨ k = 3 ∨ k = 4 ∨ k = 5 ∨ k = 6 ∨ k = 7 := by omega
  clear hk
  rcases h with rfl | rfl | rfl | rfl | rfl | rfl | rfl | rfl
  all_goals
    go_enter Tryd.func83, Tryd.ntmps83
    go_wp2
    go_ret
    exact ⟨rfl, (Below.refl _ _).alloc (Nat.le_refl _) _⟩

set_option maxRecDepth 100000 in
/-- A byte in its place, joined to the lower ones, is their sum. -/
theorem join_sum (v x : Int) (r : Nat) (hr : r < 4) (h0 : 0 ≤ v) (h1 : v < 2 ^ (8 * r)) (x0 : 0 ≤ x) (x1 : x ≤ 255) :
    bits .or .u32 v (x % 4294967296 * 2 ^ (8 * r) % 4294967296) = v + x * 2 ^ (8 * r) ∧ v + x * 2 ^ (8 * r) < 2 ^ (8 * (r + 1)) := by
  obtain ⟨a, rfl⟩ := Int.eq_ofNat_of_zero_le h0
  obtain ⟨b, rfl⟩ := Int.eq_ofNat_of_zero_le x0
  have hb : b ≤ 255 := by omega
  have key : ∀ i p : Nat, p = 2 ^ i → a < p → p < 4294967296 → b * p < 4294967296 → bits .or .u32 (a : Int) ((b : Int) % 4294967296 * p % 4294967296) = (a : Int) + b * p := by
    intro i p hp ha hp2 hbp
    have eb : (b : Int) % 4294967296 = b := Int.emod_eq_of_lt (by omega) (by omega)
    have e : (b : Int) * p % 4294967296 = ((b * p : Nat) : Int) := by
      rw [← Int.natCast_mul]
      exact Int.emod_eq_of_lt (Int.natCast_nonneg _) (Int.ofNat_lt.2 hbp)
    rw [eb, e, u32_or_nat _ _ (by omega) hbp, Nat.or_comm, nat_join i (b * p) a (by rw [hp]; exact Nat.mul_mod_left _ _) (by rw [← hp]; exact ha)]
    rw [Int.natCast_add, Int.natCast_mul, Int.add_comm]
  have hr' : r = 0 ∨ r = 1 ∨ r = 2 ∨ r = 3 := by omega
  rcases hr' with rfl | rfl | rfl | rfl
  · have h1' : (a : Int) < 1 := h1
    exact ⟨key 0 1 rfl (by omega) (by decide) (by omega), by show (a : Int) + b * 1 < 256; omega⟩
  · have h1' : (a : Int) < 256 := h1
    exact ⟨key 8 256 rfl (by omega) (by decide) (by omega), by show (a : Int) + b * 256 < 65536; omega⟩
  · have h1' : (a : Int) < 65536 := h1
    exact ⟨key 16 65536 rfl (by omega) (by decide) (by omega), by show (a : Int) + b * 65536 < 16777216; omega⟩
  · have h1' : (a : Int) < 16777216 := h1
    exact ⟨key 24 16777216 rfl (by omega) (by decide) (by omega), by show (a : Int) + b * 16777216 < 4294967296; omega⟩
set_option maxRecDepth 100000 in
/-- How far the words of a block have come. -/
theorem wordsTo_bound (bs : List Int) (hu : ∀ j, 0 ≤ bs.getD j 0 ∧ bs.getD j 0 ≤ 255) (k : Nat) (hk : k ≤ 64) : ∀ j, 0 ≤ (wordsTo bs k).getD j 0 ∧ (wordsTo bs k).getD j 0 < 2 ^ (8 * min 4 (k - 4 * j)) := by
  induction k with
  | zero =>
    intro j
    have : (wordsTo bs 0).getD j 0 = 0 := by
      simp only [wordsTo, List.getD, List.getElem?_replicate]
      split <;> rfl
    rw [this]
    exact ⟨by decide, Int.pow_pos (by decide)⟩
  | succ k ih =>
    intro j
    have ih := ih (by omega)
    have hlen := wordsTo_length bs k
    by_cases hj : j = k / 4
    · subst hj
      have hv := ih (k / 4)
      have e1 : min 4 (k - 4 * (k / 4)) = k % 4 := by omega
      have e2 : min 4 (k + 1 - 4 * (k / 4)) = k % 4 + 1 := by omega
      rw [e1] at hv
      obtain ⟨f1, f2⟩ := join_sum _ _ (k % 4) (by omega) hv.1 hv.2 (hu k).1 (hu k).2
      rw [wordsTo, getD_set_eq _ _ _ (by rw [hlen]; omega), e2, f1]
      refine ⟨?_, f2⟩
      have : (0 : Int) ≤ 2 ^ (8 * (k % 4)) := Int.le_of_lt (Int.pow_pos (by decide))
      have := Int.mul_nonneg (hu k).1 this
      have := hv.1
      omega
    · have hv := ih j
      have e : min 4 (k + 1 - 4 * j) = min 4 (k - 4 * j) := by omega
      rw [wordsTo, getD_set_ne _ _ _ _ hj, e]
      exact hv
set_option maxRecDepth 100000 in
theorem wordsTo_W1 (bs : List Int) (hu : ∀ j, 0 ≤ bs.getD j 0 ∧ bs.getD j 0 ≤ 255) (k : Nat) (hk : k ≤ 64) : ∀ z ∈ wordsTo bs k, W1 z := by
  intro z hz
  obtain ⟨j, hj, rfl⟩ := List.getElem_of_mem hz
  have h := wordsTo_bound bs hu k hk j
  have e : (wordsTo bs k).getD j 0 = (wordsTo bs k)[j] := by simp [List.getD, hj]
  rw [e] at h
  have hq : min 4 (k - 4 * j) = 0 ∨ min 4 (k - 4 * j) = 1 ∨ min 4 (k - 4 * j) = 2 ∨ min 4 (k - 4 * j) = 3 ∨ min 4 (k - 4 * j) = 4 := by omega
  refine ⟨h.1, Int.lt_of_lt_of_le h.2 ?_⟩
  rcases hq with e | e | e | e | e <;> rw [e] <;> decide
end Go.Proofs.YtgbomdikhidkoaaDoor

namespace Go.Proofs.YtgbomdikhidkoaaDoor
open Go.RowKit

set_option maxRecDepth 100000 in
theorem makeWords (w : World) : (Instr.makeSlice 33 (.int .i64 16) (.int .i64 16)).run Tryd.prog w = .ok (.slice (some ⟨w.heap.size, 0, none⟩) 16 16) (w.alloc (.cells (ia (List.replicate 16 0)).toArray 3)) := by kernel_rfl

set_option maxRecDepth 100000 in
set_option maxHeartbeats 2000000 in
theorem wordsOf_any (bs : List Int) (sa : Option Addr) (n cap : Nat) (w : World) (hn : n = bs.length) (hl : bs.length ≤ 64) (hs : BytesAt w sa bs) (hu : ∀ j, 0 ≤ bs.getD j 0 ∧ bs.getD j 0 ≤ 255) :
    Calls Tryd.prog 88 #[.slice sa n cap] w fun e w' => e = .returned (.slice (some ⟨w.heap.size, 0, none⟩) 16 16) ∧ Below w.heap.size w w' ∧ w'.ownsRow w.heap.size 3 1 (.slice (some ⟨w.heap.size, 0, none⟩) 16 16) 16 (ia (wordsTo bs bs.length)) := by
  subst hn
  have hmk := fun w => makeWords w
  have hown := World.ownsRow_lit (base := w.heap.size) (e := 3) (size := 1) w (ia (List.replicate 16 0)).toArray 16 (Nat.le_refl _) (by decide) rfl
  go_enter Tryd.func88, Tryd.ntmps88
  go_wp2_with fail
  go_loopw [4] (fun j wr => ∃ k : Nat, k ≤ bs.length ∧ j = .int .i64 k ∧ Below w.heap.size w wr ∧ wr.ownsRow w.heap.size 3 1 (.slice (some ⟨w.heap.size, 0, none⟩) 16 16) 16 (ia (wordsTo bs k))) (fun j _ => bs.length - (intOf j).toNat)
  case atStart => exact ⟨0, Nat.zero_le _, rfl, (Below.refl _ _).alloc (Nat.le_refl _) _, hown⟩
  case round =>
    clear hmk hown
    obtain ⟨k, hk, rfl, hb, ho⟩ := hrel
    by_cases hlt : k < bs.length
    · rcases hs with hc | ⟨sb, so, rfl, hc⟩
      · subst hc; simp at hlt
      have hltI : (k : Int) < bs.length := by omega
      have ck := (hb.cell (p := ⟨sb, so + k, none⟩) (block_lt_of_cell (hc k hlt))).trans (hc k hlt)
      have cm := (World.ownsRow.cellAt ho (k / 4) (by omega)).trans (ia_get _ _ (by rw [wordsTo_length]; omega))
      have fm := World.ownsRow.frozenAt ho (k / 4)
      have hv := wordsTo_bound bs hu k (by omega) (k / 4)
      rw [show min 4 (k - 4 * (k / 4)) = k % 4 by omega] at hv
      have hx := hu k
      have hj := (join_sum _ _ (k % 4) (by omega) hv.1 hv.2 hx.1 hx.2)
      have hst : Hid ((wr.setCell ⟨w.heap.size, k / 4, none⟩ (.int .i64 ((wordsTo bs k).getD (k / 4) 0 + bs.getD k 0 * 2 ^ (8 * (k % 4))))).ownsRow w.heap.size 3 1 (.slice (some ⟨w.heap.size, 0, none⟩) 16 16) 16 (ia (wordsTo bs (k + 1)))) := by
        have := (World.ownsRow.stored ho (k / 4) (.int .i64 ((wordsTo bs k).getD (k / 4) 0 + bs.getD k 0 * 2 ^ (8 * (k % 4))))).1
        rw [ia_set] at this
        rw [wordsTo, hj.1]
        exact this
      obtain ⟨hv0, hv1⟩ := hv
      obtain ⟨hx0, hx1⟩ := hx
      clear hj
      generalize (wordsTo bs k).getD (k / 4) 0 = m at cm hst hv0 hv1
      generalize bs.getD k 0 = x at ck hst hx0 hx1
      have hr : k % 4 = 0 ∨ k % 4 = 1 ∨ k % 4 = 2 ∨ k % 4 = 3 := by omega
      rcases hr with hr | hr | hr | hr
      all_goals
        have hrI : (k : Int) % 4 = ((k % 4 : Nat) : Int) := by omega
        rw [hr] at hrI hst hv1
        simp only [Nat.reduceMul, Int.reducePow] at hst hv1
        try rw [Int.mul_one] at hst
        clear hr
        go_wp2_with fail
        go_region
        go_wp2_with fail
        go_roundw
        case rel => exact ⟨k + 1, by omega, by go_num, (hb.setCell (p := ⟨w.heap.size, k / 4, none⟩) (Nat.le_refl _) _).drew, hst.out⟩
        case measure => simp [intOf]; omega
    · obtain rfl : k = bs.length := by omega
      go_wp2_with fail
      go_ret
      exact ⟨rfl, hb, ho⟩
set_option maxRecDepth 100000 in
theorem in_yes (n a b : Int) (w : World) (h1 : a ≤ n) (h2 : n ≤ b) : Calls Tryd.prog 48 #[.int .i64 n, .int .i64 a, .int .i64 b] w fun e w' => e = .returned (.bool true) ∧ w = w' := by
  go_enter Tryd.func48, Tryd.ntmps48
  go_wp2
  go_ret
  exact ⟨rfl, rfl⟩
set_option maxRecDepth 100000 in
theorem in_no (n a b : Int) (w : World) (h1 : a ≤ n) (h2 : ¬ n ≤ b) : Calls Tryd.prog 48 #[.int .i64 n, .int .i64 a, .int .i64 b] w fun e w' => e = .returned (.bool false) ∧ w = w' := by
  go_enter Tryd.func48, Tryd.ntmps48
  go_wp2
  go_ret
  exact ⟨rfl, rfl⟩
set_option maxRecDepth 100000 in
theorem i64_one (bs : List Int) : ∀ u ∈ bs.map (Value.int .i64), u.oneCell' = true := by
  intro u hu; simp at hu; obtain ⟨x, _, rfl⟩ := hu; rfl
/-- P1.3: the orders, as the document's text writes them. -/
def rowS : List ByteArray := [⟨#[48, 49, 50, 51, 52, 53, 54, 55, 56, 57, 97, 98, 99, 100, 101, 102]⟩, ⟨#[101, 97, 52, 56, 57, 102, 100, 54, 49, 99, 48, 50, 98, 55, 53, 51]⟩, ⟨#[98, 56, 99, 48, 53, 50, 102, 100, 97, 101, 51, 54, 55, 49, 57, 52]⟩, ⟨#[55, 57, 51, 49, 100, 99, 98, 101, 50, 54, 53, 97, 52, 48, 102, 56]⟩, ⟨#[57, 48, 53, 55, 50, 52, 97, 102, 101, 49, 98, 99, 54, 56, 51, 100]⟩, ⟨#[50, 99, 54, 97, 48, 98, 56, 51, 52, 100, 55, 53, 102, 101, 49, 57]⟩, ⟨#[99, 53, 49, 102, 101, 100, 52, 97, 48, 55, 54, 51, 57, 50, 56, 98]⟩, ⟨#[100, 98, 55, 101, 99, 49, 51, 57, 53, 48, 102, 52, 56, 54, 50, 97]⟩, ⟨#[54, 102, 101, 57, 98, 51, 48, 56, 99, 50, 100, 55, 49, 52, 97, 53]⟩, ⟨#[97, 50, 56, 52, 55, 54, 49, 53, 102, 98, 57, 101, 51, 99, 100, 48]⟩]
set_option maxRecDepth 100000 in
theorem rowS_size : ∀ r, r < 10 → (rowS.getD r ByteArray.empty).size = 16 := by decide
set_option maxRecDepth 100000 in
theorem rowS_code : ∀ r, r < 10 → ∀ k, k < 16 → ((rowS.getD r ByteArray.empty).data.toList.getD k 0).toNat = (if ordF.getD (r * 16 + k) 0 < 10 then 48 + ordF.getD (r * 16 + k) 0 else 87 + ordF.getD (r * 16 + k) 0) := by decide +kernel
set_option maxRecDepth 100000 in
theorem row_index (r k : Nat) (hr : r < 10) (hk : k < 16) (w : World) :
    (Instr.index 9 (.string (rowS.getD r ByteArray.empty)) (.int .i64 k)).run Tryd.prog w = .ok (.int .u8 ((if ordF.getD (r * 16 + k) 0 < 10 then 48 + ordF.getD (r * 16 + k) 0 else 87 + ordF.getD (r * 16 + k) 0 : Nat) : Int)) w := by
  have h1 := rowS_size r hr
  have h2 := rowS_code r hr k hk
  generalize rowS.getD r ByteArray.empty = S at h1 h2 ⊢
  have hk2 : k < S.size := by omega
  have hd : (0 : Int) ≤ (k : Int) ∧ (k : Int) < S.size := by omega
  rw [run_index_string w _ S .i64 k Tryd.underlying9, dif_pos hd, ← h2]
  have hk3 : k < S.data.toList.length := by simpa using hk2
  have e : S.data.toList.getD k 0 = S[(k : Int).toNat]'(by simpa using hk2) := by
    rw [List.getD, List.getElem?_eq_getElem hk3]
    rfl
  rw [e]
set_option maxRecDepth 100000 in
theorem rows_cell (W : World) (r : Nat) (hr : r < 10) : (W.alloc (.cells #[.string ⟨#[48, 49, 50, 51, 52, 53, 54, 55, 56, 57, 97, 98, 99, 100, 101, 102]⟩, .string ⟨#[101, 97, 52, 56, 57, 102, 100, 54, 49, 99, 48, 50, 98, 55, 53, 51]⟩, .string ⟨#[98, 56, 99, 48, 53, 50, 102, 100, 97, 101, 51, 54, 55, 49, 57, 52]⟩, .string ⟨#[55, 57, 51, 49, 100, 99, 98, 101, 50, 54, 53, 97, 52, 48, 102, 56]⟩, .string ⟨#[57, 48, 53, 55, 50, 52, 97, 102, 101, 49, 98, 99, 54, 56, 51, 100]⟩, .string ⟨#[50, 99, 54, 97, 48, 98, 56, 51, 52, 100, 55, 53, 102, 101, 49, 57]⟩, .string ⟨#[99, 53, 49, 102, 101, 100, 52, 97, 48, 55, 54, 51, 57, 50, 56, 98]⟩, .string ⟨#[100, 98, 55, 101, 99, 49, 51, 57, 53, 48, 102, 52, 56, 54, 50, 97]⟩, .string ⟨#[54, 102, 101, 57, 98, 51, 48, 56, 99, 50, 100, 55, 49, 52, 97, 53]⟩, .string ⟨#[97, 50, 56, 52, 55, 54, 49, 53, 102, 98, 57, 101, 51, 99, 100, 48]⟩] 9)).cell? ⟨W.heap.size, r, none⟩ = some (.string (rowS.getD r ByteArray.empty)) := by
  rw [World.cell?_alloc_at _ _ _ _ rfl]
  have h : r = 0 ∨ r = 1 ∨ r = 2 ∨ r = 3 ∨ r = 4 ∨ r = 5 ∨ r = 6 ∨ r = 7 ∨ r = 8 ∨ r = 9 := by omega
  clear hr
  rcases h with rfl | rfl | rfl | rfl | rfl | rfl | rfl | rfl | rfl | rfl <;> rfl

set_option maxRecDepth 100000 in
set_option maxHeartbeats 2000000 in
theorem turnsOf_any (r : Nat) (hr : r < 10) (w : World) :
    Calls Tryd.prog 89 #[.int .i64 r] w fun e w' => ∃ g cap, e = .returned (.slice (some ⟨g, 0, none⟩) 16 cap) ∧ w.heap.size ≤ g ∧ Below w.heap.size w w' ∧ w'.ownsRow w.heap.size 3 1 (.slice (some ⟨g, 0, none⟩) 16 cap) 16 (ia ((ordF.drop (r * 16)).take 16 |>.map Int.ofNat)) := by
  obtain ⟨i, hi, hz0, hz1, hz2⟩ := info_parts infoInt
  have hrI : (r : Int) < 10 := by omega
  have hrow := rows_cell w r hr
  go_enter Tryd.func89, Tryd.ntmps89
  go_wp2_with fail
  go_loopw [5, 4] (fun j v wr => ∃ k : Nat, k ≤ 16 ∧ j = .int .i64 k ∧ Below w.heap.size w wr ∧ wr.cell? ⟨w.heap.size, r, none⟩ = some (.string (rowS.getD r ByteArray.empty)) ∧ wr.ownsRow (w.heap.size + 1) 3 1 v k (ia ((ordF.drop (r * 16)).take k |>.map Int.ofNat))) (fun j _ _ => 16 - (intOf j).toNat)
  case atStart => exact ⟨0, Nat.zero_le _, rfl, (Below.refl _ _).alloc (Nat.le_refl _) _, hrow, World.ownsRow_nil _ _ _ _⟩
  case round =>
    clear hrow
    obtain ⟨k, hk, rfl, hb, hc, ho⟩ := hrel
    by_cases hlt : k < 16
    · have hltI : (k : Int) < 16 := by omega
      have hix := row_index r k hr hlt
      have hlen : r * 16 + k < ordF.length := by have : ordF.length = 160 := rfl; omega
      have ho16 := ordF_lt (r * 16 + k) (by omega)
      have hst : Hid (((ordF.drop (r * 16)).take (k + 1)).map Int.ofNat = ((ordF.drop (r * 16)).take k).map Int.ofNat ++ [((ordF.getD (r * 16 + k) 0 : Nat) : Int)]) := by
        show _ = _
        rw [List.take_succ_eq_append_getElem (by simp; omega), List.map_append]
        simp [List.getD, hlen]
      have hsz : w.heap.size + 1 ≤ wr.heap.size := by have := block_lt_of_cell hc; simp at this; omega
      clear hlen
      generalize ordF.getD (r * 16 + k) 0 = o at hix hst ho16
      by_cases h10 : o < 10
      · have hi2 : ∀ w, (Instr.index 9 (.string (rowS.getD r ByteArray.empty)) (.int .i64 k)).run Tryd.prog w = .ok (.int .u8 (48 + (o : Int))) w := fun w => by rw [hix w, if_pos h10]; simp
        clear hix
        have Hc : Hid (wr.cell? ⟨w.heap.size, r, none⟩ = some (.string (rowS.getD r ByteArray.empty))) := hc
        generalize rowS.getD r ByteArray.empty = S at *
        have hoI : (o : Int) < 10 := by omega
        go_wp2_with fail
        refine (in_yes _ _ _ _ (by omega) (by omega)).mono ?_
        rintro e w' ⟨rfl, rfl⟩
        go_wp2_with (at_builtin; refine wpList_append_own _ rfl _ _ 33 rfl (w.heap.size + 1) 3 i (.int .i64 0) 1 8 Tryd.underlying33 hi hz0 hz1 hz2 rfl (by decide) _ k _ rfl (ho.alloc _) ⟨wr.heap.size, 0, none⟩ 1 1 [.int .i64 (48 + (o : Int) - 48)] rfl rfl (cells_new _ _ _) (i64_one [_]) (by unfold maxLen; omega) (by omega) (le_alloc hsz _) ?_; intro v1 w1 ho1 hg1 _)
        rw [show (48 : Int) + o - 48 = o by omega] at ho1
        have hb1 := Below.grown (hb.alloc hb.size _) hg1 (le_alloc hb.size _) (fun q e => Nat.le_of_succ_le (ho.lt q e).1)
        have hcc : w1.cell? ⟨w.heap.size, r, none⟩ = some (.string S) := by
          refine hg1.cell (a := ⟨w.heap.size, r, none⟩) ?_ ?_
          · exact (World.cell?_alloc_past _ _ _ (by omega)).trans Hc.out
          · intro e; have := (ho.lt _ e.symm).1; simp at this; omega
        go_roundw
        case rel =>
          refine ⟨k + 1, by omega, by go_num, hb1, hcc, ?_⟩
          rw [hst.out]
          simpa [ia] using ho1
        case measure => simp [intOf]; omega
      · have hi2 : ∀ w, (Instr.index 9 (.string (rowS.getD r ByteArray.empty)) (.int .i64 k)).run Tryd.prog w = .ok (.int .u8 (87 + (o : Int))) w := fun w => by rw [hix w, if_neg h10]; simp
        clear hix
        have Hc : Hid (wr.cell? ⟨w.heap.size, r, none⟩ = some (.string (rowS.getD r ByteArray.empty))) := hc
        generalize rowS.getD r ByteArray.empty = S at *
        have hoI : (o : Int) < 16 := by omega
        go_wp2_with fail
        refine (in_no _ _ _ _ (by omega) (by omega)).mono ?_
        rintro e w' ⟨rfl, rfl⟩
        go_wp2_with (at_builtin; refine wpList_append_own _ rfl _ _ 33 rfl (w.heap.size + 1) 3 i (.int .i64 0) 1 8 Tryd.underlying33 hi hz0 hz1 hz2 rfl (by decide) _ k _ rfl (ho.alloc _) ⟨wr.heap.size, 0, none⟩ 1 1 [.int .i64 (87 + (o : Int) - 97 + 10)] rfl rfl (cells_new _ _ _) (i64_one [_]) (by unfold maxLen; omega) (by omega) (le_alloc hsz _) ?_; intro v1 w1 ho1 hg1 _)
        rw [show (87 : Int) + o - 97 + 10 = o by omega] at ho1
        have hb1 := Below.grown (hb.alloc hb.size _) hg1 (le_alloc hb.size _) (fun q e => Nat.le_of_succ_le (ho.lt q e).1)
        have hcc : w1.cell? ⟨w.heap.size, r, none⟩ = some (.string S) := by
          refine hg1.cell (a := ⟨w.heap.size, r, none⟩) ?_ ?_
          · exact (World.cell?_alloc_past _ _ _ (by omega)).trans Hc.out
          · intro e; have := (ho.lt _ e.symm).1; simp at this; omega
        go_roundw
        case rel =>
          refine ⟨k + 1, by omega, by go_num, hb1, hcc, ?_⟩
          rw [hst.out]
          simpa [ia] using ho1
        case measure => simp [intOf]; omega
    · obtain rfl : k = 16 := by omega
      have hf : ∃ g cap, u4 = .slice (some ⟨g, 0, none⟩) 16 cap ∧ w.heap.size ≤ g := by
        rcases ho.2 with ⟨_, h0⟩ | ⟨g, cap, cur, rfl, hg, _⟩
        · cases h0
        · exact ⟨g, cap, rfl, by omega⟩
      obtain ⟨g, cap, hv, hg⟩ := hf
      subst hv
      go_wp2_with fail
      go_ret
      exact ⟨g, cap, rfl, hg, hb, ownsRow_base ho (Nat.le_succ _)⟩
end Go.Proofs.YtgbomdikhidkoaaDoor
