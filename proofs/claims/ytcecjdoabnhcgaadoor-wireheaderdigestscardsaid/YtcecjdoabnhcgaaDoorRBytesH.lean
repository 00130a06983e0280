/- The document's headerBytes: P2.6. -/
import Derived.Test.YtcecjdoabnhcgaaDoorRBytes
import Derived.Test.YtcecjdoabnhcgaaDoorAppH
namespace Go.Proofs.YtcecjdoabnhcgaaDoor
open Go.RowKit

set_option maxRecDepth 100000 in
set_option maxHeartbeats 2000000 in
theorem headerBytes_any (au nu : Int) (ba : Option Addr) (bn bc : Nat) (bl : List Part) (pa : Option Addr) (pn pc : Nat) (pl : List Part) (w : World) (ha : 0 ≤ au ∧ au < 4) (hr : 0 ≤ nu ∧ nu ≤ 1048576) (hbn : bn = bl.length) (hpn : pn = pl.length) (hbl : bl.length ≤ 4) (hpl : pl.length ≤ 4) (hb32 : ∀ p ∈ bl, p.bs.length = 32) (hp32 : ∀ p ∈ pl, p.bs.length = 32) (hLb : ListAt w ba bc bl) (hLp : ListAt w pa pc pl) :
    Calls Tryd.prog 51 #[.agg #[.int .i64 au, .int .i64 nu, .slice ba bn bc, .slice pa pn pc]] w fun e w' => ∃ v, e = .returned v ∧ w'.ownsRow w.heap.size 5 1 v (headB au nu bl pl).length (ub (headB au nu bl pl)) ∧ Below w.heap.size w w' := by
  subst hbn hpn
  obtain ⟨i, hi, hz0, hz1, hz2⟩ := info_parts infoU8
  obtain ⟨ha0, ha1⟩ := ha
  have q0 := heap_alloc_new w (.cells #[.int .i64 au, .int .i64 nu, .slice ba bl.length bc, .slice pa pl.length pc] 33)
  have k0 : (w.alloc (.cells #[.int .i64 au, .int .i64 nu, .slice ba bl.length bc, .slice pa pl.length pc] 33)).cell? ⟨w.heap.size, 0, none⟩ = some (.int .i64 au) := cells_at q0 0 _ rfl
  have k1 : (w.alloc (.cells #[.int .i64 au, .int .i64 nu, .slice ba bl.length bc, .slice pa pl.length pc] 33)).cell? ⟨w.heap.size, 1, none⟩ = some (.int .i64 nu) := cells_at q0 1 _ rfl
  have wu : IntKind.u8.wrap au = au := by rw [IntKind.wrap_u8']; omega
  have hJ : ∀ (wx : World) (xa ya : Option Addr) (c d : Nat), SliceAt wx xa c [au] → SliceAt wx ya d (rd3 nu) → Calls Tryd.prog 48 #[.slice xa 1 c, .slice ya 3 d] wx fun e w' => ∃ v, e = .returned v ∧ w'.ownsRow wx.heap.size 5 1 v 4 (ub ([au] ++ rd3 nu)) ∧ Below wx.heap.size wx w' := fun wx xa ya c d h1 h2 => joined_any [au] (rd3 nu) xa ya 1 3 c d wx rfl rfl h1 h2 (by simp [rd3])
  have hT : ∀ wx, _ := fun wx => three_any nu wx hr
  have HJ : Hid _ := hJ
  have HT : Hid _ := hT
  clear hJ hT
  go_enter Tryd.func51, Tryd.ntmps51
  go_upto_region 1 with (fail)
  go_cut [3] (fun v wx => wx.ownsRow (w.heap.size + 1) 5 1 v 4 (ub ([au] ++ rd3 nu)) ∧ Below w.heap.size w wx ∧ wx.heap[w.heap.size]? = some (.cells #[.int .i64 au, .int .i64 nu, .slice ba bl.length bc, .slice pa pl.length pc] 33 (0, 0)))
  case first =>
    go_region_held3 (fun w' => w'.cell? ⟨w.heap.size, 0, none⟩ = some (.int .i64 au) ∧ w'.cell? ⟨w.heap.size, 1, none⟩ = some (.int .i64 nu)) (go_keep) (first | (go_at_call 62; refine (HT.out _).mono ?_; rintro e w1 ⟨rfl, ho1, hb1⟩; have s1 := (sliceAt_of_owns ho1).2; first | (have r1 := row_new (below_drew hb1); have t0 := row_new (below_alloc (below_drew hb1)); rw [size_alloc] at r1; have c0 : w1.cell? ⟨w.heap.size, 0, none⟩ = some (.int .i64 au) := cells_at t0 0 _ rfl; have c1 : w1.cell? ⟨w.heap.size, 1, none⟩ = some (.int .i64 nu) := cells_at t0 1 _ rfl) | (have t0 := row_new (below_drew hb1); have c0 : w1.cell? ⟨w.heap.size, 0, none⟩ = some (.int .i64 au) := cells_at t0 0 _ rfl; have c1 : w1.cell? ⟨w.heap.size, 1, none⟩ = some (.int .i64 nu) := cells_at t0 1 _ rfl)) | (go_at_call 48; first | (rw [heap_drew, size_alloc, size_alloc] at s1; refine (HJ.out _ _ _ _ _ (slice_row r1) s1).mono ?_; rintro e w3 ⟨v3, rfl, ho3, hb3⟩; have u0 := (hb3.block _ (lt_of_heap t0)).trans t0; have hB3 := (below_alloc (below_alloc (below_drew hb1))).trans (hb3.mono (below_alloc (below_alloc (below_drew hb1))).size); have ho3' := ownsRow_base' ho3 (lt_of_heap t0); have c0 : w3.cell? ⟨w.heap.size, 0, none⟩ = some (.int .i64 au) := cells_at u0 0 _ rfl; have c1 : w3.cell? ⟨w.heap.size, 1, none⟩ = some (.int .i64 nu) := cells_at u0 1 _ rfl) | (rw [heap_drew, size_alloc] at s1; refine (HJ.out _ _ _ _ _ (slice_row (heap_alloc_new w1 _)) (s1.below ((Below.refl _ _).alloc (Nat.le_refl _) _))).mono ?_; rintro e w3 ⟨v3, rfl, ho3, hb3⟩; have u0 := ((below_alloc hb3).block _ (lt_of_heap t0)).trans t0; have hB3 := (below_alloc (below_drew hb1)).trans ((below_alloc hb3).mono (below_alloc (below_drew hb1)).size); have ho3' := ownsRow_base' ho3 (Nat.le_trans (lt_of_heap t0) (by simp)); have c0 : w3.cell? ⟨w.heap.size, 0, none⟩ = some (.int .i64 au) := cells_at u0 0 _ rfl; have c1 : w3.cell? ⟨w.heap.size, 1, none⟩ = some (.int .i64 nu) := cells_at u0 1 _ rfl)))
    all_goals
      go_wp2_with fail
      go_meet
      case rel => exact ⟨ho3', hB3, u0⟩
  case rest =>
    obtain ⟨ho, hW, r0⟩ := hcut
    clear k0 k1 q0 wu HJ HT
    have c2 : wc.cell? ⟨w.heap.size, 2, none⟩ = some (.slice ba bl.length bc) := cells_at r0 2 _ rfl
    have hlt0 : w.heap.size < wc.heap.size := lt_of_heap r0
    have hv0 : u3.ownBlock ≠ some w.heap.size := fun e => by have := (ho.lt _ e).1; omega
    go_wp2_with (at_builtin; refine wpList_append_own_at _ rfl _ _ 25 rfl (w.heap.size + 1) 5 i (.int .u8 0) 1 1 Tryd.underlying25 hi hz0 hz1 hz2 rfl (by decide) _ (4) _ rfl (World.ownsRow.alloc ho _) ⟨wc.heap.size, 0, none⟩ 1 1 [.int .u8 (bl.length : Int)] rfl rfl (cells_new _ _ _) (u8_one [_]) (by unfold maxLen; omega) (by omega) (le_alloc hlt0 _) ?_; intro v1 w1 ho1 hg1 _ hat; have G1 := (Grew.of hg1 hat).alloc)
    have ho1' : w1.ownsRow (w.heap.size + 1) 5 1 v1 (4 + 1) (ub (([au] ++ rd3 nu) ++ [(bl.length : Int)])) := owns_snoc ho1
    have r1 := G1.row r0 hv0
    have hW1 : Below w.heap.size w w1 := hW.trans (G1.below hW.size (fun q e => by have := (ho.lt q e).1; omega))
    clear ho1 hg1 hat G1 r0 hW ho hv0 hlt0
    clear c2
    go_loopw [4, 3] (fun j t wr => ∃ (m : Nat) (tv : Value), m ≤ bl.length ∧ j = .int .i64 m ∧ tv = t ∧ wr.ownsRow (w.heap.size + 1) 5 1 tv (4 + 1 + (flatB (bl.take m)).length) (ub ((([au] ++ rd3 nu) ++ [(bl.length : Int)]) ++ flatB (bl.take m))) ∧ Below w.heap.size w wr ∧ wr.heap[w.heap.size]? = some (.cells #[.int .i64 au, .int .i64 nu, .slice ba bl.length bc, .slice pa pl.length pc] 33 (0, 0))) (fun j _ _ => bl.length - (intOf j).toNat)
    case atStart => exact ⟨0, _, Nat.zero_le _, rfl, rfl, by simpa [flatB] using ho1', hW1, r1⟩
    case round =>
      clear ho1' hW1 r1
      obtain ⟨m, tv, hm, rfl, rfl, ho, hW, r0⟩ := hrel
      have c2 : wr.cell? ⟨w.heap.size, 2, none⟩ = some (.slice ba bl.length bc) := cells_at r0 2 _ rfl
      have hlt0 : w.heap.size < wr.heap.size := lt_of_heap r0
      by_cases hlt : m < bl.length
      · have hLr := hLb.below hW
        obtain ⟨sb, so, hla, hc⟩ : ∃ sb so, ba = some ⟨sb, so, none⟩ ∧ ∀ j (h : j < bl.length), wr.cell? ⟨sb, so + j, none⟩ = some (.slice (bl[j]).sa (bl[j]).bs.length (bl[j]).cap) := by
          rcases hLr.parts.cells with h | h
          · rw [h] at hlt; simp at hlt
          · exact h
        subst hla
        have ck := hc m hlt
        have hp := hLr.parts.each bl[m] (List.getElem_mem hlt)
        have hq32 := hb32 bl[m] (List.getElem_mem hlt)
        have hst : Hid (flatB (bl.take (m + 1)) = flatB (bl.take m) ++ (bl[m]).bs) := by
          show _ = _
          rw [List.take_succ_eq_append_getElem hlt, flatB_snoc]
        have hLe : (flatB (bl.take m)).length ≤ 128 := by
          rw [flatB_length _ (fun p h => hb32 p (List.mem_of_mem_take h)), List.length_take]; omega
        have hltI : (m : Int) < bl.length := by omega
        clear hc hLr
        generalize bl[m] = p at *
        generalize flatB (bl.take m) = T at ho hst hLe
        obtain ⟨xa, xc, hv, hxl, hx⟩ := owns_form ho
        subst hv
        have hJ := joined_any ((([au] ++ rd3 nu) ++ [(bl.length : Int)]) ++ T) p.bs xa p.sa (4 + 1 + T.length) p.bs.length xc p.cap wr hxl rfl hx hp (by rw [← hxl]; omega)
        have HXL : Hid _ := hxl
        have H32 : Hid _ := hq32
        clear hxl hq32
        go_wp2_with fail
        refine hJ.mono ?_
        rintro e w5 ⟨v5, rfl, ho5, hb5⟩
        have r5 := (hb5.block _ (lt_of_heap r0)).trans r0
        have hW5 := hW.trans (hb5.mono hW.size)
        clear hJ
        go_wp2_with fail
        go_roundw
        case rel =>
          have hR : ∃ (m' : Nat) (tv' : Value), m' ≤ bl.length ∧ (Value.int .i64 ((m : Int) + 1)) = .int .i64 m' ∧ tv' = v5 ∧ w5.ownsRow (w.heap.size + 1) 5 1 tv' (4 + 1 + (flatB (bl.take m')).length) (ub ((([au] ++ rd3 nu) ++ [(bl.length : Int)]) ++ flatB (bl.take m'))) ∧ Below w.heap.size w w5 ∧ w5.heap[w.heap.size]? = some (.cells #[.int .i64 au, .int .i64 nu, .slice (some ⟨sb, so, none⟩) bl.length bc, .slice pa pl.length pc] 33 (0, 0)) :=
            ⟨m + 1, v5, by omega, by go_num, rfl, by
              rw [hst.out]
              have h9 := ownsRow_base' ho5 hlt0
              rw [← HXL.out] at h9
              rw [List.length_append, ← Nat.add_assoc]
              simpa using h9, hW5, r5⟩
          first | exact hR | ((repeat apply Exists.intro); exact ⟨hR, rfl⟩)
        case measure => simp [intOf]; omega
      · obtain rfl : m = bl.length := by omega
        rw [List.take_of_length_le (Nat.le_refl _)] at ho
        have hltI : ¬ (bl.length : Int) < bl.length := by omega
        have c3 : wr.cell? ⟨w.heap.size, 3, none⟩ = some (.slice pa pl.length pc) := cells_at r0 3 _ rfl
        have hfl := flatB_length bl hb32
        have hf4 : (flatB bl).length ≤ 128 := by omega
        have HFL : Hid _ := hfl
        clear hfl
        rename World => wl
        have hv0 : tv.ownBlock ≠ some w.heap.size := fun e => by have := (ho.lt _ e).1; omega
        go_wp2_with (at_builtin; refine wpList_append_own_at _ rfl _ _ 25 rfl (w.heap.size + 1) 5 i (.int .u8 0) 1 1 Tryd.underlying25 hi hz0 hz1 hz2 rfl (by decide) _ (4 + 1 + (flatB bl).length) _ rfl (World.ownsRow.alloc ho _) ⟨wl.heap.size, 0, none⟩ 1 1 [.int .u8 (pl.length : Int)] rfl rfl (cells_new _ _ _) (u8_one [_]) (by unfold maxLen; omega) (by omega) (le_alloc hlt0 _) ?_; intro v1 w1 ho1 hg1 _ hat; have G1 := (Grew.of hg1 hat).alloc)
        have ho1' : w1.ownsRow (w.heap.size + 1) 5 1 v1 (4 + 1 + (flatB bl).length + 1) (ub (((([au] ++ rd3 nu) ++ [(bl.length : Int)]) ++ flatB bl) ++ [(pl.length : Int)])) := owns_snoc ho1
        have r1 := G1.row r0 hv0
        have hW1 : Below w.heap.size w w1 := hW.trans (G1.below hW.size (fun q e => by have := (ho.lt q e).1; omega))
        clear ho1 hg1 hat G1 r0 hW ho hv0 hlt0
        clear c2 c3
        go_loopw [5, 3] (fun j t wr => ∃ (m : Nat) (tv : Value), m ≤ pl.length ∧ j = .int .i64 m ∧ tv = t ∧ wr.ownsRow (w.heap.size + 1) 5 1 tv (4 + 1 + (flatB bl).length + 1 + (flatB (pl.take m)).length) (ub ((((([au] ++ rd3 nu) ++ [(bl.length : Int)]) ++ flatB bl) ++ [(pl.length : Int)]) ++ flatB (pl.take m))) ∧ Below w.heap.size w wr ∧ wr.heap[w.heap.size]? = some (.cells #[.int .i64 au, .int .i64 nu, .slice ba bl.length bc, .slice pa pl.length pc] 33 (0, 0))) (fun j _ _ => pl.length - (intOf j).toNat)
        case atStart => exact ⟨0, _, Nat.zero_le _, rfl, rfl, by simpa [flatB] using ho1', hW1, r1⟩
        case round =>
          clear ho1' hW1 r1
          obtain ⟨m, tv, hm, rfl, rfl, ho, hW, r0⟩ := hrel
          have c3 : wr.cell? ⟨w.heap.size, 3, none⟩ = some (.slice pa pl.length pc) := cells_at r0 3 _ rfl
          have hlt0 : w.heap.size < wr.heap.size := lt_of_heap r0
          by_cases hlt : m < pl.length
          · have hLr := hLp.below hW
            obtain ⟨sb, so, hla, hc⟩ : ∃ sb so, pa = some ⟨sb, so, none⟩ ∧ ∀ j (h : j < pl.length), wr.cell? ⟨sb, so + j, none⟩ = some (.slice (pl[j]).sa (pl[j]).bs.length (pl[j]).cap) := by
              rcases hLr.parts.cells with h | h
              · rw [h] at hlt; simp at hlt
              · exact h
            subst hla
            have ck := hc m hlt
            have hp := hLr.parts.each pl[m] (List.getElem_mem hlt)
            have hq32 := hp32 pl[m] (List.getElem_mem hlt)
            have hst : Hid (flatB (pl.take (m + 1)) = flatB (pl.take m) ++ (pl[m]).bs) := by
              show _ = _
              rw [List.take_succ_eq_append_getElem hlt, flatB_snoc]
            have hLe : (flatB (pl.take m)).length ≤ 128 := by
              rw [flatB_length _ (fun p h => hp32 p (List.mem_of_mem_take h)), List.length_take]; omega
            have hltI : (m : Int) < pl.length := by omega
            clear hc hLr
            generalize pl[m] = p at *
            generalize flatB (pl.take m) = T at ho hst hLe
            obtain ⟨xa, xc, hv, hxl, hx⟩ := owns_form ho
            subst hv
            have hJ := joined_any ((((([au] ++ rd3 nu) ++ [(bl.length : Int)]) ++ flatB bl) ++ [(pl.length : Int)]) ++ T) p.bs xa p.sa (4 + 1 + (flatB bl).length + 1 + T.length) p.bs.length xc p.cap wr hxl rfl hx hp (by rw [← hxl]; omega)
            have HXL : Hid _ := hxl
            have H32 : Hid _ := hq32
            clear hxl hq32
            go_wp2_with fail
            refine hJ.mono ?_
            rintro e w5 ⟨v5, rfl, ho5, hb5⟩
            have r5 := (hb5.block _ (lt_of_heap r0)).trans r0
            have hW5 := hW.trans (hb5.mono hW.size)
            clear hJ
            go_wp2_with fail
            go_roundw
            case rel =>
              have hR : ∃ (m' : Nat) (tv' : Value), m' ≤ pl.length ∧ (Value.int .i64 ((m : Int) + 1)) = .int .i64 m' ∧ tv' = v5 ∧ w5.ownsRow (w.heap.size + 1) 5 1 tv' (4 + 1 + (flatB bl).length + 1 + (flatB (pl.take m')).length) (ub ((((([au] ++ rd3 nu) ++ [(bl.length : Int)]) ++ flatB bl) ++ [(pl.length : Int)]) ++ flatB (pl.take m'))) ∧ Below w.heap.size w w5 ∧ w5.heap[w.heap.size]? = some (.cells #[.int .i64 au, .int .i64 nu, .slice ba bl.length bc, .slice (some ⟨sb, so, none⟩) pl.length pc] 33 (0, 0)) :=
                ⟨m + 1, v5, by omega, by go_num, rfl, by
                  rw [hst.out]
                  have h9 := ownsRow_base' ho5 hlt0
                  rw [← HXL.out] at h9
                  rw [List.length_append, ← Nat.add_assoc]
                  simpa using h9, hW5, r5⟩
              first | exact hR | ((repeat apply Exists.intro); exact ⟨hR, rfl⟩)
            case measure => simp [intOf]; omega
          · obtain rfl : m = pl.length := by omega
            rw [List.take_of_length_le (Nat.le_refl _)] at ho
            have hltI : ¬ (pl.length : Int) < pl.length := by omega
            go_wp2_with fail
            go_ret
            refine ⟨_, rfl, ?_, hW⟩
            rw [show (headB au nu bl pl).length = 4 + 1 + (flatB bl).length + 1 + (flatB pl).length by simp [headB, rd3, digsB]; omega, show headB au nu bl pl = (((([au] ++ rd3 nu) ++ [(bl.length : Int)]) ++ flatB bl) ++ [(pl.length : Int)]) ++ flatB pl by simp [headB, digsB]]
            exact ownsRow_base' ho (Nat.le_succ _)
end Go.Proofs.YtcecjdoabnhcgaaDoor
