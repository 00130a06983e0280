/- The document's answer, package sheavesref: taken: a state behind a block, as P1.3 says: the same as the program's take. For every state of words and every block of at most 64 bytes. -/
import Derived.Test.YtcecjdoabnhcgaaDoorRTakenA
import Derived.Deep.RegionWith
import Derived.Deep.RegionHeld2
namespace Go.Proofs.YtcecjdoabnhcgaaDoor
open Go.RowKit

set_option maxRecDepth 100000 in
set_option maxHeartbeats 4000000 in
theorem taken_any (s bs : List Int) (gs cs : Nat) (sa : Option Addr) (n cap : Nat) (many : Int) (last : Bool) (w : World) (hn : n = bs.length) (hl : s.length = 8) (hsw : ∀ z ∈ s, W1 z) (hbl : bs.length ≤ 64) (hc : BytesAt w sa bs) (hu : ∀ j, 0 ≤ bs.getD j 0 ∧ bs.getD j 0 ≤ 255) (hmany : W1 many)
    (hs : ∀ j, j < 8 → w.cell? ⟨gs, j, none⟩ = some (.int .i64 (s.getD j 0))) :
    Calls Tryd.prog 74 #[.slice (some ⟨gs, 0, none⟩) 8 cs, .slice sa n cap, .int .i64 many, .bool last] w fun e w' => ∃ g c, e = .returned (.slice (some ⟨g, 0, none⟩) 8 c) ∧ Below w.heap.size w w' ∧ w'.ownsRow w.heap.size 3 1 (.slice (some ⟨g, 0, none⟩) 8 c) 8 (ia (takeL s bs many last)) := by
  subst hn
  obtain ⟨i, hi, hz0, hz1, hz2⟩ := info_parts infoInt
  have hgs : gs < w.heap.size := block_lt_of_cell (hs 0 (by decide))
  go_enter Tryd.func74, Tryd.ntmps74
  go_wp2_with fail
  refine (wordsOf_any bs sa _ cap w rfl hbl hc hu).mono ?_
  rintro e w1 ⟨rfl, hb1, hom⟩
  have hm1 : w.heap.size < w1.heap.size := (hom.lt _ rfl).2
  go_wp2_with fail
  go_loopw [11, 10] (fun j v wr => ∃ k : Nat, k ≤ 8 ∧ j = .int .i64 k ∧ Below w1.heap.size w1 wr ∧ wr.ownsRow w1.heap.size 3 1 v k (ia (s.take k))) (fun j _ _ => 8 - (intOf j).toNat)
  case atStart => exact ⟨0, Nat.zero_le _, rfl, Below.refl _ _, World.ownsRow_nil _ _ _ _⟩
  case round =>
    obtain ⟨k, hk, rfl, hb, ho⟩ := hrel
    by_cases hlt : k < 8
    · have hltI : (k : Int) < 8 := by omega
      have ck : wr.cell? ⟨gs, k, none⟩ = some (.int .i64 (s.getD k 0)) := (hb.cell (p := ⟨gs, k, none⟩) (Nat.lt_trans hgs hm1)).trans ((hb1.cell (p := ⟨gs, k, none⟩) hgs).trans (hs k hlt))
      have hst : Hid (s.take (k + 1) = s.take k ++ [s.getD k 0]) := by
        show _ = _
        rw [List.take_succ_eq_append_getElem (by omega)]
        simp [List.getD, hl, hlt]
      generalize s.getD k 0 = x at ck hst
      go_wp2_with (at_builtin; refine wpList_append_own _ rfl _ _ 45 rfl w1.heap.size 3 i (.int .i64 0) 1 8 Tryd.underlying45 hi hz0 hz1 hz2 rfl (by decide) _ k _ rfl (World.ownsRow.alloc ho _) ⟨wr.heap.size, 0, none⟩ 1 1 [.int .i64 x] rfl rfl (cells_new _ _ _) (i64_one [_]) (by unfold maxLen; omega) (by omega) (le_alloc hb.size _) ?_; intro v1 w2 ho1 hg1 _)
      have hb2 := Below.grown (hb.alloc hb.size _) hg1 (le_alloc hb.size _) (fun q e => (ho.lt q e).1)
      go_roundw
      case rel =>
        refine ⟨k + 1, by omega, by go_num, hb2, ?_⟩
        rw [hst.out, ia_app]
        exact ho1
      case measure => simp [intOf]; omega
    · obtain rfl : k = 8 := by omega
      rw [List.take_of_length_le (by omega)] at ho
      go_wp2_with fail
      go_loopw [12, 10] (fun j v wr => ∃ k : Nat, k ≤ 8 ∧ j = .int .i64 k ∧ Below w1.heap.size w1 wr ∧ wr.ownsRow w1.heap.size 3 1 v (8 + k) (ia (s ++ fw.take k))) (fun j _ _ => 8 - (intOf j).toNat)
      case atStart => exact ⟨0, Nat.zero_le _, rfl, hb, by simpa using ho⟩
      case round =>
        clear ho hb
        obtain ⟨k, hk, rfl, hb, ho⟩ := hrel
        by_cases hlt : k < 8
        · have hltI : (k : Int) < 8 := by omega
          have hst : Hid (s ++ fw.take (k + 1) = (s ++ fw.take k) ++ [fw.getD k 0]) := by
            show _ = _
            have hf : k < fw.length := hlt
            rw [List.take_succ_eq_append_getElem hf, List.append_assoc]
            simp [List.getD, hf]
          go_wp2_with fail
          refine (firstWord_any k hlt _).mono ?_
          rintro e w3 ⟨rfl, hb3⟩
          have ho3 := owns_below' ho hb3
          have hB3 := hb.trans (hb3.mono hb.size)
          generalize fw.getD k 0 = x at hst ⊢
          go_wp2_with (at_builtin; refine wpList_append_own _ rfl _ _ 45 rfl w1.heap.size 3 i (.int .i64 0) 1 8 Tryd.underlying45 hi hz0 hz1 hz2 rfl (by decide) _ (8 + k) _ rfl (World.ownsRow.alloc ho3 _) ⟨w3.heap.size, 0, none⟩ 1 1 [.int .i64 x] rfl rfl (cells_new _ _ _) (i64_one [_]) (by unfold maxLen; omega) (by omega) (le_alloc hB3.size _) ?_; intro v1 w2 ho1 hg1 _)
          have hb2 := Below.grown (hB3.alloc hB3.size _) hg1 (le_alloc hB3.size _) (fun q e => (ho3.lt q e).1)
          go_roundw
          case rel =>
            have hR : ∃ k' : Nat, k' ≤ 8 ∧ (Value.int .i64 ((k : Int) + 1)) = .int .i64 k' ∧ Below w1.heap.size w1 w2 ∧ w2.ownsRow w1.heap.size 3 1 v1 (8 + k') (ia (s ++ fw.take k')) :=
              ⟨k + 1, by omega, by go_num, hb2, by rw [hst.out, ia_app, show 8 + (k + 1) = 8 + k + 1 by omega]; exact ho1⟩
            first | exact hR | ((repeat apply Exists.intro); exact ⟨hR, rfl⟩)
          case measure => simp [intOf]; omega
        · obtain rfl : k = 8 := by omega
          rw [fw_take] at ho
          have hf : ∃ gv cv, u10 = .slice (some ⟨gv, 0, none⟩) 16 cv := by
            rcases ho.2 with ⟨_, h0⟩ | ⟨g, c, cur, rfl, _⟩
            · cases h0
            · exact ⟨g, c, rfl⟩
          obtain ⟨gv, cv, hv⟩ := hf
          subst hv
          have hX : TkS w w1 (wordsTo bs bs.length) (s ++ fw) gv cv wr := ⟨hb1.trans (hb.mono (Nat.le_of_lt hm1)), ho, owns_below' hom hb⟩
          have hgv := hX.gv
          have hMw := wordsTo_W1 bs hu bs.length hbl
          have hMl := wordsTo_length bs bs.length
          have hA := spreadA_eq s hl hsw many hmany
          have hlx : (s ++ fw).length = 16 := by simp [hl]; rfl
          have hfin : Hid (takeL s bs many last = foldTo s (roundsTo (wordsTo bs bs.length) (spreadL s many last) 10) 8) := rfl
          clear ho hb hb1 hom hc hu
          generalize wordsTo bs bs.length = M at *
          go_upto_region 11 with (fail)
          go_cut [] (fun wx => TkS w w1 M (spreadA s many) gv cv wx)
          case first =>
            have c12 := (World.ownsRow.cellAt hX.v 12 (by omega)).trans (ia_get _ _ (by rw [hlx]; decide))
            have f12 := World.ownsRow.frozenAt hX.v 12
            have hst := World.ownsRow.stored hX.v 12 (.int .i64 (bits .xor .i64 ((s ++ fw).getD 12 0) many))
            rw [ia_set, hA] at hst
            have Hst : Hid ((wr.setCell ⟨gv, 12, none⟩ (.int .i64 (bits .xor .i64 ((s ++ fw).getD 12 0) many))).ownsRow w1.heap.size 3 1 (.slice (some ⟨gv, 0, none⟩) 16 cv) 16 (ia (spreadA s many)) ∧ wr.grownBy (wr.setCell ⟨gv, 12, none⟩ (.int .i64 (bits .xor .i64 ((s ++ fw).getD 12 0) many))) (some gv)) := hst
            clear hst hA
            generalize (s ++ fw).getD 12 0 = x at *
            go_wp2_with fail
            go_meet
            case rel => exact hX.upd hm1 Hst.out.1 Hst.out.2
          case rest =>
            clear hX hA
            have hX := hcut
            have hlA := spreadA_length s hl many
            have hLt := spreadL_true s hl hsw many hmany
            go_upto_if 48 with (fail)
            go_cut [] (fun wx => TkS w w1 M (spreadL s many last) gv cv wx)
            case first =>
              have c14 := (World.ownsRow.cellAt hX.v 14 (by omega)).trans (ia_get _ _ (by rw [hlA]; decide))
              have f14 := World.ownsRow.frozenAt hX.v 14
              have hst := World.ownsRow.stored hX.v 14 (.int .i64 (bits .xor .i64 ((spreadA s many).getD 14 0) 4294967295))
              rw [ia_set, hLt] at hst
              have Hst : Hid ((wc.setCell ⟨gv, 14, none⟩ (.int .i64 (bits .xor .i64 ((spreadA s many).getD 14 0) 4294967295))).ownsRow w1.heap.size 3 1 (.slice (some ⟨gv, 0, none⟩) 16 cv) 16 (ia (spreadL s many true)) ∧ wc.grownBy (wc.setCell ⟨gv, 14, none⟩ (.int .i64 (bits .xor .i64 ((spreadA s many).getD 14 0) 4294967295))) (some gv)) := hst
              clear hst hLt
              generalize (spreadA s many).getD 14 0 = x at *
              cases last
              · go_wp2_with fail
                go_meet
                case rel => exact hX
              · go_wp2_with fail
                go_meet
                case rel => exact hX.upd hm1 Hst.out.1 Hst.out.2
            case rest =>
              have hY := hcut
              clear hX hLt hlA hcut
              have hXl := spreadL_length s hl many last
              have hXw := spreadL_W1 s hl hsw many hmany last
              generalize spreadL s many last = X0 at *
              go_wp2_with fail
              go_loopw [13] (fun j wr => ∃ r : Nat, r ≤ 10 ∧ j = .int .i64 r ∧ TkS w w1 M (roundsTo M X0 r) gv cv wr) (fun j _ => 10 - (intOf j).toNat)
              case atStart => exact ⟨0, Nat.zero_le _, rfl, hY⟩
              case round =>
                clear hY
                obtain ⟨r, hr, rfl, hX⟩ := hrel
                by_cases hr10 : r < 10
                · have hrI : (r : Int) < 10 := by omega
                  go_wp2_with fail
                  refine (turnsOf_any r hr10 _).mono ?_
                  rintro e w3 ⟨go, co, rfl, hgo, hb3, hO0⟩
                  have hgov : gv < go := Nat.lt_of_lt_of_le (hX.v.lt _ rfl).2 hgo
                  have hO : w3.ownsRow 0 3 1 (.slice (some ⟨go, 0, none⟩) 16 co) 16 (ia (oRow r)) := ownsRow_base hO0 (Nat.zero_le _)
                  replace hX := hX.below hb3
                  have hZ : Hid (roundsTo M X0 (r + 1) = lanesTo M r (roundsTo M X0 r) 8) := rfl
                  replace hXw := roundsTo_W1 M X0 hXl hXw r
                  replace hXl := (roundsTo_length M X0 r).trans hXl
                  clear hO0 hb3 hgo
                  have hfin0 := hfin
                  clear hfin
                  generalize roundsTo M X0 r = X at *
                  go_wp2_with fail
                  go_loopw [15] (fun j wr => ∃ k : Nat, k ≤ 4 ∧ j = .int .i64 k ∧ TkS w w1 M (lanesTo M r X k) gv cv wr ∧ wr.ownsRow 0 3 1 (.slice (some ⟨go, 0, none⟩) 16 co) 16 (ia (oRow r))) (fun j _ => 4 - (intOf j).toNat)
                  case atStart => exact ⟨0, Nat.zero_le _, rfl, hX, hO⟩
                  case round =>
                    clear hX hO
                    obtain ⟨k, hk, rfl, hX, hO⟩ := hrel
                    by_cases hk4 : k < 4
                    · have hkI : (k : Int) < 4 := by omega
                      have o1 := (World.ownsRow.cellAt hO (2 * k) (by omega)).trans (ia_get _ _ (by rw [oRow_length r hr10]; omega))
                      have o2 := (World.ownsRow.cellAt hO (2 * k + 1) (by omega)).trans (ia_get _ _ (by rw [oRow_length r hr10]; omega))
                      rw [oRow_get r _ hr10 (by omega)] at o1 o2
                      have b1 := ordF_lt (r * 16 + (2 * k)) (by omega)
                      have b2 := ordF_lt (r * 16 + (2 * k + 1)) (by omega)
                      obtain ⟨e0, e1, e2, e3⟩ := lane_lo k hk4
                      have hst : Hid (lanesTo M r X (k + 1) = mixL (lanesTo M r X k) (k) (k + 4) (k + 8) (k + 12) (M.getD (ordF.getD (r * 16 + (2 * k)) 0) 0) (M.getD (ordF.getD (r * 16 + (2 * k + 1)) 0) 0)) := by
                        show _ = _
                        rw [lanesTo, laneStep, e0, e1, e2, e3]
                      clear e0 e1 e2 e3
                      generalize ordF.getD (r * 16 + (2 * k)) 0 = q1 at *
                      generalize ordF.getD (r * 16 + (2 * k + 1)) 0 = q2 at *
                      have m1 := (World.ownsRow.cellAt hX.m q1 (by omega)).trans (ia_get _ _ (by rw [hMl]; omega))
                      have m2 := (World.ownsRow.cellAt hX.m q2 (by omega)).trans (ia_get _ _ (by rw [hMl]; omega))
                      have wx := getD_W1 hMw q1
                      have wy := getD_W1 hMw q2
                      generalize M.getD q1 0 = x at m1 wx hst
                      generalize M.getD q2 0 = y at m2 wy hst
                      have g1 : (q1 : Int) < 16 := by omega
                      have g2 : (q2 : Int) < 16 := by omega
                      have hLl : (lanesTo M r X k).length = 16 := by rw [lanesTo_length, hXl]
                      have hLw := lanesTo_W1 M X hXl hXw r k (by omega)
                      have h2k : 2 * (k : Int) < 16 := by omega
                      go_wp2_with fail
                      have hn1 : (some go : Option Nat) ≠ some gv := by simp; omega
                      have hn2 : (some w.heap.size : Option Nat) ≠ some gv := by simp; omega
                      clear hs hsw hMw hXw hXl hmany hfin0 hZ
                      have h2k1 : 2 * (k : Int) + 1 < 16 := by omega
                      have t0 : ((2 * (k : Int) : Int)).toNat = 2 * k := by omega
                      have u0_ : IntKind.i64.wrap (2 * (k : Int)) = 2 * (k : Int) := by rw [IntKind.wrap_i64]; omega
                      have z0 : (0 : Int) ≤ 2 * (k : Int) := by omega
                      have t1 : ((2 * (k : Int) + 1 : Int)).toNat = 2 * k + 1 := by omega
                      have u1_ : IntKind.i64.wrap (2 * (k : Int) + 1) = 2 * (k : Int) + 1 := by rw [IntKind.wrap_i64]; omega
                      have z1 : (0 : Int) ≤ 2 * (k : Int) + 1 := by omega
                      have eb : Hid (IntKind.i64.wrap ((k : Int) + 4) = ((k + 4 : Nat) : Int)) := by show _ = _; rw [IntKind.wrap_i64]; omega
                      have ec : Hid (IntKind.i64.wrap ((k : Int) + 8) = ((k + 8 : Nat) : Int)) := by show _ = _; rw [IntKind.wrap_i64]; omega
                      have ed : Hid (IntKind.i64.wrap ((k : Int) + 12) = ((k + 12 : Nat) : Int)) := by show _ = _; rw [IntKind.wrap_i64]; omega
                      go_region_held2 (fun w' => w'.cell? ⟨go, 2 * k, none⟩ = some (.int .i64 q1) ∧ w'.cell? ⟨go, 2 * k + 1, none⟩ = some (.int .i64 q2) ∧ w'.cell? ⟨w.heap.size, q1, none⟩ = some (.int .i64 x) ∧ w'.cell? ⟨w.heap.size, q2, none⟩ = some (.int .i64 y)) (go_keep) ((go_at_call 78; refine (mixed_any _ w1.heap.size gv (k) (k + 4) (k + 8) (k + 12) cv _ _ _ _ x y _ rfl eb.out ec.out ed.out hLl hLw wx wy ?_ (by omega) (by omega) (by omega) (by omega) (by omega) (by omega) (by omega) (by omega) (by omega) (by omega)).mono ?_; exact hX.v; rintro e w5 ⟨rfl, ho5, hg5⟩; have s1 := hg5.cell (a := ⟨go, 2 * k, none⟩) o1 hn1; have s2 := hg5.cell (a := ⟨go, 2 * k + 1, none⟩) o2 hn1; have s3 := hg5.cell (a := ⟨w.heap.size, q1, none⟩) m1 hn2; have s4 := hg5.cell (a := ⟨w.heap.size, q2, none⟩) m2 hn2))
                      all_goals
                        go_wp2_with fail
                        go_roundw
                        case rel =>
                          have hg6 := grown_drew hg5
                          refine ⟨k + 1, by omega, by go_num, ?_, owns_other hO hg6 (by omega)⟩
                          rw [hst.out]
                          exact hX.upd hm1 ho5 hg6
                        case measure => simp [intOf]; omega
                    · obtain rfl : k = 4 := by omega
                      go_wp2_with fail
                      go_loopw [16] (fun j wr => ∃ k : Nat, k ≤ 4 ∧ j = .int .i64 k ∧ TkS w w1 M (lanesTo M r X (4 + k)) gv cv wr ∧ wr.ownsRow 0 3 1 (.slice (some ⟨go, 0, none⟩) 16 co) 16 (ia (oRow r))) (fun j _ => 4 - (intOf j).toNat)
                      case atStart => exact ⟨0, Nat.zero_le _, rfl, hX, hO⟩
                      case round =>
                        clear hX hO
                        obtain ⟨k, hk, rfl, hX, hO⟩ := hrel
                        by_cases hk4 : k < 4
                        · have hkI : (k : Int) < 4 := by omega
                          have o1 := (World.ownsRow.cellAt hO (2 * k + 8) (by omega)).trans (ia_get _ _ (by rw [oRow_length r hr10]; omega))
                          have o2 := (World.ownsRow.cellAt hO (2 * k + 9) (by omega)).trans (ia_get _ _ (by rw [oRow_length r hr10]; omega))
                          rw [oRow_get r _ hr10 (by omega)] at o1 o2
                          have b1 := ordF_lt (r * 16 + (2 * k + 8)) (by omega)
                          have b2 := ordF_lt (r * 16 + (2 * k + 9)) (by omega)
                          obtain ⟨e0, e1, e2, e3⟩ := lane_hi k hk4
                          have hst : Hid (lanesTo M r X (4 + (k + 1)) = mixL (lanesTo M r X (4 + k)) (k) (4 + (k + 1) % 4) (8 + (k + 2) % 4) (12 + (k + 3) % 4) (M.getD (ordF.getD (r * 16 + (2 * k + 8)) 0) 0) (M.getD (ordF.getD (r * 16 + (2 * k + 9)) 0) 0)) := by
                            show _ = _
                            rw [show 4 + (k + 1) = (4 + k) + 1 by omega, lanesTo, laneStep, e0, e1, e2, e3, show 2 * (4 + k) = 2 * k + 8 by omega]
                          clear e0 e1 e2 e3
                          generalize ordF.getD (r * 16 + (2 * k + 8)) 0 = q1 at *
                          generalize ordF.getD (r * 16 + (2 * k + 9)) 0 = q2 at *
                          have m1 := (World.ownsRow.cellAt hX.m q1 (by omega)).trans (ia_get _ _ (by rw [hMl]; omega))
                          have m2 := (World.ownsRow.cellAt hX.m q2 (by omega)).trans (ia_get _ _ (by rw [hMl]; omega))
                          have wx := getD_W1 hMw q1
                          have wy := getD_W1 hMw q2
                          generalize M.getD q1 0 = x at m1 wx hst
                          generalize M.getD q2 0 = y at m2 wy hst
                          have g1 : (q1 : Int) < 16 := by omega
                          have g2 : (q2 : Int) < 16 := by omega
                          have hLl : (lanesTo M r X (4 + k)).length = 16 := by rw [lanesTo_length, hXl]
                          have hLw := lanesTo_W1 M X hXl hXw r (4 + k) (by omega)
                          have h2k : 2 * (k : Int) < 16 := by omega
                          go_wp2_with fail
                          have hn1 : (some go : Option Nat) ≠ some gv := by simp; omega
                          have hn2 : (some w.heap.size : Option Nat) ≠ some gv := by simp; omega
                          clear hs hsw hMw hXw hXl hmany hfin0 hZ
                          have h2k1 : 2 * (k : Int) + 8 < 16 := by omega
                          have h2k2 : 2 * (k : Int) + 9 < 16 := by omega
                          have u9_ : IntKind.i64.wrap (2 * (k : Int)) = 2 * (k : Int) := by rw [IntKind.wrap_i64]; omega
                          have t0 : ((2 * (k : Int) + 8 : Int)).toNat = 2 * k + 8 := by omega
                          have u0_ : IntKind.i64.wrap (2 * (k : Int) + 8) = 2 * (k : Int) + 8 := by rw [IntKind.wrap_i64]; omega
                          have z0 : (0 : Int) ≤ 2 * (k : Int) + 8 := by omega
                          have t1 : ((2 * (k : Int) + 9 : Int)).toNat = 2 * k + 9 := by omega
                          have u1_ : IntKind.i64.wrap (2 * (k : Int) + 9) = 2 * (k : Int) + 9 := by rw [IntKind.wrap_i64]; omega
                          have z1 : (0 : Int) ≤ 2 * (k : Int) + 9 := by omega
                          have eb : Hid (IntKind.i64.wrap (4 + (IntKind.i64.wrap ((k : Int) + 1)).tmod 4) = ((4 + (k + 1) % 4 : Nat) : Int)) := by
                            show _ = _
                            rw [show IntKind.i64.wrap ((k : Int) + 1) = (k : Int) + 1 by rw [IntKind.wrap_i64]; omega, Int.tmod_eq_emod_of_nonneg (by omega), IntKind.wrap_i64]; omega
                          have ec : Hid (IntKind.i64.wrap (8 + (IntKind.i64.wrap ((k : Int) + 2)).tmod 4) = ((8 + (k + 2) % 4 : Nat) : Int)) := by
                            show _ = _
                            rw [show IntKind.i64.wrap ((k : Int) + 2) = (k : Int) + 2 by rw [IntKind.wrap_i64]; omega, Int.tmod_eq_emod_of_nonneg (by omega), IntKind.wrap_i64]; omega
                          have ed : Hid (IntKind.i64.wrap (12 + (IntKind.i64.wrap ((k : Int) + 3)).tmod 4) = ((12 + (k + 3) % 4 : Nat) : Int)) := by
                            show _ = _
                            rw [show IntKind.i64.wrap ((k : Int) + 3) = (k : Int) + 3 by rw [IntKind.wrap_i64]; omega, Int.tmod_eq_emod_of_nonneg (by omega), IntKind.wrap_i64]; omega
                          go_region_held2 (fun w' => w'.cell? ⟨go, 2 * k + 8, none⟩ = some (.int .i64 q1) ∧ w'.cell? ⟨go, 2 * k + 9, none⟩ = some (.int .i64 q2) ∧ w'.cell? ⟨w.heap.size, q1, none⟩ = some (.int .i64 x) ∧ w'.cell? ⟨w.heap.size, q2, none⟩ = some (.int .i64 y)) (go_keep) ((go_at_call 78; refine (mixed_any _ w1.heap.size gv (k) (4 + (k + 1) % 4) (8 + (k + 2) % 4) (12 + (k + 3) % 4) cv _ _ _ _ x y _ rfl eb.out ec.out ed.out hLl hLw wx wy ?_ (by omega) (by omega) (by omega) (by omega) (by omega) (by omega) (by omega) (by omega) (by omega) (by omega)).mono ?_; exact hX.v; rintro e w5 ⟨rfl, ho5, hg5⟩; have s1 := hg5.cell (a := ⟨go, 2 * k + 8, none⟩) o1 hn1; have s2 := hg5.cell (a := ⟨go, 2 * k + 9, none⟩) o2 hn1; have s3 := hg5.cell (a := ⟨w.heap.size, q1, none⟩) m1 hn2; have s4 := hg5.cell (a := ⟨w.heap.size, q2, none⟩) m2 hn2))
                          all_goals
                            go_wp2_with fail
                            go_roundw
                            case rel =>
                              have hg6 := grown_drew hg5
                              have hR : ∃ k' : Nat, k' ≤ 4 ∧ (Value.int .i64 ((k : Int) + 1)) = .int .i64 k' ∧ TkS w w1 M (lanesTo M r X (4 + k')) gv cv w5 ∧ w5.ownsRow 0 3 1 (.slice (some ⟨go, 0, none⟩) 16 co) 16 (ia (oRow r)) := ⟨k + 1, by omega, by go_num, by rw [hst.out]; exact hX.upd hm1 ho5 hg6, owns_other hO hg6 (by omega)⟩
                              first | exact hR | ((repeat apply Exists.intro); exact ⟨hR, rfl⟩)
                            case measure => simp [intOf]; omega
                        · obtain rfl : k = 4 := by omega
                          go_wp2_with fail
                          go_roundw
                          case rel =>
                            have hR : ∃ r' : Nat, r' ≤ 10 ∧ (Value.int .i64 ((r : Int) + 1)) = .int .i64 r' ∧ TkS w w1 M (roundsTo M X0 r') gv cv wr := ⟨r + 1, by omega, by go_num, by rw [hZ.out]; exact hX⟩
                            first | exact hR | ((repeat apply Exists.intro); exact ⟨hR, rfl⟩)
                          case measure => simp [intOf]; omega
                · obtain rfl : r = 10 := by omega
                  have hVw := roundsTo_W1 M X0 hXl hXw 10
                  have hVl := (roundsTo_length M X0 10).trans hXl
                  obtain ⟨B, hB⟩ : ∃ B, B = wr.heap.size := ⟨_, rfl⟩
                  have hgB : gv < B := by have h9 : gv < wr.heap.size := (hX.v.lt _ rfl).2; omega
                  have hmB : w.heap.size < B := by omega
                  have hFl : (foldTo s (roundsTo M X0 10) 8).length = 8 := (foldTo_length _ _ _).trans hl
                  have hFg := fun k hk => foldTo_get s (roundsTo M X0 10) hl hsw hVw k hk
                  clear hMw hMl hXw hXl hmany
                  generalize roundsTo M X0 10 = V at *
                  generalize foldTo s V 8 = F at *
                  go_wp2_with fail
                  go_loopw [18, 17] (fun j v wq => ∃ k : Nat, k ≤ 8 ∧ j = .int .i64 k ∧ TkS w w1 M V gv cv wq ∧ B ≤ wq.heap.size ∧ wq.ownsRow B 3 1 v k (ia (F.take k))) (fun j _ _ => 8 - (intOf j).toNat)
                  case atStart => exact ⟨0, Nat.zero_le _, rfl, hX, by omega, World.ownsRow_nil _ _ _ _⟩
                  case round =>
                    clear hX hB
                    obtain ⟨k, hk, rfl, hX, hBs, ho⟩ := hrel
                    by_cases hk8 : k < 8
                    · have hkI : (k : Int) < 8 := by omega
                      have hkJ : (k : Int) < 16 := by omega
                      have hkL : (k : Int) + 8 < 16 := by omega
                      have t0 : ((k : Int) + 8).toNat = k + 8 := by omega
                      have u0_ : IntKind.i64.wrap ((k : Int) + 8) = (k : Int) + 8 := by rw [IntKind.wrap_i64]; omega
                      have z0 : (0 : Int) ≤ (k : Int) + 8 := by omega
                      have c0 : wr.cell? ⟨gs, k, none⟩ = some (.int .i64 (s.getD k 0)) := (hX.bel.cell (p := ⟨gs, k, none⟩) hgs).trans (hs k hk8)
                      have c1 := (World.ownsRow.cellAt hX.v k (by omega)).trans (ia_get _ _ (by rw [hVl]; omega))
                      have c2 := (World.ownsRow.cellAt hX.v (k + 8) (by omega)).trans (ia_get _ _ (by rw [hVl]; omega))
                      have hst : Hid (F.take (k + 1) = F.take k ++ [F.getD k 0]) := by
                        show _ = _
                        rw [List.take_succ_eq_append_getElem (by omega)]
                        simp [List.getD, hFl, hk8]
                      have hval : Hid (F.getD k 0 = bits .xor .i64 (bits .xor .i64 (s.getD k 0) (V.getD k 0)) (V.getD (k + 8) 0)) := hFg k hk8
                      clear hFg hsw hVw hs
                      generalize F.getD k 0 = f at hst hval
                      generalize s.getD k 0 = a at c0 hval
                      generalize V.getD k 0 = b at c1 hval
                      generalize V.getD (k + 8) 0 = c at c2 hval
                      go_wp2_with fail
                      go_region_law (refine step_append_own rfl _ _ 45 rfl B 3 i (.int .i64 0) 1 8 Tryd.underlying45 hi hz0 hz1 hz2 rfl (by decide) _ k _ rfl (World.ownsRow.alloc ho.drew _) ⟨wr.heap.size, 0, none⟩ 1 1 [.int .i64 (bits .xor .i64 (bits .xor .i64 a b) c)] rfl rfl (cells_new _ _ _) (i64_one [_]) (by unfold maxLen; omega) (by omega) (le_alloc hBs _) ?_; intro v' w2 ho1 hg1)
                      all_goals
                        go_wp2_with fail
                        go_roundw
                        case rel =>
                          have hb2 := Below.grown ((Below.refl B wr).drew.alloc hBs _) hg1 (le_alloc hBs _) (fun q e => (ho.lt q e).1)
                          have hR : ∃ k' : Nat, k' ≤ 8 ∧ (Value.int .i64 ((k : Int) + 1)) = .int .i64 k' ∧ TkS w w1 M V gv cv w2 ∧ B ≤ w2.heap.size ∧ w2.ownsRow B 3 1 v' k' (ia (F.take k')) :=
                            ⟨k + 1, by omega, by go_num, hX.belowB hb2 hgB hmB, Nat.le_trans hBs hb2.size, by rw [hst.out, ia_app, hval.out]; exact ho1⟩
                          first | exact hR | ((repeat apply Exists.intro); exact ⟨hR, rfl⟩)
                        case measure => simp [intOf]; omega
                    · obtain rfl : k = 8 := by omega
                      rw [List.take_of_length_le (by omega)] at ho
                      have hf : ∃ g c, u17 = .slice (some ⟨g, 0, none⟩) 8 c := by
                        rcases ho.2 with ⟨_, h0⟩ | ⟨g, c, cur, rfl, _⟩
                        · cases h0
                        · exact ⟨g, c, rfl⟩
                      obtain ⟨g, c, hv⟩ := hf
                      subst hv
                      go_wp2_with fail
                      go_ret
                      refine ⟨g, c, rfl, hX.bel, ?_⟩
                      rw [hfin.out]
                      exact ownsRow_base ho (Nat.le_of_lt hmB)
end Go.Proofs.YtcecjdoabnhcgaaDoor
