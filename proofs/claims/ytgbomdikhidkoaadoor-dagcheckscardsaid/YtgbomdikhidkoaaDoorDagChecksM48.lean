/- dag.Digests and the document's DigestsAt, for every dag. -/
import Derived.Test.YtgbomdikhidkoaaDoorPK
import Derived.Test.YtgbomdikhidkoaaDoorHeadF
import Derived.Test.YtgbomdikhidkoaaDoorDagChecksM12
import Derived.Test.YtgbomdikhidkoaaDoorCertF
import Derived.Deep.RegionHeld2
import Derived.Test.YtgbomdikhidkoaaDoorDagChecksM42
import Derived.Test.YtgbomdikhidkoaaDoorDgs
namespace Go.Proofs.YtgbomdikhidkoaaDoor
open Go.RowKit

set_option maxRecDepth 100000 in
theorem in_bool (n a b : Int) (r : Bool) (w : World) (h : r = decide (a ≤ n ∧ n ≤ b)) : Calls Tryd.prog 48 #[.int .i64 n, .int .i64 a, .int .i64 b] w fun e w' => e = .returned (.bool r) ∧ w = w' := by
  by_cases h1 : a ≤ n
  · by_cases h2 : n ≤ b
    · obtain rfl : r = true := by simp [h, h1, h2]
      clear h
      go_enter Tryd.func48, Tryd.ntmps48
      go_wp2
      go_ret
      exact ⟨rfl, rfl⟩
    · obtain rfl : r = false := by simp [h, h2]
      clear h
      go_enter Tryd.func48, Tryd.ntmps48
      go_wp2
      go_ret
      exact ⟨rfl, rfl⟩
  · obtain rfl : r = false := by simp [h, h1]
    clear h
    go_enter Tryd.func48, Tryd.ntmps48
    go_wp2
    go_ret
    exact ⟨rfl, rfl⟩
set_option maxRecDepth 100000 in
theorem in_true (n a b : Int) (w : World) (h : a ≤ n ∧ n ≤ b) : Calls Tryd.prog 48 #[.int .i64 n, .int .i64 a, .int .i64 b] w fun e w' => e = .returned (.bool true) ∧ w = w' := in_bool n a b true w (by simp [h])
set_option maxRecDepth 100000 in
theorem in_false (n a b : Int) (w : World) (h : ¬ (a ≤ n ∧ n ≤ b)) : Calls Tryd.prog 48 #[.int .i64 n, .int .i64 a, .int .i64 b] w fun e w' => e = .returned (.bool false) ∧ w = w' := in_bool n a b false w (by rw [decide_eq_false h])
end Go.Proofs.YtgbomdikhidkoaaDoor

namespace Go.Proofs.YtgbomdikhidkoaaDoor
open Go.RowKit

set_option maxRecDepth 100000 in
set_option maxHeartbeats 2000000 in
theorem headerFault_any (au rd : Int) (ba : Option Addr) (bc : Nat) (bl : List Part) (pa : Option Addr) (pc : Nat) (pl : List Part) (w : World) (hb : ListAt w ba bc bl) (hp : ListAt w pa pc pl) :
    Calls Tryd.prog 40 #[.agg #[.int .i64 au, .int .i64 rd, .slice ba bl.length bc, .slice pa pl.length pc]] w fun e w' => e = .returned (.int .i64 (headerF au rd bl pl)) ∧ Below w.heap.size w w' := by
  have hbl := hb.le
  have hbm := hb.max
  have hbs := hb.small
  have hpl := hp.le
  have hpm := hp.max
  have hps := hp.small
  have hA : Below w.heap.size w (w.alloc (.cells #[.int .i64 au, .int .i64 rd, .slice ba bl.length bc, .slice pa pl.length pc] 32)) := (Below.refl _ _).alloc (Nat.le_refl _) _
  by_cases ha : 0 ≤ au ∧ au < 4
  · by_cases hr : 1 ≤ rd ∧ rd ≤ 1048576
    · by_cases hz : 3 < bl.length ∨ 4 < pl.length
      · have hF : Hid (headerF au rd bl pl = 1) := by show _ = _; rw [headerF, if_neg (by simp [ha, hr]), if_pos hz]
        by_cases hz1 : 3 < bl.length
        · have hzI : (3 : Int) < bl.length := by omega
          go_enter Tryd.func40, Tryd.ntmps40
          go_wp2_with (go_at_call 48; first | (refine (in_true _ _ _ _ (by omega)).mono ?_; rintro e w' ⟨rfl, rfl⟩) | (refine (in_false _ _ _ _ (by omega)).mono ?_; rintro e w' ⟨rfl, rfl⟩))
          go_ret
          exact ⟨ret_int hF.out.symm, hA⟩
        · have hzI : ¬ (3 : Int) < bl.length := by omega
          have hzJ : (4 : Int) < pl.length := by omega
          go_enter Tryd.func40, Tryd.ntmps40
          go_wp2_with (go_at_call 48; first | (refine (in_true _ _ _ _ (by omega)).mono ?_; rintro e w' ⟨rfl, rfl⟩) | (refine (in_false _ _ _ _ (by omega)).mono ?_; rintro e w' ⟨rfl, rfl⟩))
          go_ret
          exact ⟨ret_int hF.out.symm, hA⟩
      · have hF : Hid (headerF au rd bl pl = if digF bl ≠ 0 then digF bl else if digF pl ≠ 0 then digF pl else parentsF rd pl.length) := by show _ = _; rw [headerF, if_neg (by simp [ha, hr]), if_neg hz]
        have hzI : ¬ (3 : Int) < bl.length := by omega
        have hzJ : ¬ (4 : Int) < pl.length := by omega
        go_enter Tryd.func40, Tryd.ntmps40
        go_wp2_with (go_at_call 48; first | (refine (in_true _ _ _ _ (by omega)).mono ?_; rintro e w' ⟨rfl, rfl⟩) | (refine (in_false _ _ _ _ (by omega)).mono ?_; rintro e w' ⟨rfl, rfl⟩))
        refine (digestsFault_any bl ba _ bc _ rfl (by omega) (hb.parts.below hA)).mono ?_
        rintro e w1 ⟨he, hb1⟩
        subst he
        dsimp only
        have r1 := row_new hb1
        replace hb1 := below_alloc hb1
        have c1 : w1.cell? ⟨w.heap.size, 1, none⟩ = some (.int .i64 rd) := cells_at r1 1 _ rfl
        have c3 : w1.cell? ⟨w.heap.size, 3, none⟩ = some (.slice pa pl.length pc) := cells_at r1 3 _ rfl
        by_cases h1 : digF bl = 0
        · rw [h1] at hF ⊢
          go_wp2_with fail
          refine (digestsFault_any pl pa _ pc _ rfl (by omega) (hp.parts.below hb1)).mono ?_
          rintro e w2 ⟨he, hb2⟩
          subst he
          dsimp only
          have r2 := (hb2.block _ (lt_of_heap r1)).trans r1
          have hb12 := hb1.trans (hb2.mono hb1.size)
          have c1' : w2.cell? ⟨w.heap.size, 1, none⟩ = some (.int .i64 rd) := cells_at r2 1 _ rfl
          have c3' : w2.cell? ⟨w.heap.size, 3, none⟩ = some (.slice pa pl.length pc) := cells_at r2 3 _ rfl
          clear c3 c1 r1 r2
          by_cases h2 : digF pl = 0
          · rw [h2] at hF ⊢
            by_cases k1 : rd = 1
            · subst k1
              by_cases k2 : pl.length = 0
              · have hG : Hid (headerF au 1 bl pl = 0) := by show _ = _; rw [hF.out, if_neg (by simp), if_neg (by simp), parentsF, if_neg (by omega)]
                clear hF
                rw [k2] at c3' ⊢
                go_wp2_with fail
                go_ret
                exact ⟨ret_int hG.out.symm, hb12⟩
              · have hG : Hid (headerF au 1 bl pl = 10) := by show _ = _; rw [hF.out, if_neg (by simp), if_neg (by simp), parentsF, if_pos (by omega)]
                clear hF
                have k2I : ¬ (pl.length : Int) = 0 := by omega
                go_wp2_with fail
                go_ret
                exact ⟨ret_int hG.out.symm, hb12⟩
            · have k1J : (1 : Int) < rd := by omega
              by_cases k2 : pl.length < 3
              · have hG : Hid (headerF au rd bl pl = 10) := by show _ = _; rw [hF.out, if_neg (by simp), if_neg (by simp), parentsF, if_pos (by omega)]
                clear hF
                have k2I : (pl.length : Int) < 3 := by omega
                go_wp2_with fail
                go_ret
                exact ⟨ret_int hG.out.symm, hb12⟩
              · have hG : Hid (headerF au rd bl pl = 0) := by show _ = _; rw [hF.out, if_neg (by simp), if_neg (by simp), parentsF, if_neg (by omega)]
                clear hF
                have k2I : ¬ (pl.length : Int) < 3 := by omega
                go_wp2_with fail
                go_ret
                exact ⟨ret_int hG.out.symm, hb12⟩
          · rw [if_neg (by simp), if_pos h2] at hF
            generalize digF pl = z at *
            go_wp2_with fail
            go_ret
            exact ⟨ret_int hF.out.symm, hb12⟩
        · rw [if_pos h1] at hF
          generalize digF bl = z at *
          go_wp2_with fail
          go_ret
          exact ⟨ret_int hF.out.symm, hb1⟩
    · have hF : Hid (headerF au rd bl pl = 2) := by show _ = _; simp [headerF, hr]
      go_enter Tryd.func40, Tryd.ntmps40
      go_wp2_with (go_at_call 48; first | (refine (in_true _ _ _ _ (by omega)).mono ?_; rintro e w' ⟨rfl, rfl⟩) | (refine (in_false _ _ _ _ (by omega)).mono ?_; rintro e w' ⟨rfl, rfl⟩))
      go_ret
      exact ⟨ret_int hF.out.symm, hA⟩
  · have hF : Hid (headerF au rd bl pl = 2) := by show _ = _; simp [headerF, ha]
    go_enter Tryd.func40, Tryd.ntmps40
    go_wp2_with (go_at_call 48; first | (refine (in_true _ _ _ _ (by omega)).mono ?_; rintro e w' ⟨rfl, rfl⟩) | (refine (in_false _ _ _ _ (by omega)).mono ?_; rintro e w' ⟨rfl, rfl⟩))
    go_ret
    exact ⟨ret_int hF.out.symm, hA⟩
end Go.Proofs.YtgbomdikhidkoaaDoor

namespace Go.Proofs.YtgbomdikhidkoaaDoor
open Go.RowKit

set_option maxRecDepth 100000 in
set_option maxHeartbeats 1000000 in
theorem certFault_any (au rd : Int) (ba : Option Addr) (bc : Nat) (bl : List Part) (pa : Option Addr) (pc : Nat) (pl : List Part) (va : Option Addr) (vc : Nat) (vl : List Int) (w : World) (hb : ListAt w ba bc bl) (hp : ListAt w pa pc pl) (hv : IntsAt w va vl) (hvm : vl.length ≤ 9000000000000000000) :
    Calls Tryd.prog 29 #[.agg #[.int .i64 au, .int .i64 rd, .slice ba bl.length bc, .slice pa pl.length pc, .slice va vl.length vc]] w fun e w' => e = .returned (.int .i64 (certF au rd bl pl vl)) ∧ Below w.heap.size w w' := by
  have hA : Below w.heap.size w (w.alloc (.cells #[.int .i64 au, .int .i64 rd, .slice ba bl.length bc, .slice pa pl.length pc, .slice va vl.length vc] 35)) := (Below.refl _ _).alloc (Nat.le_refl _) _
  go_enter Tryd.func29, Tryd.ntmps29
  go_wp2_with fail
  refine (headerFault_any au rd ba bc bl pa pc pl _ (hb.below hA) (hp.below hA)).mono ?_
  rintro e w1 ⟨he, hb1⟩
  subst he
  dsimp only
  have r1 := row_new hb1
  replace hb1 := below_alloc hb1
  have c4 : w1.cell? ⟨w.heap.size, 4, none⟩ = some (.slice va vl.length vc) := cells_at r1 4 _ rfl
  by_cases h1 : headerF au rd bl pl = 0
  · rw [h1]
    by_cases h2 : 4 < vl.length
    · have hF : Hid (certF au rd bl pl vl = 1) := by show _ = _; rw [certF, if_neg (by simp [h1]), if_pos h2]
      have h2I : (4 : Int) < vl.length := by omega
      go_wp2_with fail
      go_loop [4, 3] (fun i e => i = .int .i64 0 ∧ e = .int .i64 (1)) (fun _ _ => 0)
      case atStart => exact ⟨rfl, rfl⟩
      case round =>
        obtain ⟨rfl, rfl⟩ := hrel
        have hlI : (0 : Int) < vl.length := by omega
        go_wp2_with fail
        go_ret
        exact ⟨ret_int hF.out.symm, hb1⟩
    · have hF : Hid (certF au rd bl pl vl = votersF vl) := by show _ = _; rw [certF, if_neg (by simp [h1]), if_neg h2]
      have h2I : ¬ (4 : Int) < vl.length := by omega
      clear h1
      go_wp2_with fail
      go_loopw [4, 3] (fun i e wr => ∃ k : Nat, k ≤ vl.length ∧ i = .int .i64 k ∧ e = .int .i64 (vTo vl k) ∧ Below w.heap.size w wr ∧ wr.cell? ⟨w.heap.size, 4, none⟩ = some (.slice va vl.length vc)) (fun i _ _ => vl.length - (intOf i).toNat)
      case atStart => exact ⟨0, Nat.zero_le _, rfl, rfl, hb1, c4⟩
      case round =>
        clear c4 r1 hb1
        obtain ⟨k, hk, rfl, rfl, hb1, c4⟩ := hrel
        by_cases hlt : k < vl.length
        · have hltI : (k : Int) < vl.length := by omega
          by_cases h0 : vTo vl k = 0
          · obtain ⟨sb, so, rfl, hc⟩ : ∃ sb so, va = some ⟨sb, so, none⟩ ∧ ∀ j, j < vl.length → wr.cell? ⟨sb, so + j, none⟩ = some (.int .i64 (vl.getD j 0)) := by
              rcases (hv.below hb1).cells with h | h
              · rw [h] at hlt; simp at hlt
              · exact h
            have ck := hc k hlt
            have hVs : Hid (vTo vl (k + 1) = vAt vl k) := by
              show _ = _
              rw [vTo, h0]; simp
            have hVa : Hid (vAt vl k = if ¬ (0 ≤ vl.getD k 0 ∧ vl.getD k 0 < 4) then 2 else if 0 < k ∧ vl.getD k 0 ≤ vl.getD (k - 1) 0 then 9 else 0) := rfl
            rw [h0]
            by_cases hkz : k = 0
            · subst hkz
              clear hc
              rw [Nat.add_zero] at ck
              generalize vl.getD 0 0 = x at *
              by_cases hn : 0 ≤ x ∧ x < 4
              · have hst : Hid (vTo vl 1 = 0) := by show _ = _; exact hVs.out.trans (by rw [hVa.out, if_neg (by simp [hn]), if_neg (by omega)])
                clear hVs hVa
                go_wp2_with (go_at_call 48; first | (refine (in_true _ _ _ _ (by omega)).mono ?_; rintro e w' ⟨rfl, rfl⟩) | (refine (in_false _ _ _ _ (by omega)).mono ?_; rintro e w' ⟨rfl, rfl⟩))
                go_region
                go_wp2_with fail
                go_roundw
                case rel =>
                  have hR : ∃ k' : Nat, k' ≤ vl.length ∧ (Value.int .i64 (1)) = .int .i64 k' ∧ (Value.int .i64 0) = .int .i64 (vTo vl k') ∧ Below w.heap.size w wr.drew ∧ wr.drew.cell? ⟨w.heap.size, 4, none⟩ = some (.slice (some ⟨sb, so, none⟩) vl.length vc) := ⟨1, by omega, by go_num, by rw [hst.out], hb1.drew, c4⟩
                  first | exact hR | ((repeat apply Exists.intro); exact ⟨hR, rfl⟩)
                case measure => simp [intOf]; omega
              · have hst : Hid (vTo vl 1 = 2) := by show _ = _; exact hVs.out.trans (by rw [hVa.out, if_pos hn])
                clear hVs hVa
                go_wp2_with (go_at_call 48; first | (refine (in_true _ _ _ _ (by omega)).mono ?_; rintro e w' ⟨rfl, rfl⟩) | (refine (in_false _ _ _ _ (by omega)).mono ?_; rintro e w' ⟨rfl, rfl⟩))
                go_roundw
                case rel =>
                  have hR : ∃ k' : Nat, k' ≤ vl.length ∧ (Value.int .i64 (1)) = .int .i64 k' ∧ (Value.int .i64 2) = .int .i64 (vTo vl k') ∧ Below w.heap.size w wr ∧ wr.cell? ⟨w.heap.size, 4, none⟩ = some (.slice (some ⟨sb, so, none⟩) vl.length vc) := ⟨1, by omega, by go_num, by rw [hst.out], hb1, c4⟩
                  first | exact hR | ((repeat apply Exists.intro); exact ⟨hR, rfl⟩)
                case measure => simp [intOf]; omega
            · have cp := hc (k - 1) (by omega)
              have hkI : (0 : Int) < k := by omega
              have hkD : decide ((0 : Int) < (k : Int)) = true := decide_eq_true hkI
              have hkN : 0 < k := by omega
              have t0 : ((k : Int) - 1).toNat = k - 1 := by omega
              have u0_ : IntKind.i64.wrap ((k : Int) - 1) = (k : Int) - 1 := by rw [IntKind.wrap_i64]; omega
              have z0 : (0 : Int) ≤ (k : Int) - 1 := by omega
              have z1 : (k : Int) - 1 < vl.length := by omega
              clear hc
              generalize vl.getD k 0 = x at *
              generalize vl.getD (k - 1) 0 = y at *
              by_cases hn : 0 ≤ x ∧ x < 4
              · by_cases hxy : x ≤ y
                · have hst : Hid (vTo vl (k + 1) = 9) := by show _ = _; exact hVs.out.trans (by rw [hVa.out, if_neg (by simp [hn]), if_pos (by omega)])
                  clear hVs hVa
                  go_wp2_with (go_at_call 48; first | (refine (in_true _ _ _ _ (by omega)).mono ?_; rintro e w' ⟨rfl, rfl⟩) | (refine (in_false _ _ _ _ (by omega)).mono ?_; rintro e w' ⟨rfl, rfl⟩))
                  go_region
                  go_wp2_with fail
                  go_roundw
                  case rel =>
                    have hR : ∃ k' : Nat, k' ≤ vl.length ∧ (Value.int .i64 ((k : Int) + 1)) = .int .i64 k' ∧ (Value.int .i64 9) = .int .i64 (vTo vl k') ∧ Below w.heap.size w wr.drew ∧ wr.drew.cell? ⟨w.heap.size, 4, none⟩ = some (.slice (some ⟨sb, so, none⟩) vl.length vc) := ⟨k + 1, by omega, by go_num, by rw [hst.out], hb1.drew, c4⟩
                    first | exact hR | ((repeat apply Exists.intro); exact ⟨hR, rfl⟩)
                  case measure => simp [intOf]; omega
                · have hst : Hid (vTo vl (k + 1) = 0) := by show _ = _; exact hVs.out.trans (by rw [hVa.out, if_neg (by simp [hn]), if_neg (by omega)])
                  clear hVs hVa
                  go_wp2_with (go_at_call 48; first | (refine (in_true _ _ _ _ (by omega)).mono ?_; rintro e w' ⟨rfl, rfl⟩) | (refine (in_false _ _ _ _ (by omega)).mono ?_; rintro e w' ⟨rfl, rfl⟩))
                  go_region
                  go_wp2_with fail
                  go_roundw
                  case rel =>
                    have hR : ∃ k' : Nat, k' ≤ vl.length ∧ (Value.int .i64 ((k : Int) + 1)) = .int .i64 k' ∧ (Value.int .i64 0) = .int .i64 (vTo vl k') ∧ Below w.heap.size w wr.drew ∧ wr.drew.cell? ⟨w.heap.size, 4, none⟩ = some (.slice (some ⟨sb, so, none⟩) vl.length vc) := ⟨k + 1, by omega, by go_num, by rw [hst.out], hb1.drew, c4⟩
                    first | exact hR | ((repeat apply Exists.intro); exact ⟨hR, rfl⟩)
                  case measure => simp [intOf]; omega
              · have hst : Hid (vTo vl (k + 1) = 2) := by show _ = _; exact hVs.out.trans (by rw [hVa.out, if_pos hn])
                clear hVs hVa
                go_wp2_with (go_at_call 48; first | (refine (in_true _ _ _ _ (by omega)).mono ?_; rintro e w' ⟨rfl, rfl⟩) | (refine (in_false _ _ _ _ (by omega)).mono ?_; rintro e w' ⟨rfl, rfl⟩))
                go_roundw
                case rel =>
                  have hR : ∃ k' : Nat, k' ≤ vl.length ∧ (Value.int .i64 ((k : Int) + 1)) = .int .i64 k' ∧ (Value.int .i64 2) = .int .i64 (vTo vl k') ∧ Below w.heap.size w wr ∧ wr.cell? ⟨w.heap.size, 4, none⟩ = some (.slice (some ⟨sb, so, none⟩) vl.length vc) := ⟨k + 1, by omega, by go_num, by rw [hst.out], hb1, c4⟩
                  first | exact hR | ((repeat apply Exists.intro); exact ⟨hR, rfl⟩)
                case measure => simp [intOf]; omega
          · have hG : Hid (certF au rd bl pl vl = vTo vl k) := by
              show _ = _
              have e := vTo_stays vl k vl.length h0 hk
              rw [hF.out, votersF, e, if_pos h0]
            clear hF
            generalize vTo vl k = z at *
            go_wp2_with fail
            go_ret
            exact ⟨ret_int hG.out.symm, hb1⟩
        · obtain rfl : k = vl.length := by omega
          by_cases h0 : vTo vl vl.length = 0
          · by_cases h3 : vl.length < 3
            · have e10 : Hid (certF au rd bl pl vl = 10) := by show _ = _; rw [hF.out, votersF, if_neg (by simp [h0]), if_pos h3]
              have h3I : (vl.length : Int) < 3 := by omega
              clear hF
              rw [h0]
              go_wp2_with fail
              go_ret
              exact ⟨ret_int e10.out.symm, hb1⟩
            · have e0 : Hid (certF au rd bl pl vl = 0) := by show _ = _; rw [hF.out, votersF, if_neg (by simp [h0]), if_neg h3]
              have h3I : ¬ (vl.length : Int) < 3 := by omega
              clear hF
              rw [h0]
              go_wp2_with fail
              go_ret
              exact ⟨ret_int e0.out.symm, hb1⟩
          · have hG : Hid (certF au rd bl pl vl = vTo vl vl.length) := by show _ = _; rw [hF.out, votersF, if_pos h0]
            clear hF
            generalize vTo vl vl.length = z at *
            go_wp2_with fail
            go_ret
            exact ⟨ret_int hG.out.symm, hb1⟩
  · have hF : Hid (certF au rd bl pl vl = headerF au rd bl pl) := by show _ = _; rw [certF, if_pos h1]
    generalize headerF au rd bl pl = z at *
    go_wp2_with fail
    go_loop [4, 3] (fun i e => i = .int .i64 0 ∧ e = .int .i64 (z)) (fun _ _ => 0)
    case atStart => exact ⟨rfl, rfl⟩
    case round =>
      obtain ⟨rfl, rfl⟩ := hrel
      by_cases hl0 : vl.length = 0
      · rw [hl0] at c4 ⊢
        go_wp2_with fail
        go_ret
        exact ⟨ret_int hF.out.symm, hb1⟩
      · have hlI : (0 : Int) < vl.length := by omega
        go_wp2_with fail
        go_ret
        exact ⟨ret_int hF.out.symm, hb1⟩
end Go.Proofs.YtgbomdikhidkoaaDoor

namespace Go.Proofs.YtgbomdikhidkoaaDoor
open Go.RowKit

set_option maxRecDepth 100000 in
theorem PartsAt.take {w : World} {sa : Option Addr} {ps : List Part} (h : PartsAt w sa ps) (k : Nat) : PartsAt w sa (ps.take k) := by
  refine ⟨?_, fun p hp => h.each p (List.mem_of_mem_take hp)⟩
  rcases h.cells with h | ⟨sb, so, rfl, hc⟩
  · left; simp [h]
  · refine .inr ⟨sb, so, rfl, fun j hj => ?_⟩
    have hj' : j < ps.length := by simp at hj; omega
    have := hc j hj'
    simpa [List.getElem_take] using this
set_option maxRecDepth 100000 in
set_option maxHeartbeats 2000000 in
theorem dagFault_any (ls : List Ct) (sa : Option Addr) (n cap : Nat) (w : World) (hn : n = ls.length) (hd : DagRd w sa cap ls) :
    Calls Tryd.prog 11 #[.agg #[.slice sa n cap]] w fun e w' => e = .returned (.int .i64 (dagF (cvs ls))) ∧ Below w.heap.size w w' := by
  subst hn
  have hle := hd.le
  have hmx := hd.max
  have hA := (Below.refl w.heap.size w).alloc (Nat.le_refl _) (.cells #[.slice sa ls.length cap] 24)
  have r0 := heap_alloc_new w (.cells #[.slice sa ls.length cap] 24)
  by_cases hlong : 400 < ls.length
  · have hF : Hid (dagF (cvs ls) = 12) := dagF_long _ (by rw [cvs_length]; exact hlong)
    have hI : (400 : Int) < ls.length := by omega
    go_enter Tryd.func11, Tryd.ntmps11
    go_wp2_with fail
    go_ret
    exact ⟨ret_int hF.out.symm, hA⟩
  have hI : ¬ (400 : Int) < ls.length := by omega
  have HC : Hid (∀ W : World, Below w.heap.size w W → CertsAt W sa ls) := by
    show ∀ W, _
    exact fun W hW => hd.certs.below hW
  have HE : Hid (∀ W : World, Below w.heap.size w W → ∀ c ∈ ls, CtRd W c) := by
    show ∀ W, _
    exact fun W hW c hc => (hd.each c hc).below hW
  clear hd
  go_enter Tryd.func11, Tryd.ntmps11
  go_wp2_with fail
  generalize w.alloc (.cells #[.slice sa ls.length cap] 24) = W0 at hA r0 ⊢
  have hlt0 : w.heap.size < W0.heap.size := lt_of_heap r0
  go_loopw [3] (fun j wr => ∃ m : Nat, m ≤ ls.length ∧ j = .int .i64 m ∧ (∀ j, j < m → (cvAt (cvs ls) j).f = 0) ∧ Below W0.heap.size W0 wr) (fun j _ => ls.length - (intOf j).toNat)
  case atStart => exact ⟨0, Nat.zero_le _, rfl, (fun j hj => by omega), Below.refl _ _⟩
  case round =>
    obtain ⟨m, hm, rfl, hno, hbr⟩ := hrel
    have HNO : Hid (∀ j, j < m → (cvAt (cvs ls) j).f = 0) := hno
    clear hno
    have hAr := hA.trans (hbr.mono hA.size)
    have s0 := (hbr.block _ hlt0).trans r0
    have b0 : wr.cell? ⟨w.heap.size, 0, none⟩ = some (.slice sa ls.length cap) := cells_at s0 0 _ rfl
    by_cases hlt : m < ls.length
    · obtain ⟨sb, so, rfl, c0, c1, c2, c3, c4⟩ := (HC.out wr hAr).at m hlt
      have hR := HE.out wr hAr (ls[m]) (List.getElem_mem hlt)
      have hltI : (m : Int) < ls.length := by omega
      have hB : Hid ((ls[m]).v.f ≠ 0 → dagF (cvs ls) = 12) := by
        show _ → _
        intro h
        exact dagF_bad _ m (by rw [cvs_length]; exact hlt) (badC_first _ _ (by rw [cvAt_get ls m hlt]; exact h))
      have hN : Hid ((ls[m]).v.f = 0 → ∀ j, j < m + 1 → (cvAt (cvs ls) j).f = 0) := by
        show _ → _
        intro h j hj
        rcases Nat.lt_or_ge j m with g | g
        · exact HNO.out j g
        · obtain rfl : j = m := by omega
          rw [cvAt_get ls j hlt]; exact h
      have HK := certFault_any (ls[m]).au (ls[m]).rd (ls[m]).ba (ls[m]).bc (ls[m]).bl (ls[m]).pa (ls[m]).pc (ls[m]).pl (ls[m]).va (ls[m]).vc (ls[m]).vl wr hR.rb.list hR.rp.list hR.nums.ints (by have := hR.nums.le; have := hR.nums.reach; omega)
      rw [Ct.f_v] at HK
      clear hR
      generalize ls[m] = s at *
      go_wp2_with fail
      refine HK.mono ?_
      rintro e w1 ⟨he, hb1⟩
      subst he
      dsimp only
      have hB1 := hbr.trans (hb1.mono hbr.size)
      clear HK
      generalize s.v.f = x at *
      by_cases hx : x = 0
      · have hn := hN.out hx
        have HNN : Hid _ := hn
        clear hB hN hn
        subst hx
        go_wp2_with fail
        go_roundw
        case rel =>
          have hR : ∃ m' : Nat, m' ≤ ls.length ∧ (Value.int .i64 ((m : Int) + 1)) = .int .i64 m' ∧ (∀ j, j < m' → (cvAt (cvs ls) j).f = 0) ∧ Below W0.heap.size W0 w1 := ⟨m + 1, by omega, by go_num, HNN.out, hB1⟩
          first | exact hR | ((repeat apply Exists.intro); exact ⟨hR, rfl⟩)
        case measure => simp [intOf]; omega
      · have hn : Hid (dagF (cvs ls) = 12) := hB.out hx
        clear hB hN
        have hxn : (x != 0) = true := by simpa using hx
        go_wp2_with fail
        go_ret
        exact ⟨ret_int hn.out.symm, hA.trans (hB1.mono hA.size)⟩
    · obtain rfl : m = ls.length := by omega
      have HF : Hid (∀ c ∈ ls, c.v.f = 0) := by
        show ∀ c ∈ ls, _
        intro c hc
        obtain ⟨j, hj, rfl⟩ := List.getElem_of_mem hc
        rw [← cvAt_get ls j hj]; exact HNO.out j hj
      have HD := digestsOf_any ls sa _ cap wr rfl (by omega) (HC.out wr hAr) (HE.out wr hAr) HF.out
      clear HNO
      go_wp2_with fail
      refine HD.mono ?_
      rintro e W1 ⟨ra, rc, ds, he, hS, hL, hbW⟩
      subst he
      dsimp only
      clear HD
      have HS : Hid (bss ds = (cvs ls).map CV.d) := hS
      have hdl : ds.length = ls.length := by rw [digs_length hS, cvs_length]
      have HL : Hid (ds.length = ls.length) := hdl
      clear hS hdl
      have hAW := hAr.trans (hbW.mono hAr.size)
      have sW := (hbW.block _ (lt_of_heap s0)).trans s0
      have hltW : w.heap.size < W1.heap.size := lt_of_heap sW
      have hrcl := hL.le
      have hrcm := hL.max
      rw [HL.out] at hrcl
      clear b0 s0 hbr hAr hbW r0 hA
      go_wp2_with fail
      go_loopw [5] (fun j wq => ∃ m : Nat, m ≤ ls.length ∧ j = .int .i64 m ∧ (∀ j, j < m → badC (cvs ls) j = false) ∧ Below W1.heap.size W1 wq) (fun j _ => ls.length - (intOf j).toNat)
      case atStart => exact ⟨0, Nat.zero_le _, rfl, (fun j hj => by omega), Below.refl _ _⟩
      case round =>
        obtain ⟨m, hm, rfl, hno, hbq⟩ := hrel
        have HNO : Hid (∀ j, j < m → badC (cvs ls) j = false) := hno
        clear hno
        have hAq := hAW.trans (hbq.mono hAW.size)
        have s0 := (hbq.block _ hltW).trans sW
        have b0 : wr.cell? ⟨w.heap.size, 0, none⟩ = some (.slice sa ls.length cap) := cells_at s0 0 _ rfl
        by_cases hlt : m < ls.length
        · obtain ⟨sb, so, rfl, c0, c1, c2, c3, _⟩ := (HC.out wr hAq).at m hlt
          obtain ⟨db, dof, rfl⟩ : ∃ db dof, ra = some ⟨db, dof, none⟩ := by
            rcases hL.parts.cells with h | ⟨db, dof, e, _⟩
            · have := HL.out; rw [h] at this; simp at this; omega
            · exact ⟨db, dof, e⟩
          have hLq := hL.below hbq
          have hR := HE.out wr hAq (ls[m]) (List.getElem_mem hlt)
          have hf := HF.out (ls[m]) (List.getElem_mem hlt)
          have hltI : (m : Int) < ls.length := by omega
          have hmc : (m : Int) ≤ cap := by omega
          have hmr : (m : Int) ≤ rc := by omega
          have hAt := badC_eq ls m hlt hf
          have hB : Hid (takF (cvs (ls.take m)) (ls[m]).au (ls[m]).rd (bss (ls[m]).pl) ≠ 0 → dagF (cvs ls) = 12) := by
            show _ → _
            intro h
            exact dagF_bad _ m (by rw [cvs_length]; exact hlt) (by rw [hAt]; simpa using h)
          have hN : Hid (takF (cvs (ls.take m)) (ls[m]).au (ls[m]).rd (bss (ls[m]).pl) = 0 → ∀ j, j < m + 1 → badC (cvs ls) j = false) := by
            show _ → _
            intro h j hj
            rcases Nat.lt_or_ge j m with g | g
            · exact HNO.out j g
            · obtain rfl : j = m := by omega
              rw [hAt]; simpa using h
          have hlen : (ls.take m).length = m := by simp; omega
          obtain ⟨y1, y2, y3, y4, _, _⟩ := headerF_ok (certF_head (vl := (ls[m]).vl) (by rw [Ct.f_v]; exact hf))
          have HA : Hid (∀ W : World, Below wr.heap.size wr W → Calls Tryd.prog 31 #[.slice (some ⟨sb, so, none⟩) m cap, .int .i64 (ls[m]).au, .int .i64 (ls[m]).rd] W fun e w' => e = .returned (.int .i64 (cOf (cvs (ls.take m)) (ls[m]).au (ls[m]).rd)) ∧ W = w') := by
            show ∀ W, _
            intro W hW
            exact certOf_any (ls.take m) (some ⟨sb, so, none⟩) m cap (ls[m]).au (ls[m]).rd W hlen.symm (by omega) (((HC.out wr hAq).take m).below hW)
          have HP : Hid (∀ W : World, Below wr.heap.size wr W → Calls Tryd.prog 32 #[.slice (some ⟨sb, so, none⟩) m cap, .slice (some ⟨db, dof, none⟩) m rc, .agg #[.int .i64 (ls[m]).au, .int .i64 (ls[m]).rd, .slice (ls[m]).ba (ls[m]).bl.length (ls[m]).bc, .slice (ls[m]).pa (ls[m]).pl.length (ls[m]).pc]] W fun e w' => e = .returned (.int .i64 (parF (cvs (ls.take m)) (ls[m]).rd (bss (ls[m]).pl))) ∧ Below W.heap.size W w') := by
            show ∀ W, _
            intro W hW
            exact parentsFault_any (ls.take m) (some ⟨sb, so, none⟩) m cap (ds.take m) (some ⟨db, dof, none⟩) m rc (ls[m]).au (ls[m]).rd (ls[m]).ba _ (ls[m]).bc (ls[m]).pl (ls[m]).pa _ (ls[m]).pc W hlen.symm hlen.symm rfl (by have := HS.out; rw [cvs_take, List.map_take, ← this]; simp [bss, List.map_take]) (by omega) y4 y2 ((hLq.parts.take m).below hW) (((HC.out wr hAq).take m).below hW) (hR.rp.list.parts.below hW)
          have HT : Hid (takF (cvs (ls.take m)) (ls[m]).au (ls[m]).rd (bss (ls[m]).pl) = if 0 ≤ cOf (cvs (ls.take m)) (ls[m]).au (ls[m]).rd then 7 else parF (cvs (ls.take m)) (ls[m]).rd (bss (ls[m]).pl)) := rfl
          have hcb := cOf_bounds (cvs (ls.take m)) (ls[m]).au (ls[m]).rd
          rw [cvs_length, hlen] at hcb
          clear hAt hR hf hLq y1 y2 y3 y4 hlen
          generalize hsg : ls[m] = s at *
          clear hsg
          generalize takF (cvs (ls.take m)) s.au s.rd (bss s.pl) = T at *
          generalize cOf (cvs (ls.take m)) s.au s.rd = C at *
          generalize parF (cvs (ls.take m)) s.rd (bss s.pl) = F at *
          have hA2 := (Below.refl wr.heap.size wr).alloc (Nat.le_refl _) (.cells #[.int .i64 s.au, .int .i64 s.rd, .slice s.ba s.bl.length s.bc, .slice s.pa s.pl.length s.pc] 32)
          have q0 := heap_alloc_new wr (.cells #[.int .i64 s.au, .int .i64 s.rd, .slice s.ba s.bl.length s.bc, .slice s.pa s.pl.length s.pc] 32)
          have z0 := heap_keep (o := .cells #[.int .i64 s.au, .int .i64 s.rd, .slice s.ba s.bl.length s.bc, .slice s.pa s.pl.length s.pc] 32) s0
          go_wp2_with fail
          generalize wr.alloc (.cells #[.int .i64 s.au, .int .i64 s.rd, .slice s.ba s.bl.length s.bc, .slice s.pa s.pl.length s.pc] 32) = W2 at hA2 q0 z0 ⊢
          have k0 : W2.cell? ⟨wr.heap.size, 0, none⟩ = some (.int .i64 s.au) := cells_at q0 0 _ rfl
          have k1 : W2.cell? ⟨wr.heap.size, 1, none⟩ = some (.int .i64 s.rd) := cells_at q0 1 _ rfl
          have k2 : W2.cell? ⟨wr.heap.size, 2, none⟩ = some (.slice s.ba s.bl.length s.bc) := cells_at q0 2 _ rfl
          have k3 : W2.cell? ⟨wr.heap.size, 3, none⟩ = some (.slice s.pa s.pl.length s.pc) := cells_at q0 3 _ rfl
          have k4 : W2.cell? ⟨w.heap.size, 0, none⟩ = some (.slice (some ⟨sb, so, none⟩) ls.length cap) := cells_at z0 0 _ rfl
          have hblt : wr.heap.size < W2.heap.size := lt_of_heap q0
          have hblt0 : w.heap.size < W2.heap.size := lt_of_heap z0
          clear c0 c1 c2 c3 b0 q0 z0 s0
          by_cases hC : 0 ≤ C
          · have h12 : Hid (dagF (cvs ls) = 12) := hB.out (by rw [HT.out, if_pos hC]; decide)
            clear hB hN HT HP
            have hCn : decide (0 ≤ C) = true := by simpa using hC
            refine wp_region_held_drew (S := fun w' => w'.cell? ⟨wr.heap.size, 0, none⟩ = some (.int .i64 s.au) ∧ w'.cell? ⟨wr.heap.size, 1, none⟩ = some (.int .i64 s.rd) ∧ w'.cell? ⟨w.heap.size, 0, none⟩ = some (.slice (some ⟨sb, so, none⟩) ls.length cap)) (by kernel_rfl) ⟨k0, k1, k4⟩ (fun hHeld => ?_)
            refine take_dst (i := 0) (d := 41) (v := .pointer (some ⟨w.heap.size, 0, none⟩)) rfl rfl (by kernel_rfl) (by kernel_rfl) (by kernel_rfl) (fun _ _ _ h => h) (Or.inl ⟨by rfl, ?_⟩) hHeld ?_
            · (intro w0 hSw; (try dsimp only at hSw); go_simp)
            simp only [Act.put, List.setIfInBounds_toArray, List.set_cons_zero, List.set_cons_succ]
            refine take_dst (i := 1) (d := 42) (v := .slice (some ⟨sb, so, none⟩) ls.length cap) rfl rfl (by kernel_rfl) (by kernel_rfl) (by kernel_rfl) (fun _ _ _ h => h) (Or.inl ⟨by rfl, ?_⟩) hHeld ?_
            · (intro w0 hSw; (try dsimp only at hSw); go_simp)
            simp only [Act.put, List.setIfInBounds_toArray, List.set_cons_zero, List.set_cons_succ]
            refine take_dst (i := 2) (d := 43) (v := .int .i64 m) rfl rfl (by kernel_rfl) (by kernel_rfl) (by kernel_rfl) (fun _ _ _ h => h) (Or.inl ⟨by rfl, ?_⟩) hHeld ?_
            · (intro w0 hSw; (try dsimp only at hSw); go_simp)
            simp only [Act.put, List.setIfInBounds_toArray, List.set_cons_zero, List.set_cons_succ]
            refine take_dst (i := 3) (d := 44) (v := .slice (some ⟨sb, so, none⟩) m cap) rfl rfl (by kernel_rfl) (by kernel_rfl) (by kernel_rfl) (fun _ _ _ h => h) (Or.inl ⟨by rfl, ?_⟩) hHeld ?_
            · (intro w0 hSw; (try dsimp only at hSw); go_simp)
            simp only [Act.put, List.setIfInBounds_toArray, List.set_cons_zero, List.set_cons_succ]
            refine take_dst (i := 4) (d := 45) (v := .pointer (some ⟨wr.heap.size, 0, none⟩)) rfl rfl (by kernel_rfl) (by kernel_rfl) (by kernel_rfl) (fun _ _ _ h => h) (Or.inl ⟨by rfl, ?_⟩) hHeld ?_
            · (intro w0 hSw; (try dsimp only at hSw); go_simp)
            simp only [Act.put, List.setIfInBounds_toArray, List.set_cons_zero, List.set_cons_succ]
            refine take_dst (i := 5) (d := 46) (v := .int .i64 s.au) rfl rfl (by kernel_rfl) (by kernel_rfl) (by kernel_rfl) (fun _ _ _ h => h) (Or.inl ⟨by rfl, ?_⟩) hHeld ?_
            · (intro w0 hSw; (try dsimp only at hSw); go_simp)
            simp only [Act.put, List.setIfInBounds_toArray, List.set_cons_zero, List.set_cons_succ]
            refine take_dst (i := 6) (d := 47) (v := .pointer (some ⟨wr.heap.size, 1, none⟩)) rfl rfl (by kernel_rfl) (by kernel_rfl) (by kernel_rfl) (fun _ _ _ h => h) (Or.inl ⟨by rfl, ?_⟩) hHeld ?_
            · (intro w0 hSw; (try dsimp only at hSw); go_simp)
            simp only [Act.put, List.setIfInBounds_toArray, List.set_cons_zero, List.set_cons_succ]
            refine take_dst (i := 7) (d := 48) (v := .int .i64 s.rd) rfl rfl (by kernel_rfl) (by kernel_rfl) (by kernel_rfl) (fun _ _ _ h => h) (Or.inl ⟨by rfl, ?_⟩) hHeld ?_
            · (intro w0 hSw; (try dsimp only at hSw); go_simp)
            simp only [Act.put, List.setIfInBounds_toArray, List.set_cons_zero, List.set_cons_succ]
            refine wpAnyH_ready (rs := [8]) (by kernel_rfl) (by simp) (AllReadyH.cons rfl (fun K hK => ?_) AllReadyH.nil)
            refine step_calls_dst rfl 49 rfl 31 [.tmp 44, .tmp 46, .tmp 48] #[22, 3, 3] rfl [.slice (some ⟨sb, so, none⟩) m cap, .int .i64 s.au, .int .i64 s.rd] rfl (enters_of Tryd.func31 (by kernel_rfl) rfl) (fun v w' => v = .int .i64 C ∧ w' = W2.drew) ((HA.out _ hA2.drew).mono (fun e w2 h => ⟨_, h.1, rfl, h.2.symm⟩)) ?_
            rintro v w2 ⟨rfl, rfl⟩
            refine hK.out _ _ ⟨k0, k1, k4⟩ (fun hHeld => ?_)
            simp only [Act.put, List.setIfInBounds_toArray, List.set_cons_zero, List.set_cons_succ]
            refine take_dst (i := 9) (d := 50) (v := .bool true) rfl rfl (by kernel_rfl) (by kernel_rfl) (by kernel_rfl) (fun _ _ _ h => h) (Or.inl ⟨by rfl, ?_⟩) hHeld ?_
            · (intro w0 hSw; (try dsimp only at hSw); go_simp)
            simp only [Act.put, List.setIfInBounds_toArray, List.set_cons_zero, List.set_cons_succ]
            refine take_dst (i := 10) (d := 51) (v := .bool true) rfl rfl (by kernel_rfl) (by kernel_rfl) (by kernel_rfl) (fun _ _ _ h => h) (Or.inl ⟨by rfl, ?_⟩) hHeld ?_
            · (intro w0 hSw; (try dsimp only at hSw); go_simp)
            simp only [Act.put, List.setIfInBounds_toArray, List.set_cons_zero, List.set_cons_succ]
            refine take_dst (i := 11) (d := 52) (v := undef) rfl rfl (by kernel_rfl) (by kernel_rfl) (by kernel_rfl) (fun _ _ _ h => h) (Or.inr ⟨by rfl, rfl⟩) hHeld ?_
            simp only [Act.put, List.setIfInBounds_toArray, List.set_cons_zero, List.set_cons_succ]
            refine take_dst (i := 12) (d := 53) (v := undef) rfl rfl (by kernel_rfl) (by kernel_rfl) (by kernel_rfl) (fun _ _ _ h => h) (Or.inr ⟨by rfl, rfl⟩) hHeld ?_
            simp only [Act.put, List.setIfInBounds_toArray, List.set_cons_zero, List.set_cons_succ]
            refine take_dst (i := 13) (d := 54) (v := undef) rfl rfl (by kernel_rfl) (by kernel_rfl) (by kernel_rfl) (fun _ _ _ h => h) (Or.inr ⟨by rfl, rfl⟩) hHeld ?_
            simp only [Act.put, List.setIfInBounds_toArray, List.set_cons_zero, List.set_cons_succ]
            refine take_dst (i := 14) (d := 55) (v := undef) rfl rfl (by kernel_rfl) (by kernel_rfl) (by kernel_rfl) (fun _ _ _ h => h) (Or.inr ⟨by rfl, rfl⟩) hHeld ?_
            simp only [Act.put, List.setIfInBounds_toArray, List.set_cons_zero, List.set_cons_succ]
            refine take_dst (i := 15) (d := 56) (v := undef) rfl rfl (by kernel_rfl) (by kernel_rfl) (by kernel_rfl) (fun _ _ _ h => h) (Or.inr ⟨by rfl, rfl⟩) hHeld ?_
            simp only [Act.put, List.setIfInBounds_toArray, List.set_cons_zero, List.set_cons_succ]
            refine take_dst (i := 16) (d := 57) (v := undef) rfl rfl (by kernel_rfl) (by kernel_rfl) (by kernel_rfl) (fun _ _ _ h => h) (Or.inr ⟨by rfl, rfl⟩) hHeld ?_
            simp only [Act.put, List.setIfInBounds_toArray, List.set_cons_zero, List.set_cons_succ]
            refine take_dst (i := 17) (d := 58) (v := undef) rfl rfl (by kernel_rfl) (by kernel_rfl) (by kernel_rfl) (fun _ _ _ h => h) (Or.inr ⟨by rfl, rfl⟩) hHeld ?_
            simp only [Act.put, List.setIfInBounds_toArray, List.set_cons_zero, List.set_cons_succ]
            refine take_dst (i := 18) (d := 59) (v := undef) rfl rfl (by kernel_rfl) (by kernel_rfl) (by kernel_rfl) (fun _ _ _ h => h) (Or.inr ⟨by rfl, rfl⟩) hHeld ?_
            simp only [Act.put, List.setIfInBounds_toArray, List.set_cons_zero, List.set_cons_succ]
            refine take_dst (i := 19) (d := 60) (v := undef) rfl rfl (by kernel_rfl) (by kernel_rfl) (by kernel_rfl) (fun _ _ _ h => h) (Or.inr ⟨by rfl, rfl⟩) hHeld ?_
            simp only [Act.put, List.setIfInBounds_toArray, List.set_cons_zero, List.set_cons_succ]
            refine take_dst (i := 20) (d := 61) (v := undef) rfl rfl (by kernel_rfl) (by kernel_rfl) (by kernel_rfl) (fun _ _ _ h => h) (Or.inr ⟨by rfl, rfl⟩) hHeld ?_
            simp only [Act.put, List.setIfInBounds_toArray, List.set_cons_zero, List.set_cons_succ]
            refine take_dst (i := 21) (d := 62) (v := .bool true) rfl rfl (by kernel_rfl) (by kernel_rfl) (by kernel_rfl) (fun _ _ _ h => h) (Or.inl ⟨by rfl, ?_⟩) hHeld ?_
            · (intro w0 hSw; (try dsimp only at hSw); go_simp)
            simp only [Act.put, List.setIfInBounds_toArray, List.set_cons_zero, List.set_cons_succ]
            refine wpAnyH_done (by kernel_rfl) ?_ _
            go_wp2_with fail
            go_ret
            exact ⟨ret_int h12.out.symm, (hAq.trans (hA2.mono hAq.size)).drew⟩
          · have HT' : Hid (T = F) := by
              show _ = _
              rw [HT.out, if_neg hC]
            obtain rfl : C = -1 := by omega
            clear HT hC
            by_cases hx : F = 0
            · have HN : Hid (∀ j, j < m + 1 → badC (cvs ls) j = false) := hN.out (by rw [HT'.out]; exact hx)
              clear hN hB HT'
              subst hx
              go_region_held3 (fun w' => w'.cell? ⟨wr.heap.size, 0, none⟩ = some (.int .i64 s.au) ∧ w'.cell? ⟨wr.heap.size, 1, none⟩ = some (.int .i64 s.rd) ∧ w'.cell? ⟨wr.heap.size, 2, none⟩ = some (.slice s.ba s.bl.length s.bc) ∧ w'.cell? ⟨wr.heap.size, 3, none⟩ = some (.slice s.pa s.pl.length s.pc) ∧ w'.cell? ⟨w.heap.size, 0, none⟩ = some (.slice (some ⟨sb, so, none⟩) ls.length cap)) (go_keep) (first | (go_at_call 32; refine (HP.out _ hA2.drew).mono ?_; rintro e w3 ⟨rfl, hb3⟩; have hb4 : Below W2.heap.size W2 w3 := below_drew hb3; have e0 := (hb4.cell (p := ⟨wr.heap.size, 0, none⟩) hblt).trans k0; have e1 := (hb4.cell (p := ⟨wr.heap.size, 1, none⟩) hblt).trans k1; have e2 := (hb4.cell (p := ⟨wr.heap.size, 2, none⟩) hblt).trans k2; have e3 := (hb4.cell (p := ⟨wr.heap.size, 3, none⟩) hblt).trans k3; have e4 := (hb4.cell (p := ⟨w.heap.size, 0, none⟩) hblt0).trans k4) | (go_at_call 31; refine (HA.out _ hA2.drew).mono ?_; rintro e w2 ⟨rfl, rfl⟩))
              all_goals
                have hbC := hbq.trans ((hA2.trans (hb4.mono hA2.size)).mono hbq.size)
                go_wp2_with fail
                go_roundw
                case rel =>
                  have hR : ∃ m' : Nat, m' ≤ ls.length ∧ (Value.int .i64 ((m : Int) + 1)) = .int .i64 m' ∧ (∀ j, j < m' → badC (cvs ls) j = false) ∧ Below W1.heap.size W1 w3 := ⟨m + 1, by omega, by go_num, HN.out, hbC⟩
                  first | exact hR | ((repeat apply Exists.intro); exact ⟨hR, rfl⟩)
                case measure => simp [intOf]; omega
            · have h12 : Hid (dagF (cvs ls) = 12) := hB.out (by rw [HT'.out]; exact hx)
              clear hN hB HT'
              have hxn : (F != 0) = true := by simpa using hx
              go_region_held3 (fun w' => w'.cell? ⟨wr.heap.size, 0, none⟩ = some (.int .i64 s.au) ∧ w'.cell? ⟨wr.heap.size, 1, none⟩ = some (.int .i64 s.rd) ∧ w'.cell? ⟨wr.heap.size, 2, none⟩ = some (.slice s.ba s.bl.length s.bc) ∧ w'.cell? ⟨wr.heap.size, 3, none⟩ = some (.slice s.pa s.pl.length s.pc) ∧ w'.cell? ⟨w.heap.size, 0, none⟩ = some (.slice (some ⟨sb, so, none⟩) ls.length cap)) (go_keep) (first | (go_at_call 32; refine (HP.out _ hA2.drew).mono ?_; rintro e w3 ⟨rfl, hb3⟩; have hb4 : Below W2.heap.size W2 w3 := below_drew hb3; have e0 := (hb4.cell (p := ⟨wr.heap.size, 0, none⟩) hblt).trans k0; have e1 := (hb4.cell (p := ⟨wr.heap.size, 1, none⟩) hblt).trans k1; have e2 := (hb4.cell (p := ⟨wr.heap.size, 2, none⟩) hblt).trans k2; have e3 := (hb4.cell (p := ⟨wr.heap.size, 3, none⟩) hblt).trans k3; have e4 := (hb4.cell (p := ⟨w.heap.size, 0, none⟩) hblt0).trans k4) | (go_at_call 31; refine (HA.out _ hA2.drew).mono ?_; rintro e w2 ⟨rfl, rfl⟩))
              all_goals
                have hbC := hAq.trans ((hA2.trans (hb4.mono hA2.size)).mono hAq.size)
                go_wp2_with fail
                go_ret
                exact ⟨ret_int h12.out.symm, hbC⟩
        · obtain rfl : m = ls.length := by omega
          have hF : Hid (dagF (cvs ls) = 0) := dagF_ok _ (by rw [cvs_length]; omega) (fun k hk => HNO.out k (by rw [cvs_length] at hk; exact hk))
          clear HNO
          go_wp2_with fail
          go_ret
          exact ⟨ret_int hF.out.symm, hAq⟩
end Go.Proofs.YtgbomdikhidkoaaDoor

namespace Go.Proofs.YtgbomdikhidkoaaDoor
open Go.RowKit

set_option maxRecDepth 100000 in
set_option maxHeartbeats 1000000 in
theorem digestsAt_any (ls : List Ct) (sa : Option Addr) (cap : Nat) (rd : Int) (w : World) (hl4 : ls.length ≤ 400) (hc : CertsAt w sa ls) (he : ∀ c ∈ ls, CtRd w c) (hf : ∀ c ∈ ls, c.v.f = 0) :
    Calls Tryd.prog 47 #[.agg #[.slice sa ls.length cap], .int .i64 rd] w fun e w' => ∃ ra rc qs, e = .returned (.slice ra (List.length qs) rc) ∧ bss qs = dgF (cvs ls) rd ∧ ListAt w' ra rc qs ∧ Below w.heap.size w w' := by
  obtain ⟨i, hi, hz0, hz1, hz2⟩ := info_parts infoBs
  have HE : Hid (∀ c ∈ ls, CtRd w c) := he
  have HF : Hid (∀ c ∈ ls, c.v.f = 0) := hf
  clear he hf
  have hA : Below w.heap.size w (w.alloc (.cells #[.slice sa ls.length cap] 24)) := (Below.refl _ _).alloc (Nat.le_refl _) _
  have r0 := heap_alloc_new w (.cells #[.slice sa ls.length cap] 24)
  go_enter Tryd.func47, Tryd.ntmps47
  go_wp2_with fail
  generalize w.alloc (.cells #[.slice sa ls.length cap] 24) = W0 at hA r0 ⊢
  have hlt0 : w.heap.size < W0.heap.size := lt_of_heap r0
  go_loopw [6, 5] (fun j v wr => ∃ (m : Nat) (qs : List Part), m ≤ 4 ∧ j = .int .i64 m ∧ bss qs = dgTo (cvs ls) rd m ∧ wr.ownsRow W0.heap.size 29 1 v qs.length (pv qs) ∧ Apart wr W0.heap.size v qs ∧ Below W0.heap.size W0 wr) (fun j _ _ => 4 - (intOf j).toNat)
  case atStart => exact ⟨0, [], Nat.zero_le _, rfl, rfl, World.ownsRow_nil _ _ _ _, (fun p hp => by cases hp), Below.refl _ _⟩
  case round =>
    obtain ⟨m, qs, hm, rfl, hS, ho, hap, hb⟩ := hrel
    have hAr := hA.trans (hb.mono hA.size)
    have s0 := (hb.block _ hlt0).trans r0
    have b0 : wr.cell? ⟨w.heap.size, 0, none⟩ = some (.slice sa ls.length cap) := cells_at s0 0 _ rfl
    have hml : qs.length ≤ m := by
      have := congrArg List.length hS
      rw [bss_length] at this
      rw [this]; exact dgTo_length _ _ _
    by_cases hlt : m < 4
    · have hltI : (m : Int) < 4 := by omega
      have Hy : Hid (0 ≤ cOf (cvs ls) m rd → dgTo (cvs ls) rd (m + 1) = bss qs ++ [(cvAt (cvs ls) (cOf (cvs ls) m rd).toNat).d]) := by
        show _ → _
        intro h
        rw [dgTo, if_pos h, hS]
      have Hn : Hid (¬ 0 ≤ cOf (cvs ls) m rd → bss qs = dgTo (cvs ls) rd (m + 1)) := by
        show _ → _
        intro h
        rw [dgTo, if_neg h, hS]
      have hB := cOf_bounds (cvs ls) m rd
      rw [cvs_length] at hB
      clear hS
      go_wp2_with fail
      refine (certOf_any ls sa _ cap m rd wr rfl (by omega) (hc.below hAr)).mono ?_
      rintro e w1 ⟨he, rfl⟩
      subst he
      dsimp only
      generalize cOf (cvs ls) m rd = r at *
      by_cases hr : 0 ≤ r
      · obtain ⟨k, rfl⟩ : ∃ k : Nat, r = k := ⟨r.toNat, by omega⟩
        have hk : k < ls.length := by omega
        have hkI : (k : Int) < ls.length := by omega
        have HX := Hy.out hr
        rw [Int.toNat_natCast, cvAt_get ls k hk, ← Ct.d_v] at HX
        have HY : Hid (dgTo (cvs ls) rd (m + 1) = bss qs ++ [tagD 2 (headB (ls[k]).au (ls[k]).rd (ls[k]).bl (ls[k]).pl)]) := HX
        clear Hy Hn HX
        obtain ⟨sb, so, rfl, c0, c1, c2, c3, _⟩ := (hc.below hAr).at k hk
        have hR := (HE.out (ls[k]) (List.getElem_mem hk)).below hAr
        have hF0 := HF.out (ls[k]) (List.getElem_mem hk)
        have hH : headerF (ls[k]).au (ls[k]).rd (ls[k]).bl (ls[k]).pl = 0 := certF_head (vl := (ls[k]).vl) (by rw [Ct.f_v]; exact hF0)
        clear hF0
        generalize ls[k] = s at *
        have HD := rHeaderDigest_new s.au s.rd s.ba _ s.bc s.bl s.pa _ s.pc s.pl wr rfl rfl hR.rb.list hR.rp.list hR.ub hR.up hH
        clear hR hH
        go_wp2_with fail
        refine HD.mono ?_
        rintro e w2 ⟨g, gc, he, hs2, hb2, hge⟩
        subst he
        dsimp only
        have h32 : (tagD 2 (headB s.au s.rd s.bl s.pl)).length = 32 := tagD_length _ _
        have hob := owns_keep ho hb2
        have hB2 := hb.trans (hb2.mono hb.size)
        have hlt2 : g < w2.heap.size := slice_block_lt hs2 (by intro h; rw [h] at h32; simp at h32) g 0 rfl
        clear HD
        generalize tagD 2 (headB s.au s.rd s.bl s.pl) = D at *
        have H32 : Hid (D.length = 32) := h32
        clear h32
        go_wp2_with (at_builtin; refine wpList_append_own_at _ rfl _ _ 30 rfl W0.heap.size 29 i (.slice none 0 0) 1 24 Tryd.underlying30 hi hz0 hz1 hz2 rfl (by decide) _ qs.length _ rfl (World.ownsRow.alloc hob _) ⟨w2.heap.size, 0, none⟩ 1 1 [.slice (some ⟨g, 0, none⟩) 32 gc] rfl rfl (cells_new _ _ _) (by intro u hu; simp at hu; subst hu; rfl) (by unfold maxLen; omega) (by omega) (le_alloc hB2.size _) ?_; intro v1 w3 ho3 hg3 _ hat)
        have G := Grew.of hg3 hat
        have hap3 := hap.more_at (q := ⟨some ⟨g, 0, none⟩, gc, D⟩) hb.size ho hb2 (fun sb so e => by cases e; exact ⟨hge, hlt2⟩) hs2 G
        have hB3 := Below.grown (hB2.alloc hB2.size _) hg3 (le_alloc hB2.size _) (fun q e => (hob.lt q e).1)
        go_roundw
        case rel =>
          have hR : ∃ (m' : Nat) (qs' : List Part), m' ≤ 4 ∧ (Value.int .i64 ((m : Int) + 1)) = .int .i64 m' ∧ bss qs' = dgTo (cvs ls) rd m' ∧ w3.ownsRow W0.heap.size 29 1 v1 qs'.length (pv qs') ∧ Apart w3 W0.heap.size v1 qs' ∧ Below W0.heap.size W0 w3 :=
            ⟨m + 1, qs ++ [⟨some ⟨g, 0, none⟩, gc, D⟩], by omega, by go_num, by rw [HY.out]; simp [bss], by simpa [pv, Part.val, H32.out] using ho3, hap3, hB3⟩
          first | exact hR | ((repeat apply Exists.intro); exact ⟨hR, rfl⟩)
        case measure => simp [intOf]; omega
      · have HY : Hid (bss qs = dgTo (cvs ls) rd (m + 1)) := Hn.out (by omega)
        obtain rfl : r = -1 := by omega
        clear Hy Hn
        go_wp2_with fail
        go_roundw
        case rel =>
          have hR : ∃ (m' : Nat) (qs' : List Part), m' ≤ 4 ∧ (Value.int .i64 ((m : Int) + 1)) = .int .i64 m' ∧ bss qs' = dgTo (cvs ls) rd m' ∧ wr.ownsRow W0.heap.size 29 1 u5 qs'.length (pv qs') ∧ Apart wr W0.heap.size u5 qs' ∧ Below W0.heap.size W0 wr :=
            ⟨m + 1, qs, by omega, by go_num, HY.out, ho, hap, hb⟩
          first | exact hR | ((repeat apply Exists.intro); exact ⟨hR, rfl⟩)
        case measure => simp [intOf]; omega
    · obtain rfl : m = 4 := by omega
      have HM : Hid (bss qs = dgF (cvs ls) rd) := hS
      clear hS
      obtain ⟨ra, rc, hv, hl, hL, hfr⟩ := listAt_of_owns ho hap
      subst hv
      have hLL := hL (by omega)
      go_wp2_with fail
      go_ret
      exact ⟨ra, rc, qs, rfl, HM.out, hLL, hAr⟩
end Go.Proofs.YtgbomdikhidkoaaDoor

namespace Go.Proofs.YtgbomdikhidkoaaDoor
open Go.RowKit

set_option maxRecDepth 100000 in
set_option maxHeartbeats 1000000 in
theorem rDigestsAt_any (ls : List Ct) (sa : Option Addr) (n cap : Nat) (rd : Int) (w : World) (hn : n = ls.length) (hd : DagRd w sa cap ls) :
    Calls Tryd.prog 27 #[.agg #[.slice sa n cap], .int .i64 rd] w fun e w' => DigAt w' e (cvs ls) rd ∧ Below w.heap.size w w' := by
  subst hn
  have hA := (Below.refl w.heap.size w).alloc (Nat.le_refl _) (.cells #[.slice sa ls.length cap] 24)
  have r0 := heap_alloc_new w (.cells #[.slice sa ls.length cap] 24)
  go_enter Tryd.func27, Tryd.ntmps27
  go_wp2_with fail
  generalize w.alloc (.cells #[.slice sa ls.length cap] 24) = W0 at hA r0 ⊢
  refine (dagFault_any ls sa _ cap W0 rfl (hd.below hA)).mono ?_
  rintro e w1 ⟨he, hb1⟩
  subst he
  dsimp only
  have hB1 := hA.trans (hb1.mono hA.size)
  have r1 := (hb1.block _ (lt_of_heap r0)).trans r0
  have c0 := cells_at r1 0 _ rfl
  rcases dagF_or (cvs ls) with h | h
  · have HF : Hid _ := h
    have hd1 := hd.below hB1
    have HD := digestsAt_any ls sa cap rd w1 (dag_le h) hd1.certs hd1.each (all_f h)
    rw [h]
    clear h
    go_wp2_with fail
    refine HD.mono ?_
    rintro e w2 ⟨ma, mc, ms, he, hM, hL, hb2⟩
    have HM : Hid _ := hM
    clear hM
    subst he
    dsimp only
    go_wp2_with fail
    go_ret2
    exact ⟨.inr ⟨HF.out, ma, mc, ms, rfl, HM.out, hL⟩, hB1.trans (hb2.mono hB1.size)⟩
  · have HF : Hid _ := h
    rw [h]
    clear h
    go_wp2_with fail
    go_ret2
    exact ⟨.inl ⟨HF.out, rfl⟩, hB1⟩
end Go.Proofs.YtgbomdikhidkoaaDoor
