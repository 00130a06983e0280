/- The document's bytes of texts: P2.6. -/
import Derived.Test.YtmpflkggbekpfaaDoorHeadF
import Derived.Test.YtmpflkggbekpfaaDoorSealProvenM12
import Derived.Test.YtmpflkggbekpfaaDoorCertF
import Derived.Deep.RegionHeld2
import Derived.Test.YtmpflkggbekpfaaDoorAppR
import Derived.Test.YtmpflkggbekpfaaDoorSx
import Derived.Test.YtmpflkggbekpfaaDoorApp
import Derived.Test.YtmpflkggbekpfaaDoorGrew
import Derived.Lib.AppendStr
import Derived.Lib.ConvBytes
import Derived.Deep.RegionHeld3
import Derived.Deep.CutRange
import Derived.Deep.DeepCutAuto
namespace Go.Proofs.YtmpflkggbekpfaaDoor
open Go.RowKit

set_option maxRecDepth 100000 in
set_option maxHeartbeats 2000000 in
theorem headerFault_any (au rd : Int) (ba : Option Addr) (bc : Nat) (bl : List Part) (pa : Option Addr) (pc : Nat) (pl : List Part) (w : World) (hb : ListAt w ba bc bl) (hp : ListAt w pa pc pl) :
    Calls Tryd.prog 43 #[.agg #[.int .i64 au, .int .i64 rd, .slice ba bl.length bc, .slice pa pl.length pc]] w fun e w' => e = .returned (.int .i64 (headerF au rd bl pl)) ∧ Below w.heap.size w w' := by
  have hbl := hb.le
  have hbm := hb.max
  have hbs := hb.small
  have hpl := hp.le
  have hpm := hp.max
  have hps := hp.small
  have hA : Below w.heap.size w (w.alloc (.cells #[.int .i64 au, .int .i64 rd, .slice ba bl.length bc, .slice pa pl.length pc] 25)) := (Below.refl _ _).alloc (Nat.le_refl _) _
  by_cases ha : 0 ≤ au ∧ au < 4
  · by_cases hr : 1 ≤ rd ∧ rd ≤ 1048576
    · by_cases hz : 3 < bl.length ∨ 4 < pl.length
      · have hF : Hid (headerF au rd bl pl = 1) := by show _ = _; rw [headerF, if_neg (by simp [ha, hr]), if_pos hz]
        by_cases hz1 : 3 < bl.length
        · have hzI : (3 : Int) < bl.length := by omega
          go_enter Tryd.func43, Tryd.ntmps43
          go_wp2_with (go_at_call 26; first | (refine (in_true _ _ _ _ (by omega)).mono ?_; rintro e w' ⟨rfl, rfl⟩) | (refine (in_false _ _ _ _ (by omega)).mono ?_; rintro e w' ⟨rfl, rfl⟩))
          go_ret
          exact ⟨ret_int hF.out.symm, hA⟩
        · have hzI : ¬ (3 : Int) < bl.length := by omega
          have hzJ : (4 : Int) < pl.length := by omega
          go_enter Tryd.func43, Tryd.ntmps43
          go_wp2_with (go_at_call 26; first | (refine (in_true _ _ _ _ (by omega)).mono ?_; rintro e w' ⟨rfl, rfl⟩) | (refine (in_false _ _ _ _ (by omega)).mono ?_; rintro e w' ⟨rfl, rfl⟩))
          go_ret
          exact ⟨ret_int hF.out.symm, hA⟩
      · have hF : Hid (headerF au rd bl pl = if digF bl ≠ 0 then digF bl else if digF pl ≠ 0 then digF pl else parentsF rd pl.length) := by show _ = _; rw [headerF, if_neg (by simp [ha, hr]), if_neg hz]
        have hzI : ¬ (3 : Int) < bl.length := by omega
        have hzJ : ¬ (4 : Int) < pl.length := by omega
        go_enter Tryd.func43, Tryd.ntmps43
        go_wp2_with (go_at_call 26; first | (refine (in_true _ _ _ _ (by omega)).mono ?_; rintro e w' ⟨rfl, rfl⟩) | (refine (in_false _ _ _ _ (by omega)).mono ?_; rintro e w' ⟨rfl, rfl⟩))
        refine (digestsFault_any bl ba _ bc _ rfl (by omega) (hb.parts.below hA)).mono ?_
        rintro e w1 ⟨he, hb1⟩
        subst he
        dsimp only
        have r1 := row_new hb1
        replace hb1 := below_alloc hb1
        have c1 : w1.cell? ⟨w.heap.size, 1, none⟩ = some (.int .i64 rd) := cells_at r1 1 _ rfl
        have c3 : w1.cell? ⟨w.heap.size, 3, none⟩ = some (.slice pa pl.length pc) := cells_at r1 3 _ rfl
        by_cases h1 : digF bl = 0
        · rw [h1] at hF ⊢
          go_wp2_with fail
          refine (digestsFault_any pl pa _ pc _ rfl (by omega) (hp.parts.below hb1)).mono ?_
          rintro e w2 ⟨he, hb2⟩
          subst he
          dsimp only
          have r2 := (hb2.block _ (lt_of_heap r1)).trans r1
          have hb12 := hb1.trans (hb2.mono hb1.size)
          have c1' : w2.cell? ⟨w.heap.size, 1, none⟩ = some (.int .i64 rd) := cells_at r2 1 _ rfl
          have c3' : w2.cell? ⟨w.heap.size, 3, none⟩ = some (.slice pa pl.length pc) := cells_at r2 3 _ rfl
          clear c3 c1 r1 r2
          by_cases h2 : digF pl = 0
          · rw [h2] at hF ⊢
            by_cases k1 : rd = 1
            · subst k1
              by_cases k2 : pl.length = 0
              · have hG : Hid (headerF au 1 bl pl = 0) := by show _ = _; rw [hF.out, if_neg (by simp), if_neg (by simp), parentsF, if_neg (by omega)]
                clear hF
                rw [k2] at c3' ⊢
                go_wp2_with fail
                go_ret
                exact ⟨ret_int hG.out.symm, hb12⟩
              · have hG : Hid (headerF au 1 bl pl = 10) := by show _ = _; rw [hF.out, if_neg (by simp), if_neg (by simp), parentsF, if_pos (by omega)]
                clear hF
                have k2I : ¬ (pl.length : Int) = 0 := by omega
                go_wp2_with fail
                go_ret
                exact ⟨ret_int hG.out.symm, hb12⟩
            · have k1J : (1 : Int) < rd := by omega
              by_cases k2 : pl.length < 3
              · have hG : Hid (headerF au rd bl pl = 10) := by show _ = _; rw [hF.out, if_neg (by simp), if_neg (by simp), parentsF, if_pos (by omega)]
                clear hF
                have k2I : (pl.length : Int) < 3 := by omega
                go_wp2_with fail
                go_ret
                exact ⟨ret_int hG.out.symm, hb12⟩
              · have hG : Hid (headerF au rd bl pl = 0) := by show _ = _; rw [hF.out, if_neg (by simp), if_neg (by simp), parentsF, if_neg (by omega)]
                clear hF
                have k2I : ¬ (pl.length : Int) < 3 := by omega
                go_wp2_with fail
                go_ret
                exact ⟨ret_int hG.out.symm, hb12⟩
          · rw [if_neg (by simp), if_pos h2] at hF
            generalize digF pl = z at *
            go_wp2_with fail
            go_ret
            exact ⟨ret_int hF.out.symm, hb12⟩
        · rw [if_pos h1] at hF
          generalize digF bl = z at *
          go_wp2_with fail
          go_ret
          exact ⟨ret_int hF.out.symm, hb1⟩
    · have hF : Hid (headerF au rd bl pl = 2) := by show _ = _; simp [headerF, hr]
      go_enter Tryd.func43, Tryd.ntmps43
      go_wp2_with (go_at_call 26; first | (refine (in_true _ _ _ _ (by omega)).mono ?_; rintro e w' ⟨rfl, rfl⟩) | (refine (in_false _ _ _ _ (by omega)).mono ?_; rintro e w' ⟨rfl, rfl⟩))
      go_ret
      exact ⟨ret_int hF.out.symm, hA⟩
  · have hF : Hid (headerF au rd bl pl = 2) := by show _ = _; simp [headerF, ha]
    go_enter Tryd.func43, Tryd.ntmps43
    go_wp2_with (go_at_call 26; first | (refine (in_true _ _ _ _ (by omega)).mono ?_; rintro e w' ⟨rfl, rfl⟩) | (refine (in_false _ _ _ _ (by omega)).mono ?_; rintro e w' ⟨rfl, rfl⟩))
    go_ret
    exact ⟨ret_int hF.out.symm, hA⟩
end Go.Proofs.YtmpflkggbekpfaaDoor

namespace Go.Proofs.YtmpflkggbekpfaaDoor
open Go.RowKit

set_option maxRecDepth 100000 in
set_option maxHeartbeats 1000000 in
theorem certFault_any (au rd : Int) (ba : Option Addr) (bc : Nat) (bl : List Part) (pa : Option Addr) (pc : Nat) (pl : List Part) (va : Option Addr) (vc : Nat) (vl : List Int) (w : World) (hb : ListAt w ba bc bl) (hp : ListAt w pa pc pl) (hv : IntsAt w va vl) (hvm : vl.length ≤ 9000000000000000000) :
    Calls Tryd.prog 27 #[.agg #[.int .i64 au, .int .i64 rd, .slice ba bl.length bc, .slice pa pl.length pc, .slice va vl.length vc]] w fun e w' => e = .returned (.int .i64 (certF au rd bl pl vl)) ∧ Below w.heap.size w w' := by
  have hA : Below w.heap.size w (w.alloc (.cells #[.int .i64 au, .int .i64 rd, .slice ba bl.length bc, .slice pa pl.length pc, .slice va vl.length vc] 28)) := (Below.refl _ _).alloc (Nat.le_refl _) _
  go_enter Tryd.func27, Tryd.ntmps27
  go_wp2_with fail
  refine (headerFault_any au rd ba bc bl pa pc pl _ (hb.below hA) (hp.below hA)).mono ?_
  rintro e w1 ⟨he, hb1⟩
  subst he
  dsimp only
  have r1 := row_new hb1
  replace hb1 := below_alloc hb1
  have c4 : w1.cell? ⟨w.heap.size, 4, none⟩ = some (.slice va vl.length vc) := cells_at r1 4 _ rfl
  by_cases h1 : headerF au rd bl pl = 0
  · rw [h1]
    by_cases h2 : 4 < vl.length
    · have hF : Hid (certF au rd bl pl vl = 1) := by show _ = _; rw [certF, if_neg (by simp [h1]), if_pos h2]
      have h2I : (4 : Int) < vl.length := by omega
      go_wp2_with fail
      go_loop [4, 3] (fun i e => i = .int .i64 0 ∧ e = .int .i64 (1)) (fun _ _ => 0)
      case atStart => exact ⟨rfl, rfl⟩
      case round =>
        obtain ⟨rfl, rfl⟩ := hrel
        have hlI : (0 : Int) < vl.length := by omega
        go_wp2_with fail
        go_ret
        exact ⟨ret_int hF.out.symm, hb1⟩
    · have hF : Hid (certF au rd bl pl vl = votersF vl) := by show _ = _; rw [certF, if_neg (by simp [h1]), if_neg h2]
      have h2I : ¬ (4 : Int) < vl.length := by omega
      clear h1
      go_wp2_with fail
      go_loopw [4, 3] (fun i e wr => ∃ k : Nat, k ≤ vl.length ∧ i = .int .i64 k ∧ e = .int .i64 (vTo vl k) ∧ Below w.heap.size w wr ∧ wr.cell? ⟨w.heap.size, 4, none⟩ = some (.slice va vl.length vc)) (fun i _ _ => vl.length - (intOf i).toNat)
      case atStart => exact ⟨0, Nat.zero_le _, rfl, rfl, hb1, c4⟩
      case round =>
        clear c4 r1 hb1
        obtain ⟨k, hk, rfl, rfl, hb1, c4⟩ := hrel
        by_cases hlt : k < vl.length
        · have hltI : (k : Int) < vl.length := by omega
          by_cases h0 : vTo vl k = 0
          · obtain ⟨sb, so, rfl, hc⟩ : ∃ sb so, va = some ⟨sb, so, none⟩ ∧ ∀ j, j < vl.length → wr.cell? ⟨sb, so + j, none⟩ = some (.int .i64 (vl.getD j 0)) := by
              rcases (hv.below hb1).cells with h | h
              · rw [h] at hlt; simp at hlt
              · exact h
            have ck := hc k hlt
            have hVs : Hid (vTo vl (k + 1) = vAt vl k) := by
              show _ = _
              rw [vTo, h0]; simp
            have hVa : Hid (vAt vl k = if ¬ (0 ≤ vl.getD k 0 ∧ vl.getD k 0 < 4) then 2 else if 0 < k ∧ vl.getD k 0 ≤ vl.getD (k - 1) 0 then 9 else 0) := rfl
            rw [h0]
            by_cases hkz : k = 0
            · subst hkz
              clear hc
              rw [Nat.add_zero] at ck
              generalize vl.getD 0 0 = x at *
              by_cases hn : 0 ≤ x ∧ x < 4
              · have hst : Hid (vTo vl 1 = 0) := by show _ = _; exact hVs.out.trans (by rw [hVa.out, if_neg (by simp [hn]), if_neg (by omega)])
                clear hVs hVa
                go_wp2_with (go_at_call 26; first | (refine (in_true _ _ _ _ (by omega)).mono ?_; rintro e w' ⟨rfl, rfl⟩) | (refine (in_false _ _ _ _ (by omega)).mono ?_; rintro e w' ⟨rfl, rfl⟩))
                go_region
                go_wp2_with fail
                go_roundw
                case rel =>
                  have hR : ∃ k' : Nat, k' ≤ vl.length ∧ (Value.int .i64 (1)) = .int .i64 k' ∧ (Value.int .i64 0) = .int .i64 (vTo vl k') ∧ Below w.heap.size w wr.drew ∧ wr.drew.cell? ⟨w.heap.size, 4, none⟩ = some (.slice (some ⟨sb, so, none⟩) vl.length vc) := ⟨1, by omega, by go_num, by rw [hst.out], hb1.drew, c4⟩
                  first | exact hR | ((repeat apply Exists.intro); exact ⟨hR, rfl⟩)
                case measure => simp [intOf]; omega
              · have hst : Hid (vTo vl 1 = 2) := by show _ = _; exact hVs.out.trans (by rw [hVa.out, if_pos hn])
                clear hVs hVa
                go_wp2_with (go_at_call 26; first | (refine (in_true _ _ _ _ (by omega)).mono ?_; rintro e w' ⟨rfl, rfl⟩) | (refine (in_false _ _ _ _ (by omega)).mono ?_; rintro e w' ⟨rfl, rfl⟩))
                go_roundw
                case rel =>
                  have hR : ∃ k' : Nat, k' ≤ vl.length ∧ (Value.int .i64 (1)) = .int .i64 k' ∧ (Value.int .i64 2) = .int .i64 (vTo vl k') ∧ Below w.heap.size w wr ∧ wr.cell? ⟨w.heap.size, 4, none⟩ = some (.slice (some ⟨sb, so, none⟩) vl.length vc) := ⟨1, by omega, by go_num, by rw [hst.out], hb1, c4⟩
                  first | exact hR | ((repeat apply Exists.intro); exact ⟨hR, rfl⟩)
                case measure => simp [intOf]; omega
            · have cp := hc (k - 1) (by omega)
              have hkI : (0 : Int) < k := by omega
              have hkD : decide ((0 : Int) < (k : Int)) = true := decide_eq_true hkI
              have hkN : 0 < k := by omega
              have t0 : ((k : Int) - 1).toNat = k - 1 := by omega
              have u0_ : IntKind.i64.wrap ((k : Int) - 1) = (k : Int) - 1 := by rw [IntKind.wrap_i64]; omega
              have z0 : (0 : Int) ≤ (k : Int) - 1 := by omega
              have z1 : (k : Int) - 1 < vl.length := by omega
              clear hc
              generalize vl.getD k 0 = x at *
              generalize vl.getD (k - 1) 0 = y at *
              by_cases hn : 0 ≤ x ∧ x < 4
              · by_cases hxy : x ≤ y
                · have hst : Hid (vTo vl (k + 1) = 9) := by show _ = _; exact hVs.out.trans (by rw [hVa.out, if_neg (by simp [hn]), if_pos (by omega)])
                  clear hVs hVa
                  go_wp2_with (go_at_call 26; first | (refine (in_true _ _ _ _ (by omega)).mono ?_; rintro e w' ⟨rfl, rfl⟩) | (refine (in_false _ _ _ _ (by omega)).mono ?_; rintro e w' ⟨rfl, rfl⟩))
                  go_region
                  go_wp2_with fail
                  go_roundw
                  case rel =>
                    have hR : ∃ k' : Nat, k' ≤ vl.length ∧ (Value.int .i64 ((k : Int) + 1)) = .int .i64 k' ∧ (Value.int .i64 9) = .int .i64 (vTo vl k') ∧ Below w.heap.size w wr.drew ∧ wr.drew.cell? ⟨w.heap.size, 4, none⟩ = some (.slice (some ⟨sb, so, none⟩) vl.length vc) := ⟨k + 1, by omega, by go_num, by rw [hst.out], hb1.drew, c4⟩
                    first | exact hR | ((repeat apply Exists.intro); exact ⟨hR, rfl⟩)
                  case measure => simp [intOf]; omega
                · have hst : Hid (vTo vl (k + 1) = 0) := by show _ = _; exact hVs.out.trans (by rw [hVa.out, if_neg (by simp [hn]), if_neg (by omega)])
                  clear hVs hVa
                  go_wp2_with (go_at_call 26; first | (refine (in_true _ _ _ _ (by omega)).mono ?_; rintro e w' ⟨rfl, rfl⟩) | (refine (in_false _ _ _ _ (by omega)).mono ?_; rintro e w' ⟨rfl, rfl⟩))
                  go_region
                  go_wp2_with fail
                  go_roundw
                  case rel =>
                    have hR : ∃ k' : Nat, k' ≤ vl.length ∧ (Value.int .i64 ((k : Int) + 1)) = .int .i64 k' ∧ (Value.int .i64 0) = .int .i64 (vTo vl k') ∧ Below w.heap.size w wr.drew ∧ wr.drew.cell? ⟨w.heap.size, 4, none⟩ = some (.slice (some ⟨sb, so, none⟩) vl.length vc) := ⟨k + 1, by omega, by go_num, by rw [hst.out], hb1.drew, c4⟩
                    first | exact hR | ((repeat apply Exists.intro); exact ⟨hR, rfl⟩)
                  case measure => simp [intOf]; omega
              · have hst : Hid (vTo vl (k + 1) = 2) := by show _ = _; exact hVs.out.trans (by rw [hVa.out, if_pos hn])
                clear hVs hVa
                go_wp2_with (go_at_call 26; first | (refine (in_true _ _ _ _ (by omega)).mono ?_; rintro e w' ⟨rfl, rfl⟩) | (refine (in_false _ _ _ _ (by omega)).mono ?_; rintro e w' ⟨rfl, rfl⟩))
                go_roundw
                case rel =>
                  have hR : ∃ k' : Nat, k' ≤ vl.length ∧ (Value.int .i64 ((k : Int) + 1)) = .int .i64 k' ∧ (Value.int .i64 2) = .int .i64 (vTo vl k') ∧ Below w.heap.size w wr ∧ wr.cell? ⟨w.heap.size, 4, none⟩ = some (.slice (some ⟨sb, so, none⟩) vl.length vc) := ⟨k + 1, by omega, by go_num, by rw [hst.out], hb1, c4⟩
                  first | exact hR | ((repeat apply Exists.intro); exact ⟨hR, rfl⟩)
                case measure => simp [intOf]; omega
          · have hG : Hid (certF au rd bl pl vl = vTo vl k) := by
              show _ = _
              have e := vTo_stays vl k vl.length h0 hk
              rw [hF.out, votersF, e, if_pos h0]
            clear hF
            generalize vTo vl k = z at *
            go_wp2_with fail
            go_ret
            exact ⟨ret_int hG.out.symm, hb1⟩
        · obtain rfl : k = vl.length := by omega
          by_cases h0 : vTo vl vl.length = 0
          · by_cases h3 : vl.length < 3
            · have e10 : Hid (certF au rd bl pl vl = 10) := by show _ = _; rw [hF.out, votersF, if_neg (by simp [h0]), if_pos h3]
              have h3I : (vl.length : Int) < 3 := by omega
              clear hF
              rw [h0]
              go_wp2_with fail
              go_ret
              exact ⟨ret_int e10.out.symm, hb1⟩
            · have e0 : Hid (certF au rd bl pl vl = 0) := by show _ = _; rw [hF.out, votersF, if_neg (by simp [h0]), if_neg h3]
              have h3I : ¬ (vl.length : Int) < 3 := by omega
              clear hF
              rw [h0]
              go_wp2_with fail
              go_ret
              exact ⟨ret_int e0.out.symm, hb1⟩
          · have hG : Hid (certF au rd bl pl vl = vTo vl vl.length) := by show _ = _; rw [hF.out, votersF, if_pos h0]
            clear hF
            generalize vTo vl vl.length = z at *
            go_wp2_with fail
            go_ret
            exact ⟨ret_int hG.out.symm, hb1⟩
  · have hF : Hid (certF au rd bl pl vl = headerF au rd bl pl) := by show _ = _; rw [certF, if_pos h1]
    generalize headerF au rd bl pl = z at *
    go_wp2_with fail
    go_loop [4, 3] (fun i e => i = .int .i64 0 ∧ e = .int .i64 (z)) (fun _ _ => 0)
    case atStart => exact ⟨rfl, rfl⟩
    case round =>
      obtain ⟨rfl, rfl⟩ := hrel
      by_cases hl0 : vl.length = 0
      · rw [hl0] at c4 ⊢
        go_wp2_with fail
        go_ret
        exact ⟨ret_int hF.out.symm, hb1⟩
      · have hlI : (0 : Int) < vl.length := by omega
        go_wp2_with fail
        go_ret
        exact ⟨ret_int hF.out.symm, hb1⟩
end Go.Proofs.YtmpflkggbekpfaaDoor

namespace Go.Proofs.YtmpflkggbekpfaaDoor
open Go.RowKit

set_option maxRecDepth 100000 in
set_option maxHeartbeats 400000 in
theorem three_any (n : Int) (w : World) (hn : 0 ≤ n ∧ n ≤ 1048576) :
    Calls Tryd.prog 59 #[.int .i64 n] w fun e w' => e = .returned (.slice (some ⟨w.heap.size, 0, none⟩) 3 3) ∧ w'.ownsRow w.heap.size 5 1 (.slice (some ⟨w.heap.size, 0, none⟩) 3 3) 3 (ub (rd3 n)) ∧ Below w.heap.size w w' := by
  obtain ⟨hn0, hn1⟩ := hn
  have hO := World.ownsRow_lit (base := w.heap.size) (e := 5) (size := 1) w (ub (rd3 n)).toArray 3 (Nat.le_refl _) (by decide) rfl
  have HO : Hid _ := hO
  clear hO
  go_enter Tryd.func59, Tryd.ntmps59
  go_wp2_with fail
  go_ret
  exact ⟨rfl, HO.out, (Below.refl _ _).alloc (Nat.le_refl _) _⟩
end Go.Proofs.YtmpflkggbekpfaaDoor

namespace Go.Proofs.YtmpflkggbekpfaaDoor
open Go.RowKit

set_option maxRecDepth 100000 in
set_option maxHeartbeats 1000000 in
theorem joined_any (xs ys : List Int) (sa sb : Option Addr) (n m c d : Nat) (w : World) (hn : n = xs.length) (hm : m = ys.length) (ha : SliceAt w sa c xs) (hb : SliceAt w sb d ys) (hl : xs.length + ys.length ≤ 140737488355328) :
    Calls Tryd.prog 40 #[.slice sa n c, .slice sb m d] w fun e w' => ∃ v, e = .returned v ∧ w'.ownsRow w.heap.size 5 1 v (xs.length + ys.length) (ub (xs ++ ys)) ∧ Below w.heap.size w w' := by
  subst hn hm
  obtain ⟨i, hi, hz0, hz1, hz2⟩ := info_parts infoU8
  go_enter Tryd.func40, Tryd.ntmps40
  go_wp2_with fail
  go_loopw [6, 5] (fun j v wr => ∃ k : Nat, k ≤ xs.length ∧ j = .int .i64 k ∧ Below w.heap.size w wr ∧ wr.ownsRow w.heap.size 5 1 v (k) (ub (xs.take k))) (fun j _ _ => xs.length - (intOf j).toNat)
  case atStart => exact ⟨0, Nat.zero_le _, rfl, Below.refl _ _, World.ownsRow_nil _ _ _ _⟩
  case round =>
    obtain ⟨k, hk, rfl, hbw, ho⟩ := hrel
    by_cases hlt : k < xs.length
    · obtain ⟨tb, tq, rfl, hc⟩ : ∃ tb tq, sa = some ⟨tb, tq, none⟩ ∧ ∀ j, j < xs.length → w.cell? ⟨tb, tq + j, none⟩ = some (.int .u8 (xs.getD j 0)) := by
        rcases ha.bytes with h | h
        · rw [h] at hlt; simp at hlt
        · exact h
      have ck := (hbw.cell (p := ⟨tb, tq + k, none⟩) (block_lt_of_cell (hc k hlt))).trans (hc k hlt)
      have hltI : (k : Int) < xs.length := by omega
      have hst : Hid (xs.take (k + 1) = xs.take k ++ [xs.getD k 0]) := by
        show _ = _
        rw [List.take_succ_eq_append_getElem hlt]
        simp [List.getD, hlt]
      clear hc
      generalize xs.getD k 0 = x at ck hst
      go_wp2_with (at_builtin; refine wpList_append_own _ rfl _ _ 42 rfl w.heap.size 5 i (.int .u8 0) 1 1 Tryd.underlying42 hi hz0 hz1 hz2 rfl (by decide) _ (k) _ rfl (World.ownsRow.alloc ho _) ⟨wr.heap.size, 0, none⟩ 1 1 [.int .u8 x] rfl rfl (cells_new _ _ _) (u8_one [_]) (by unfold maxLen; omega) (by omega) (le_alloc hbw.size _) ?_; intro v1 w2 ho1 hg1 _)
      have hb2 := Below.grown (hbw.alloc hbw.size _) hg1 (le_alloc hbw.size _) (fun q e => (ho.lt q e).1)
      go_roundw
      case rel =>
        have hR : ∃ k' : Nat, k' ≤ xs.length ∧ (Value.int .i64 ((k : Int) + 1)) = .int .i64 k' ∧ Below w.heap.size w w2 ∧ w2.ownsRow w.heap.size 5 1 v1 (k') (ub (xs.take k')) :=
          ⟨k + 1, by omega, by go_num, hb2, by rw [hst.out]; simpa [ub, Nat.add_assoc] using ho1⟩
        first | exact hR | ((repeat apply Exists.intro); exact ⟨hR, rfl⟩)
      case measure => simp [intOf]; omega
    · obtain rfl : k = xs.length := by omega
      rw [List.take_of_length_le (Nat.le_refl _)] at ho
      go_wp2_with fail
      go_loopw [7, 5] (fun j v wr => ∃ k : Nat, k ≤ ys.length ∧ j = .int .i64 k ∧ Below w.heap.size w wr ∧ wr.ownsRow w.heap.size 5 1 v (xs.length + k) (ub (xs ++ ys.take k))) (fun j _ _ => ys.length - (intOf j).toNat)
      case atStart => exact ⟨0, Nat.zero_le _, rfl, hbw, by simpa using ho⟩
      case round =>
        clear ho hbw
        obtain ⟨k, hk, rfl, hbw, ho⟩ := hrel
        by_cases hlt : k < ys.length
        · obtain ⟨tb, tq, rfl, hc⟩ : ∃ tb tq, sb = some ⟨tb, tq, none⟩ ∧ ∀ j, j < ys.length → w.cell? ⟨tb, tq + j, none⟩ = some (.int .u8 (ys.getD j 0)) := by
            rcases hb.bytes with h | h
            · rw [h] at hlt; simp at hlt
            · exact h
          have ck := (hbw.cell (p := ⟨tb, tq + k, none⟩) (block_lt_of_cell (hc k hlt))).trans (hc k hlt)
          have hltI : (k : Int) < ys.length := by omega
          have hst : Hid (ys.take (k + 1) = ys.take k ++ [ys.getD k 0]) := by
            show _ = _
            rw [List.take_succ_eq_append_getElem hlt]
            simp [List.getD, hlt]
          clear hc
          generalize ys.getD k 0 = x at ck hst
          go_wp2_with (at_builtin; refine wpList_append_own _ rfl _ _ 42 rfl w.heap.size 5 i (.int .u8 0) 1 1 Tryd.underlying42 hi hz0 hz1 hz2 rfl (by decide) _ (xs.length + k) _ rfl (World.ownsRow.alloc ho _) ⟨wr.heap.size, 0, none⟩ 1 1 [.int .u8 x] rfl rfl (cells_new _ _ _) (u8_one [_]) (by unfold maxLen; omega) (by omega) (le_alloc hbw.size _) ?_; intro v1 w2 ho1 hg1 _)
          have hb2 := Below.grown (hbw.alloc hbw.size _) hg1 (le_alloc hbw.size _) (fun q e => (ho.lt q e).1)
          go_roundw
          case rel =>
            have hR : ∃ k' : Nat, k' ≤ ys.length ∧ (Value.int .i64 ((k : Int) + 1)) = .int .i64 k' ∧ Below w.heap.size w w2 ∧ w2.ownsRow w.heap.size 5 1 v1 (xs.length + k') (ub (xs ++ ys.take k')) :=
              ⟨k + 1, by omega, by go_num, hb2, by rw [hst.out]; simpa [ub, Nat.add_assoc] using ho1⟩
            first | exact hR | ((repeat apply Exists.intro); exact ⟨hR, rfl⟩)
          case measure => simp [intOf]; omega
        · obtain rfl : k = ys.length := by omega
          rw [List.take_of_length_le (Nat.le_refl _)] at ho
          go_wp2_with fail
          go_ret
          exact ⟨_, rfl, ho, hbw⟩
end Go.Proofs.YtmpflkggbekpfaaDoor

namespace Go.Proofs.YtmpflkggbekpfaaDoor
open Go.RowKit

/-- The bytes of a text. -/
def tb (s : ByteArray) : List Int := s.data.toList.map fun b => (b.toNat : Int)
set_option maxRecDepth 100000 in
theorem tb_length (s : ByteArray) : (tb s).length = s.size := by simp [tb]
set_option maxRecDepth 100000 in
theorem strCells_tb (s : ByteArray) : Lib.strCells s = ub (tb s) := by simp [Lib.strCells, ub, tb]
set_option maxRecDepth 100000 in
theorem append_str_at (w : World) (ty : TypeId) (base : Nat) (v : Value) (n : Nat) (bs : List Int) (hown : w.ownsRow base 5 1 v n (ub bs)) (s : ByteArray) (hlen : n + s.size ≤ 140737488355328) (hbase : base ≤ w.heap.size) :
    ∃ v' w', (Builtin.append_ #[42, 9] ty #[v, .string s]).run Tryd.prog w = .ok v' w' ∧ w'.ownsRow base 5 1 v' (n + s.size) (ub (bs ++ tb s)) ∧ Grew w v w' v' := by
  obtain ⟨i, hi, hz0, hz1, hz2⟩ := info_parts infoU8
  have hm : n + s.size ≤ maxLen := by unfold maxLen; omega
  obtain ⟨v', w', hr, h2, h3, _⟩ := Lib.run_append_own_string (P := Tryd.prog) w base 42 9 ty 5 i Tryd.underlying42 Tryd.underlying9 hi hz0 hz1 hz2 v n (ub bs) hown s hm hlen hbase
  refine ⟨v', w', hr, by rw [show ub (bs ++ tb s) = ub bs ++ ub (tb s) by simp [ub], ← strCells_tb]; exact h2, ⟨h3, ?_⟩⟩
  intro q hq
  rcases hown.2 with ⟨rfl, hn⟩ | ⟨g, cap, cur, rfl, hg, hgc, h1, h2', h3', h4'⟩
  · subst hn
    have hnil : bs = [] := by have := hown.1; rw [ub_length] at this; exact List.eq_nil_of_length_eq_zero (by omega)
    subst hnil
    obtain ⟨v2, w2, hr2, k2, _, _⟩ := Lib.run_append_own_string (P := Tryd.prog) w w.heap.size 42 9 ty 5 i Tryd.underlying42 Tryd.underlying9 hi hz0 hz1 hz2 (.slice none 0 0) 0 [] (World.ownsRow_nil _ _ _ _) s hm hlen (Nat.le_refl _)
    have e := hr.symm.trans hr2
    cases e
    exact .inr (k2.lt q hq).1
  · by_cases hroom : n + s.size ≤ cap
    · have hr2 := Lib.run_append_room_string (P := Tryd.prog) w 42 9 ty 5 i Tryd.underlying42 Tryd.underlying9 hi hz1 g n cap cur hgc s hroom (by simp at h3'; omega)
      have e := hr.symm.trans hr2
      cases e
      exact .inl hq
    · have holds : ∀ j u, (ub bs)[j]? = some u → w.cell? ((⟨g, 0, none⟩ : Addr).add j) = some u := hown.cells (g := g) rfl
      have hr2 := Lib.run_append_grow_string (P := Tryd.prog) w 42 9 ty 5 i (.int .u8 0) Tryd.underlying42 Tryd.underlying9 hi hz0 ⟨g, 0, none⟩ n cap (ub bs) (by rw [hz1]; simpa using hown.1) holds s (by omega) (by omega) (by rw [hz2]; exact growslice_fits (by omega) (by omega))
      have e := hr.symm.trans hr2
      cases e
      cases hq
      exact .inr (Nat.le_refl _)
set_option maxRecDepth 100000 in
theorem wpList_append_str {w : World} {ops : Array Oper} {rest : List Oper} {o : Oper} {a : Act} {Q : Exit → Act → World → Prop} (hgd : o.guard = none) (sl x : Operand)
    (ho : o.op = .call { callee := .builtin .append, args := #[sl, x], argTypes := #[42, 9] })
    (base : Nat) (v : Value) (n : Nat) (bs : List Int) (hs : a.eval sl = v) (hown : w.ownsRow base 5 1 v n (ub bs)) (s : ByteArray) (hx : a.eval x = .string s) (hlen : n + s.size ≤ 140737488355328) (hbase : base ≤ w.heap.size)
    (h : ∀ v' w', w'.ownsRow base 5 1 v' (n + s.size) (ub (bs ++ tb s)) → Grew w v w' v' → wpList Tryd.prog ops Q rest (a.put o.dst v') w') : wpList Tryd.prog ops Q (o :: rest) a w := by
  refine wpList_plain hgd fun K hK => ?_
  obtain ⟨v', w', hr, h2, h3⟩ := append_str_at w o.type base v n bs hown s hlen hbase
  unfold Oper.wp execOp
  simp only [ho, resolve, invoke, builtin, Sem.run_bind, Sem.run_pure, Result.andThen_ok, List.map_toArray, List.map_cons, List.map_nil, hs, hx, hr]
  exact hK _ _ (h v' w' h2 h3)
set_option maxRecDepth 100000 in
theorem step_append_str {ops : Array Oper} {o : Oper} {a : Act} {w : World} {K : Act → World → Prop} {Q : Exit → Act → World → Prop} {E : Prop} (hgd : o.guard = none) (sl x : Operand)
    (ho : o.op = .call { callee := .builtin .append, args := #[sl, x], argTypes := #[42, 9] })
    (base : Nat) (v : Value) (n : Nat) (bs : List Int) (hs : a.eval sl = v) (hown : w.ownsRow base 5 1 v n (ub bs)) (s : ByteArray) (hx : a.eval x = .string s) (hlen : n + s.size ≤ 140737488355328) (hbase : base ≤ w.heap.size)
    (h : ∀ v' w', w'.ownsRow base 5 1 v' (n + s.size) (ub (bs ++ tb s)) → Grew w v w' v' → K (a.put o.dst v') w') : if Region.wanted o (yielded ops a.tmps) = true then Oper.wp Tryd.prog o a w K Q else E := by
  have hw : Region.wanted o (yielded ops a.tmps) = true := by simp [Region.wanted, hgd]
  rw [if_pos hw]
  obtain ⟨v', w', hr, h2, h3⟩ := append_str_at w o.type base v n bs hown s hlen hbase
  unfold Oper.wp execOp
  simp only [ho, resolve, invoke, builtin, Sem.run_bind, Sem.run_pure, Result.andThen_ok, List.map_toArray, List.map_cons, List.map_nil, hs, hx, hr]
  exact h v' w' h2 h3
end Go.Proofs.YtmpflkggbekpfaaDoor

namespace Go.Proofs.YtmpflkggbekpfaaDoor
open Go.RowKit

set_option maxRecDepth 100000 in
theorem bytesWorld_below (w : World) (e : TypeId) (s : ByteArray) : Below w.heap.size w (Lib.bytesWorld w e s) := ⟨rfl, rfl, rfl, by rw [Lib.bytesWorld_size]; omega, fun k hk => Lib.bytesWorld_at_old w e s k hk⟩
set_option maxRecDepth 100000 in
theorem bytesWorld_slice (w : World) (s : ByteArray) (hs : s.size ≤ 1000) : SliceAt (Lib.bytesWorld w 5 s) (some ⟨w.heap.size, 0, none⟩) (grownCap w s.size 0 5) (tb s) := by
  refine ⟨by rw [tb_length]; exact grownCap_ge w s.size 0 _, grownCap_le_maxLen w s.size 0 _ (by unfold maxLen; omega), .inr ⟨_, _, rfl⟩, (fun e => by cases e), .inr ⟨w.heap.size, 0, rfl, fun j hj => ?_⟩⟩
  rw [tb_length] at hj
  rw [Nat.zero_add, Lib.bytesWorld_cell w _ s j hj]
  simp [tb, List.getD, hj]
set_option maxRecDepth 100000 in
theorem slice_row {w : World} {b : Nat} {a : Int} {t : TypeId} (h : w.heap[b]? = some (.cells #[.int .u8 a] t (0, 0))) : SliceAt w (some ⟨b, 0, none⟩) 1 [a] :=
  ⟨Nat.le_refl _, by decide, .inr ⟨_, _, rfl⟩, (fun e => by cases e), .inr ⟨b, 0, rfl, fun j hj => by
    obtain rfl : j = 0 := by simpa using hj
    exact cells_at h 0 _ rfl⟩⟩
end Go.Proofs.YtmpflkggbekpfaaDoor
