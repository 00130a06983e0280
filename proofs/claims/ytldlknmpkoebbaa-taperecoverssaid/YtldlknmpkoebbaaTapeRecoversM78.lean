/- The document's joined: new memory with the bytes of both. -/
import Derived.Test.YtldlknmpkoebbaaHeadF
import Derived.Test.YtldlknmpkoebbaaTapeRecoversM72
import Derived.Test.YtldlknmpkoebbaaCSlot
import Derived.Test.YtldlknmpkoebbaaCertF
import Derived.Deep.RegionHeld2
import Derived.Test.YtldlknmpkoebbaaCheckM
import Derived.Test.YtldlknmpkoebbaaMsgF
import Derived.Deep.CutRange
import Derived.Deep.DeepCutAuto
import Derived.Test.YtldlknmpkoebbaaTChk
import Derived.Test.YtldlknmpkoebbaaApp
namespace Go.Proofs.Ytldlknmpkoebbaa
open Go.RowKit

set_option maxRecDepth 100000 in
set_option maxHeartbeats 2000000 in
theorem headerFault_any (au rd : Int) (ba : Option Addr) (bc : Nat) (bl : List Part) (pa : Option Addr) (pc : Nat) (pl : List Part) (w : World) (hb : ListAt w ba bc bl) (hp : ListAt w pa pc pl) :
    Calls Try.prog 52 #[.agg #[.int .i64 au, .int .i64 rd, .slice ba bl.length bc, .slice pa pl.length pc]] w fun e w' => e = .returned (.int .i64 (headerF au rd bl pl)) ∧ Below w.heap.size w w' := by
  have hbl := hb.le
  have hbm := hb.max
  have hbs := hb.small
  have hpl := hp.le
  have hpm := hp.max
  have hps := hp.small
  have hA : Below w.heap.size w (w.alloc (.cells #[.int .i64 au, .int .i64 rd, .slice ba bl.length bc, .slice pa pl.length pc] 46)) := (Below.refl _ _).alloc (Nat.le_refl _) _
  by_cases ha : 0 ≤ au ∧ au < 4
  · by_cases hr : 1 ≤ rd ∧ rd ≤ 1048576
    · by_cases hz : 3 < bl.length ∨ 4 < pl.length
      · have hF : Hid (headerF au rd bl pl = 1) := by show _ = _; rw [headerF, if_neg (by simp [ha, hr]), if_pos hz]
        by_cases hz1 : 3 < bl.length
        · have hzI : (3 : Int) < bl.length := by omega
          go_enter Try.func52, Try.ntmps52
          go_wp2_with (go_at_call 32; first | (refine (in_true _ _ _ _ (by omega)).mono ?_; rintro e w' ⟨rfl, rfl⟩) | (refine (in_false _ _ _ _ (by omega)).mono ?_; rintro e w' ⟨rfl, rfl⟩))
          go_ret
          exact ⟨ret_int hF.out.symm, hA⟩
        · have hzI : ¬ (3 : Int) < bl.length := by omega
          have hzJ : (4 : Int) < pl.length := by omega
          go_enter Try.func52, Try.ntmps52
          go_wp2_with (go_at_call 32; first | (refine (in_true _ _ _ _ (by omega)).mono ?_; rintro e w' ⟨rfl, rfl⟩) | (refine (in_false _ _ _ _ (by omega)).mono ?_; rintro e w' ⟨rfl, rfl⟩))
          go_ret
          exact ⟨ret_int hF.out.symm, hA⟩
      · have hF : Hid (headerF au rd bl pl = if digF bl ≠ 0 then digF bl else if digF pl ≠ 0 then digF pl else parentsF rd pl.length) := by show _ = _; rw [headerF, if_neg (by simp [ha, hr]), if_neg hz]
        have hzI : ¬ (3 : Int) < bl.length := by omega
        have hzJ : ¬ (4 : Int) < pl.length := by omega
        go_enter Try.func52, Try.ntmps52
        go_wp2_with (go_at_call 32; first | (refine (in_true _ _ _ _ (by omega)).mono ?_; rintro e w' ⟨rfl, rfl⟩) | (refine (in_false _ _ _ _ (by omega)).mono ?_; rintro e w' ⟨rfl, rfl⟩))
        refine (digestsFault_any bl ba _ bc _ rfl (by omega) (hb.parts.below hA)).mono ?_
        rintro e w1 ⟨he, hb1⟩
        subst he
        dsimp only
        have r1 := row_new hb1
        replace hb1 := below_alloc hb1
        have c1 : w1.cell? ⟨w.heap.size, 1, none⟩ = some (.int .i64 rd) := cells_at r1 1 _ rfl
        have c3 : w1.cell? ⟨w.heap.size, 3, none⟩ = some (.slice pa pl.length pc) := cells_at r1 3 _ rfl
        by_cases h1 : digF bl = 0
        · rw [h1] at hF ⊢
          go_wp2_with fail
          refine (digestsFault_any pl pa _ pc _ rfl (by omega) (hp.parts.below hb1)).mono ?_
          rintro e w2 ⟨he, hb2⟩
          subst he
          dsimp only
          have r2 := (hb2.block _ (lt_of_heap r1)).trans r1
          have hb12 := hb1.trans (hb2.mono hb1.size)
          have c1' : w2.cell? ⟨w.heap.size, 1, none⟩ = some (.int .i64 rd) := cells_at r2 1 _ rfl
          have c3' : w2.cell? ⟨w.heap.size, 3, none⟩ = some (.slice pa pl.length pc) := cells_at r2 3 _ rfl
          clear c3 c1 r1 r2
          by_cases h2 : digF pl = 0
          · rw [h2] at hF ⊢
            by_cases k1 : rd = 1
            · subst k1
              by_cases k2 : pl.length = 0
              · have hG : Hid (headerF au 1 bl pl = 0) := by show _ = _; rw [hF.out, if_neg (by simp), if_neg (by simp), parentsF, if_neg (by omega)]
                clear hF
                rw [k2] at c3' ⊢
                go_wp2_with fail
                go_ret
                exact ⟨ret_int hG.out.symm, hb12⟩
              · have hG : Hid (headerF au 1 bl pl = 10) := by show _ = _; rw [hF.out, if_neg (by simp), if_neg (by simp), parentsF, if_pos (by omega)]
                clear hF
                have k2I : ¬ (pl.length : Int) = 0 := by omega
                go_wp2_with fail
                go_ret
                exact ⟨ret_int hG.out.symm, hb12⟩
            · have k1J : (1 : Int) < rd := by omega
              by_cases k2 : pl.length < 3
              · have hG : Hid (headerF au rd bl pl = 10) := by show _ = _; rw [hF.out, if_neg (by simp), if_neg (by simp), parentsF, if_pos (by omega)]
                clear hF
                have k2I : (pl.length : Int) < 3 := by omega
                go_wp2_with fail
                go_ret
                exact ⟨ret_int hG.out.symm, hb12⟩
              · have hG : Hid (headerF au rd bl pl = 0) := by show _ = _; rw [hF.out, if_neg (by simp), if_neg (by simp), parentsF, if_neg (by omega)]
                clear hF
                have k2I : ¬ (pl.length : Int) < 3 := by omega
                go_wp2_with fail
                go_ret
                exact ⟨ret_int hG.out.symm, hb12⟩
          · rw [if_neg (by simp), if_pos h2] at hF
            generalize digF pl = z at *
            go_wp2_with fail
            go_ret
            exact ⟨ret_int hF.out.symm, hb12⟩
        · rw [if_pos h1] at hF
          generalize digF bl = z at *
          go_wp2_with fail
          go_ret
          exact ⟨ret_int hF.out.symm, hb1⟩
    · have hF : Hid (headerF au rd bl pl = 2) := by show _ = _; simp [headerF, hr]
      go_enter Try.func52, Try.ntmps52
      go_wp2_with (go_at_call 32; first | (refine (in_true _ _ _ _ (by omega)).mono ?_; rintro e w' ⟨rfl, rfl⟩) | (refine (in_false _ _ _ _ (by omega)).mono ?_; rintro e w' ⟨rfl, rfl⟩))
      go_ret
      exact ⟨ret_int hF.out.symm, hA⟩
  · have hF : Hid (headerF au rd bl pl = 2) := by show _ = _; simp [headerF, ha]
    go_enter Try.func52, Try.ntmps52
    go_wp2_with (go_at_call 32; first | (refine (in_true _ _ _ _ (by omega)).mono ?_; rintro e w' ⟨rfl, rfl⟩) | (refine (in_false _ _ _ _ (by omega)).mono ?_; rintro e w' ⟨rfl, rfl⟩))
    go_ret
    exact ⟨ret_int hF.out.symm, hA⟩
end Go.Proofs.Ytldlknmpkoebbaa

namespace Go.Proofs.Ytldlknmpkoebbaa
open Go.RowKit

set_option maxRecDepth 100000 in
set_option maxHeartbeats 1000000 in
theorem slotFault_any (au rd : Int) (sa : Option Addr) (n cap : Nat) (w : World) :
    Calls Try.prog 53 #[.agg #[.int .i64 au, .int .i64 rd, .slice sa n cap]] w fun e w' => e = .returned (.int .i64 (slotF au rd n)) ∧ Below w.heap.size w w' := by
  by_cases ha : 0 ≤ au ∧ au < 4
  · by_cases hr : 1 ≤ rd ∧ rd ≤ 1048576
    · by_cases hn : n = 32
      · subst hn
        have hF : Hid (slotF au rd 32 = 0) := by show _ = _; simp [slotF, ha, hr]
        go_enter Try.func53, Try.ntmps53
        go_wp2_with (go_at_call 32; first | (refine (in_true _ _ _ _ (by omega)).mono ?_; rintro e w' ⟨rfl, rfl⟩) | (refine (in_false _ _ _ _ (by omega)).mono ?_; rintro e w' ⟨rfl, rfl⟩))
        go_ret
        exact ⟨ret_int hF.out.symm, (Below.refl _ _).alloc (Nat.le_refl _) _⟩
      · have hF : Hid (slotF au rd n = 4) := by show _ = _; simp [slotF, ha, hr, hn]
        have hnI : ¬ (n : Int) = 32 := by omega
        go_enter Try.func53, Try.ntmps53
        go_wp2_with (go_at_call 32; first | (refine (in_true _ _ _ _ (by omega)).mono ?_; rintro e w' ⟨rfl, rfl⟩) | (refine (in_false _ _ _ _ (by omega)).mono ?_; rintro e w' ⟨rfl, rfl⟩))
        go_ret
        exact ⟨ret_int hF.out.symm, (Below.refl _ _).alloc (Nat.le_refl _) _⟩
    · have hF : Hid (slotF au rd n = 2) := by show _ = _; simp [slotF, hr]
      go_enter Try.func53, Try.ntmps53
      go_wp2_with (go_at_call 32; first | (refine (in_true _ _ _ _ (by omega)).mono ?_; rintro e w' ⟨rfl, rfl⟩) | (refine (in_false _ _ _ _ (by omega)).mono ?_; rintro e w' ⟨rfl, rfl⟩))
      go_ret
      exact ⟨ret_int hF.out.symm, (Below.refl _ _).alloc (Nat.le_refl _) _⟩
  · have hF : Hid (slotF au rd n = 2) := by show _ = _; simp [slotF, ha]
    go_enter Try.func53, Try.ntmps53
    go_wp2_with (go_at_call 32; first | (refine (in_true _ _ _ _ (by omega)).mono ?_; rintro e w' ⟨rfl, rfl⟩) | (refine (in_false _ _ _ _ (by omega)).mono ?_; rintro e w' ⟨rfl, rfl⟩))
    go_ret
    exact ⟨ret_int hF.out.symm, (Below.refl _ _).alloc (Nat.le_refl _) _⟩
end Go.Proofs.Ytldlknmpkoebbaa

namespace Go.Proofs.Ytldlknmpkoebbaa
open Go.RowKit

set_option maxRecDepth 100000 in
set_option maxHeartbeats 1000000 in
theorem certFault_any (au rd : Int) (ba : Option Addr) (bc : Nat) (bl : List Part) (pa : Option Addr) (pc : Nat) (pl : List Part) (va : Option Addr) (vc : Nat) (vl : List Int) (w : World) (hb : ListAt w ba bc bl) (hp : ListAt w pa pc pl) (hv : IntsAt w va vl) (hvm : vl.length ≤ 9000000000000000000) :
    Calls Try.prog 54 #[.agg #[.int .i64 au, .int .i64 rd, .slice ba bl.length bc, .slice pa pl.length pc, .slice va vl.length vc]] w fun e w' => e = .returned (.int .i64 (certF au rd bl pl vl)) ∧ Below w.heap.size w w' := by
  have hA : Below w.heap.size w (w.alloc (.cells #[.int .i64 au, .int .i64 rd, .slice ba bl.length bc, .slice pa pl.length pc, .slice va vl.length vc] 51)) := (Below.refl _ _).alloc (Nat.le_refl _) _
  go_enter Try.func54, Try.ntmps54
  go_wp2_with fail
  refine (headerFault_any au rd ba bc bl pa pc pl _ (hb.below hA) (hp.below hA)).mono ?_
  rintro e w1 ⟨he, hb1⟩
  subst he
  dsimp only
  have r1 := row_new hb1
  replace hb1 := below_alloc hb1
  have c4 : w1.cell? ⟨w.heap.size, 4, none⟩ = some (.slice va vl.length vc) := cells_at r1 4 _ rfl
  by_cases h1 : headerF au rd bl pl = 0
  · rw [h1]
    by_cases h2 : 4 < vl.length
    · have hF : Hid (certF au rd bl pl vl = 1) := by show _ = _; rw [certF, if_neg (by simp [h1]), if_pos h2]
      have h2I : (4 : Int) < vl.length := by omega
      go_wp2_with fail
      go_loop [4, 3] (fun i e => i = .int .i64 0 ∧ e = .int .i64 (1)) (fun _ _ => 0)
      case atStart => exact ⟨rfl, rfl⟩
      case round =>
        obtain ⟨rfl, rfl⟩ := hrel
        have hlI : (0 : Int) < vl.length := by omega
        go_wp2_with fail
        go_ret
        exact ⟨ret_int hF.out.symm, hb1⟩
    · have hF : Hid (certF au rd bl pl vl = votersF vl) := by show _ = _; rw [certF, if_neg (by simp [h1]), if_neg h2]
      have h2I : ¬ (4 : Int) < vl.length := by omega
      clear h1
      go_wp2_with fail
      go_loopw [4, 3] (fun i e wr => ∃ k : Nat, k ≤ vl.length ∧ i = .int .i64 k ∧ e = .int .i64 (vTo vl k) ∧ Below w.heap.size w wr ∧ wr.cell? ⟨w.heap.size, 4, none⟩ = some (.slice va vl.length vc)) (fun i _ _ => vl.length - (intOf i).toNat)
      case atStart => exact ⟨0, Nat.zero_le _, rfl, rfl, hb1, c4⟩
      case round =>
        clear c4 r1 hb1
        obtain ⟨k, hk, rfl, rfl, hb1, c4⟩ := hrel
        by_cases hlt : k < vl.length
        · have hltI : (k : Int) < vl.length := by omega
          by_cases h0 : vTo vl k = 0
          · obtain ⟨sb, so, rfl, hc⟩ : ∃ sb so, va = some ⟨sb, so, none⟩ ∧ ∀ j, j < vl.length → wr.cell? ⟨sb, so + j, none⟩ = some (.int .i64 (vl.getD j 0)) := by
              rcases (hv.below hb1).cells with h | h
              · rw [h] at hlt; simp at hlt
              · exact h
            have ck := hc k hlt
            have hVs : Hid (vTo vl (k + 1) = vAt vl k) := by
              show _ = _
              rw [vTo, h0]; simp
            have hVa : Hid (vAt vl k = if ¬ (0 ≤ vl.getD k 0 ∧ vl.getD k 0 < 4) then 2 else if 0 < k ∧ vl.getD k 0 ≤ vl.getD (k - 1) 0 then 9 else 0) := rfl
            rw [h0]
            by_cases hkz : k = 0
            · subst hkz
              clear hc
              rw [Nat.add_zero] at ck
              generalize vl.getD 0 0 = x at *
              by_cases hn : 0 ≤ x ∧ x < 4
              · have hst : Hid (vTo vl 1 = 0) := by show _ = _; exact hVs.out.trans (by rw [hVa.out, if_neg (by simp [hn]), if_neg (by omega)])
                clear hVs hVa
                go_wp2_with (go_at_call 32; first | (refine (in_true _ _ _ _ (by omega)).mono ?_; rintro e w' ⟨rfl, rfl⟩) | (refine (in_false _ _ _ _ (by omega)).mono ?_; rintro e w' ⟨rfl, rfl⟩))
                go_region
                go_wp2_with fail
                go_roundw
                case rel =>
                  have hR : ∃ k' : Nat, k' ≤ vl.length ∧ (Value.int .i64 (1)) = .int .i64 k' ∧ (Value.int .i64 0) = .int .i64 (vTo vl k') ∧ Below w.heap.size w wr.drew ∧ wr.drew.cell? ⟨w.heap.size, 4, none⟩ = some (.slice (some ⟨sb, so, none⟩) vl.length vc) := ⟨1, by omega, by go_num, by rw [hst.out], hb1.drew, c4⟩
                  first | exact hR | ((repeat apply Exists.intro); exact ⟨hR, rfl⟩)
                case measure => simp [intOf]; omega
              · have hst : Hid (vTo vl 1 = 2) := by show _ = _; exact hVs.out.trans (by rw [hVa.out, if_pos hn])
                clear hVs hVa
                go_wp2_with (go_at_call 32; first | (refine (in_true _ _ _ _ (by omega)).mono ?_; rintro e w' ⟨rfl, rfl⟩) | (refine (in_false _ _ _ _ (by omega)).mono ?_; rintro e w' ⟨rfl, rfl⟩))
                go_roundw
                case rel =>
                  have hR : ∃ k' : Nat, k' ≤ vl.length ∧ (Value.int .i64 (1)) = .int .i64 k' ∧ (Value.int .i64 2) = .int .i64 (vTo vl k') ∧ Below w.heap.size w wr ∧ wr.cell? ⟨w.heap.size, 4, none⟩ = some (.slice (some ⟨sb, so, none⟩) vl.length vc) := ⟨1, by omega, by go_num, by rw [hst.out], hb1, c4⟩
                  first | exact hR | ((repeat apply Exists.intro); exact ⟨hR, rfl⟩)
                case measure => simp [intOf]; omega
            · have cp := hc (k - 1) (by omega)
              have hkI : (0 : Int) < k := by omega
              have hkD : decide ((0 : Int) < (k : Int)) = true := decide_eq_true hkI
              have hkN : 0 < k := by omega
              have t0 : ((k : Int) - 1).toNat = k - 1 := by omega
              have u0_ : IntKind.i64.wrap ((k : Int) - 1) = (k : Int) - 1 := by rw [IntKind.wrap_i64]; omega
              have z0 : (0 : Int) ≤ (k : Int) - 1 := by omega
              have z1 : (k : Int) - 1 < vl.length := by omega
              clear hc
              generalize vl.getD k 0 = x at *
              generalize vl.getD (k - 1) 0 = y at *
              by_cases hn : 0 ≤ x ∧ x < 4
              · by_cases hxy : x ≤ y
                · have hst : Hid (vTo vl (k + 1) = 9) := by show _ = _; exact hVs.out.trans (by rw [hVa.out, if_neg (by simp [hn]), if_pos (by omega)])
                  clear hVs hVa
                  go_wp2_with (go_at_call 32; first | (refine (in_true _ _ _ _ (by omega)).mono ?_; rintro e w' ⟨rfl, rfl⟩) | (refine (in_false _ _ _ _ (by omega)).mono ?_; rintro e w' ⟨rfl, rfl⟩))
                  go_region
                  go_wp2_with fail
                  go_roundw
                  case rel =>
                    have hR : ∃ k' : Nat, k' ≤ vl.length ∧ (Value.int .i64 ((k : Int) + 1)) = .int .i64 k' ∧ (Value.int .i64 9) = .int .i64 (vTo vl k') ∧ Below w.heap.size w wr.drew ∧ wr.drew.cell? ⟨w.heap.size, 4, none⟩ = some (.slice (some ⟨sb, so, none⟩) vl.length vc) := ⟨k + 1, by omega, by go_num, by rw [hst.out], hb1.drew, c4⟩
                    first | exact hR | ((repeat apply Exists.intro); exact ⟨hR, rfl⟩)
                  case measure => simp [intOf]; omega
                · have hst : Hid (vTo vl (k + 1) = 0) := by show _ = _; exact hVs.out.trans (by rw [hVa.out, if_neg (by simp [hn]), if_neg (by omega)])
                  clear hVs hVa
                  go_wp2_with (go_at_call 32; first | (refine (in_true _ _ _ _ (by omega)).mono ?_; rintro e w' ⟨rfl, rfl⟩) | (refine (in_false _ _ _ _ (by omega)).mono ?_; rintro e w' ⟨rfl, rfl⟩))
                  go_region
                  go_wp2_with fail
                  go_roundw
                  case rel =>
                    have hR : ∃ k' : Nat, k' ≤ vl.length ∧ (Value.int .i64 ((k : Int) + 1)) = .int .i64 k' ∧ (Value.int .i64 0) = .int .i64 (vTo vl k') ∧ Below w.heap.size w wr.drew ∧ wr.drew.cell? ⟨w.heap.size, 4, none⟩ = some (.slice (some ⟨sb, so, none⟩) vl.length vc) := ⟨k + 1, by omega, by go_num, by rw [hst.out], hb1.drew, c4⟩
                    first | exact hR | ((repeat apply Exists.intro); exact ⟨hR, rfl⟩)
                  case measure => simp [intOf]; omega
              · have hst : Hid (vTo vl (k + 1) = 2) := by show _ = _; exact hVs.out.trans (by rw [hVa.out, if_pos hn])
                clear hVs hVa
                go_wp2_with (go_at_call 32; first | (refine (in_true _ _ _ _ (by omega)).mono ?_; rintro e w' ⟨rfl, rfl⟩) | (refine (in_false _ _ _ _ (by omega)).mono ?_; rintro e w' ⟨rfl, rfl⟩))
                go_roundw
                case rel =>
                  have hR : ∃ k' : Nat, k' ≤ vl.length ∧ (Value.int .i64 ((k : Int) + 1)) = .int .i64 k' ∧ (Value.int .i64 2) = .int .i64 (vTo vl k') ∧ Below w.heap.size w wr ∧ wr.cell? ⟨w.heap.size, 4, none⟩ = some (.slice (some ⟨sb, so, none⟩) vl.length vc) := ⟨k + 1, by omega, by go_num, by rw [hst.out], hb1, c4⟩
                  first | exact hR | ((repeat apply Exists.intro); exact ⟨hR, rfl⟩)
                case measure => simp [intOf]; omega
          · have hG : Hid (certF au rd bl pl vl = vTo vl k) := by
              show _ = _
              have e := vTo_stays vl k vl.length h0 hk
              rw [hF.out, votersF, e, if_pos h0]
            clear hF
            generalize vTo vl k = z at *
            go_wp2_with fail
            go_ret
            exact ⟨ret_int hG.out.symm, hb1⟩
        · obtain rfl : k = vl.length := by omega
          by_cases h0 : vTo vl vl.length = 0
          · by_cases h3 : vl.length < 3
            · have e10 : Hid (certF au rd bl pl vl = 10) := by show _ = _; rw [hF.out, votersF, if_neg (by simp [h0]), if_pos h3]
              have h3I : (vl.length : Int) < 3 := by omega
              clear hF
              rw [h0]
              go_wp2_with fail
              go_ret
              exact ⟨ret_int e10.out.symm, hb1⟩
            · have e0 : Hid (certF au rd bl pl vl = 0) := by show _ = _; rw [hF.out, votersF, if_neg (by simp [h0]), if_neg h3]
              have h3I : ¬ (vl.length : Int) < 3 := by omega
              clear hF
              rw [h0]
              go_wp2_with fail
              go_ret
              exact ⟨ret_int e0.out.symm, hb1⟩
          · have hG : Hid (certF au rd bl pl vl = vTo vl vl.length) := by show _ = _; rw [hF.out, votersF, if_pos h0]
            clear hF
            generalize vTo vl vl.length = z at *
            go_wp2_with fail
            go_ret
            exact ⟨ret_int hG.out.symm, hb1⟩
  · have hF : Hid (certF au rd bl pl vl = headerF au rd bl pl) := by show _ = _; rw [certF, if_pos h1]
    generalize headerF au rd bl pl = z at *
    go_wp2_with fail
    go_loop [4, 3] (fun i e => i = .int .i64 0 ∧ e = .int .i64 (z)) (fun _ _ => 0)
    case atStart => exact ⟨rfl, rfl⟩
    case round =>
      obtain ⟨rfl, rfl⟩ := hrel
      by_cases hl0 : vl.length = 0
      · rw [hl0] at c4 ⊢
        go_wp2_with fail
        go_ret
        exact ⟨ret_int hF.out.symm, hb1⟩
      · have hlI : (0 : Int) < vl.length := by omega
        go_wp2_with fail
        go_ret
        exact ⟨ret_int hF.out.symm, hb1⟩
end Go.Proofs.Ytldlknmpkoebbaa

namespace Go.Proofs.Ytldlknmpkoebbaa
open Go.RowKit

set_option maxRecDepth 100000 in
set_option maxHeartbeats 16000000 in
theorem messageFault_any (m : Msg) (ss : List ByteArray) (bl pl cbl cpl : List Part) (vl : List Int) (w : World) (H : MsgAt w m ss bl pl cbl cpl vl) :
    Calls Try.prog 37 #[.agg #[.int .i64 m.fr, .int .i64 m.tt, .int .i64 m.ki, .int .i64 m.bau, .int .i64 m.bnu, .slice m.bta m.btn m.btc, .int .i64 m.hau, .int .i64 m.hrd, .slice m.hba m.hbn m.hbc, .slice m.hpa m.hpn m.hpc, .int .i64 m.sau, .int .i64 m.srd, .slice m.sda m.sdn m.sdc, .int .i64 m.cau, .int .i64 m.crd, .slice m.cba m.cbn m.cbc, .slice m.cpa m.cpn m.cpc, .slice m.cva m.cvn m.cvc, .int .i64 m.ro]] w fun e w' => e = .returned (.int .i64 (checkF m (carriedF m ss bl pl cbl cpl vl))) ∧ Below w.heap.size w w' := by
  have hA : Below w.heap.size w (w.alloc (.cells #[.int .i64 m.fr, .int .i64 m.tt, .int .i64 m.ki, .int .i64 m.bau, .int .i64 m.bnu, .slice m.bta m.btn m.btc, .int .i64 m.hau, .int .i64 m.hrd, .slice m.hba m.hbn m.hbc, .slice m.hpa m.hpn m.hpc, .int .i64 m.sau, .int .i64 m.srd, .slice m.sda m.sdn m.sdc, .int .i64 m.cau, .int .i64 m.crd, .slice m.cba m.cbn m.cbc, .slice m.cpa m.cpn m.cpc, .slice m.cva m.cvn m.cvc, .int .i64 m.ro] 53)) := (Below.refl _ _).alloc (Nat.le_refl _) _
  by_cases hf : 0 ≤ m.fr ∧ m.fr ≤ 3
  · by_cases ht : 0 ≤ m.tt ∧ m.tt ≤ 3
    · by_cases hk : 1 ≤ m.ki ∧ m.ki ≤ 5
      · have q0 := heap_alloc_new w (.cells #[.int .i64 m.fr, .int .i64 m.tt, .int .i64 m.ki, .int .i64 m.bau, .int .i64 m.bnu, .slice m.bta m.btn m.btc, .int .i64 m.hau, .int .i64 m.hrd, .slice m.hba m.hbn m.hbc, .slice m.hpa m.hpn m.hpc, .int .i64 m.sau, .int .i64 m.srd, .slice m.sda m.sdn m.sdc, .int .i64 m.cau, .int .i64 m.crd, .slice m.cba m.cbn m.cbc, .slice m.cpa m.cpn m.cpc, .slice m.cva m.cvn m.cvc, .int .i64 m.ro] 53)
        go_enter Try.func37, Try.ntmps37
        go_upto_region 5 with (go_at_call 32; first | (refine (in_true _ _ _ _ (by omega)).mono ?_; rintro e w' ⟨rfl, rfl⟩) | (refine (in_false _ _ _ _ (by omega)).mono ?_; rintro e w' ⟨rfl, rfl⟩))
        go_cut [3] (fun v wx => v = .int .i64 0 ∧ wx = w.alloc (.cells #[.int .i64 m.fr, .int .i64 m.tt, .int .i64 m.ki, .int .i64 m.bau, .int .i64 m.bnu, .slice m.bta m.btn m.btc, .int .i64 m.hau, .int .i64 m.hrd, .slice m.hba m.hbn m.hbc, .slice m.hpa m.hpn m.hpc, .int .i64 m.sau, .int .i64 m.srd, .slice m.sda m.sdn m.sdc, .int .i64 m.cau, .int .i64 m.crd, .slice m.cba m.cbn m.cbc, .slice m.cpa m.cpn m.cpc, .slice m.cva m.cvn m.cvc, .int .i64 m.ro] 53))
        case first =>
          go_wp2_with fail
          go_meet
          case rel => exact ⟨rfl, rfl⟩
        case rest =>
          obtain ⟨rfl, rfl⟩ := hcut
          apply_assumption
          refine wp_seq_k (fun K2 hK2 => ?_)
          go_cut [3] (fun v wx => v = .int .i64 (carriedF m ss bl pl cbl cpl vl) ∧ Below w.heap.size w wx ∧ wx.heap[w.heap.size]? = some (.cells #[.int .i64 m.fr, .int .i64 m.tt, .int .i64 m.ki, .int .i64 m.bau, .int .i64 m.bnu, .slice m.bta m.btn m.btc, .int .i64 m.hau, .int .i64 m.hrd, .slice m.hba m.hbn m.hbc, .slice m.hpa m.hpn m.hpc, .int .i64 m.sau, .int .i64 m.srd, .slice m.sda m.sdn m.sdc, .int .i64 m.cau, .int .i64 m.crd, .slice m.cba m.cbn m.cbc, .slice m.cpa m.cpn m.cpc, .slice m.cva m.cvn m.cvc, .int .i64 m.ro] 53 (0, 0)))
          case first =>
            have hkk : m.ki = 1 ∨ m.ki = 2 ∨ m.ki = 3 ∨ m.ki = 4 ∨ m.ki = 5 := by omega
            have hBf : ∀ wx, Below w.heap.size w wx → Calls Try.prog 51 #[.agg #[.int .i64 m.bau, .int .i64 m.bnu, .slice m.bta m.btn m.btc]] wx fun e w' => e = .returned (.int .i64 (batchF m.bau m.bnu ss)) ∧ Below wx.heap.size wx w' := fun wx hb => batchFault_any m.bau m.bnu m.bta m.btn m.btc ss wx H.e1 (by rw [H.e1]; have := H.s1; unfold maxLen; omega) (H.txs.below hb)
            have hHf : ∀ wx, Below w.heap.size w wx → Calls Try.prog 52 #[.agg #[.int .i64 m.hau, .int .i64 m.hrd, .slice m.hba m.hbn m.hbc, .slice m.hpa m.hpn m.hpc]] wx fun e w' => e = .returned (.int .i64 (headerF m.hau m.hrd bl pl)) ∧ Below wx.heap.size wx w' := fun wx hb => by
              have h9 := headerFault_any m.hau m.hrd m.hba m.hbc bl m.hpa m.hpc pl wx (H.bat.below hb) (H.par.below hb)
              rw [← H.e2, ← H.e3] at h9
              exact h9
            have hCf : ∀ wx, Below w.heap.size w wx → Calls Try.prog 54 #[.agg #[.int .i64 m.cau, .int .i64 m.crd, .slice m.cba m.cbn m.cbc, .slice m.cpa m.cpn m.cpc, .slice m.cva m.cvn m.cvc]] wx fun e w' => e = .returned (.int .i64 (certF m.cau m.crd cbl cpl vl)) ∧ Below wx.heap.size wx w' := fun wx hb => by
              have h9 := certFault_any m.cau m.crd m.cba m.cbc cbl m.cpa m.cpc cpl m.cva m.cvc vl wx (H.cbat.below hb) (H.cpar.below hb) (H.vot.below hb) H.s6
              rw [← H.e4, ← H.e5, ← H.e6] at h9
              exact h9
            have HBf : Hid _ := hBf
            have HHf : Hid _ := hHf
            have HCf : Hid _ := hCf
            have HA : Hid _ := hA
            clear hBf hHf hCf H hA
            rcases hkk with h | h | h | h | h
            · have hcf : Hid (carriedF m ss bl pl cbl cpl vl = batchF m.bau m.bnu ss) := by show _ = _; simp [carriedF, h]
              have hkb1 : (m.ki == 1) = true := by simp [h]
              have hkb2 : (m.ki == 2) = false := by simp [h]
              have hkb3 : (m.ki == 3) = false := by simp [h]
              have hkb4 : (m.ki == 4) = false := by simp [h]
              clear h
              go_wp2_with fail
              refine (HBf.out _ HA.out).mono ?_
              rintro e w2 ⟨rfl, hb2⟩
              go_wp2_with fail
              go_meet
              case rel => exact ⟨by rw [hcf.out], below_alloc hb2, row_new hb2⟩
            · have hcf : Hid (carriedF m ss bl pl cbl cpl vl = headerF m.hau m.hrd bl pl) := by show _ = _; simp [carriedF, h]
              have hkb1 : (m.ki == 1) = false := by simp [h]
              have hkb2 : (m.ki == 2) = true := by simp [h]
              have hkb3 : (m.ki == 3) = false := by simp [h]
              have hkb4 : (m.ki == 4) = false := by simp [h]
              clear h
              go_wp2_with fail
              refine (HHf.out _ HA.out).mono ?_
              rintro e w2 ⟨rfl, hb2⟩
              go_wp2_with fail
              go_meet
              case rel => exact ⟨by rw [hcf.out], below_alloc hb2, row_new hb2⟩
            · have hcf : Hid (carriedF m ss bl pl cbl cpl vl = slotF m.sau m.srd m.sdn) := by show _ = _; simp [carriedF, h]
              have hkb1 : (m.ki == 1) = false := by simp [h]
              have hkb2 : (m.ki == 2) = false := by simp [h]
              have hkb3 : (m.ki == 3) = true := by simp [h]
              have hkb4 : (m.ki == 4) = false := by simp [h]
              clear h
              go_wp2_with fail
              refine (slotFault_any m.sau m.srd m.sda m.sdn m.sdc _).mono ?_
              rintro e w2 ⟨rfl, hb2⟩
              go_wp2_with fail
              go_meet
              case rel => exact ⟨by rw [hcf.out], below_alloc hb2, row_new hb2⟩
            · have hcf : Hid (carriedF m ss bl pl cbl cpl vl = certF m.cau m.crd cbl cpl vl) := by show _ = _; simp [carriedF, h]
              have hkb1 : (m.ki == 1) = false := by simp [h]
              have hkb2 : (m.ki == 2) = false := by simp [h]
              have hkb3 : (m.ki == 3) = false := by simp [h]
              have hkb4 : (m.ki == 4) = true := by simp [h]
              clear h
              go_wp2_with fail
              refine (HCf.out _ HA.out).mono ?_
              rintro e w2 ⟨rfl, hb2⟩
              go_wp2_with fail
              go_meet
              case rel => exact ⟨by rw [hcf.out], below_alloc hb2, row_new hb2⟩
            · have hkb1 : (m.ki == 1) = false := by simp [h]
              have hkb2 : (m.ki == 2) = false := by simp [h]
              have hkb3 : (m.ki == 3) = false := by simp [h]
              have hkb4 : (m.ki == 4) = false := by simp [h]
              have hkb5 : (m.ki == 5) = true := by simp [h]
              by_cases hr : 1 ≤ m.ro ∧ m.ro ≤ 1048576
              · have hcf : Hid (carriedF m ss bl pl cbl cpl vl = 0) := by show _ = _; simp [carriedF, h, hr]
                clear h
                go_wp2_with (go_at_call 32; first | (refine (in_true _ _ _ _ (by omega)).mono ?_; rintro e w' ⟨rfl, rfl⟩) | (refine (in_false _ _ _ _ (by omega)).mono ?_; rintro e w' ⟨rfl, rfl⟩))
                go_meet
                case rel => exact ⟨by rw [hcf.out], HA.out, heap_alloc_new _ _⟩
              · have hcf : Hid (carriedF m ss bl pl cbl cpl vl = 2) := by show _ = _; simp [carriedF, h, hr]
                clear h
                go_wp2_with (go_at_call 32; first | (refine (in_true _ _ _ _ (by omega)).mono ?_; rintro e w' ⟨rfl, rfl⟩) | (refine (in_false _ _ _ _ (by omega)).mono ?_; rintro e w' ⟨rfl, rfl⟩))
                go_meet
                case rel => exact ⟨by rw [hcf.out], HA.out, heap_alloc_new _ _⟩
          case rest =>
            obtain ⟨rfl, hW, r0⟩ := hcut
            have HM : Hid _ := H
            clear H q0 hA
            by_cases he : carriedF m ss bl pl cbl cpl vl = 0
            · rw [he]
              have HE : Hid _ := he
              clear he
              have c3 : wc.cell? ⟨w.heap.size, 3, none⟩ = some (.int .i64 m.bau) := cells_at r0 3 _ rfl
              have c4 : wc.cell? ⟨w.heap.size, 4, none⟩ = some (.int .i64 m.bnu) := cells_at r0 4 _ rfl
              have c5 : wc.cell? ⟨w.heap.size, 5, none⟩ = some (.slice m.bta m.btn m.btc) := cells_at r0 5 _ rfl
              have c10 : wc.cell? ⟨w.heap.size, 10, none⟩ = some (.int .i64 m.sau) := cells_at r0 10 _ rfl
              have c11 : wc.cell? ⟨w.heap.size, 11, none⟩ = some (.int .i64 m.srd) := cells_at r0 11 _ rfl
              have c12 : wc.cell? ⟨w.heap.size, 12, none⟩ = some (.slice m.sda m.sdn m.sdc) := cells_at r0 12 _ rfl
              go_upto_region 20 with fail
              go_cut [4] (fun v wx => v = .bool (decide (¬ (m.bau = 0 ∧ m.bnu = 0 ∧ m.btn = 0))) ∧ wx = wc)
              case first =>
                clear r0 hW HM HE c10 c11 c12
                generalize m.bau = xA at *
                generalize m.bnu = xB at *
                generalize m.btn = xN at *
                by_cases a1 : xA = 0
                · subst a1
                  by_cases a2 : xB = 0
                  · subst a2
                    go_wp2_with fail
                    go_meet
                    case rel => exact ⟨congrArg _ (by simp [Nat.pos_iff_ne_zero]), rfl⟩
                  · have a2I : (xB == 0) = false := by simpa using a2
                    go_wp2_with fail
                    go_meet
                    case rel => exact ⟨congrArg _ (by simp [a2]), rfl⟩
                · have a1I : (xA == 0) = false := by simpa using a1
                  go_wp2_with fail
                  go_meet
                  case rel => exact ⟨congrArg _ (by simp [a1]), rfl⟩
              case rest =>
                obtain ⟨rfl, rfl⟩ := hcut
                clear c3 c4 c5
                generalize hbb : decide (¬ (m.bau = 0 ∧ m.bnu = 0 ∧ m.btn = 0)) = bb
                have HB : Hid _ := hbb
                clear hbb
                apply_assumption
                refine wp_seq_k (fun K3 hK3 => ?_)
                go_cut [5] (fun v wx => v = .bool (decide (¬ (m.sau = 0 ∧ m.srd = 0 ∧ m.sdn = 0))) ∧ wx = wc)
                case first =>
                  clear r0 hW HM HE HB
                  generalize m.sau = xA at *
                  generalize m.srd = xB at *
                  generalize m.sdn = xN at *
                  by_cases a1 : xA = 0
                  · subst a1
                    by_cases a2 : xB = 0
                    · subst a2
                      go_wp2_with fail
                      go_meet
                      case rel => exact ⟨congrArg _ (by simp [Nat.pos_iff_ne_zero]), rfl⟩
                    · have a2I : (xB == 0) = false := by simpa using a2
                      go_wp2_with fail
                      go_meet
                      case rel => exact ⟨congrArg _ (by simp [a2]), rfl⟩
                  · have a1I : (xA == 0) = false := by simpa using a1
                    go_wp2_with fail
                    go_meet
                    case rel => exact ⟨congrArg _ (by simp [a1]), rfl⟩
                case rest =>
                  obtain ⟨rfl, rfl⟩ := hcut
                  clear c10 c11 c12
                  generalize hsb : decide (¬ (m.sau = 0 ∧ m.srd = 0 ∧ m.sdn = 0)) = sb
                  have HS : Hid _ := hsb
                  clear hsb
                  apply_assumption
                  refine wp_seq_k (fun K4 hK4 => ?_)
                  have c13 : wc.cell? ⟨w.heap.size, 13, none⟩ = some (.int .i64 m.cau) := cells_at r0 13 _ rfl
                  have c14 : wc.cell? ⟨w.heap.size, 14, none⟩ = some (.int .i64 m.crd) := cells_at r0 14 _ rfl
                  have c15 : wc.cell? ⟨w.heap.size, 15, none⟩ = some (.slice m.cba m.cbn m.cbc) := cells_at r0 15 _ rfl
                  have c16 : wc.cell? ⟨w.heap.size, 16, none⟩ = some (.slice m.cpa m.cpn m.cpc) := cells_at r0 16 _ rfl
                  have c17 : wc.cell? ⟨w.heap.size, 17, none⟩ = some (.slice m.cva m.cvn m.cvc) := cells_at r0 17 _ rfl
                  go_cut [6] (fun v wx => v = .bool (decide (¬ (m.cau = 0 ∧ m.crd = 0 ∧ m.cbn = 0 ∧ m.cpn = 0 ∧ m.cvn = 0))) ∧ Below w.heap.size w wx ∧ wx.heap[w.heap.size]? = some (.cells #[.int .i64 m.fr, .int .i64 m.tt, .int .i64 m.ki, .int .i64 m.bau, .int .i64 m.bnu, .slice m.bta m.btn m.btc, .int .i64 m.hau, .int .i64 m.hrd, .slice m.hba m.hbn m.hbc, .slice m.hpa m.hpn m.hpc, .int .i64 m.sau, .int .i64 m.srd, .slice m.sda m.sdn m.sdc, .int .i64 m.cau, .int .i64 m.crd, .slice m.cba m.cbn m.cbc, .slice m.cpa m.cpn m.cpc, .slice m.cva m.cvn m.cvc, .int .i64 m.ro] 53 (0, 0)))
                  case first =>
                    have hlt := lt_of_heap r0
                    by_cases hh : m.cau = 0 ∧ m.crd = 0 ∧ m.cbn = 0 ∧ m.cpn = 0
                    · have hH : Hid _ := hh
                      clear hh
                      go_wp2_with fail
                      refine (headerEmpty_true _ _ _ _ _ _ _ _ _ hH.out).mono ?_
                      rintro e w2 ⟨rfl, hb2⟩
                      have r2 := (hb2.block _ hlt).trans r0
                      clear c13 c14 c15 c16 c17
                      have c17 : w2.cell? ⟨w.heap.size, 17, none⟩ = some (.slice m.cva m.cvn m.cvc) := cells_at r2 17 _ rfl
                      go_wp2_with fail
                      go_meet
                      case rel => exact ⟨congrArg _ (by simp [hH.out, Nat.pos_iff_ne_zero]), hW.trans (hb2.mono hW.size), r2⟩
                    · have hH : Hid _ := hh
                      clear hh
                      go_wp2_with fail
                      refine (headerEmpty_false _ _ _ _ _ _ _ _ _ hH.out).mono ?_
                      rintro e w2 ⟨rfl, hb2⟩
                      have r2 := (hb2.block _ hlt).trans r0
                      clear c13 c14 c15 c16 c17
                      go_wp2_with fail
                      go_meet
                      case rel => exact ⟨congrArg _ (by rw [decide_eq_true]; exact fun h => hH.out ⟨h.1, h.2.1, h.2.2.1, h.2.2.2.1⟩), hW.trans (hb2.mono hW.size), r2⟩
                  case rest =>
                    obtain ⟨rfl, hW3, r3⟩ := hcut
                    clear c13 c14 c15 c16 c17 r0 hW
                    generalize hcb : decide (¬ (m.cau = 0 ∧ m.crd = 0 ∧ m.cbn = 0 ∧ m.cpn = 0 ∧ m.cvn = 0)) = cb
                    have HC : Hid _ := hcb
                    clear hcb
                    have hkk : m.ki = 1 ∨ m.ki = 2 ∨ m.ki = 3 ∨ m.ki = 4 ∨ m.ki = 5 := by omega
                    have hF : Hid (checkF m (carriedF m ss bl pl cbl cpl vl) = if (bb = true ∧ m.ki ≠ 1) ∨ (¬ (m.hau = 0 ∧ m.hrd = 0 ∧ m.hbn = 0 ∧ m.hpn = 0) ∧ m.ki ≠ 2) ∨ (sb = true ∧ m.ki ≠ 3) ∨ (cb = true ∧ m.ki ≠ 4) ∨ (m.ro ≠ 0 ∧ m.ki ≠ 5) then 4 else 0) := by
                      show _ = _
                      rw [HE.out, checkF, if_neg (by omega), if_neg (by omega), ← HB.out, ← HS.out, ← HC.out]
                      simp only [decide_eq_true_eq]
                      rcases hkk with h | h | h | h | h <;> simp only [msgEmpty, strip, h] <;> simp <;> split <;> split <;> omega
                    have hlt := lt_of_heap r3
                    have c2 : wc.cell? ⟨w.heap.size, 2, none⟩ = some (.int .i64 m.ki) := cells_at r3 2 _ rfl
                    have c6 : wc.cell? ⟨w.heap.size, 6, none⟩ = some (.int .i64 m.hau) := cells_at r3 6 _ rfl
                    have c7 : wc.cell? ⟨w.heap.size, 7, none⟩ = some (.int .i64 m.hrd) := cells_at r3 7 _ rfl
                    have c8 : wc.cell? ⟨w.heap.size, 8, none⟩ = some (.slice m.hba m.hbn m.hbc) := cells_at r3 8 _ rfl
                    have c9 : wc.cell? ⟨w.heap.size, 9, none⟩ = some (.slice m.hpa m.hpn m.hpc) := cells_at r3 9 _ rfl
                    have c18 : wc.cell? ⟨w.heap.size, 18, none⟩ = some (.int .i64 m.ro) := cells_at r3 18 _ rfl
                    apply_assumption
                    rcases hkk with h | h | h | h | h
                    · have hkb1 : (m.ki == 1) = true := by simp [h]
                      have hkn1 : (m.ki != 1) = false := by simp [h]
                      have hkb2 : (m.ki == 2) = false := by simp [h]
                      have hkn2 : (m.ki != 2) = true := by simp [h]
                      have hkb3 : (m.ki == 3) = false := by simp [h]
                      have hkn3 : (m.ki != 3) = true := by simp [h]
                      have hkb4 : (m.ki == 4) = false := by simp [h]
                      have hkn4 : (m.ki != 4) = true := by simp [h]
                      have hkb5 : (m.ki == 5) = false := by simp [h]
                      have hkn5 : (m.ki != 5) = true := by simp [h]
                      have hO : Hid _ := h
                      clear h
                      cases bb
                      · by_cases hh : m.hau = 0 ∧ m.hrd = 0 ∧ m.hbn = 0 ∧ m.hpn = 0
                        · have hH : Hid (m.hau = 0 ∧ m.hrd = 0 ∧ m.hbn = 0 ∧ m.hpn = 0) := hh
                          clear hh
                          go_wp2_with fail
                          refine (headerEmpty_true _ _ _ _ _ _ _ _ _ hH.out).mono ?_
                          rintro e w2 ⟨rfl, hb2⟩
                          have r2 := (hb2.block _ hlt).trans r3
                          have hW2 := hW3.trans (hb2.mono hW3.size)
                          clear c2 c6 c7 c8 c9 c18
                          have c2 : w2.cell? ⟨w.heap.size, 2, none⟩ = some (.int .i64 m.ki) := cells_at r2 2 _ rfl
                          have c18 : w2.cell? ⟨w.heap.size, 18, none⟩ = some (.int .i64 m.ro) := cells_at r2 18 _ rfl
                          cases sb
                          · cases cb
                            · by_cases hr : m.ro = 0
                              · have hrb : (m.ro == 0) = true := by simp [hr]
                                have hrn : (m.ro != 0) = false := by simp [hr]
                                have hR : Hid (m.ro = 0) := hr
                                clear hr
                                go_wp2_with fail
                                go_ret
                                exact ⟨ret_int (hF.out.trans (by simp [hO.out, hH.out, hR.out])).symm, hW2⟩
                              · have hrb : (m.ro == 0) = false := by simpa using hr
                                have hrn : (m.ro != 0) = true := by simp [hr]
                                have hR : Hid (¬ m.ro = 0) := hr
                                clear hr
                                go_wp2_with fail
                                go_ret
                                exact ⟨ret_int (hF.out.trans (by simp [hO.out, hH.out, hR.out])).symm, hW2⟩
                            · go_wp2_with fail
                              go_ret
                              exact ⟨ret_int (hF.out.trans (by simp [hO.out, hH.out])).symm, hW2⟩
                          · go_wp2_with fail
                            go_ret
                            exact ⟨ret_int (hF.out.trans (by simp [hO.out, hH.out])).symm, hW2⟩
                        · have hH : Hid (¬ (m.hau = 0 ∧ m.hrd = 0 ∧ m.hbn = 0 ∧ m.hpn = 0)) := hh
                          clear hh
                          go_wp2_with fail
                          refine (headerEmpty_false _ _ _ _ _ _ _ _ _ hH.out).mono ?_
                          rintro e w2 ⟨rfl, hb2⟩
                          have r2 := (hb2.block _ hlt).trans r3
                          have hW2 := hW3.trans (hb2.mono hW3.size)
                          clear c2 c6 c7 c8 c9 c18
                          have c2 : w2.cell? ⟨w.heap.size, 2, none⟩ = some (.int .i64 m.ki) := cells_at r2 2 _ rfl
                          have c18 : w2.cell? ⟨w.heap.size, 18, none⟩ = some (.int .i64 m.ro) := cells_at r2 18 _ rfl
                          go_wp2_with fail
                          go_ret
                          exact ⟨ret_int (hF.out.trans (by simp [hO.out, hH.out])).symm, hW2⟩
                      · by_cases hh : m.hau = 0 ∧ m.hrd = 0 ∧ m.hbn = 0 ∧ m.hpn = 0
                        · have hH : Hid (m.hau = 0 ∧ m.hrd = 0 ∧ m.hbn = 0 ∧ m.hpn = 0) := hh
                          clear hh
                          go_wp2_with fail
                          refine (headerEmpty_true _ _ _ _ _ _ _ _ _ hH.out).mono ?_
                          rintro e w2 ⟨rfl, hb2⟩
                          have r2 := (hb2.block _ hlt).trans r3
                          have hW2 := hW3.trans (hb2.mono hW3.size)
                          clear c2 c6 c7 c8 c9 c18
                          have c2 : w2.cell? ⟨w.heap.size, 2, none⟩ = some (.int .i64 m.ki) := cells_at r2 2 _ rfl
                          have c18 : w2.cell? ⟨w.heap.size, 18, none⟩ = some (.int .i64 m.ro) := cells_at r2 18 _ rfl
                          cases sb
                          · cases cb
                            · by_cases hr : m.ro = 0
                              · have hrb : (m.ro == 0) = true := by simp [hr]
                                have hrn : (m.ro != 0) = false := by simp [hr]
                                have hR : Hid (m.ro = 0) := hr
                                clear hr
                                go_wp2_with fail
                                go_ret
                                exact ⟨ret_int (hF.out.trans (by simp [hO.out, hH.out, hR.out])).symm, hW2⟩
                              · have hrb : (m.ro == 0) = false := by simpa using hr
                                have hrn : (m.ro != 0) = true := by simp [hr]
                                have hR : Hid (¬ m.ro = 0) := hr
                                clear hr
                                go_wp2_with fail
                                go_ret
                                exact ⟨ret_int (hF.out.trans (by simp [hO.out, hH.out, hR.out])).symm, hW2⟩
                            · go_wp2_with fail
                              go_ret
                              exact ⟨ret_int (hF.out.trans (by simp [hO.out, hH.out])).symm, hW2⟩
                          · go_wp2_with fail
                            go_ret
                            exact ⟨ret_int (hF.out.trans (by simp [hO.out, hH.out])).symm, hW2⟩
                        · have hH : Hid (¬ (m.hau = 0 ∧ m.hrd = 0 ∧ m.hbn = 0 ∧ m.hpn = 0)) := hh
                          clear hh
                          go_wp2_with fail
                          refine (headerEmpty_false _ _ _ _ _ _ _ _ _ hH.out).mono ?_
                          rintro e w2 ⟨rfl, hb2⟩
                          have r2 := (hb2.block _ hlt).trans r3
                          have hW2 := hW3.trans (hb2.mono hW3.size)
                          clear c2 c6 c7 c8 c9 c18
                          have c2 : w2.cell? ⟨w.heap.size, 2, none⟩ = some (.int .i64 m.ki) := cells_at r2 2 _ rfl
                          have c18 : w2.cell? ⟨w.heap.size, 18, none⟩ = some (.int .i64 m.ro) := cells_at r2 18 _ rfl
                          go_wp2_with fail
                          go_ret
                          exact ⟨ret_int (hF.out.trans (by simp [hO.out, hH.out])).symm, hW2⟩
                    · have hkb1 : (m.ki == 1) = false := by simp [h]
                      have hkn1 : (m.ki != 1) = true := by simp [h]
                      have hkb2 : (m.ki == 2) = true := by simp [h]
                      have hkn2 : (m.ki != 2) = false := by simp [h]
                      have hkb3 : (m.ki == 3) = false := by simp [h]
                      have hkn3 : (m.ki != 3) = true := by simp [h]
                      have hkb4 : (m.ki == 4) = false := by simp [h]
                      have hkn4 : (m.ki != 4) = true := by simp [h]
                      have hkb5 : (m.ki == 5) = false := by simp [h]
                      have hkn5 : (m.ki != 5) = true := by simp [h]
                      have hO : Hid _ := h
                      clear h
                      cases bb
                      · by_cases hh : m.hau = 0 ∧ m.hrd = 0 ∧ m.hbn = 0 ∧ m.hpn = 0
                        · have hH : Hid (m.hau = 0 ∧ m.hrd = 0 ∧ m.hbn = 0 ∧ m.hpn = 0) := hh
                          clear hh
                          go_wp2_with fail
                          refine (headerEmpty_true _ _ _ _ _ _ _ _ _ hH.out).mono ?_
                          rintro e w2 ⟨rfl, hb2⟩
                          have r2 := (hb2.block _ hlt).trans r3
                          have hW2 := hW3.trans (hb2.mono hW3.size)
                          clear c2 c6 c7 c8 c9 c18
                          have c2 : w2.cell? ⟨w.heap.size, 2, none⟩ = some (.int .i64 m.ki) := cells_at r2 2 _ rfl
                          have c18 : w2.cell? ⟨w.heap.size, 18, none⟩ = some (.int .i64 m.ro) := cells_at r2 18 _ rfl
                          cases sb
                          · cases cb
                            · by_cases hr : m.ro = 0
                              · have hrb : (m.ro == 0) = true := by simp [hr]
                                have hrn : (m.ro != 0) = false := by simp [hr]
                                have hR : Hid (m.ro = 0) := hr
                                clear hr
                                go_wp2_with fail
                                go_ret
                                exact ⟨ret_int (hF.out.trans (by simp [hO.out, hR.out])).symm, hW2⟩
                              · have hrb : (m.ro == 0) = false := by simpa using hr
                                have hrn : (m.ro != 0) = true := by simp [hr]
                                have hR : Hid (¬ m.ro = 0) := hr
                                clear hr
                                go_wp2_with fail
                                go_ret
                                exact ⟨ret_int (hF.out.trans (by simp [hO.out, hR.out])).symm, hW2⟩
                            · go_wp2_with fail
                              go_ret
                              exact ⟨ret_int (hF.out.trans (by simp [hO.out])).symm, hW2⟩
                          · go_wp2_with fail
                            go_ret
                            exact ⟨ret_int (hF.out.trans (by simp [hO.out])).symm, hW2⟩
                        · have hH : Hid (¬ (m.hau = 0 ∧ m.hrd = 0 ∧ m.hbn = 0 ∧ m.hpn = 0)) := hh
                          clear hh
                          go_wp2_with fail
                          refine (headerEmpty_false _ _ _ _ _ _ _ _ _ hH.out).mono ?_
                          rintro e w2 ⟨rfl, hb2⟩
                          have r2 := (hb2.block _ hlt).trans r3
                          have hW2 := hW3.trans (hb2.mono hW3.size)
                          clear c2 c6 c7 c8 c9 c18
                          have c2 : w2.cell? ⟨w.heap.size, 2, none⟩ = some (.int .i64 m.ki) := cells_at r2 2 _ rfl
                          have c18 : w2.cell? ⟨w.heap.size, 18, none⟩ = some (.int .i64 m.ro) := cells_at r2 18 _ rfl
                          cases sb
                          · cases cb
                            · by_cases hr : m.ro = 0
                              · have hrb : (m.ro == 0) = true := by simp [hr]
                                have hrn : (m.ro != 0) = false := by simp [hr]
                                have hR : Hid (m.ro = 0) := hr
                                clear hr
                                go_wp2_with fail
                                go_ret
                                exact ⟨ret_int (hF.out.trans (by simp [hO.out, hR.out])).symm, hW2⟩
                              · have hrb : (m.ro == 0) = false := by simpa using hr
                                have hrn : (m.ro != 0) = true := by simp [hr]
                                have hR : Hid (¬ m.ro = 0) := hr
                                clear hr
                                go_wp2_with fail
                                go_ret
                                exact ⟨ret_int (hF.out.trans (by simp [hO.out, hR.out])).symm, hW2⟩
                            · go_wp2_with fail
                              go_ret
                              exact ⟨ret_int (hF.out.trans (by simp [hO.out])).symm, hW2⟩
                          · go_wp2_with fail
                            go_ret
                            exact ⟨ret_int (hF.out.trans (by simp [hO.out])).symm, hW2⟩
                      · go_wp2_with fail
                        go_ret
                        exact ⟨ret_int (hF.out.trans (by simp [hO.out])).symm, hW3⟩
                    · have hkb1 : (m.ki == 1) = false := by simp [h]
                      have hkn1 : (m.ki != 1) = true := by simp [h]
                      have hkb2 : (m.ki == 2) = false := by simp [h]
                      have hkn2 : (m.ki != 2) = true := by simp [h]
                      have hkb3 : (m.ki == 3) = true := by simp [h]
                      have hkn3 : (m.ki != 3) = false := by simp [h]
                      have hkb4 : (m.ki == 4) = false := by simp [h]
                      have hkn4 : (m.ki != 4) = true := by simp [h]
                      have hkb5 : (m.ki == 5) = false := by simp [h]
                      have hkn5 : (m.ki != 5) = true := by simp [h]
                      have hO : Hid _ := h
                      clear h
                      cases bb
                      · by_cases hh : m.hau = 0 ∧ m.hrd = 0 ∧ m.hbn = 0 ∧ m.hpn = 0
                        · have hH : Hid (m.hau = 0 ∧ m.hrd = 0 ∧ m.hbn = 0 ∧ m.hpn = 0) := hh
                          clear hh
                          go_wp2_with fail
                          refine (headerEmpty_true _ _ _ _ _ _ _ _ _ hH.out).mono ?_
                          rintro e w2 ⟨rfl, hb2⟩
                          have r2 := (hb2.block _ hlt).trans r3
                          have hW2 := hW3.trans (hb2.mono hW3.size)
                          clear c2 c6 c7 c8 c9 c18
                          have c2 : w2.cell? ⟨w.heap.size, 2, none⟩ = some (.int .i64 m.ki) := cells_at r2 2 _ rfl
                          have c18 : w2.cell? ⟨w.heap.size, 18, none⟩ = some (.int .i64 m.ro) := cells_at r2 18 _ rfl
                          cases sb
                          · cases cb
                            · by_cases hr : m.ro = 0
                              · have hrb : (m.ro == 0) = true := by simp [hr]
                                have hrn : (m.ro != 0) = false := by simp [hr]
                                have hR : Hid (m.ro = 0) := hr
                                clear hr
                                go_wp2_with fail
                                go_ret
                                exact ⟨ret_int (hF.out.trans (by simp [hO.out, hH.out, hR.out])).symm, hW2⟩
                              · have hrb : (m.ro == 0) = false := by simpa using hr
                                have hrn : (m.ro != 0) = true := by simp [hr]
                                have hR : Hid (¬ m.ro = 0) := hr
                                clear hr
                                go_wp2_with fail
                                go_ret
                                exact ⟨ret_int (hF.out.trans (by simp [hO.out, hH.out, hR.out])).symm, hW2⟩
                            · go_wp2_with fail
                              go_ret
                              exact ⟨ret_int (hF.out.trans (by simp [hO.out, hH.out])).symm, hW2⟩
                          · cases cb
                            · by_cases hr : m.ro = 0
                              · have hrb : (m.ro == 0) = true := by simp [hr]
                                have hrn : (m.ro != 0) = false := by simp [hr]
                                have hR : Hid (m.ro = 0) := hr
                                clear hr
                                go_wp2_with fail
                                go_ret
                                exact ⟨ret_int (hF.out.trans (by simp [hO.out, hH.out, hR.out])).symm, hW2⟩
                              · have hrb : (m.ro == 0) = false := by simpa using hr
                                have hrn : (m.ro != 0) = true := by simp [hr]
                                have hR : Hid (¬ m.ro = 0) := hr
                                clear hr
                                go_wp2_with fail
                                go_ret
                                exact ⟨ret_int (hF.out.trans (by simp [hO.out, hH.out, hR.out])).symm, hW2⟩
                            · go_wp2_with fail
                              go_ret
                              exact ⟨ret_int (hF.out.trans (by simp [hO.out, hH.out])).symm, hW2⟩
                        · have hH : Hid (¬ (m.hau = 0 ∧ m.hrd = 0 ∧ m.hbn = 0 ∧ m.hpn = 0)) := hh
                          clear hh
                          go_wp2_with fail
                          refine (headerEmpty_false _ _ _ _ _ _ _ _ _ hH.out).mono ?_
                          rintro e w2 ⟨rfl, hb2⟩
                          have r2 := (hb2.block _ hlt).trans r3
                          have hW2 := hW3.trans (hb2.mono hW3.size)
                          clear c2 c6 c7 c8 c9 c18
                          have c2 : w2.cell? ⟨w.heap.size, 2, none⟩ = some (.int .i64 m.ki) := cells_at r2 2 _ rfl
                          have c18 : w2.cell? ⟨w.heap.size, 18, none⟩ = some (.int .i64 m.ro) := cells_at r2 18 _ rfl
                          go_wp2_with fail
                          go_ret
                          exact ⟨ret_int (hF.out.trans (by simp [hO.out, hH.out])).symm, hW2⟩
                      · go_wp2_with fail
                        go_ret
                        exact ⟨ret_int (hF.out.trans (by simp [hO.out])).symm, hW3⟩
                    · have hkb1 : (m.ki == 1) = false := by simp [h]
                      have hkn1 : (m.ki != 1) = true := by simp [h]
                      have hkb2 : (m.ki == 2) = false := by simp [h]
                      have hkn2 : (m.ki != 2) = true := by simp [h]
                      have hkb3 : (m.ki == 3) = false := by simp [h]
                      have hkn3 : (m.ki != 3) = true := by simp [h]
                      have hkb4 : (m.ki == 4) = true := by simp [h]
                      have hkn4 : (m.ki != 4) = false := by simp [h]
                      have hkb5 : (m.ki == 5) = false := by simp [h]
                      have hkn5 : (m.ki != 5) = true := by simp [h]
                      have hO : Hid _ := h
                      clear h
                      cases bb
                      · by_cases hh : m.hau = 0 ∧ m.hrd = 0 ∧ m.hbn = 0 ∧ m.hpn = 0
                        · have hH : Hid (m.hau = 0 ∧ m.hrd = 0 ∧ m.hbn = 0 ∧ m.hpn = 0) := hh
                          clear hh
                          go_wp2_with fail
                          refine (headerEmpty_true _ _ _ _ _ _ _ _ _ hH.out).mono ?_
                          rintro e w2 ⟨rfl, hb2⟩
                          have r2 := (hb2.block _ hlt).trans r3
                          have hW2 := hW3.trans (hb2.mono hW3.size)
                          clear c2 c6 c7 c8 c9 c18
                          have c2 : w2.cell? ⟨w.heap.size, 2, none⟩ = some (.int .i64 m.ki) := cells_at r2 2 _ rfl
                          have c18 : w2.cell? ⟨w.heap.size, 18, none⟩ = some (.int .i64 m.ro) := cells_at r2 18 _ rfl
                          cases sb
                          · cases cb
                            · by_cases hr : m.ro = 0
                              · have hrb : (m.ro == 0) = true := by simp [hr]
                                have hrn : (m.ro != 0) = false := by simp [hr]
                                have hR : Hid (m.ro = 0) := hr
                                clear hr
                                go_wp2_with fail
                                go_ret
                                exact ⟨ret_int (hF.out.trans (by simp [hO.out, hH.out, hR.out])).symm, hW2⟩
                              · have hrb : (m.ro == 0) = false := by simpa using hr
                                have hrn : (m.ro != 0) = true := by simp [hr]
                                have hR : Hid (¬ m.ro = 0) := hr
                                clear hr
                                go_wp2_with fail
                                go_ret
                                exact ⟨ret_int (hF.out.trans (by simp [hO.out, hH.out, hR.out])).symm, hW2⟩
                            · by_cases hr : m.ro = 0
                              · have hrb : (m.ro == 0) = true := by simp [hr]
                                have hrn : (m.ro != 0) = false := by simp [hr]
                                have hR : Hid (m.ro = 0) := hr
                                clear hr
                                go_wp2_with fail
                                go_ret
                                exact ⟨ret_int (hF.out.trans (by simp [hO.out, hH.out, hR.out])).symm, hW2⟩
                              · have hrb : (m.ro == 0) = false := by simpa using hr
                                have hrn : (m.ro != 0) = true := by simp [hr]
                                have hR : Hid (¬ m.ro = 0) := hr
                                clear hr
                                go_wp2_with fail
                                go_ret
                                exact ⟨ret_int (hF.out.trans (by simp [hO.out, hH.out, hR.out])).symm, hW2⟩
                          · go_wp2_with fail
                            go_ret
                            exact ⟨ret_int (hF.out.trans (by simp [hO.out, hH.out])).symm, hW2⟩
                        · have hH : Hid (¬ (m.hau = 0 ∧ m.hrd = 0 ∧ m.hbn = 0 ∧ m.hpn = 0)) := hh
                          clear hh
                          go_wp2_with fail
                          refine (headerEmpty_false _ _ _ _ _ _ _ _ _ hH.out).mono ?_
                          rintro e w2 ⟨rfl, hb2⟩
                          have r2 := (hb2.block _ hlt).trans r3
                          have hW2 := hW3.trans (hb2.mono hW3.size)
                          clear c2 c6 c7 c8 c9 c18
                          have c2 : w2.cell? ⟨w.heap.size, 2, none⟩ = some (.int .i64 m.ki) := cells_at r2 2 _ rfl
                          have c18 : w2.cell? ⟨w.heap.size, 18, none⟩ = some (.int .i64 m.ro) := cells_at r2 18 _ rfl
                          go_wp2_with fail
                          go_ret
                          exact ⟨ret_int (hF.out.trans (by simp [hO.out, hH.out])).symm, hW2⟩
                      · go_wp2_with fail
                        go_ret
                        exact ⟨ret_int (hF.out.trans (by simp [hO.out])).symm, hW3⟩
                    · have hkb1 : (m.ki == 1) = false := by simp [h]
                      have hkn1 : (m.ki != 1) = true := by simp [h]
                      have hkb2 : (m.ki == 2) = false := by simp [h]
                      have hkn2 : (m.ki != 2) = true := by simp [h]
                      have hkb3 : (m.ki == 3) = false := by simp [h]
                      have hkn3 : (m.ki != 3) = true := by simp [h]
                      have hkb4 : (m.ki == 4) = false := by simp [h]
                      have hkn4 : (m.ki != 4) = true := by simp [h]
                      have hkb5 : (m.ki == 5) = true := by simp [h]
                      have hkn5 : (m.ki != 5) = false := by simp [h]
                      have hO : Hid _ := h
                      clear h
                      cases bb
                      · by_cases hh : m.hau = 0 ∧ m.hrd = 0 ∧ m.hbn = 0 ∧ m.hpn = 0
                        · have hH : Hid (m.hau = 0 ∧ m.hrd = 0 ∧ m.hbn = 0 ∧ m.hpn = 0) := hh
                          clear hh
                          go_wp2_with fail
                          refine (headerEmpty_true _ _ _ _ _ _ _ _ _ hH.out).mono ?_
                          rintro e w2 ⟨rfl, hb2⟩
                          have r2 := (hb2.block _ hlt).trans r3
                          have hW2 := hW3.trans (hb2.mono hW3.size)
                          clear c2 c6 c7 c8 c9 c18
                          have c2 : w2.cell? ⟨w.heap.size, 2, none⟩ = some (.int .i64 m.ki) := cells_at r2 2 _ rfl
                          have c18 : w2.cell? ⟨w.heap.size, 18, none⟩ = some (.int .i64 m.ro) := cells_at r2 18 _ rfl
                          cases sb
                          · cases cb
                            · by_cases hr : m.ro = 0
                              · have hrb : (m.ro == 0) = true := by simp [hr]
                                have hrn : (m.ro != 0) = false := by simp [hr]
                                have hR : Hid (m.ro = 0) := hr
                                clear hr
                                go_wp2_with fail
                                go_ret
                                exact ⟨ret_int (hF.out.trans (by simp [hO.out, hH.out])).symm, hW2⟩
                              · have hrb : (m.ro == 0) = false := by simpa using hr
                                have hrn : (m.ro != 0) = true := by simp [hr]
                                have hR : Hid (¬ m.ro = 0) := hr
                                clear hr
                                go_wp2_with fail
                                go_ret
                                exact ⟨ret_int (hF.out.trans (by simp [hO.out, hH.out])).symm, hW2⟩
                            · go_wp2_with fail
                              go_ret
                              exact ⟨ret_int (hF.out.trans (by simp [hO.out, hH.out])).symm, hW2⟩
                          · go_wp2_with fail
                            go_ret
                            exact ⟨ret_int (hF.out.trans (by simp [hO.out, hH.out])).symm, hW2⟩
                        · have hH : Hid (¬ (m.hau = 0 ∧ m.hrd = 0 ∧ m.hbn = 0 ∧ m.hpn = 0)) := hh
                          clear hh
                          go_wp2_with fail
                          refine (headerEmpty_false _ _ _ _ _ _ _ _ _ hH.out).mono ?_
                          rintro e w2 ⟨rfl, hb2⟩
                          have r2 := (hb2.block _ hlt).trans r3
                          have hW2 := hW3.trans (hb2.mono hW3.size)
                          clear c2 c6 c7 c8 c9 c18
                          have c2 : w2.cell? ⟨w.heap.size, 2, none⟩ = some (.int .i64 m.ki) := cells_at r2 2 _ rfl
                          have c18 : w2.cell? ⟨w.heap.size, 18, none⟩ = some (.int .i64 m.ro) := cells_at r2 18 _ rfl
                          go_wp2_with fail
                          go_ret
                          exact ⟨ret_int (hF.out.trans (by simp [hO.out, hH.out])).symm, hW2⟩
                      · go_wp2_with fail
                        go_ret
                        exact ⟨ret_int (hF.out.trans (by simp [hO.out])).symm, hW3⟩
            · have hF : Hid (checkF m (carriedF m ss bl pl cbl cpl vl) = carriedF m ss bl pl cbl cpl vl) := by show _ = _; rw [checkF, if_neg (by omega), if_pos he]
              have heb : (carriedF m ss bl pl cbl cpl vl == 0) = false := by simpa using he
              go_wp2_with fail
              go_ret
              exact ⟨ret_int hF.out.symm, hW⟩
      · have hF : Hid (checkF m (carriedF m ss bl pl cbl cpl vl) = 3) := by
          show _ = _
          have h3 : carriedF m ss bl pl cbl cpl vl = 3 := by rw [carriedF, if_neg (by omega), if_neg (by omega), if_neg (by omega), if_neg (by omega), if_neg (by omega)]
          rw [h3, checkF, if_neg (by omega)]
          simp
        go_enter Try.func37, Try.ntmps37
        go_wp2_with (go_at_call 32; first | (refine (in_true _ _ _ _ (by omega)).mono ?_; rintro e w' ⟨rfl, rfl⟩) | (refine (in_false _ _ _ _ (by omega)).mono ?_; rintro e w' ⟨rfl, rfl⟩))
        go_ret
        exact ⟨ret_int hF.out.symm, hA⟩
    · have hF : Hid (checkF m (carriedF m ss bl pl cbl cpl vl) = 2) := by show _ = _; rw [checkF, if_pos (by omega)]
      go_enter Try.func37, Try.ntmps37
      go_wp2_with (go_at_call 32; first | (refine (in_true _ _ _ _ (by omega)).mono ?_; rintro e w' ⟨rfl, rfl⟩) | (refine (in_false _ _ _ _ (by omega)).mono ?_; rintro e w' ⟨rfl, rfl⟩))
      go_ret
      exact ⟨ret_int hF.out.symm, hA⟩
  · have hF : Hid (checkF m (carriedF m ss bl pl cbl cpl vl) = 2) := by show _ = _; rw [checkF, if_pos (by omega)]
    go_enter Try.func37, Try.ntmps37
    go_wp2_with (go_at_call 32; first | (refine (in_true _ _ _ _ (by omega)).mono ?_; rintro e w' ⟨rfl, rfl⟩) | (refine (in_false _ _ _ _ (by omega)).mono ?_; rintro e w' ⟨rfl, rfl⟩))
    go_ret
    exact ⟨ret_int hF.out.symm, hA⟩
end Go.Proofs.Ytldlknmpkoebbaa

namespace Go.Proofs.Ytldlknmpkoebbaa
open Go.RowKit

set_option maxRecDepth 100000 in
set_option maxHeartbeats 1000000 in
theorem recordFault_any (m : Msg) (ss : List ByteArray) (bl pl cbl cpl : List Part) (vl : List Int) (w : World) (H : MsgAt w m ss bl pl cbl cpl vl) :
    Calls Try.prog 23 #[.agg #[.int .i64 m.fr, .int .i64 m.tt, .int .i64 m.ki, .int .i64 m.bau, .int .i64 m.bnu, .slice m.bta m.btn m.btc, .int .i64 m.hau, .int .i64 m.hrd, .slice m.hba m.hbn m.hbc, .slice m.hpa m.hpn m.hpc, .int .i64 m.sau, .int .i64 m.srd, .slice m.sda m.sdn m.sdc, .int .i64 m.cau, .int .i64 m.crd, .slice m.cba m.cbn m.cbc, .slice m.cpa m.cpn m.cpc, .slice m.cva m.cvn m.cvc, .int .i64 m.ro]] w fun e w' => e = .returned (.int .i64 (recF m (checkF m (carriedF m ss bl pl cbl cpl vl)))) ∧ Below w.heap.size w w' := by
  have hA : Below w.heap.size w (w.alloc (.cells #[.int .i64 m.fr, .int .i64 m.tt, .int .i64 m.ki, .int .i64 m.bau, .int .i64 m.bnu, .slice m.bta m.btn m.btc, .int .i64 m.hau, .int .i64 m.hrd, .slice m.hba m.hbn m.hbc, .slice m.hpa m.hpn m.hpc, .int .i64 m.sau, .int .i64 m.srd, .slice m.sda m.sdn m.sdc, .int .i64 m.cau, .int .i64 m.crd, .slice m.cba m.cbn m.cbc, .slice m.cpa m.cpn m.cpc, .slice m.cva m.cvn m.cvc, .int .i64 m.ro] 53)) := (Below.refl _ _).alloc (Nat.le_refl _) _
  have q0 := heap_alloc_new w (.cells #[.int .i64 m.fr, .int .i64 m.tt, .int .i64 m.ki, .int .i64 m.bau, .int .i64 m.bnu, .slice m.bta m.btn m.btc, .int .i64 m.hau, .int .i64 m.hrd, .slice m.hba m.hbn m.hbc, .slice m.hpa m.hpn m.hpc, .int .i64 m.sau, .int .i64 m.srd, .slice m.sda m.sdn m.sdc, .int .i64 m.cau, .int .i64 m.crd, .slice m.cba m.cbn m.cbc, .slice m.cpa m.cpn m.cpc, .slice m.cva m.cvn m.cvc, .int .i64 m.ro] 53)
  have hC := messageFault_any m ss bl pl cbl cpl vl _ (H.below hA)
  generalize checkF m (carriedF m ss bl pl cbl cpl vl) = R at hC ⊢
  clear H
  have hF : Hid (recF m R = if R ≠ 0 then R else if m.fr ≠ 0 ∨ m.tt ≠ 0 ∨ m.ki = 5 then 4 else 0) := by show _ = _; rfl
  generalize recF m R = X at hF ⊢
  go_enter Try.func23, Try.ntmps23
  go_wp2_with (refine wpList_load_row rfl 53 _ rfl w.heap.size rfl 53 #[.int .i64 m.fr, .int .i64 m.tt, .int .i64 m.ki, .int .i64 m.bau, .int .i64 m.bnu, .slice m.bta m.btn m.btc, .int .i64 m.hau, .int .i64 m.hrd, .slice m.hba m.hbn m.hbc, .slice m.hpa m.hpn m.hpc, .int .i64 m.sau, .int .i64 m.srd, .slice m.sda m.sdn m.sdc, .int .i64 m.cau, .int .i64 m.crd, .slice m.cba m.cbn m.cbc, .slice m.cpa m.cpn m.cpc, .slice m.cva m.cvn m.cvc, .int .i64 m.ro] (0, 0) _ q0 Try.underlying53 rfl sMsg ?_)
  generalize w.alloc (.cells #[.int .i64 m.fr, .int .i64 m.tt, .int .i64 m.ki, .int .i64 m.bau, .int .i64 m.bnu, .slice m.bta m.btn m.btc, .int .i64 m.hau, .int .i64 m.hrd, .slice m.hba m.hbn m.hbc, .slice m.hpa m.hpn m.hpc, .int .i64 m.sau, .int .i64 m.srd, .slice m.sda m.sdn m.sdc, .int .i64 m.cau, .int .i64 m.crd, .slice m.cba m.cbn m.cbc, .slice m.cpa m.cpn m.cpc, .slice m.cva m.cvn m.cvc, .int .i64 m.ro] 53) = W0 at hA q0 hC ⊢
  refine hC.mono ?_
  rintro e w1 ⟨he, hb1⟩
  subst he
  dsimp only
  have q1 := (hb1.block _ (lt_of_heap q0)).trans q0
  have c0 : w1.cell? ⟨w.heap.size, 0, none⟩ = some (.int .i64 m.fr) := cells_at q1 0 _ rfl
  have c1 : w1.cell? ⟨w.heap.size, 1, none⟩ = some (.int .i64 m.tt) := cells_at q1 1 _ rfl
  have c2 : w1.cell? ⟨w.heap.size, 2, none⟩ = some (.int .i64 m.ki) := cells_at q1 2 _ rfl
  have hB := hA.trans (hb1.mono hA.size)
  clear q0 q1 hA hb1 hC
  generalize m.fr = a at c0 hF ⊢
  generalize m.tt = b at c1 hF ⊢
  generalize m.ki = k at c2 hF ⊢
  by_cases hR : R = 0
  · subst hR
    by_cases h0 : a = 0
    · by_cases h1 : b = 0
      · by_cases h2 : k = 5
        · go_wp2_with fail
          go_ret
          exact ⟨ret_int (by rw [hF.out]; simp [h2]), hB⟩
        · go_wp2_with fail
          go_ret
          exact ⟨ret_int (by rw [hF.out]; simp [h0, h1, h2]), hB⟩
      · go_wp2_with fail
        go_ret
        exact ⟨ret_int (by rw [hF.out]; simp [h1]), hB⟩
    · go_wp2_with fail
      go_ret
      exact ⟨ret_int (by rw [hF.out]; simp [h0]), hB⟩
  · go_wp2_with fail
    go_ret
    exact ⟨ret_int (by rw [hF.out]; simp [hR]), hB⟩
end Go.Proofs.Ytldlknmpkoebbaa

namespace Go.Proofs.Ytldlknmpkoebbaa
open Go.RowKit

set_option maxRecDepth 100000 in
set_option maxHeartbeats 1000000 in
theorem joined_any (xs ys : List Int) (sa sb : Option Addr) (n m c d : Nat) (w : World) (hn : n = xs.length) (hm : m = ys.length) (ha : SliceAt w sa c xs) (hb : SliceAt w sb d ys) (hl : xs.length + ys.length ≤ 140737488355328) :
    Calls Try.prog 24 #[.slice sa n c, .slice sb m d] w fun e w' => ∃ v, e = .returned v ∧ w'.ownsRow w.heap.size 5 1 v (xs.length + ys.length) (ub (xs ++ ys)) ∧ Below w.heap.size w w' := by
  subst hn hm
  obtain ⟨i, hi, hz0, hz1, hz2⟩ := info_parts infoU8
  go_enter Try.func24, Try.ntmps24
  go_wp2_with fail
  go_loopw [6, 5] (fun j v wr => ∃ k : Nat, k ≤ xs.length ∧ j = .int .i64 k ∧ Below w.heap.size w wr ∧ wr.ownsRow w.heap.size 5 1 v (k) (ub (xs.take k))) (fun j _ _ => xs.length - (intOf j).toNat)
  case atStart => exact ⟨0, Nat.zero_le _, rfl, Below.refl _ _, World.ownsRow_nil _ _ _ _⟩
  case round =>
    obtain ⟨k, hk, rfl, hbw, ho⟩ := hrel
    by_cases hlt : k < xs.length
    · obtain ⟨tb, tq, rfl, hc⟩ : ∃ tb tq, sa = some ⟨tb, tq, none⟩ ∧ ∀ j, j < xs.length → w.cell? ⟨tb, tq + j, none⟩ = some (.int .u8 (xs.getD j 0)) := by
        rcases ha.bytes with h | h
        · rw [h] at hlt; simp at hlt
        · exact h
      have ck := (hbw.cell (p := ⟨tb, tq + k, none⟩) (block_lt_of_cell (hc k hlt))).trans (hc k hlt)
      have hltI : (k : Int) < xs.length := by omega
      have hst : Hid (xs.take (k + 1) = xs.take k ++ [xs.getD k 0]) := by
        show _ = _
        rw [List.take_succ_eq_append_getElem hlt]
        simp [List.getD, hlt]
      clear hc
      generalize xs.getD k 0 = x at ck hst
      go_wp2_with (at_builtin; refine wpList_append_own _ rfl _ _ 22 rfl w.heap.size 5 i (.int .u8 0) 1 1 Try.underlying22 hi hz0 hz1 hz2 rfl (by decide) _ (k) _ rfl (World.ownsRow.alloc ho _) ⟨wr.heap.size, 0, none⟩ 1 1 [.int .u8 x] rfl rfl (cells_new _ _ _) (u8_one [_]) (by unfold maxLen; omega) (by omega) (le_alloc hbw.size _) ?_; intro v1 w2 ho1 hg1 _)
      have hb2 := Below.grown (hbw.alloc hbw.size _) hg1 (le_alloc hbw.size _) (fun q e => (ho.lt q e).1)
      go_roundw
      case rel =>
        have hR : ∃ k' : Nat, k' ≤ xs.length ∧ (Value.int .i64 ((k : Int) + 1)) = .int .i64 k' ∧ Below w.heap.size w w2 ∧ w2.ownsRow w.heap.size 5 1 v1 (k') (ub (xs.take k')) :=
          ⟨k + 1, by omega, by go_num, hb2, by rw [hst.out]; simpa [ub, Nat.add_assoc] using ho1⟩
        first | exact hR | ((repeat apply Exists.intro); exact ⟨hR, rfl⟩)
      case measure => simp [intOf]; omega
    · obtain rfl : k = xs.length := by omega
      rw [List.take_of_length_le (Nat.le_refl _)] at ho
      go_wp2_with fail
      go_loopw [7, 5] (fun j v wr => ∃ k : Nat, k ≤ ys.length ∧ j = .int .i64 k ∧ Below w.heap.size w wr ∧ wr.ownsRow w.heap.size 5 1 v (xs.length + k) (ub (xs ++ ys.take k))) (fun j _ _ => ys.length - (intOf j).toNat)
      case atStart => exact ⟨0, Nat.zero_le _, rfl, hbw, by simpa using ho⟩
      case round =>
        clear ho hbw
        obtain ⟨k, hk, rfl, hbw, ho⟩ := hrel
        by_cases hlt : k < ys.length
        · obtain ⟨tb, tq, rfl, hc⟩ : ∃ tb tq, sb = some ⟨tb, tq, none⟩ ∧ ∀ j, j < ys.length → w.cell? ⟨tb, tq + j, none⟩ = some (.int .u8 (ys.getD j 0)) := by
            rcases hb.bytes with h | h
            · rw [h] at hlt; simp at hlt
            · exact h
          have ck := (hbw.cell (p := ⟨tb, tq + k, none⟩) (block_lt_of_cell (hc k hlt))).trans (hc k hlt)
          have hltI : (k : Int) < ys.length := by omega
          have hst : Hid (ys.take (k + 1) = ys.take k ++ [ys.getD k 0]) := by
            show _ = _
            rw [List.take_succ_eq_append_getElem hlt]
            simp [List.getD, hlt]
          clear hc
          generalize ys.getD k 0 = x at ck hst
          go_wp2_with (at_builtin; refine wpList_append_own _ rfl _ _ 22 rfl w.heap.size 5 i (.int .u8 0) 1 1 Try.underlying22 hi hz0 hz1 hz2 rfl (by decide) _ (xs.length + k) _ rfl (World.ownsRow.alloc ho _) ⟨wr.heap.size, 0, none⟩ 1 1 [.int .u8 x] rfl rfl (cells_new _ _ _) (u8_one [_]) (by unfold maxLen; omega) (by omega) (le_alloc hbw.size _) ?_; intro v1 w2 ho1 hg1 _)
          have hb2 := Below.grown (hbw.alloc hbw.size _) hg1 (le_alloc hbw.size _) (fun q e => (ho.lt q e).1)
          go_roundw
          case rel =>
            have hR : ∃ k' : Nat, k' ≤ ys.length ∧ (Value.int .i64 ((k : Int) + 1)) = .int .i64 k' ∧ Below w.heap.size w w2 ∧ w2.ownsRow w.heap.size 5 1 v1 (xs.length + k') (ub (xs ++ ys.take k')) :=
              ⟨k + 1, by omega, by go_num, hb2, by rw [hst.out]; simpa [ub, Nat.add_assoc] using ho1⟩
            first | exact hR | ((repeat apply Exists.intro); exact ⟨hR, rfl⟩)
          case measure => simp [intOf]; omega
        · obtain rfl : k = ys.length := by omega
          rw [List.take_of_length_le (Nat.le_refl _)] at ho
          go_wp2_with fail
          go_ret
          exact ⟨_, rfl, ho, hbw⟩
end Go.Proofs.Ytldlknmpkoebbaa
