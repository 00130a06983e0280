/- The document's CertFault, for every certificate. -/
import Derived.Test.YtchmfbhdnhaleaaCertF
import Derived.Test.YtchmfbhdnhaleaaRHead
import Derived.Deep.RegionHeld2
namespace Go.Proofs.Ytchmfbhdnhaleaa
open Go.RowKit

set_option maxRecDepth 100000 in
set_option maxHeartbeats 1000000 in
theorem certFault_any (au rd : Int) (ba : Option Addr) (bc : Nat) (bl : List Part) (pa : Option Addr) (pc : Nat) (pl : List Part) (va : Option Addr) (vc : Nat) (vl : List Int) (w : World) (hb : ListAt w ba bc bl) (hp : ListAt w pa pc pl) (hv : IntsAt w va vl) (hvm : vl.length ≤ 9000000000000000000) :
    Calls Try.prog 40 #[.agg #[.int .i64 au, .int .i64 rd, .slice ba bl.length bc, .slice pa pl.length pc, .slice va vl.length vc]] w fun e w' => e = .returned (.int .i64 (certF au rd bl pl vl)) ∧ Below w.heap.size w w' := by
  have hA : Below w.heap.size w (w.alloc (.cells #[.int .i64 au, .int .i64 rd, .slice ba bl.length bc, .slice pa pl.length pc, .slice va vl.length vc] 33)) := (Below.refl _ _).alloc (Nat.le_refl _) _
  go_enter Try.func40, Try.ntmps40
  go_wp2_with fail
  refine (headerFault_any au rd ba bc bl pa pc pl _ (hb.below hA) (hp.below hA)).mono ?_
  rintro e w1 ⟨he, hb1⟩
  subst he
  dsimp only
  have r1 := row_new hb1
  replace hb1 := below_alloc hb1
  have c4 : w1.cell? ⟨w.heap.size, 4, none⟩ = some (.slice va vl.length vc) := cells_at r1 4 _ rfl
  by_cases h1 : headerF au rd bl pl = 0
  · rw [h1]
    by_cases h2 : 4 < vl.length
    · have hF : Hid (certF au rd bl pl vl = 1) := by show _ = _; rw [certF, if_neg (by simp [h1]), if_pos h2]
      have h2I : (4 : Int) < vl.length := by omega
      go_wp2_with fail
      go_loop [4, 3] (fun i e => i = .int .i64 0 ∧ e = .int .i64 (1)) (fun _ _ => 0)
      case atStart => exact ⟨rfl, rfl⟩
      case round =>
        obtain ⟨rfl, rfl⟩ := hrel
        have hlI : (0 : Int) < vl.length := by omega
        go_wp2_with fail
        go_ret
        exact ⟨ret_int hF.out.symm, hb1⟩
    · have hF : Hid (certF au rd bl pl vl = votersF vl) := by show _ = _; rw [certF, if_neg (by simp [h1]), if_neg h2]
      have h2I : ¬ (4 : Int) < vl.length := by omega
      clear h1
      go_wp2_with fail
      go_loopw [4, 3] (fun i e wr => ∃ k : Nat, k ≤ vl.length ∧ i = .int .i64 k ∧ e = .int .i64 (vTo vl k) ∧ Below w.heap.size w wr ∧ wr.cell? ⟨w.heap.size, 4, none⟩ = some (.slice va vl.length vc)) (fun i _ _ => vl.length - (intOf i).toNat)
      case atStart => exact ⟨0, Nat.zero_le _, rfl, rfl, hb1, c4⟩
      case round =>
        clear c4 r1 hb1
        obtain ⟨k, hk, rfl, rfl, hb1, c4⟩ := hrel
        by_cases hlt : k < vl.length
        · have hltI : (k : Int) < vl.length := by omega
          by_cases h0 : vTo vl k = 0
          · obtain ⟨sb, so, rfl, hc⟩ : ∃ sb so, va = some ⟨sb, so, none⟩ ∧ ∀ j, j < vl.length → wr.cell? ⟨sb, so + j, none⟩ = some (.int .i64 (vl.getD j 0)) := by
              rcases (hv.below hb1).cells with h | h
              · rw [h] at hlt; simp at hlt
              · exact h
            have ck := hc k hlt
            have hVs : Hid (vTo vl (k + 1) = vAt vl k) := by
              show _ = _
              rw [vTo, h0]; simp
            have hVa : Hid (vAt vl k = if ¬ (0 ≤ vl.getD k 0 ∧ vl.getD k 0 < 4) then 2 else if 0 < k ∧ vl.getD k 0 ≤ vl.getD (k - 1) 0 then 9 else 0) := rfl
            rw [h0]
            by_cases hkz : k = 0
            · subst hkz
              clear hc
              rw [Nat.add_zero] at ck
              generalize vl.getD 0 0 = x at *
              by_cases hn : 0 ≤ x ∧ x < 4
              · have hst : Hid (vTo vl 1 = 0) := by show _ = _; exact hVs.out.trans (by rw [hVa.out, if_neg (by simp [hn]), if_neg (by omega)])
                clear hVs hVa
                go_wp2_with (go_at_call 36; first | (refine (in_true _ _ _ _ (by omega)).mono ?_; rintro e w' ⟨rfl, rfl⟩) | (refine (in_false _ _ _ _ (by omega)).mono ?_; rintro e w' ⟨rfl, rfl⟩))
                go_region
                go_wp2_with fail
                go_roundw
                case rel =>
                  have hR : ∃ k' : Nat, k' ≤ vl.length ∧ (Value.int .i64 (1)) = .int .i64 k' ∧ (Value.int .i64 0) = .int .i64 (vTo vl k') ∧ Below w.heap.size w wr.drew ∧ wr.drew.cell? ⟨w.heap.size, 4, none⟩ = some (.slice (some ⟨sb, so, none⟩) vl.length vc) := ⟨1, by omega, by go_num, by rw [hst.out], hb1.drew, c4⟩
                  first | exact hR | ((repeat apply Exists.intro); exact ⟨hR, rfl⟩)
                case measure => simp [intOf]; omega
              · have hst : Hid (vTo vl 1 = 2) := by show _ = _; exact hVs.out.trans (by rw [hVa.out, if_pos hn])
                clear hVs hVa
                go_wp2_with (go_at_call 36; first | (refine (in_true _ _ _ _ (by omega)).mono ?_; rintro e w' ⟨rfl, rfl⟩) | (refine (in_false _ _ _ _ (by omega)).mono ?_; rintro e w' ⟨rfl, rfl⟩))
                go_roundw
                case rel =>
                  have hR : ∃ k' : Nat, k' ≤ vl.length ∧ (Value.int .i64 (1)) = .int .i64 k' ∧ (Value.int .i64 2) = .int .i64 (vTo vl k') ∧ Below w.heap.size w wr ∧ wr.cell? ⟨w.heap.size, 4, none⟩ = some (.slice (some ⟨sb, so, none⟩) vl.length vc) := ⟨1, by omega, by go_num, by rw [hst.out], hb1, c4⟩
                  first | exact hR | ((repeat apply Exists.intro); exact ⟨hR, rfl⟩)
                case measure => simp [intOf]; omega
            · have cp := hc (k - 1) (by omega)
              have hkI : (0 : Int) < k := by omega
              have hkD : decide ((0 : Int) < (k : Int)) = true := decide_eq_true hkI
              have hkN : 0 < k := by omega
              have t0 : ((k : Int) - 1).toNat = k - 1 := by omega
              have u0_ : IntKind.i64.wrap ((k : Int) - 1) = (k : Int) - 1 := by rw [IntKind.wrap_i64]; omega
              have z0 : (0 : Int) ≤ (k : Int) - 1 := by omega
              have z1 : (k : Int) - 1 < vl.length := by omega
              clear hc
              generalize vl.getD k 0 = x at *
              generalize vl.getD (k - 1) 0 = y at *
              by_cases hn : 0 ≤ x ∧ x < 4
              · by_cases hxy : x ≤ y
                · have hst : Hid (vTo vl (k + 1) = 9) := by show _ = _; exact hVs.out.trans (by rw [hVa.out, if_neg (by simp [hn]), if_pos (by omega)])
                  clear hVs hVa
                  go_wp2_with (go_at_call 36; first | (refine (in_true _ _ _ _ (by omega)).mono ?_; rintro e w' ⟨rfl, rfl⟩) | (refine (in_false _ _ _ _ (by omega)).mono ?_; rintro e w' ⟨rfl, rfl⟩))
                  go_region
                  go_wp2_with fail
                  go_roundw
                  case rel =>
                    have hR : ∃ k' : Nat, k' ≤ vl.length ∧ (Value.int .i64 ((k : Int) + 1)) = .int .i64 k' ∧ (Value.int .i64 9) = .int .i64 (vTo vl k') ∧ Below w.heap.size w wr.drew ∧ wr.drew.cell? ⟨w.heap.size, 4, none⟩ = some (.slice (some ⟨sb, so, none⟩) vl.length vc) := ⟨k + 1, by omega, by go_num, by rw [hst.out], hb1.drew, c4⟩
                    first | exact hR | ((repeat apply Exists.intro); exact ⟨hR, rfl⟩)
                  case measure => simp [intOf]; omega
                · have hst : Hid (vTo vl (k + 1) = 0) := by show _ = _; exact hVs.out.trans (by rw [hVa.out, if_neg (by simp [hn]), if_neg (by omega)])
                  clear hVs hVa
                  go_wp2_with (go_at_call 36; first | (refine (in_true _ _ _ _ (by omega)).mono ?_; rintro e w' ⟨rfl, rfl⟩) | (refine (in_false _ _ _ _ (by omega)).mono ?_; rintro e w' ⟨rfl, rfl⟩))
                  go_region
                  go_wp2_with fail
                  go_roundw
                  case rel =>
                    have hR : ∃ k' : Nat, k' ≤ vl.length ∧ (Value.int .i64 ((k : Int) + 1)) = .int .i64 k' ∧ (Value.int .i64 0) = .int .i64 (vTo vl k') ∧ Below w.heap.size w wr.drew ∧ wr.drew.cell? ⟨w.heap.size, 4, none⟩ = some (.slice (some ⟨sb, so, none⟩) vl.length vc) := ⟨k + 1, by omega, by go_num, by rw [hst.out], hb1.drew, c4⟩
                    first | exact hR | ((repeat apply Exists.intro); exact ⟨hR, rfl⟩)
                  case measure => simp [intOf]; omega
              · have hst : Hid (vTo vl (k + 1) = 2) := by show _ = _; exact hVs.out.trans (by rw [hVa.out, if_pos hn])
                clear hVs hVa
                go_wp2_with (go_at_call 36; first | (refine (in_true _ _ _ _ (by omega)).mono ?_; rintro e w' ⟨rfl, rfl⟩) | (refine (in_false _ _ _ _ (by omega)).mono ?_; rintro e w' ⟨rfl, rfl⟩))
                go_roundw
                case rel =>
                  have hR : ∃ k' : Nat, k' ≤ vl.length ∧ (Value.int .i64 ((k : Int) + 1)) = .int .i64 k' ∧ (Value.int .i64 2) = .int .i64 (vTo vl k') ∧ Below w.heap.size w wr ∧ wr.cell? ⟨w.heap.size, 4, none⟩ = some (.slice (some ⟨sb, so, none⟩) vl.length vc) := ⟨k + 1, by omega, by go_num, by rw [hst.out], hb1, c4⟩
                  first | exact hR | ((repeat apply Exists.intro); exact ⟨hR, rfl⟩)
                case measure => simp [intOf]; omega
          · have hG : Hid (certF au rd bl pl vl = vTo vl k) := by
              show _ = _
              have e := vTo_stays vl k vl.length h0 hk
              rw [hF.out, votersF, e, if_pos h0]
            clear hF
            generalize vTo vl k = z at *
            go_wp2_with fail
            go_ret
            exact ⟨ret_int hG.out.symm, hb1⟩
        · obtain rfl : k = vl.length := by omega
          by_cases h0 : vTo vl vl.length = 0
          · by_cases h3 : vl.length < 3
            · have e10 : Hid (certF au rd bl pl vl = 10) := by show _ = _; rw [hF.out, votersF, if_neg (by simp [h0]), if_pos h3]
              have h3I : (vl.length : Int) < 3 := by omega
              clear hF
              rw [h0]
              go_wp2_with fail
              go_ret
              exact ⟨ret_int e10.out.symm, hb1⟩
            · have e0 : Hid (certF au rd bl pl vl = 0) := by show _ = _; rw [hF.out, votersF, if_neg (by simp [h0]), if_neg h3]
              have h3I : ¬ (vl.length : Int) < 3 := by omega
              clear hF
              rw [h0]
              go_wp2_with fail
              go_ret
              exact ⟨ret_int e0.out.symm, hb1⟩
          · have hG : Hid (certF au rd bl pl vl = vTo vl vl.length) := by show _ = _; rw [hF.out, votersF, if_pos h0]
            clear hF
            generalize vTo vl vl.length = z at *
            go_wp2_with fail
            go_ret
            exact ⟨ret_int hG.out.symm, hb1⟩
  · have hF : Hid (certF au rd bl pl vl = headerF au rd bl pl) := by show _ = _; rw [certF, if_pos h1]
    generalize headerF au rd bl pl = z at *
    go_wp2_with fail
    go_loop [4, 3] (fun i e => i = .int .i64 0 ∧ e = .int .i64 (z)) (fun _ _ => 0)
    case atStart => exact ⟨rfl, rfl⟩
    case round =>
      obtain ⟨rfl, rfl⟩ := hrel
      by_cases hl0 : vl.length = 0
      · rw [hl0] at c4 ⊢
        go_wp2_with fail
        go_ret
        exact ⟨ret_int hF.out.symm, hb1⟩
      · have hlI : (0 : Int) < vl.length := by omega
        go_wp2_with fail
        go_ret
        exact ⟨ret_int hF.out.symm, hb1⟩
end Go.Proofs.Ytchmfbhdnhaleaa
