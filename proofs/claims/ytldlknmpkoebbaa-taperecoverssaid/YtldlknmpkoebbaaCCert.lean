/- wire.CheckCert, for every certificate. -/
import Derived.Test.YtldlknmpkoebbaaCertF
import Derived.Test.YtldlknmpkoebbaaCHead
namespace Go.Proofs.Ytldlknmpkoebbaa
open Go.RowKit

set_option maxRecDepth 100000 in
set_option maxHeartbeats 1000000 in
theorem checkCert_any (au rd : Int) (ba : Option Addr) (bc : Nat) (bl : List Part) (pa : Option Addr) (pc : Nat) (pl : List Part) (va : Option Addr) (vc : Nat) (vl : List Int) (w : World) (hb : ListAt w ba bc bl) (hp : ListAt w pa pc pl) (hv : IntsAt w va vl) (hvm : vl.length ≤ 9000000000000000000) :
    Calls Try.prog 90 #[.agg #[.int .i64 au, .int .i64 rd, .slice ba bl.length bc, .slice pa pl.length pc, .slice va vl.length vc]] w fun e w' => e = .returned (.int .i64 (certF au rd bl pl vl)) ∧ Below w.heap.size w w' := by
  have hA : Below w.heap.size w (w.alloc (.cells #[.int .i64 au, .int .i64 rd, .slice ba bl.length bc, .slice pa pl.length pc, .slice va vl.length vc] 51)) := (Below.refl _ _).alloc (Nat.le_refl _) _
  go_enter Try.func90, Try.ntmps90
  go_wp2_with fail
  refine (checkHeader_any au rd ba bc bl pa pc pl _ (hb.below hA) (hp.below hA)).mono ?_
  rintro e w1 ⟨he, hb1⟩
  subst he
  dsimp only
  have r1 := row_new hb1
  replace hb1 := below_alloc hb1
  have c4 : w1.cell? ⟨w.heap.size, 4, none⟩ = some (.slice va vl.length vc) := cells_at r1 4 _ rfl
  by_cases h1 : headerF au rd bl pl = 0
  · rw [h1]
    by_cases h2 : 4 < vl.length
    · have hF : Hid (certF au rd bl pl vl = 1) := by show _ = _; rw [certF, if_neg (by simp [h1]), if_pos h2]
      have h2I : (4 : Int) < vl.length := by omega
      go_wp2_with fail
      go_ret
      exact ⟨ret_int hF.out.symm, hb1⟩
    · have hF : Hid (certF au rd bl pl vl = votersF vl) := by show _ = _; rw [certF, if_neg (by simp [h1]), if_neg h2]
      have h2I : ¬ (4 : Int) < vl.length := by omega
      clear h1
      go_wp2_with fail
      go_loop [19] (fun i => ∃ k : Nat, k ≤ vl.length ∧ i = .int .i64 k ∧ vTo vl k = 0) (fun i => vl.length - (intOf i).toNat)
      case atStart => exact ⟨0, Nat.zero_le _, rfl, rfl⟩
      case round =>
        obtain ⟨k, hk, rfl, h0⟩ := hrel
        by_cases hlt : k < vl.length
        · obtain ⟨sb, so, rfl, hc⟩ : ∃ sb so, va = some ⟨sb, so, none⟩ ∧ ∀ j, j < vl.length → w1.cell? ⟨sb, so + j, none⟩ = some (.int .i64 (vl.getD j 0)) := by
            rcases (hv.below hb1).cells with h | h
            · rw [h] at hlt; simp at hlt
            · exact h
          have ck := hc k hlt
          have hltI : (k : Int) < vl.length := by omega
          have hVf : Hid (vAt vl k ≠ 0 → votersF vl = vAt vl k) := by
            show _ → _
            intro h
            rw [votersF, vTo_at vl k hlt h0 h, if_pos h]
          have hVs : Hid (vAt vl k = 0 → vTo vl (k + 1) = 0) := by
            show _ → _
            intro h
            rw [vTo, h0, h]; rfl
          have hVa : Hid (vAt vl k = if ¬ (0 ≤ vl.getD k 0 ∧ vl.getD k 0 < 4) then 2 else if 0 < k ∧ vl.getD k 0 ≤ vl.getD (k - 1) 0 then 9 else 0) := rfl
          by_cases hkz : k = 0
          · subst hkz
            clear hc
            rw [Nat.add_zero] at ck
            generalize vl.getD 0 0 = x at *
            by_cases hn : 0 ≤ x ∧ x < 4
            · have hst := hVs.out (by rw [hVa.out, if_neg (by simp [hn]), if_neg (by omega)])
              clear hVf hVs hVa
              go_wp2_with (go_at_call 74; first | (refine (isNode_true _ _ (by omega)).mono ?_; rintro e w' ⟨rfl, rfl⟩) | (refine (isNode_false _ _ (by omega)).mono ?_; rintro e w' ⟨rfl, rfl⟩))
              go_round
              case rel => exact ⟨0 + 1, by omega, by go_num, hst⟩
              case measure => simp [intOf]; omega
            · have e2 : Hid (certF au rd bl pl vl = 2) := by
                show _ = _
                have : vAt vl 0 = 2 := by rw [hVa.out, if_pos hn]
                rw [hF.out, hVf.out (by rw [this]; decide), this]
              clear hVf hVs hVa hF
              go_wp2_with (go_at_call 74; first | (refine (isNode_true _ _ (by omega)).mono ?_; rintro e w' ⟨rfl, rfl⟩) | (refine (isNode_false _ _ (by omega)).mono ?_; rintro e w' ⟨rfl, rfl⟩))
              go_ret
              exact ⟨ret_int e2.out.symm, hb1⟩
          · have cp := hc (k - 1) (by omega)
            have hkI : (0 : Int) < k := by omega
            have t0 : ((k : Int) - 1).toNat = k - 1 := by omega
            have u0_ : IntKind.i64.wrap ((k : Int) - 1) = (k : Int) - 1 := by rw [IntKind.wrap_i64]; omega
            have z0 : (0 : Int) ≤ (k : Int) - 1 := by omega
            have z1 : (k : Int) - 1 < vl.length := by omega
            clear hc
            generalize vl.getD k 0 = x at *
            generalize vl.getD (k - 1) 0 = y at *
            by_cases hn : 0 ≤ x ∧ x < 4
            · by_cases hxy : x ≤ y
              · have e9 : Hid (certF au rd bl pl vl = 9) := by
                  show _ = _
                  have : vAt vl k = 9 := by rw [hVa.out, if_neg (by simp [hn]), if_pos (by omega)]
                  rw [hF.out, hVf.out (by rw [this]; decide), this]
                clear hVf hVs hVa hF
                go_wp2_with (go_at_call 74; first | (refine (isNode_true _ _ (by omega)).mono ?_; rintro e w' ⟨rfl, rfl⟩) | (refine (isNode_false _ _ (by omega)).mono ?_; rintro e w' ⟨rfl, rfl⟩))
                go_ret
                exact ⟨ret_int e9.out.symm, hb1⟩
              · have hst := hVs.out (by rw [hVa.out, if_neg (by simp [hn]), if_neg (by omega)])
                clear hVf hVs hVa
                go_wp2_with (go_at_call 74; first | (refine (isNode_true _ _ (by omega)).mono ?_; rintro e w' ⟨rfl, rfl⟩) | (refine (isNode_false _ _ (by omega)).mono ?_; rintro e w' ⟨rfl, rfl⟩))
                go_round
                case rel => exact ⟨k + 1, by omega, by go_num, hst⟩
                case measure => simp [intOf]; omega
            · have e2 : Hid (certF au rd bl pl vl = 2) := by
                show _ = _
                have : vAt vl k = 2 := by rw [hVa.out, if_pos hn]
                rw [hF.out, hVf.out (by rw [this]; decide), this]
              clear hVf hVs hVa hF
              go_wp2_with (go_at_call 74; first | (refine (isNode_true _ _ (by omega)).mono ?_; rintro e w' ⟨rfl, rfl⟩) | (refine (isNode_false _ _ (by omega)).mono ?_; rintro e w' ⟨rfl, rfl⟩))
              go_ret
              exact ⟨ret_int e2.out.symm, hb1⟩
        · obtain rfl : k = vl.length := by omega
          by_cases h3 : vl.length < 3
          · have e10 : Hid (certF au rd bl pl vl = 10) := by show _ = _; rw [hF.out, votersF, if_neg (by simp [h0]), if_pos h3]
            have h3I : (vl.length : Int) < 3 := by omega
            clear hF h0
            go_wp2_with fail
            go_ret
            exact ⟨ret_int e10.out.symm, hb1⟩
          · have e0 : Hid (certF au rd bl pl vl = 0) := by show _ = _; rw [hF.out, votersF, if_neg (by simp [h0]), if_neg h3]
            have h3I : ¬ (vl.length : Int) < 3 := by omega
            clear hF h0
            go_wp2_with fail
            go_ret
            exact ⟨ret_int e0.out.symm, hb1⟩
  · have hF : Hid (certF au rd bl pl vl = headerF au rd bl pl) := by show _ = _; rw [certF, if_pos h1]
    generalize headerF au rd bl pl = z at *
    go_wp2_with fail
    go_ret
    exact ⟨ret_int hF.out.symm, hb1⟩
end Go.Proofs.Ytldlknmpkoebbaa
