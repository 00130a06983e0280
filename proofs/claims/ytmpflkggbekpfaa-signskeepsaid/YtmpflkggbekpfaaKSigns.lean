/- sheaveskeep.Signs: signs of raw numbers. -/
import Derived.Test.YtmpflkggbekpfaaKSlot
import Derived.Test.YtmpflkggbekpfaaIntsL
import Derived.Test.YtmpflkggbekpfaaCAdd
namespace Go.Proofs.Ytmpflkggbekpfaa
open Go.RowKit

/-- The sign of a raw number. -/
def rawG (n m : Int) : GV := (pk n 4, pk n 3, 1 + pk n 5, someL n m)
set_option maxRecDepth 100000 in
theorem rawG_ok (n m : Int) : gF (rawG n m) = 0 := by
  have h4 := pk_bounds n 4 (by decide)
  have h3 := pk_bounds n 3 (by decide)
  have h5 := pk_bounds n 5 (by decide)
  have hl := someL_length n m
  simp only [gF, rawG, signF, slotF, hl]
  rw [if_neg (by omega), if_neg (by omega), if_neg (by omega)]
/-- What Signs gives. -/
structure SignsOf (l : List GV) : Prop where
  ok : signsF l = 0
  few : l.length ≤ 30
  raw : ∀ g ∈ l, g.2.2.2.getD 1 0 = 3
set_option maxRecDepth 100000 in
theorem SignsOf.nil : SignsOf [] := ⟨signsF_ok ⟨fun g hg => by (cases hg), by simp⟩, by simp, fun g hg => by (cases hg)⟩
set_option maxRecDepth 100000 in
set_option maxHeartbeats 4000000 in
theorem signs_any (vl : List Int) (va : Option Addr) (n vc : Nat) (w : World) (hn : n = vl.length) (_hle : vl.length ≤ vc) (_hmx : vc ≤ 9223372036854775807) (hv : IntsAt w va vl) (hI : ∀ x ∈ vl, I64 x) :
    Calls Try.prog 7 #[.slice va n vc] w fun e w' => ∃ ra rc ks, e = .returned (.slice ra (List.length ks) rc) ∧ GTab w' ra rc ks ∧ SignsOf (gvs ks) ∧ Below w.heap.size w w' := by
  subst hn
  have HI : Hid (∀ x ∈ vl, I64 x) := hI
  clear hI
  go_enter Try.func7, Try.ntmps7
  go_wp2_with fail
  go_loopw [4, 3] (fun i v wr => ∃ (k : Nat) (ra : Option Addr) (rc : Nat) (ks : List Sg), k ≤ vl.length ∧ k ≤ 30 ∧ i = .int .i64 k ∧ v = .slice ra ks.length rc ∧ ks.length ≤ k ∧ GTab wr ra rc ks ∧ SignsOf (gvs ks) ∧ Below w.heap.size w wr) (fun i _ _ => vl.length - (intOf i).toNat)
  case atStart => exact ⟨0, none, 0, [], Nat.zero_le _, by omega, rfl, rfl, Nat.le_refl _, nilTab _, SignsOf.nil, Below.refl _ _⟩
  case round =>
    obtain ⟨k, ra, rc, ks, hk, hk30, rfl, rfl, hkl, hT, hO, hb⟩ := hrel
    have HO : Hid (SignsOf (gvs ks)) := hO
    clear hO
    by_cases hlt : k < vl.length
    · by_cases h30 : k < 30
      · have hvw := hv.below hb
        obtain ⟨sb, so, rfl, hc⟩ : ∃ sb so, va = some ⟨sb, so, none⟩ ∧ ∀ j, j < vl.length → wr.cell? ⟨sb, so + j, none⟩ = some (.int .i64 (vl.getD j 0)) := by
          rcases hvw.cells with h | h
          · rw [h] at hlt; simp at hlt
          · exact h
        have c0 := hc k hlt
        have hblt := block_lt_of_cell c0
        have hx : I64 (vl.getD k 0) := HI.out _ (by simp [List.getD, hlt])
        have hltI : (k : Int) < vl.length := by omega
        have h30I : (k : Int) < 30 := by omega
        clear hc hvw
        generalize vl.getD k 0 = x at *
        have HP := picked_any x 4 wr.drew hx.1 hx.2 (by decide) (by decide)
        have HK : Hid (∀ W, Calls Try.prog 9 #[.int .i64 x, .int .i64 3] W fun e w' => ∃ b, e = .returned (.agg #[.int .i64 (pk x 3), .int .i64 (1 + pk x 5), .slice (some ⟨b, 0, none⟩) 32 32]) ∧ SliceAt w' (some ⟨b, 0, none⟩) 32 (someL x 3) ∧ W.heap.size ≤ b ∧ Below W.heap.size W w') := fun W => slot_any x 3 W hx
        have HL : Hid ((someL x 3).length = 32) := someL_length x 3
        have HU : Hid (AllU8 (someL x 3)) := someL_u8 x 3
        have HG : Hid (addF (gvs ks) (pk x 4, pk x 3, 1 + pk x 5, someL x 3) = (if (pk x 4, pk x 3, 1 + pk x 5, someL x 3) ∈ gvs ks then (gvs ks, 0) else (gvs ks ++ [(pk x 4, pk x 3, 1 + pk x 5, someL x 3)], 0))) := by
          show _ = _
          rw [addF, if_neg (by simpa using HO.out.ok), if_neg (fun h => h (rawG_ok x 3))]
        have HN : Hid (∀ us : List GV, us.length ≤ k + 1 → us = gvs ks ∨ (¬ (pk x 4, pk x 3, 1 + pk x 5, someL x 3) ∈ gvs ks ∧ us = gvs ks ++ [(pk x 4, pk x 3, 1 + pk x 5, someL x 3)]) → SignsOf us) := by
          show ∀ us, _
          rintro us hul (rfl | ⟨hm, rfl⟩)
          · exact HO.out
          · refine ⟨signsF_snoc HO.out.ok (rawG_ok x 3) hm, by omega, fun g hg => ?_⟩
            rcases List.mem_append.1 hg with hg | hg
            · exact HO.out.raw g hg
            · rw [List.mem_singleton] at hg; subst hg; exact someL_get x 3
        generalize pk x 4 = x4 at *
        generalize pk x 3 = x3 at *
        generalize pk x 5 = x5 at *
        generalize someL x 3 = L3 at *
        go_wp2_with fail
        refine wp_region_held_drew (S := fun w' => w'.cell? ⟨sb, so + k, none⟩ = some (.int .i64 x)) (by kernel_rfl) c0 (fun hHeld => ?_)
        refine take_dst (i := 0) (d := 18) (v := .slice ra ks.length rc) rfl rfl (by kernel_rfl) (by kernel_rfl) (by kernel_rfl) (fun _ _ _ h => h) (Or.inl ⟨by rfl, ?_⟩) hHeld ?_
        · (intro w0 hSw; (try dsimp only at hSw); go_simp)
        simp only [Act.put, List.setIfInBounds_toArray, List.set_cons_zero, List.set_cons_succ]
        refine take_dst (i := 1) (d := 19) (v := .slice (some ⟨sb, so, none⟩) vl.length vc) rfl rfl (by kernel_rfl) (by kernel_rfl) (by kernel_rfl) (fun _ _ _ h => h) (Or.inl ⟨by rfl, ?_⟩) hHeld ?_
        · (intro w0 hSw; (try dsimp only at hSw); go_simp)
        simp only [Act.put, List.setIfInBounds_toArray, List.set_cons_zero, List.set_cons_succ]
        refine take_dst (i := 2) (d := 20) (v := .int .i64 k) rfl rfl (by kernel_rfl) (by kernel_rfl) (by kernel_rfl) (fun _ _ _ h => h) (Or.inl ⟨by rfl, ?_⟩) hHeld ?_
        · (intro w0 hSw; (try dsimp only at hSw); go_simp)
        simp only [Act.put, List.setIfInBounds_toArray, List.set_cons_zero, List.set_cons_succ]
        refine take_dst (i := 3) (d := 21) (v := .pointer (some ⟨sb, so + k, none⟩)) rfl rfl (by kernel_rfl) (by kernel_rfl) (by kernel_rfl) (fun _ _ _ h => h) (Or.inl ⟨by rfl, ?_⟩) hHeld ?_
        · (intro w0 hSw; (try dsimp only at hSw); go_simp)
        simp only [Act.put, List.setIfInBounds_toArray, List.set_cons_zero, List.set_cons_succ]
        refine take_dst (i := 4) (d := 22) (v := .int .i64 x) rfl rfl (by kernel_rfl) (by kernel_rfl) (by kernel_rfl) (fun _ _ _ h => h) (Or.inl ⟨by rfl, ?_⟩) hHeld ?_
        · (intro w0 hSw; (try dsimp only at hSw); go_simp)
        simp only [Act.put, List.setIfInBounds_toArray, List.set_cons_zero, List.set_cons_succ]
        refine take_dst (i := 6) (d := 24) (v := .slice (some ⟨sb, so, none⟩) vl.length vc) rfl rfl (by kernel_rfl) (by kernel_rfl) (by kernel_rfl) (fun _ _ _ h => h) (Or.inl ⟨by rfl, ?_⟩) hHeld ?_
        · (intro w0 hSw; (try dsimp only at hSw); go_simp)
        simp only [Act.put, List.setIfInBounds_toArray, List.set_cons_zero, List.set_cons_succ]
        refine take_dst (i := 7) (d := 25) (v := .int .i64 k) rfl rfl (by kernel_rfl) (by kernel_rfl) (by kernel_rfl) (fun _ _ _ h => h) (Or.inl ⟨by rfl, ?_⟩) hHeld ?_
        · (intro w0 hSw; (try dsimp only at hSw); go_simp)
        simp only [Act.put, List.setIfInBounds_toArray, List.set_cons_zero, List.set_cons_succ]
        refine take_dst (i := 8) (d := 26) (v := .pointer (some ⟨sb, so + k, none⟩)) rfl rfl (by kernel_rfl) (by kernel_rfl) (by kernel_rfl) (fun _ _ _ h => h) (Or.inl ⟨by rfl, ?_⟩) hHeld ?_
        · (intro w0 hSw; (try dsimp only at hSw); go_simp)
        simp only [Act.put, List.setIfInBounds_toArray, List.set_cons_zero, List.set_cons_succ]
        refine take_dst (i := 9) (d := 27) (v := .int .i64 x) rfl rfl (by kernel_rfl) (by kernel_rfl) (by kernel_rfl) (fun _ _ _ h => h) (Or.inl ⟨by rfl, ?_⟩) hHeld ?_
        · (intro w0 hSw; (try dsimp only at hSw); go_simp)
        simp only [Act.put, List.setIfInBounds_toArray, List.set_cons_zero, List.set_cons_succ]
        refine wpAnyH_ready (rs := [5]) (by kernel_rfl) (by simp) (AllReadyH.cons rfl (fun K hK => ?_) AllReadyH.nil)
        refine step_calls_dst rfl 23 rfl 8 [.tmp 22, .const (.int .i64 4)] #[3, 3] rfl [.int .i64 x, .int .i64 4] rfl (enters_of Try.func8 (by kernel_rfl) rfl) (fun v w' => v = .int .i64 x4 ∧ wr.drew = w') (HP.mono (fun e w2 h => ⟨_, h.1, rfl, h.2⟩)) ?_
        rintro v w2 ⟨rfl, rfl⟩
        refine hK.out _ _ c0 (fun hHeld => ?_)
        simp only [Act.put, List.setIfInBounds_toArray, List.set_cons_zero, List.set_cons_succ]
        refine wpAnyH_ready (rs := [10]) (by kernel_rfl) (by simp) (AllReadyH.cons rfl (fun K hK => ?_) AllReadyH.nil)
        refine step_calls_dst rfl 28 rfl 9 [.tmp 27, .const (.int .i64 3)] #[3, 3] rfl [.int .i64 x, .int .i64 3] rfl (enters_of Try.func9 (by kernel_rfl) rfl) (fun v w' => ∃ b, v = .agg #[.int .i64 x3, .int .i64 (1 + x5), .slice (some ⟨b, 0, none⟩) 32 32] ∧ SliceAt w' (some ⟨b, 0, none⟩) 32 L3 ∧ Below wr.heap.size wr w') ((HK.out wr.drew).mono (fun e w2 ⟨b, h, hs, _, hb⟩ => ⟨_, h, b, rfl, hs, below_drew hb⟩)) ?_
        rintro v w2 ⟨b, rfl, hs2, hbB⟩
        refine hK.out _ _ ((hbB.cell (p := ⟨sb, so + k, none⟩) hblt).trans c0) (fun hHeld => ?_)
        simp only [Act.put, List.setIfInBounds_toArray, List.set_cons_zero, List.set_cons_succ]
        refine take_dst (i := 11) (d := 29) (v := .agg #[.int .i64 x4, .int .i64 x3, .int .i64 (1 + x5), .slice (some ⟨b, 0, none⟩) 32 32]) rfl rfl (by kernel_rfl) (by kernel_rfl) (by kernel_rfl) (fun _ _ _ h => h) (Or.inl ⟨by rfl, ?_⟩) hHeld ?_
        · (intro w0 hSw; (try dsimp only at hSw); go_simp)
        simp only [Act.put, List.setIfInBounds_toArray, List.set_cons_zero, List.set_cons_succ]
        have hB2 := hb.trans (hbB.mono hb.size)
        have HA := add_any ks ra _ rc ⟨x4, x3, 1 + x5, ⟨some ⟨b, 0, none⟩, 32, L3⟩⟩ w2 rfl (by omega) (hT.below hbB) ⟨hs2, HU.out⟩
        simp only [HL.out, Sg.v] at HA
        refine wpAnyH_ready (rs := [12]) (by kernel_rfl) (by simp) (AllReadyH.cons rfl (fun K hK => ?_) AllReadyH.nil)
        refine step_calls_dst rfl 30 rfl 10 [.tmp 18, .tmp 29] #[23, 31] rfl [.slice ra ks.length rc, .agg #[.int .i64 x4, .int .i64 x3, .int .i64 (1 + x5), .slice (some ⟨b, 0, none⟩) 32 32]] rfl (enters_of Try.func10 (by kernel_rfl) rfl) (fun v w' => ∃ ua uc us, v = .tuple #[.slice ua (List.length us) uc, .int .i64 0] ∧ (gvs us = gvs ks ∨ (¬ (x4, x3, 1 + x5, L3) ∈ gvs ks ∧ gvs us = gvs ks ++ [(x4, x3, 1 + x5, L3)])) ∧ GTab w' ua uc us ∧ Below w2.heap.size w2 w') (HA.mono (fun e w3 ⟨⟨ua, uc, us, er, he, hF, hTu⟩, hb3⟩ => by
          rw [HG.out] at hF
          split at hF
          · simp only [Prod.mk.injEq] at hF
            obtain ⟨h1, rfl⟩ := hF
            exact ⟨_, he, ua, uc, us, rfl, .inl h1.symm, hTu, hb3⟩
          · rename_i hm
            simp only [Prod.mk.injEq] at hF
            obtain ⟨h1, rfl⟩ := hF
            exact ⟨_, he, ua, uc, us, rfl, .inr ⟨hm, h1.symm⟩, hTu, hb3⟩)) ?_
        rintro v w3 ⟨ua, uc, us, rfl, hus, hTu, hbC⟩
        have hB3 := hB2.trans (hbC.mono hB2.size)
        replace hbC := hbB.trans (hbC.mono hbB.size)
        refine hK.out _ _ ((hbC.cell (p := ⟨sb, so + k, none⟩) hblt).trans c0) (fun hHeld => ?_)
        simp only [Act.put, List.setIfInBounds_toArray, List.set_cons_zero, List.set_cons_succ]
        have hul : us.length ≤ k + 1 := by
          rw [← gvs_length us, ← gvs_length ks] at *
          rcases hus with h | ⟨_, h⟩
          · rw [h]; omega
          · rw [h]; simp; omega
        have HSO : Hid (SignsOf (gvs us)) := HN.out _ (by rw [gvs_length]; exact hul) hus
        clear hus HG HN HA HK HP
        refine take_dst (i := 13) (d := 17) (v := .tuple #[.slice ua (List.length us) uc, .int .i64 0]) rfl rfl (by kernel_rfl) (by kernel_rfl) (by kernel_rfl) (fun _ _ _ h => h) (Or.inl ⟨by rfl, ?_⟩) hHeld ?_
        · (intro w0 hSw; (try dsimp only at hSw); go_simp)
        simp only [Act.put, List.setIfInBounds_toArray, List.set_cons_zero, List.set_cons_succ]
        refine take_dst (i := 14) (d := 31) (v := .slice ua (List.length us) uc) rfl rfl (by kernel_rfl) (by kernel_rfl) (by kernel_rfl) (fun _ _ _ h => h) (Or.inl ⟨by rfl, ?_⟩) hHeld ?_
        · (intro w0 hSw; (try dsimp only at hSw); go_simp)
        simp only [Act.put, List.setIfInBounds_toArray, List.set_cons_zero, List.set_cons_succ]
        refine take_dst (i := 15) (d := 32) (v := .int .i64 0) rfl rfl (by kernel_rfl) (by kernel_rfl) (by kernel_rfl) (fun _ _ _ h => h) (Or.inl ⟨by rfl, ?_⟩) hHeld ?_
        · (intro w0 hSw; (try dsimp only at hSw); go_simp)
        simp only [Act.put, List.setIfInBounds_toArray, List.set_cons_zero, List.set_cons_succ]
        refine take_dst (i := 16) (d := 5) (v := .slice ua (List.length us) uc) rfl rfl (by kernel_rfl) (by kernel_rfl) (by kernel_rfl) (fun _ _ _ h => h) (Or.inl ⟨by rfl, ?_⟩) hHeld ?_
        · (intro w0 hSw; (try dsimp only at hSw); go_simp)
        simp only [Act.put, List.setIfInBounds_toArray, List.set_cons_zero, List.set_cons_succ]
        refine take_dst (i := 17) (d := 6) (v := .int .i64 0) rfl rfl (by kernel_rfl) (by kernel_rfl) (by kernel_rfl) (fun _ _ _ h => h) (Or.inl ⟨by rfl, ?_⟩) hHeld ?_
        · (intro w0 hSw; (try dsimp only at hSw); go_simp)
        simp only [Act.put, List.setIfInBounds_toArray, List.set_cons_zero, List.set_cons_succ]
        refine wpAnyH_done (by kernel_rfl) ?_ _
        go_wp2_with fail
        go_roundw
        case rel => exact ⟨k + 1, ua, uc, us, by omega, by omega, by go_num, rfl, hul, hTu, HSO.out, hB3⟩
        case measure => simp [intOf]; omega
      · obtain rfl : k = 30 := by omega
        go_wp2_with fail
        go_ret
        exact ⟨ra, rc, ks, rfl, hT, HO.out, hb⟩
    · obtain rfl : k = vl.length := by omega
      go_wp2_with fail
      go_ret
      exact ⟨ra, rc, ks, rfl, hT, HO.out, hb⟩
end Go.Proofs.Ytmpflkggbekpfaa
