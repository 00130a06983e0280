/- The walk of SignLast. -/
import Derived.Test.YtmpflkggbekpfaaKAdd
import Derived.Test.YtmpflkggbekpfaaOpenN
import Derived.Test.YtmpflkggbekpfaaSameSK
import Derived.Test.YtmpflkggbekpfaaCalls
import Derived.Deep.RegionHeld3
namespace Go.Proofs.Ytmpflkggbekpfaa
open Go.RowKit

set_option maxRecDepth 100000 in
theorem slice_take {w : World} {sa : Option Addr} {cap : Nat} {bs : List Int} (h : SliceAt w sa cap bs) (k : Nat) : SliceAt w sa cap (bs.take k) := by
  refine ⟨by rw [List.length_take]; have := h.le; omega, h.max, h.some, h.nil, ?_⟩
  rcases h.bytes with hb | ⟨sb, so, e, hb⟩
  · left; rw [hb]; simp
  · refine .inr ⟨sb, so, e, fun j hj => ?_⟩
    have hj2 : j < bs.length := by rw [List.length_take] at hj; omega
    have hj3 : j < k := by rw [List.length_take] at hj; omega
    rw [hb j hj2]
    simp [List.getD, hj3]
set_option maxRecDepth 100000 in
set_option maxHeartbeats 4000000 in
theorem signLast_walk (va : Option Addr) (vc : Nat) (vl : List Int) (n : Int) (w : World) (hv : NumsIn w va vc vl) (n0 : -9223372036854775808 ≤ n) (n1 : n ≤ 9223372036854775807) :
    Calls Try.prog 5 #[.slice va vl.length vc, .int .i64 n] w fun e w' => e = .returned (.bool true) ∧ Below w.heap.size w w' := by
  have pn := pk_bounds n 4 (by decide)
  have HB := Below.refl w.heap.size w
  go_enter Try.func5, Try.ntmps5
  go_wp2_with fail
  refine (signs_any vl va _ vc w rfl hv.le hv.max hv.ints hv.each).mono ?_
  rintro e w1 ⟨ra, rc, ks, he, hT, hO, hb1⟩
  subst he
  dsimp only
  replace HB := HB.trans (hb1.mono HB.size)
  have hk30 : ks.length ≤ 30 := by have := hO.few; rw [gvs_length] at this; exact this
  have HO : Hid (SignsOf (gvs ks)) := hO
  clear hO hv
  go_wp2_with fail
  refine (picked_any n 4 w1 n0 n1 (by decide) (by decide)).mono ?_
  rintro e wq ⟨he, hwq⟩
  subst he hwq
  dsimp only
  go_wp2_with fail
  refine (slot_any n 250 w1 ⟨n0, n1⟩).mono ?_
  rintro e w2 ⟨bn, he, hsn, hbbn, hbn⟩
  subst he
  dsimp only
  replace hT := hT.below hbn
  replace HB := HB.trans (hbn.mono HB.size)
  have hA1 := (Below.refl w2.heap.size w2).alloc (Nat.le_refl _) (.cells #[.int .i64 (pk n 4), .int .i64 (pk n 3), .int .i64 (1 + pk n 5), .slice (some ⟨bn, 0, none⟩) 32 32] 31)
  have q := heap_alloc_new w2 (.cells #[.int .i64 (pk n 4), .int .i64 (pk n 3), .int .i64 (1 + pk n 5), .slice (some ⟨bn, 0, none⟩) 32 32] 31)
  have q_c0 := cells_at q 0 _ rfl
  have q_c1 := cells_at q 1 _ rfl
  have q_c2 := cells_at q 2 _ rfl
  have q_c3 := cells_at q 3 _ rfl
  go_wp2_with fail
  clear q_c0 q_c1 q_c2 q_c3
  generalize hG : w2.alloc (.cells #[.int .i64 (pk n 4), .int .i64 (pk n 3), .int .i64 (1 + pk n 5), .slice (some ⟨bn, 0, none⟩) 32 32] 31) = w3 at hA1 q ⊢
  clear hG
  replace hT := hT.below hA1
  replace hsn := hsn.below hA1
  replace HB := HB.trans (hA1.mono HB.size)
  generalize hq : w2.heap.size = Q at q ⊢
  clear hq
  have hno : Hid (¬ kG (pk n 4) n 250 ∈ gvs ks) := kG_byte HO.out.raw (by decide)
  refine (addK_any ks ra rc (pk n 4) n 250 bn w3 (by omega) hT hsn HO.out.ok pn).mono ?_
  rintro e w4 ⟨ua, uc, us, he, hus, hU, hb4⟩
  subst he
  dsimp only
  replace hT := hT.below hb4
  replace hsn := hsn.below hb4
  replace q := (hb4.block _ (lt_of_heap q)).trans q
  replace HB := HB.trans (hb4.mono HB.size)
  have HUs : Hid (gvs us = gvs ks ++ [kG (pk n 4) n 250]) := by show _ = _; rw [hus, more, if_neg hno.out]
  have hul : us.length = ks.length + 1 := by have := congrArg List.length HUs.out; rw [gvs_length] at this; simpa [gvs_length] using this
  have HUL : Hid (us.length = ks.length + 1) := hul
  clear hus hul
  have A2 := add_any ks ra _ rc ⟨4, pk n 3, 1 + pk n 5, ⟨some ⟨bn, 0, none⟩, 32, someL n 250⟩⟩ w4 rfl (by omega) hT ⟨hsn, someL_u8 n 250⟩
  have F2 : addF (gvs ks) (Sg.v ⟨4, pk n 3, 1 + pk n 5, ⟨some ⟨bn, 0, none⟩, 32, someL n 250⟩⟩) = ([], 2) := by
    have hg : gF (Sg.v ⟨4, pk n 3, 1 + pk n 5, ⟨some ⟨bn, 0, none⟩, 32, someL n 250⟩⟩) = 2 := by simp [gF, Sg.v, signF]
    rw [addF_form HO.out.ok (by rw [hg]; decide), hg]
  simp only [someL_length] at A2
  have q_c0 := cells_at q 0 _ rfl
  have q_c1 := cells_at q 1 _ rfl
  have q_c2 := cells_at q 2 _ rfl
  have q_c3 := cells_at q 3 _ rfl
  go_wp2_with fail
  refine A2.mono ?_
  rintro e w5 ⟨⟨xa, xc, xs, er, he, hF, _⟩, hb5⟩
  subst he
  dsimp only
  rw [F2, Prod.mk.injEq] at hF
  obtain ⟨_, rfl⟩ := hF
  clear q_c0 q_c1 q_c2 q_c3
  replace hT := hT.below hb5
  replace hsn := hsn.below hb5
  replace q := (hb5.block _ (lt_of_heap q)).trans q
  replace hU := hU.below hb5
  replace HB := HB.trans (hb5.mono HB.size)
  have hs9 := slice_take hsn 9
  have h9 : ((someL n 250).take 9).length = 9 := by rw [List.length_take, someL_length]; rfl
  have A3 := add_any ks ra _ rc ⟨0, 0, 1, ⟨some ⟨bn, 0, none⟩, 32, (someL n 250).take 9⟩⟩ w5 rfl (by omega) hT ⟨hs9, fun x hx => someL_u8 n 250 x (List.mem_of_mem_take hx)⟩
  have F3 : addF (gvs ks) (Sg.v ⟨0, 0, 1, ⟨some ⟨bn, 0, none⟩, 32, (someL n 250).take 9⟩⟩) = ([], 4) := by
    have hg : gF (Sg.v ⟨0, 0, 1, ⟨some ⟨bn, 0, none⟩, 32, (someL n 250).take 9⟩⟩) = 4 := by simp only [gF, Sg.v, signF, slotF, h9]; decide
    rw [addF_form HO.out.ok (by rw [hg]; decide), hg]
  simp only [h9] at A3
  clear h9 hs9 A2 F2
  have q_c0 := cells_at q 0 _ rfl
  have q_c1 := cells_at q 1 _ rfl
  have q_c2 := cells_at q 2 _ rfl
  have q_c3 := cells_at q 3 _ rfl
  go_wp2_with fail
  refine A3.mono ?_
  rintro e w6 ⟨⟨ya, yc, ys, er, he, hF, _⟩, hb6⟩
  subst he
  dsimp only
  rw [F3, Prod.mk.injEq] at hF
  obtain ⟨_, rfl⟩ := hF
  clear A3 F3
  clear q_c0 q_c1 q_c2 q_c3
  replace hT := hT.below hb6
  replace hsn := hsn.below hb6
  replace q := (hb6.block _ (lt_of_heap q)).trans q
  replace hU := hU.below hb6
  replace HB := HB.trans (hb6.mono HB.size)
  have hkl : ks.length < us.length := by rw [HUL.out]; omega
  have hwk : IntKind.i64.wrap ((us.length : Int) - 1) = ks.length := by rw [IntKind.wrap_i64, HUL.out]; omega
  have hwk2 : IntKind.i64.wrap (ks.length : Int) = ks.length := by rw [IntKind.wrap_i64]; omega
  have hkI : (ks.length : Int) < us.length := by omega
  obtain ⟨ub, uo, rfl, hc⟩ : ∃ sb so, ua = some ⟨sb, so, none⟩ ∧ ∀ j (h : j < us.length), w6.cell? ⟨sb, so + j * 4, none⟩ = some (.int .i64 (us[j]).nd) ∧ w6.cell? ⟨sb, so + j * 4 + 1, none⟩ = some (.int .i64 (us[j]).au) ∧ w6.cell? ⟨sb, so + j * 4 + 2, none⟩ = some (.int .i64 (us[j]).rd) ∧ w6.cell? ⟨sb, so + j * 4 + 3, none⟩ = some (.slice (us[j]).p.sa (us[j]).p.bs.length (us[j]).p.cap) := by
    rcases hU.slots.cells with h | h
    · rw [h] at hkl; simp at hkl
    · exact h
  obtain ⟨c0, c1, c2, c3⟩ := hc ks.length hkl
  have hx := (hU.slots.each (us[ks.length]) (List.getElem_mem hkl)).1
  have hvk : (us[ks.length]).v = kG (pk n 4) n 250 := by
    rw [← gvs_get us ks.length (by rw [gvs_length]; exact hkl)]
    simp only [HUs.out]
    rw [List.getElem_append_right (by rw [gvs_length]; exact Nat.le_refl _)]
    simp
  clear hc HUs HUL HO hno
  generalize us[ks.length] = t at *
  generalize us.length = ul at *
  obtain ⟨tn, tau, trd, ⟨ta, tc, tb⟩⟩ := t
  simp only [Sg.v, kG, Prod.mk.injEq] at hvk
  obtain ⟨rfl, rfl, rfl, rfl⟩ := hvk
  dsimp only at *
  rw [someL_length] at c3
  generalize pk n 4 = n4 at *
  generalize pk n 3 = n3 at *
  generalize 1 + pk n 5 = n5 at *
  generalize ks.length = K at *
  have q_c0 := cells_at q 0 _ rfl
  have q_c1 := cells_at q 1 _ rfl
  have q_c2 := cells_at q 2 _ rfl
  have q_c3 := cells_at q 3 _ rfl
  have hblt := block_lt_of_cell c0
  have hqlt := block_lt_of_cell q_c0
  have HS := sameSlotK_eq n3 n5 (someL n 250) ta (some ⟨bn, 0, none⟩) 32 32 tc 32 w6.drew (someL_length n 250).symm (someL_length n 250).symm (hx.below (Below.refl _ _).drew) (hsn.below (Below.refl _ _).drew)
  go_wp2_with fail
  refine wp_region_held_drew (S := fun w' => w'.cell? ⟨ub, uo + K * 4, none⟩ = some (.int .i64 n4) ∧ w'.cell? ⟨ub, uo + K * 4 + 1, none⟩ = some (.int .i64 n3) ∧ w'.cell? ⟨ub, uo + K * 4 + 2, none⟩ = some (.int .i64 n5) ∧ w'.cell? ⟨ub, uo + K * 4 + 3, none⟩ = some (.slice ta 32 tc) ∧ w'.cell? ⟨Q, 0, none⟩ = some (.int .i64 n4) ∧ w'.cell? ⟨Q, 1, none⟩ = some (.int .i64 n3) ∧ w'.cell? ⟨Q, 2, none⟩ = some (.int .i64 n5) ∧ w'.cell? ⟨Q, 3, none⟩ = some (.slice (some ⟨bn, 0, none⟩) 32 32)) (by kernel_rfl) ⟨c0, c1, c2, c3, q_c0, q_c1, q_c2, q_c3⟩ (fun hHeld => ?_)
  refine take_dst (i := 0) (d := 49) (v := .int .i64 0) rfl rfl (by kernel_rfl) (by kernel_rfl) (by kernel_rfl) (fun _ _ _ h => h) (Or.inl ⟨by rfl, ?_⟩) hHeld ?_
  · (intro w0 hSw; (try dsimp only at hSw); go_simp)
  simp only [Act.put, List.setIfInBounds_toArray, List.set_cons_zero, List.set_cons_succ]
  refine take_dst (i := 1) (d := 50) (v := .bool true) rfl rfl (by kernel_rfl) (by kernel_rfl) (by kernel_rfl) (fun _ _ _ h => h) (Or.inl ⟨by rfl, ?_⟩) hHeld ?_
  · (intro w0 hSw; (try dsimp only at hSw); go_simp)
  simp only [Act.put, List.setIfInBounds_toArray, List.set_cons_zero, List.set_cons_succ]
  refine take_dst (i := 2) (d := 51) (v := .bool true) rfl rfl (by kernel_rfl) (by kernel_rfl) (by kernel_rfl) (fun _ _ _ h => h) (Or.inl ⟨by rfl, ?_⟩) hHeld ?_
  · (intro w0 hSw; (try dsimp only at hSw); go_simp)
  simp only [Act.put, List.setIfInBounds_toArray, List.set_cons_zero, List.set_cons_succ]
  refine take_dst (i := 3) (d := 52) (v := .int .i64 2) rfl rfl (by kernel_rfl) (by kernel_rfl) (by kernel_rfl) (fun _ _ _ h => h) (Or.inl ⟨by rfl, ?_⟩) hHeld ?_
  · (intro w0 hSw; (try dsimp only at hSw); go_simp)
  simp only [Act.put, List.setIfInBounds_toArray, List.set_cons_zero, List.set_cons_succ]
  refine take_dst (i := 4) (d := 53) (v := .bool true) rfl rfl (by kernel_rfl) (by kernel_rfl) (by kernel_rfl) (fun _ _ _ h => h) (Or.inl ⟨by rfl, ?_⟩) hHeld ?_
  · (intro w0 hSw; (try dsimp only at hSw); go_simp)
  simp only [Act.put, List.setIfInBounds_toArray, List.set_cons_zero, List.set_cons_succ]
  refine take_dst (i := 5) (d := 54) (v := .bool true) rfl rfl (by kernel_rfl) (by kernel_rfl) (by kernel_rfl) (fun _ _ _ h => h) (Or.inl ⟨by rfl, ?_⟩) hHeld ?_
  · (intro w0 hSw; (try dsimp only at hSw); go_simp)
  simp only [Act.put, List.setIfInBounds_toArray, List.set_cons_zero, List.set_cons_succ]
  refine take_dst (i := 6) (d := 55) (v := .bool true) rfl rfl (by kernel_rfl) (by kernel_rfl) (by kernel_rfl) (fun _ _ _ h => h) (Or.inl ⟨by rfl, ?_⟩) hHeld ?_
  · (intro w0 hSw; (try dsimp only at hSw); go_simp)
  simp only [Act.put, List.setIfInBounds_toArray, List.set_cons_zero, List.set_cons_succ]
  refine take_dst (i := 7) (d := 56) (v := .int .i64 4) rfl rfl (by kernel_rfl) (by kernel_rfl) (by kernel_rfl) (fun _ _ _ h => h) (Or.inl ⟨by rfl, ?_⟩) hHeld ?_
  · (intro w0 hSw; (try dsimp only at hSw); go_simp)
  simp only [Act.put, List.setIfInBounds_toArray, List.set_cons_zero, List.set_cons_succ]
  refine take_dst (i := 8) (d := 57) (v := .bool true) rfl rfl (by kernel_rfl) (by kernel_rfl) (by kernel_rfl) (fun _ _ _ h => h) (Or.inl ⟨by rfl, ?_⟩) hHeld ?_
  · (intro w0 hSw; (try dsimp only at hSw); go_simp)
  simp only [Act.put, List.setIfInBounds_toArray, List.set_cons_zero, List.set_cons_succ]
  refine take_dst (i := 9) (d := 58) (v := .bool true) rfl rfl (by kernel_rfl) (by kernel_rfl) (by kernel_rfl) (fun _ _ _ h => h) (Or.inl ⟨by rfl, ?_⟩) hHeld ?_
  · (intro w0 hSw; (try dsimp only at hSw); go_simp)
  simp only [Act.put, List.setIfInBounds_toArray, List.set_cons_zero, List.set_cons_succ]
  refine take_dst (i := 10) (d := 59) (v := .bool true) rfl rfl (by kernel_rfl) (by kernel_rfl) (by kernel_rfl) (fun _ _ _ h => h) (Or.inl ⟨by rfl, ?_⟩) hHeld ?_
  · (intro w0 hSw; (try dsimp only at hSw); go_simp)
  simp only [Act.put, List.setIfInBounds_toArray, List.set_cons_zero, List.set_cons_succ]
  refine take_dst (i := 11) (d := 60) (v := .int .i64 K) rfl rfl (by kernel_rfl) (by kernel_rfl) (by kernel_rfl) (fun _ _ _ h => h) (Or.inl ⟨by rfl, ?_⟩) hHeld ?_
  · (intro w0 hSw; (try dsimp only at hSw); go_simp)
  simp only [Act.put, List.setIfInBounds_toArray, List.set_cons_zero, List.set_cons_succ]
  refine take_dst (i := 12) (d := 61) (v := .slice ra K rc) rfl rfl (by kernel_rfl) (by kernel_rfl) (by kernel_rfl) (fun _ _ _ h => h) (Or.inl ⟨by rfl, ?_⟩) hHeld ?_
  · (intro w0 hSw; (try dsimp only at hSw); go_simp)
  simp only [Act.put, List.setIfInBounds_toArray, List.set_cons_zero, List.set_cons_succ]
  refine take_dst (i := 13) (d := 62) (v := .int .i64 K) rfl rfl (by kernel_rfl) (by kernel_rfl) (by kernel_rfl) (fun _ _ _ h => h) (Or.inl ⟨by rfl, ?_⟩) hHeld ?_
  · (intro w0 hSw; (try dsimp only at hSw); go_simp)
  simp only [Act.put, List.setIfInBounds_toArray, List.set_cons_zero, List.set_cons_succ]
  refine take_dst (i := 14) (d := 63) (v := .bool true) rfl rfl (by kernel_rfl) (by kernel_rfl) (by kernel_rfl) (fun _ _ _ h => h) (Or.inl ⟨by rfl, ?_⟩) hHeld ?_
  · (intro w0 hSw; (try dsimp only at hSw); go_simp)
  simp only [Act.put, List.setIfInBounds_toArray, List.set_cons_zero, List.set_cons_succ]
  refine take_dst (i := 15) (d := 64) (v := .bool true) rfl rfl (by kernel_rfl) (by kernel_rfl) (by kernel_rfl) (fun _ _ _ h => h) (Or.inl ⟨by rfl, ?_⟩) hHeld ?_
  · (intro w0 hSw; (try dsimp only at hSw); go_simp)
  simp only [Act.put, List.setIfInBounds_toArray, List.set_cons_zero, List.set_cons_succ]
  refine take_dst (i := 16) (d := 65) (v := .bool true) rfl rfl (by kernel_rfl) (by kernel_rfl) (by kernel_rfl) (fun _ _ _ h => h) (Or.inl ⟨by rfl, ?_⟩) hHeld ?_
  · (intro w0 hSw; (try dsimp only at hSw); go_simp)
  simp only [Act.put, List.setIfInBounds_toArray, List.set_cons_zero, List.set_cons_succ]
  refine take_dst (i := 17) (d := 66) (v := .slice (some ⟨ub, uo, none⟩) ul uc) rfl rfl (by kernel_rfl) (by kernel_rfl) (by kernel_rfl) (fun _ _ _ h => h) (Or.inl ⟨by rfl, ?_⟩) hHeld ?_
  · (intro w0 hSw; (try dsimp only at hSw); go_simp)
  simp only [Act.put, List.setIfInBounds_toArray, List.set_cons_zero, List.set_cons_succ]
  refine take_dst (i := 18) (d := 67) (v := .int .i64 K) rfl rfl (by kernel_rfl) (by kernel_rfl) (by kernel_rfl) (fun _ _ _ h => h) (Or.inl ⟨by rfl, ?_⟩) hHeld ?_
  · (intro w0 hSw; (try dsimp only at hSw); go_simp)
  simp only [Act.put, List.setIfInBounds_toArray, List.set_cons_zero, List.set_cons_succ]
  refine take_dst (i := 19) (d := 68) (v := .pointer (some ⟨ub, uo + K * 4, none⟩)) rfl rfl (by kernel_rfl) (by kernel_rfl) (by kernel_rfl) (fun _ _ _ h => h) (Or.inl ⟨by rfl, ?_⟩) hHeld ?_
  · (intro w0 hSw; (try dsimp only at hSw); go_simp)
  simp only [Act.put, List.setIfInBounds_toArray, List.set_cons_zero, List.set_cons_succ]
  refine take_dst (i := 20) (d := 69) (v := .pointer (some ⟨ub, uo + K * 4, none⟩)) rfl rfl (by kernel_rfl) (by kernel_rfl) (by kernel_rfl) (fun _ _ _ h => h) (Or.inl ⟨by rfl, ?_⟩) hHeld ?_
  · (intro w0 hSw; (try dsimp only at hSw); go_simp)
  simp only [Act.put, List.setIfInBounds_toArray, List.set_cons_zero, List.set_cons_succ]
  refine take_dst (i := 21) (d := 70) (v := .int .i64 n4) rfl rfl (by kernel_rfl) (by kernel_rfl) (by kernel_rfl) (fun _ _ _ h => h) (Or.inl ⟨by rfl, ?_⟩) hHeld ?_
  · (intro w0 hSw; (try dsimp only at hSw); go_simp)
  simp only [Act.put, List.setIfInBounds_toArray, List.set_cons_zero, List.set_cons_succ]
  refine take_dst (i := 22) (d := 71) (v := .pointer (some ⟨Q, 0, none⟩)) rfl rfl (by kernel_rfl) (by kernel_rfl) (by kernel_rfl) (fun _ _ _ h => h) (Or.inl ⟨by rfl, ?_⟩) hHeld ?_
  · (intro w0 hSw; (try dsimp only at hSw); go_simp)
  simp only [Act.put, List.setIfInBounds_toArray, List.set_cons_zero, List.set_cons_succ]
  refine take_dst (i := 23) (d := 72) (v := .int .i64 n4) rfl rfl (by kernel_rfl) (by kernel_rfl) (by kernel_rfl) (fun _ _ _ h => h) (Or.inl ⟨by rfl, ?_⟩) hHeld ?_
  · (intro w0 hSw; (try dsimp only at hSw); go_simp)
  simp only [Act.put, List.setIfInBounds_toArray, List.set_cons_zero, List.set_cons_succ]
  refine take_dst (i := 24) (d := 73) (v := .bool true) rfl rfl (by kernel_rfl) (by kernel_rfl) (by kernel_rfl) (fun _ _ _ h => h) (Or.inl ⟨by rfl, ?_⟩) hHeld ?_
  · (intro w0 hSw; (try dsimp only at hSw); go_simp)
  simp only [Act.put, List.setIfInBounds_toArray, List.set_cons_zero, List.set_cons_succ]
  refine take_dst (i := 25) (d := 74) (v := .bool true) rfl rfl (by kernel_rfl) (by kernel_rfl) (by kernel_rfl) (fun _ _ _ h => h) (Or.inl ⟨by rfl, ?_⟩) hHeld ?_
  · (intro w0 hSw; (try dsimp only at hSw); go_simp)
  simp only [Act.put, List.setIfInBounds_toArray, List.set_cons_zero, List.set_cons_succ]
  refine take_dst (i := 26) (d := 75) (v := .bool true) rfl rfl (by kernel_rfl) (by kernel_rfl) (by kernel_rfl) (fun _ _ _ h => h) (Or.inl ⟨by rfl, ?_⟩) hHeld ?_
  · (intro w0 hSw; (try dsimp only at hSw); go_simp)
  simp only [Act.put, List.setIfInBounds_toArray, List.set_cons_zero, List.set_cons_succ]
  refine take_dst (i := 27) (d := 76) (v := .slice (some ⟨ub, uo, none⟩) ul uc) rfl rfl (by kernel_rfl) (by kernel_rfl) (by kernel_rfl) (fun _ _ _ h => h) (Or.inl ⟨by rfl, ?_⟩) hHeld ?_
  · (intro w0 hSw; (try dsimp only at hSw); go_simp)
  simp only [Act.put, List.setIfInBounds_toArray, List.set_cons_zero, List.set_cons_succ]
  refine take_dst (i := 28) (d := 77) (v := .int .i64 K) rfl rfl (by kernel_rfl) (by kernel_rfl) (by kernel_rfl) (fun _ _ _ h => h) (Or.inl ⟨by rfl, ?_⟩) hHeld ?_
  · (intro w0 hSw; (try dsimp only at hSw); go_simp)
  simp only [Act.put, List.setIfInBounds_toArray, List.set_cons_zero, List.set_cons_succ]
  refine take_dst (i := 29) (d := 78) (v := .pointer (some ⟨ub, uo + K * 4, none⟩)) rfl rfl (by kernel_rfl) (by kernel_rfl) (by kernel_rfl) (fun _ _ _ h => h) (Or.inl ⟨by rfl, ?_⟩) hHeld ?_
  · (intro w0 hSw; (try dsimp only at hSw); go_simp)
  simp only [Act.put, List.setIfInBounds_toArray, List.set_cons_zero, List.set_cons_succ]
  refine take_dst (i := 30) (d := 79) (v := .pointer (some ⟨ub, uo + K * 4 + 1, none⟩)) rfl rfl (by kernel_rfl) (by kernel_rfl) (by kernel_rfl) (fun _ _ _ h => h) (Or.inl ⟨by rfl, ?_⟩) hHeld ?_
  · (intro w0 hSw; (try dsimp only at hSw); go_simp)
  simp only [Act.put, List.setIfInBounds_toArray, List.set_cons_zero, List.set_cons_succ]
  refine take_dst (i := 31) (d := 80) (v := .agg #[.int .i64 n3, .int .i64 n5, .slice ta 32 tc]) rfl rfl (by kernel_rfl) (by kernel_rfl) (by kernel_rfl) (fun _ _ _ h => h) (Or.inl ⟨by rfl, ?_⟩) hHeld ?_
  · (intro w0 hSw; (try dsimp only at hSw); go_simp)
  simp only [Act.put, List.setIfInBounds_toArray, List.set_cons_zero, List.set_cons_succ]
  refine take_dst (i := 32) (d := 81) (v := .pointer (some ⟨Q, 1, none⟩)) rfl rfl (by kernel_rfl) (by kernel_rfl) (by kernel_rfl) (fun _ _ _ h => h) (Or.inl ⟨by rfl, ?_⟩) hHeld ?_
  · (intro w0 hSw; (try dsimp only at hSw); go_simp)
  simp only [Act.put, List.setIfInBounds_toArray, List.set_cons_zero, List.set_cons_succ]
  refine take_dst (i := 33) (d := 82) (v := .agg #[.int .i64 n3, .int .i64 n5, .slice (some ⟨bn, 0, none⟩) 32 32]) rfl rfl (by kernel_rfl) (by kernel_rfl) (by kernel_rfl) (fun _ _ _ h => h) (Or.inl ⟨by rfl, ?_⟩) hHeld ?_
  · (intro w0 hSw; (try dsimp only at hSw); go_simp)
  simp only [Act.put, List.setIfInBounds_toArray, List.set_cons_zero, List.set_cons_succ]
  refine wpAnyH_ready (rs := [34]) (by kernel_rfl) (by simp) (AllReadyH.cons rfl (fun K hK => ?_) AllReadyH.nil)
  refine step_calls_on (by rfl) 83 rfl 12 [.tmp 80, .tmp 82] #[28, 28] rfl [.agg #[.int .i64 n3, .int .i64 n5, .slice ta 32 tc], .agg #[.int .i64 n3, .int .i64 n5, .slice (some ⟨bn, 0, none⟩) 32 32]] rfl (enters_of Try.func12 (by kernel_rfl) rfl) (fun v w' => v = .bool true ∧ Below w6.heap.size w6 w') (HS.mono (fun e w2 h => ⟨_, h.1, rfl, below_drew h.2⟩)) ?_
  rintro v w7 ⟨rfl, hbB⟩
  refine hK.out _ _ ⟨(hbB.cell (p := ⟨ub, uo + _ * 4, none⟩) hblt).trans c0, (hbB.cell (p := ⟨ub, uo + _ * 4 + 1, none⟩) hblt).trans c1, (hbB.cell (p := ⟨ub, uo + _ * 4 + 2, none⟩) hblt).trans c2, (hbB.cell (p := ⟨ub, uo + _ * 4 + 3, none⟩) hblt).trans c3, (hbB.cell (p := ⟨Q, 0, none⟩) hqlt).trans q_c0, (hbB.cell (p := ⟨Q, 1, none⟩) hqlt).trans q_c1, (hbB.cell (p := ⟨Q, 2, none⟩) hqlt).trans q_c2, (hbB.cell (p := ⟨Q, 3, none⟩) hqlt).trans q_c3⟩ (fun hHeld => ?_)
  simp only [Act.put, List.setIfInBounds_toArray, List.set_cons_zero, List.set_cons_succ]
  refine take_dst (i := 35) (d := 84) (v := .bool true) rfl rfl (by kernel_rfl) (by kernel_rfl) (by kernel_rfl) (fun _ _ _ h => h) (Or.inl ⟨by rfl, ?_⟩) hHeld ?_
  · (intro w0 hSw; (try dsimp only at hSw); go_simp)
  simp only [Act.put, List.setIfInBounds_toArray, List.set_cons_zero, List.set_cons_succ]
  refine take_dst (i := 36) (d := 4) (v := .bool true) rfl rfl (by kernel_rfl) (by kernel_rfl) (by kernel_rfl) (fun _ _ _ h => h) (Or.inl ⟨by rfl, ?_⟩) hHeld ?_
  · (intro w0 hSw; (try dsimp only at hSw); go_simp)
  simp only [Act.put, List.setIfInBounds_toArray, List.set_cons_zero, List.set_cons_succ]
  refine wpAnyH_done (by kernel_rfl) ?_ _
  replace hT := hT.below hbB
  replace hsn := hsn.below hbB
  replace q := (hbB.block _ (lt_of_heap q)).trans q
  replace hU := hU.below hbB
  replace HB := HB.trans (hbB.mono HB.size)
  go_wp2_with fail
  go_ret
  exact ⟨by first | rfl | simp, HB⟩
end Go.Proofs.Ytmpflkggbekpfaa
