/- The walk of SignsKeep. -/
import Derived.Test.YtmpflkggbekpfaaKAdd
import Derived.Test.YtmpflkggbekpfaaOpenN
namespace Go.Proofs.Ytmpflkggbekpfaa
open Go.RowKit

set_option maxRecDepth 100000 in
set_option maxHeartbeats 4000000 in
theorem signsKeep_walk (va : Option Addr) (vc : Nat) (vl : List Int) (n m : Int) (w : World) (hv : NumsIn w va vc vl) (n0 : -9223372036854775808 ≤ n) (n1 : n ≤ 9223372036854775807) (m0 : -9223372036854775808 ≤ m) (m1 : m ≤ 9223372036854775807) :
    Calls Try.prog 6 #[.slice va vl.length vc, .int .i64 n, .int .i64 m] w fun e w' => e = .returned (.bool true) ∧ Below w.heap.size w w' := by
  have pn := pk_bounds n 4 (by decide)
  have pm := pk_bounds m 4 (by decide)
  have gn : Hid (gF (kG (pk n 4) n 5) = 0) := kG_ok _ n 5 pn
  have gm : Hid (gF (kG (pk m 4) m 3) = 0) := kG_ok _ m 3 pm
  have hne : Hid (kG (pk m 4) m 3 ≠ kG (pk n 4) n 5) := by
    show _ ≠ _
    intro e
    have e2 : someL m 3 = someL n 5 := congrArg (fun g : GV => g.2.2.2) e
    have := congrArg (fun l => List.getD l 1 0) e2
    simp only [someL_get] at this
    omega
  have HB := Below.refl w.heap.size w
  go_enter Try.func6, Try.ntmps6
  go_wp2_with fail
  refine (signs_any vl va _ vc w rfl hv.le hv.max hv.ints hv.each).mono ?_
  rintro e w1 ⟨ra, rc, ks, he, hT, hO, hb1⟩
  subst he
  dsimp only
  replace HB := HB.trans (hb1.mono HB.size)
  have hk30 : ks.length ≤ 30 := by have := hO.few; rw [gvs_length] at this; exact this
  have HO : Hid (SignsOf (gvs ks)) := hO
  clear hO hv
  go_wp2_with fail
  refine (picked_any n 4 w1 n0 n1 (by decide) (by decide)).mono ?_
  rintro e wq ⟨he, hwq⟩
  subst he hwq
  dsimp only
  go_wp2_with fail
  refine (slot_any n 5 w1 ⟨n0, n1⟩).mono ?_
  rintro e w2 ⟨bn, he, hsn, hbbn, hbn⟩
  subst he
  dsimp only
  replace hT := hT.below hbn
  replace HB := HB.trans (hbn.mono HB.size)
  have hA1 := (Below.refl w2.heap.size w2).alloc (Nat.le_refl _) (.cells #[.int .i64 (pk n 4), .int .i64 (pk n 3), .int .i64 (1 + pk n 5), .slice (some ⟨bn, 0, none⟩) 32 32] 31)
  have qn := heap_alloc_new w2 (.cells #[.int .i64 (pk n 4), .int .i64 (pk n 3), .int .i64 (1 + pk n 5), .slice (some ⟨bn, 0, none⟩) 32 32] 31)
  go_wp2_with fail
  generalize hG : w2.alloc (.cells #[.int .i64 (pk n 4), .int .i64 (pk n 3), .int .i64 (1 + pk n 5), .slice (some ⟨bn, 0, none⟩) 32 32] 31) = w3 at hA1 qn ⊢
  clear hG
  replace hT := hT.below hA1
  replace hsn := hsn.below hA1
  replace HB := HB.trans (hA1.mono HB.size)
  refine (picked_any m 4 w3 m0 m1 (by decide) (by decide)).mono ?_
  rintro e wq ⟨he, hwq⟩
  subst he hwq
  dsimp only
  go_wp2_with fail
  refine (slot_any m 3 w3 ⟨m0, m1⟩).mono ?_
  rintro e w4 ⟨bm, he, hsm, hbbm, hbm⟩
  subst he
  dsimp only
  replace hT := hT.below hbm
  replace hsn := hsn.below hbm
  replace qn := (hbm.block _ (lt_of_heap qn)).trans qn
  replace HB := HB.trans (hbm.mono HB.size)
  have hA2 := (Below.refl w4.heap.size w4).alloc (Nat.le_refl _) (.cells #[.int .i64 (pk m 4), .int .i64 (pk m 3), .int .i64 (1 + pk m 5), .slice (some ⟨bm, 0, none⟩) 32 32] 31)
  have qm := heap_alloc_new w4 (.cells #[.int .i64 (pk m 4), .int .i64 (pk m 3), .int .i64 (1 + pk m 5), .slice (some ⟨bm, 0, none⟩) 32 32] 31)
  have qn5 := heap_keep (o := .cells #[.int .i64 (pk m 4), .int .i64 (pk m 3), .int .i64 (1 + pk m 5), .slice (some ⟨bm, 0, none⟩) 32 32] 31) qn
  have qn5_0 := cells_at qn5 0 _ rfl
  have qn5_1 := cells_at qn5 1 _ rfl
  have qn5_2 := cells_at qn5 2 _ rfl
  have qn5_3 := cells_at qn5 3 _ rfl
  go_wp2_with fail
  clear qn5_0 qn5_1 qn5_2 qn5_3 qn5
  generalize hG : w4.alloc (.cells #[.int .i64 (pk m 4), .int .i64 (pk m 3), .int .i64 (1 + pk m 5), .slice (some ⟨bm, 0, none⟩) 32 32] 31) = w5 at hA2 qm ⊢
  clear hG
  replace hT := hT.below hA2
  replace hsn := hsn.below hA2
  replace qn := (hA2.block _ (lt_of_heap qn)).trans qn
  replace hsm := hsm.below hA2
  replace HB := HB.trans (hA2.mono HB.size)
  refine (addK_any ks ra rc (pk n 4) n 5 bn w5 (by omega) hT hsn HO.out.ok pn).mono ?_
  rintro e w6 ⟨ua, uc, us, he, hus, hU, hb6⟩
  subst he
  dsimp only
  replace hT := hT.below hb6
  replace hsn := hsn.below hb6
  replace qn := (hb6.block _ (lt_of_heap qn)).trans qn
  replace hsm := hsm.below hb6
  replace qm := (hb6.block _ (lt_of_heap qm)).trans qm
  replace HB := HB.trans (hb6.mono HB.size)
  have HUs : Hid (gvs us = more (gvs ks) (kG (pk n 4) n 5)) := hus
  clear hus
  have HUo : Hid (signsF (gvs us) = 0) := by show _ = _; rw [HUs.out]; exact more_ok HO.out.ok gn.out
  have S1 : signedF (gvs ks) (-1) (kG (pk m 4) m 3) = (decide (kG (pk m 4) m 3 ∈ gvs ks), 0) := signedF_nobody HO.out.ok gm.out
  have S2 : signedF (gvs us) (-1) (kG (pk m 4) m 3) = (decide (kG (pk m 4) m 3 ∈ gvs ks), 0) := by rw [signedF_nobody HUo.out gm.out, HUs.out]; simp only [more_other hne.out]
  have S3 : signedF (gvs us) (-1) (kG (pk n 4) n 5) = (true, 0) := by rw [signedF_nobody HUo.out gn.out, HUs.out]; simp only [more_mem, decide_true]
  have C1 := fun W (hW : Below w6.heap.size w6 W) => signedK_any ks ra rc (-1) (pk m 4) m 3 bm W (hT.below hW) (hsm.below hW)
  have C2 := fun W (hW : Below w6.heap.size w6 W) => signedK_any us ua uc (-1) (pk m 4) m 3 bm W (hU.below hW) (hsm.below hW)
  have C3 := fun W (hW : Below w6.heap.size w6 W) => signedK_any us ua uc (-1) (pk n 4) n 5 bn W (hU.below hW) (hsn.below hW)
  rw [S1] at C1
  rw [S2] at C2
  rw [S3] at C3
  clear S1 S2 S3
  generalize decide (kG (pk m 4) m 3 ∈ gvs ks) = r at C1 C2
  have HX := Below.refl w6.heap.size w6
  have qm_c0 := cells_at qm 0 _ rfl
  have qm_c1 := cells_at qm 1 _ rfl
  have qm_c2 := cells_at qm 2 _ rfl
  have qm_c3 := cells_at qm 3 _ rfl
  go_wp2_with fail
  refine (C1 _ HX).mono ?_
  rintro e w7 ⟨he, hbx⟩
  subst he
  dsimp only
  clear qm_c0 qm_c1 qm_c2 qm_c3
  replace HX := HX.trans (hbx.mono HX.size)
  replace hT := hT.below hbx
  replace hsn := hsn.below hbx
  replace qn := (hbx.block _ (lt_of_heap qn)).trans qn
  replace hsm := hsm.below hbx
  replace qm := (hbx.block _ (lt_of_heap qm)).trans qm
  replace hU := hU.below hbx
  replace HB := HB.trans (hbx.mono HB.size)
  clear hbx
  have qm_c0 := cells_at qm 0 _ rfl
  have qm_c1 := cells_at qm 1 _ rfl
  have qm_c2 := cells_at qm 2 _ rfl
  have qm_c3 := cells_at qm 3 _ rfl
  go_wp2_with fail
  refine (C2 _ HX).mono ?_
  rintro e w8 ⟨he, hbx⟩
  subst he
  dsimp only
  clear qm_c0 qm_c1 qm_c2 qm_c3
  replace HX := HX.trans (hbx.mono HX.size)
  replace hT := hT.below hbx
  replace hsn := hsn.below hbx
  replace qn := (hbx.block _ (lt_of_heap qn)).trans qn
  replace hsm := hsm.below hbx
  replace qm := (hbx.block _ (lt_of_heap qm)).trans qm
  replace hU := hU.below hbx
  replace HB := HB.trans (hbx.mono HB.size)
  clear hbx
  have qn_c0 := cells_at qn 0 _ rfl
  have qn_c1 := cells_at qn 1 _ rfl
  have qn_c2 := cells_at qn 2 _ rfl
  have qn_c3 := cells_at qn 3 _ rfl
  go_wp2_with fail
  refine (C3 _ HX).mono ?_
  rintro e w9 ⟨he, hbx⟩
  subst he
  dsimp only
  clear qn_c0 qn_c1 qn_c2 qn_c3
  replace HX := HX.trans (hbx.mono HX.size)
  replace hT := hT.below hbx
  replace hsn := hsn.below hbx
  replace qn := (hbx.block _ (lt_of_heap qn)).trans qn
  replace hsm := hsm.below hbx
  replace qm := (hbx.block _ (lt_of_heap qm)).trans qm
  replace hU := hU.below hbx
  replace HB := HB.trans (hbx.mono HB.size)
  clear hbx
  go_wp2_with fail
  go_ret
  exact ⟨by first | rfl | simp, HB⟩
end Go.Proofs.Ytmpflkggbekpfaa
