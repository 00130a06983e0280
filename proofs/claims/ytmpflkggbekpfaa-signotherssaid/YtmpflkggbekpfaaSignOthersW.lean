/- The walk of SignOthers. -/
import Derived.Test.YtmpflkggbekpfaaKAdd
import Derived.Test.YtmpflkggbekpfaaOpenN
namespace Go.Proofs.Ytmpflkggbekpfaa
open Go.RowKit

set_option maxRecDepth 100000 in
set_option maxHeartbeats 4000000 in
theorem signOthers_walk (va : Option Addr) (vc : Nat) (vl : List Int) (n who : Int) (w : World) (hv : NumsIn w va vc vl) (n0 : -9223372036854775808 ≤ n) (n1 : n ≤ 9223372036854775807) (who0 : -9223372036854775808 ≤ who) (who1 : who ≤ 9223372036854775807) :
    Calls Try.prog 4 #[.slice va vl.length vc, .int .i64 n, .int .i64 who] w fun e w' => e = .returned (.bool true) ∧ Below w.heap.size w w' := by
  have pw := pk_bounds who 4 (by decide)
  have HB := Below.refl w.heap.size w
  go_enter Try.func4, Try.ntmps4
  go_wp2_with fail
  refine (signs_any vl va _ vc w rfl hv.le hv.max hv.ints hv.each).mono ?_
  rintro e w1 ⟨ra, rc, ks, he, hT, hO, hb1⟩
  subst he
  dsimp only
  replace HB := HB.trans (hb1.mono HB.size)
  have hk30 : ks.length ≤ 30 := by have := hO.few; rw [gvs_length] at this; exact this
  have HO : Hid (SignsOf (gvs ks)) := hO
  clear hO hv
  go_wp2_with fail
  refine (picked_any who 4 w1 who0 who1 (by decide) (by decide)).mono ?_
  rintro e wq ⟨he, hwq⟩
  subst he hwq
  dsimp only
  go_wp2_with fail
  refine (slot_any n 77 w1 ⟨n0, n1⟩).mono ?_
  rintro e w2 ⟨b, he, hs, hbb, hbn⟩
  subst he
  dsimp only
  replace hT := hT.below hbn
  replace HB := HB.trans (hbn.mono HB.size)
  generalize hpk : pk who 4 = k at pw ⊢
  clear hpk
  have hA1 := (Below.refl w2.heap.size w2).alloc (Nat.le_refl _) (.cells #[.int .i64 k, .int .i64 (pk n 3), .int .i64 (1 + pk n 5), .slice (some ⟨b, 0, none⟩) 32 32] 31)
  have q := heap_alloc_new w2 (.cells #[.int .i64 k, .int .i64 (pk n 3), .int .i64 (1 + pk n 5), .slice (some ⟨b, 0, none⟩) 32 32] 31)
  have q_c0 := cells_at q 0 _ rfl
  have q_c1 := cells_at q 1 _ rfl
  have q_c2 := cells_at q 2 _ rfl
  have q_c3 := cells_at q 3 _ rfl
  go_wp2_with fail
  clear q_c0 q_c1 q_c2 q_c3
  generalize hG : w2.alloc (.cells #[.int .i64 k, .int .i64 (pk n 3), .int .i64 (1 + pk n 5), .slice (some ⟨b, 0, none⟩) 32 32] 31) = w3 at hA1 q ⊢
  clear hG
  replace hT := hT.below hA1
  replace hs := hs.below hA1
  replace HB := HB.trans (hA1.mono HB.size)
  have gk : Hid (gF (kG k n 77) = 0) := kG_ok k n 77 pw
  have hno : Hid (¬ kG k n 77 ∈ gvs ks) := kG_byte HO.out.raw (by decide)
  have C := fun bad W (hW : Below w3.heap.size w3 W) => signedK_any ks ra rc bad k n 77 b W (hT.below hW) (hs.below hW)
  have C1 := C (-1)
  have C2 := C k
  have C4 := C 4
  have C3 := fun (o : Int) (ho : o ≠ k ∧ 0 ≤ o ∧ o ≤ 3) W (hW : Below w3.heap.size w3 W) => C o W hW
  have S1 : signedF (gvs ks) (-1) (kG k n 77) = (false, 0) := by rw [signedF_nobody HO.out.ok gk.out, decide_eq_false hno.out]
  have S2 : signedF (gvs ks) k (kG k n 77) = (true, 0) := by rw [signedF_ok (setF_ok HO.out.ok (by omega)) gk.out]; simp [kG]
  have S3 : ∀ o, (o ≠ k ∧ 0 ≤ o ∧ o ≤ 3) → signedF (gvs ks) o (kG k n 77) = (false, 0) := by
    intro o ho
    rw [signedF_ok (setF_ok HO.out.ok (by omega)) gk.out, decide_eq_false hno.out, decide_eq_false (show ¬ (kG k n 77).1 = o from fun e => ho.1 (Eq.symm e))]; rfl
  have S4 : signedF (gvs ks) 4 (kG k n 77) = (false, 2) := by rw [signedF_set (by rw [setF_range HO.out.ok (by decide)]; decide), setF_range HO.out.ok (by decide)]
  rw [S1] at C1
  rw [S2] at C2
  rw [S4] at C4
  have D3 : Hid (∀ (o : Int), (o ≠ k ∧ 0 ≤ o ∧ o ≤ 3) → ∀ W, Below w3.heap.size w3 W → Calls Try.prog 11 #[.slice ra ks.length rc, .int .i64 o, .agg #[.int .i64 k, .int .i64 (pk n 3), .int .i64 (1 + pk n 5), .slice (some ⟨b, 0, none⟩) 32 32]] W fun e w' => e = .returned (.tuple #[.bool false, .int .i64 0]) ∧ Below W.heap.size W w') := by
    show ∀ o, _
    intro o ho W hW
    have := C3 o ho W hW
    rw [S3 o ho] at this
    exact this
  clear S1 S2 S3 S4 C C3 gk hno
  have HX := Below.refl w3.heap.size w3
  refine (C1 _ HX).mono ?_
  rintro e w4 ⟨he, hbx⟩
  subst he
  dsimp only
  replace HX := HX.trans (hbx.mono HX.size)
  replace hT := hT.below hbx
  replace hs := hs.below hbx
  replace q := (hbx.block _ (lt_of_heap q)).trans q
  replace HB := HB.trans (hbx.mono HB.size)
  clear hbx
  have q_c0 := cells_at q 0 _ rfl
  have q_c1 := cells_at q 1 _ rfl
  have q_c2 := cells_at q 2 _ rfl
  have q_c3 := cells_at q 3 _ rfl
  go_wp2_with fail
  refine (C2 _ HX).mono ?_
  rintro e w5 ⟨he, hbx⟩
  subst he
  dsimp only
  clear q_c0 q_c1 q_c2 q_c3
  replace HX := HX.trans (hbx.mono HX.size)
  replace hT := hT.below hbx
  replace hs := hs.below hbx
  replace q := (hbx.block _ (lt_of_heap q)).trans q
  replace HB := HB.trans (hbx.mono HB.size)
  clear hbx
  have hk4 : k = 0 ∨ k = 1 ∨ k = 2 ∨ k = 3 := by omega
  have q_c0 := cells_at q 0 _ rfl
  have q_c1 := cells_at q 1 _ rfl
  have q_c2 := cells_at q 2 _ rfl
  have q_c3 := cells_at q 3 _ rfl
  rcases hk4 with hk | hk | hk | hk
  · subst hk
    go_wp2_with fail
    refine (D3.out 1 (by decide) _ HX).mono ?_
    rintro e w6 ⟨he, hbx⟩
    subst he
    dsimp only
    clear q_c0 q_c1 q_c2 q_c3
    replace HX := HX.trans (hbx.mono HX.size)
    replace hT := hT.below hbx
    replace hs := hs.below hbx
    replace q := (hbx.block _ (lt_of_heap q)).trans q
    replace HB := HB.trans (hbx.mono HB.size)
    clear hbx
    have q_c0 := cells_at q 0 _ rfl
    have q_c1 := cells_at q 1 _ rfl
    have q_c2 := cells_at q 2 _ rfl
    have q_c3 := cells_at q 3 _ rfl
    go_wp2_with fail
    refine (C4 _ HX).mono ?_
    rintro e w7 ⟨he, hbx⟩
    subst he
    dsimp only
    clear q_c0 q_c1 q_c2 q_c3
    replace HX := HX.trans (hbx.mono HX.size)
    replace hT := hT.below hbx
    replace hs := hs.below hbx
    replace q := (hbx.block _ (lt_of_heap q)).trans q
    replace HB := HB.trans (hbx.mono HB.size)
    clear hbx
    go_wp2_with fail
    go_ret
    exact ⟨by first | rfl | simp, HB⟩
  · subst hk
    go_wp2_with fail
    refine (D3.out 2 (by decide) _ HX).mono ?_
    rintro e w6 ⟨he, hbx⟩
    subst he
    dsimp only
    clear q_c0 q_c1 q_c2 q_c3
    replace HX := HX.trans (hbx.mono HX.size)
    replace hT := hT.below hbx
    replace hs := hs.below hbx
    replace q := (hbx.block _ (lt_of_heap q)).trans q
    replace HB := HB.trans (hbx.mono HB.size)
    clear hbx
    have q_c0 := cells_at q 0 _ rfl
    have q_c1 := cells_at q 1 _ rfl
    have q_c2 := cells_at q 2 _ rfl
    have q_c3 := cells_at q 3 _ rfl
    go_wp2_with fail
    refine (C4 _ HX).mono ?_
    rintro e w7 ⟨he, hbx⟩
    subst he
    dsimp only
    clear q_c0 q_c1 q_c2 q_c3
    replace HX := HX.trans (hbx.mono HX.size)
    replace hT := hT.below hbx
    replace hs := hs.below hbx
    replace q := (hbx.block _ (lt_of_heap q)).trans q
    replace HB := HB.trans (hbx.mono HB.size)
    clear hbx
    go_wp2_with fail
    go_ret
    exact ⟨by first | rfl | simp, HB⟩
  · subst hk
    go_wp2_with fail
    refine (D3.out 3 (by decide) _ HX).mono ?_
    rintro e w6 ⟨he, hbx⟩
    subst he
    dsimp only
    clear q_c0 q_c1 q_c2 q_c3
    replace HX := HX.trans (hbx.mono HX.size)
    replace hT := hT.below hbx
    replace hs := hs.below hbx
    replace q := (hbx.block _ (lt_of_heap q)).trans q
    replace HB := HB.trans (hbx.mono HB.size)
    clear hbx
    have q_c0 := cells_at q 0 _ rfl
    have q_c1 := cells_at q 1 _ rfl
    have q_c2 := cells_at q 2 _ rfl
    have q_c3 := cells_at q 3 _ rfl
    go_wp2_with fail
    refine (C4 _ HX).mono ?_
    rintro e w7 ⟨he, hbx⟩
    subst he
    dsimp only
    clear q_c0 q_c1 q_c2 q_c3
    replace HX := HX.trans (hbx.mono HX.size)
    replace hT := hT.below hbx
    replace hs := hs.below hbx
    replace q := (hbx.block _ (lt_of_heap q)).trans q
    replace HB := HB.trans (hbx.mono HB.size)
    clear hbx
    go_wp2_with fail
    go_ret
    exact ⟨by first | rfl | simp, HB⟩
  · subst hk
    go_wp2_with fail
    refine (D3.out 0 (by decide) _ HX).mono ?_
    rintro e w6 ⟨he, hbx⟩
    subst he
    dsimp only
    clear q_c0 q_c1 q_c2 q_c3
    replace HX := HX.trans (hbx.mono HX.size)
    replace hT := hT.below hbx
    replace hs := hs.below hbx
    replace q := (hbx.block _ (lt_of_heap q)).trans q
    replace HB := HB.trans (hbx.mono HB.size)
    clear hbx
    have q_c0 := cells_at q 0 _ rfl
    have q_c1 := cells_at q 1 _ rfl
    have q_c2 := cells_at q 2 _ rfl
    have q_c3 := cells_at q 3 _ rfl
    go_wp2_with fail
    refine (C4 _ HX).mono ?_
    rintro e w7 ⟨he, hbx⟩
    subst he
    dsimp only
    clear q_c0 q_c1 q_c2 q_c3
    replace HX := HX.trans (hbx.mono HX.size)
    replace hT := hT.below hbx
    replace hs := hs.below hbx
    replace q := (hbx.block _ (lt_of_heap q)).trans q
    replace HB := HB.trans (hbx.mono HB.size)
    clear hbx
    go_wp2_with fail
    go_ret
    exact ⟨by first | rfl | simp, HB⟩
end Go.Proofs.Ytmpflkggbekpfaa
