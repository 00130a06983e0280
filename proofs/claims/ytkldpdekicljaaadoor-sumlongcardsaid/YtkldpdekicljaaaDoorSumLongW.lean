/- The walk of SumLong. -/
import Derived.Test.YtkldpdekicljaaaDoorOpen
namespace Go.Proofs.YtkldpdekicljaaaDoor
open Go.RowKit

set_option maxRecDepth 100000 in
set_option maxHeartbeats 1000000 in
theorem sumLong_walk (bs : List Int) (sa : Option Addr) (cap : Nat) (n : Int) (w : World) (hs : SliceAt w sa cap bs) (_hu : AllU8 bs) (h0 : -9223372036854775808 ≤ n) (h1 : n ≤ 9223372036854775807) (hT : Tabs w) :
    Calls Tryd.prog 6 #[.slice sa bs.length cap, .int .i64 n] w fun e w' => e = .returned (.bool true) ∧ Below w.heap.size w w' := by
  obtain ⟨p0, p1⟩ := pk_bounds n 8000 (by decide)
  obtain ⟨k, hk⟩ := Int.eq_ofNat_of_zero_le p0
  have Hk : Hid (pk n 8000 = k) := hk
  rw [hk] at p1
  clear hk p0
  have hsl := hs.le
  have hsm := hs.max
  obtain ⟨i, hi, hz0, hz1, hz2⟩ := info_parts infoU8
  by_cases hk4 : 4000 < k
  · have hkI : (4000 : Int) < k := by omega
    by_cases hl4 : 4000 < bs.length
    · have hlI : ¬ ((bs.length : Int) ≤ 4000) := by omega
      go_enter Tryd.func6, Tryd.ntmps6
      go_wp2_with (first | (go_at_call 16; refine (picked_any n 8000 _ h0 h1 (by decide) (by decide)).mono ?_; rintro e w' ⟨rfl, rfl⟩; rw [Hk.out]) | (at_make; refine wpList_make_full _ rfl _ _ 22 rfl w.heap.size 5 i (.int .u8 0) 1 Tryd.underlying22 hi hz0 hz1 .i64 .i64 _ _ k rfl rfl rfl rfl (by rw [hz2]; omega) (by unfold maxLen; omega) (Nat.le_refl _) ?_; intro w1 ho1 hg1))
      have hb1 := grown_none hg1
      refine (sum_big k _ k _ hk4 (by unfold maxLen; omega)).mono ?_
      rintro e w2 ⟨rfl, rfl⟩
      go_wp2_with fail
      refine (sum_big bs.length _ cap _ hl4 (Nat.le_trans hsl hsm)).mono ?_
      rintro e w3 ⟨rfl, rfl⟩
      go_wp2_with fail
      go_ret
      exact ⟨rfl, hb1⟩
    · have hlI : (bs.length : Int) ≤ 4000 := by omega
      go_enter Tryd.func6, Tryd.ntmps6
      go_wp2_with (first | (go_at_call 16; refine (picked_any n 8000 _ h0 h1 (by decide) (by decide)).mono ?_; rintro e w' ⟨rfl, rfl⟩; rw [Hk.out]) | (at_make; refine wpList_make_full _ rfl _ _ 22 rfl w.heap.size 5 i (.int .u8 0) 1 Tryd.underlying22 hi hz0 hz1 .i64 .i64 _ _ k rfl rfl rfl rfl (by rw [hz2]; omega) (by unfold maxLen; omega) (Nat.le_refl _) ?_; intro w1 ho1 hg1))
      have hb1 := grown_none hg1
      refine (sum_big k _ k _ hk4 (by unfold maxLen; omega)).mono ?_
      rintro e w2 ⟨rfl, rfl⟩
      go_wp2_with fail
      refine (sum_ok bs _ _ cap _ rfl (by omega) (hs.below hb1) (hT.below hb1)).mono ?_
      rintro e w3 ⟨b3, rfl, hle3, hb3, hr3⟩
      go_wp2_with fail
      go_ret
      exact ⟨rfl, hb1.trans (hb3.mono hb1.size)⟩
  · have hkI : ¬ (4000 : Int) < k := by omega
    by_cases hl4 : 4000 < bs.length
    · have hlI : ¬ ((bs.length : Int) ≤ 4000) := by omega
      go_enter Tryd.func6, Tryd.ntmps6
      go_wp2_with (first | (go_at_call 16; refine (picked_any n 8000 _ h0 h1 (by decide) (by decide)).mono ?_; rintro e w' ⟨rfl, rfl⟩; rw [Hk.out]) | (at_make; refine wpList_make_full _ rfl _ _ 22 rfl w.heap.size 5 i (.int .u8 0) 1 Tryd.underlying22 hi hz0 hz1 .i64 .i64 _ _ k rfl rfl rfl rfl (by rw [hz2]; omega) (by unfold maxLen; omega) (Nat.le_refl _) ?_; intro w1 ho1 hg1))
      have hb1 := grown_none hg1
      rw [zeros_made] at ho1
      obtain ⟨hrl, hrs⟩ := sliceAt_of_owns ho1
      refine (sum_ok (List.replicate k 0) _ k k _ hrl (by simp; omega) hrs (hT.below hb1)).mono ?_
      clear hrl hrs ho1
      rintro e w2 ⟨b, rfl, hle, hb2, hr2⟩
      replace hb1 := hb1.trans (hb2.mono hb1.size)
      go_wp2_with fail
      refine (sum_big bs.length _ cap _ hl4 (Nat.le_trans hsl hsm)).mono ?_
      rintro e w3 ⟨rfl, rfl⟩
      go_wp2_with fail
      go_ret
      exact ⟨rfl, hb1⟩
    · have hlI : (bs.length : Int) ≤ 4000 := by omega
      go_enter Tryd.func6, Tryd.ntmps6
      go_wp2_with (first | (go_at_call 16; refine (picked_any n 8000 _ h0 h1 (by decide) (by decide)).mono ?_; rintro e w' ⟨rfl, rfl⟩; rw [Hk.out]) | (at_make; refine wpList_make_full _ rfl _ _ 22 rfl w.heap.size 5 i (.int .u8 0) 1 Tryd.underlying22 hi hz0 hz1 .i64 .i64 _ _ k rfl rfl rfl rfl (by rw [hz2]; omega) (by unfold maxLen; omega) (Nat.le_refl _) ?_; intro w1 ho1 hg1))
      have hb1 := grown_none hg1
      rw [zeros_made] at ho1
      obtain ⟨hrl, hrs⟩ := sliceAt_of_owns ho1
      refine (sum_ok (List.replicate k 0) _ k k _ hrl (by simp; omega) hrs (hT.below hb1)).mono ?_
      clear hrl hrs ho1
      rintro e w2 ⟨b, rfl, hle, hb2, hr2⟩
      replace hb1 := hb1.trans (hb2.mono hb1.size)
      go_wp2_with fail
      refine (sum_ok bs _ _ cap _ rfl (by omega) (hs.below hb1) (hT.below hb1)).mono ?_
      rintro e w3 ⟨b3, rfl, hle3, hb3, hr3⟩
      go_wp2_with fail
      go_ret
      exact ⟨rfl, hb1.trans (hb3.mono hb1.size)⟩
end Go.Proofs.YtkldpdekicljaaaDoor
