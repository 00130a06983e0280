/- The walk of TagLong. -/
import Derived.Test.YtkldpdekicljaaaDoorTagged
import Derived.Test.YtkldpdekicljaaaDoorOpen
namespace Go.Proofs.YtkldpdekicljaaaDoor
open Go.RowKit

/-- Two parts in a row that was just made. -/
theorem parts_two (W : World) (sa1 sa2 : Option Addr) (n1 c1 n2 c2 : Nat) (b1 b2 : List Int) (h1 : n1 = b1.length) (h2 : n2 = b2.length) (s1 : SliceAt W sa1 c1 b1) (s2 : SliceAt W sa2 c2 b2) :
    PartsAt (W.alloc (.cells #[.slice sa1 n1 c1, .slice sa2 n2 c2] 22)) (some ⟨W.heap.size, 0, none⟩) [⟨sa1, c1, b1⟩, ⟨sa2, c2, b2⟩] := by
  subst h1 h2
  have hb : Below W.heap.size W (W.alloc (.cells #[.slice sa1 b1.length c1, .slice sa2 b2.length c2] 22)) := (Below.refl _ _).alloc (Nat.le_refl _) _
  refine ⟨.inr ⟨_, _, rfl, fun j hj => ?_⟩, fun p hp => ?_⟩
  · rw [Nat.zero_add, World.cell?_alloc_at _ _ _ _ rfl]
    have : j = 0 ∨ j = 1 := by simp at hj; omega
    rcases this with rfl | rfl <;> rfl
  · simp at hp
    rcases hp with rfl | rfl
    · exact s1.below hb
    · exact s2.below hb
theorem psz_two (p q : Part) : psz [p, q] [p, q].length = 4 + p.bs.length + q.bs.length := by simp [psz]; omega

set_option maxRecDepth 100000 in
set_option maxHeartbeats 1000000 in
theorem tagLong_walk (n m : Int) (w : World) (n0 : -9223372036854775808 ≤ n) (n1 : n ≤ 9223372036854775807) (m0 : -9223372036854775808 ≤ m) (m1 : m ≤ 9223372036854775807) (hT : Tabs w) :
    Calls Tryd.prog 8 #[.int .i64 n, .int .i64 m] w fun e w' => e = .returned (.bool true) ∧ Below w.heap.size w w' := by
  obtain ⟨p0, p1⟩ := pk_bounds n 2500 (by decide)
  obtain ⟨k, hk⟩ := Int.eq_ofNat_of_zero_le p0
  have Hk : Hid (pk n 2500 = k) := hk
  rw [hk] at p1
  clear hk p0
  obtain ⟨q0, q1⟩ := pk_bounds m 2500 (by decide)
  obtain ⟨l, hl⟩ := Int.eq_ofNat_of_zero_le q0
  have Hl : Hid (pk m 2500 = l) := hl
  rw [hl] at q1
  clear hl q0
  obtain ⟨i, hi, hz0, hz1, hz2⟩ := info_parts infoU8
  by_cases hbig : 4000 < 5 + k + l
  · have hbI : (4000 : Int) < 3 + (k : Int) + 2 + l := by omega
    go_enter Tryd.func8, Tryd.ntmps8
    go_wp2_with fail
    refine (picked_any n 2500 _ n0 n1 (by decide) (by decide)).mono ?_
    rintro e w' ⟨rfl, rfl⟩
    rw [Hk.out]
    go_wp2_with (at_make; refine wpList_make_full _ rfl _ _ 22 rfl w.heap.size 5 i (.int .u8 0) 1 Tryd.underlying22 hi hz0 hz1 .i64 .i64 _ _ k rfl rfl rfl rfl (by rw [hz2]; omega) (by unfold maxLen; omega) (Nat.le_refl _) ?_; intro w1 ho1 hg1)
    have hb1 := grown_none hg1
    rw [zeros_made] at ho1
    obtain ⟨hl1, hs1⟩ := sliceAt_of_owns ho1
    have Hl1 : Hid (k = (List.replicate k (0 : Int)).length) := hl1
    clear hl1 ho1 hg1
    refine (picked_any m 2500 _ m0 m1 (by decide) (by decide)).mono ?_
    rintro e w' ⟨rfl, rfl⟩
    rw [Hl.out]
    go_wp2_with (at_make; refine wpList_make_full _ rfl _ _ 22 rfl w1.heap.size 5 i (.int .u8 0) 1 Tryd.underlying22 hi hz0 hz1 .i64 .i64 _ _ l rfl rfl rfl rfl (by rw [hz2]; omega) (by unfold maxLen; omega) (Nat.le_refl _) ?_; intro w2 ho2 hg2)
    have hb2 := grown_none hg2
    rw [zeros_made] at ho2
    obtain ⟨hl2, hs2⟩ := sliceAt_of_owns ho2
    have Hl2 : Hid (l = (List.replicate l (0 : Int)).length) := hl2
    clear hl2 ho2 hg2
    have hB2 := hb1.trans (hb2.mono hb1.size)
    have hB3 : Below w.heap.size w (w2.alloc (.cells #[.slice (some ⟨w.heap.size, 0, none⟩) k k, .slice (some ⟨w1.heap.size, 0, none⟩) l l] 22)) := hB2.alloc hB2.size _
    refine (tagged_big 7 _ _ _ _ _ rfl (by simp [maxLen]) (parts_two w2 _ _ k k l l _ _ Hl1.out Hl2.out (hs1.below hb2) hs2) (by rw [psz_two]; simp; omega)).mono ?_
    rintro e w3 ⟨rfl, rfl⟩
    go_wp2_with fail
    go_ret
    exact ⟨rfl, hB3⟩
  · have hbI : ¬ ((4000 : Int) < 3 + (k : Int) + 2 + l) := by omega
    go_enter Tryd.func8, Tryd.ntmps8
    go_wp2_with fail
    refine (picked_any n 2500 _ n0 n1 (by decide) (by decide)).mono ?_
    rintro e w' ⟨rfl, rfl⟩
    rw [Hk.out]
    go_wp2_with (at_make; refine wpList_make_full _ rfl _ _ 22 rfl w.heap.size 5 i (.int .u8 0) 1 Tryd.underlying22 hi hz0 hz1 .i64 .i64 _ _ k rfl rfl rfl rfl (by rw [hz2]; omega) (by unfold maxLen; omega) (Nat.le_refl _) ?_; intro w1 ho1 hg1)
    have hb1 := grown_none hg1
    rw [zeros_made] at ho1
    obtain ⟨hl1, hs1⟩ := sliceAt_of_owns ho1
    have Hl1 : Hid (k = (List.replicate k (0 : Int)).length) := hl1
    clear hl1 ho1 hg1
    refine (picked_any m 2500 _ m0 m1 (by decide) (by decide)).mono ?_
    rintro e w' ⟨rfl, rfl⟩
    rw [Hl.out]
    go_wp2_with (at_make; refine wpList_make_full _ rfl _ _ 22 rfl w1.heap.size 5 i (.int .u8 0) 1 Tryd.underlying22 hi hz0 hz1 .i64 .i64 _ _ l rfl rfl rfl rfl (by rw [hz2]; omega) (by unfold maxLen; omega) (Nat.le_refl _) ?_; intro w2 ho2 hg2)
    have hb2 := grown_none hg2
    rw [zeros_made] at ho2
    obtain ⟨hl2, hs2⟩ := sliceAt_of_owns ho2
    have Hl2 : Hid (l = (List.replicate l (0 : Int)).length) := hl2
    clear hl2 ho2 hg2
    have hB2 := hb1.trans (hb2.mono hb1.size)
    have hB3 : Below w.heap.size w (w2.alloc (.cells #[.slice (some ⟨w.heap.size, 0, none⟩) k k, .slice (some ⟨w1.heap.size, 0, none⟩) l l] 22)) := hB2.alloc hB2.size _
    refine (tagged_ok 7 _ _ _ _ _ rfl (parts_two w2 _ _ k k l l _ _ Hl1.out Hl2.out (hs1.below hb2) hs2) (by rw [psz_two]; simp; omega) (hT.below hB3)).mono ?_
    rintro e w3 ⟨b, rfl, hle, hb3, hr3⟩
    go_wp2_with fail
    go_ret
    exact ⟨rfl, hB3.trans (hb3.mono hB3.size)⟩
end Go.Proofs.YtkldpdekicljaaaDoor
