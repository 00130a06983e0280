/- The walk of TagWhole. -/
import Derived.Test.YtkldpdekicljaabDoorTagged
import Derived.Test.YtkldpdekicljaabDoorOpen
import Derived.Test.YtkldpdekicljaabDoorSame
import Derived.Deep.DeepCutAuto
namespace Go.Proofs.YtkldpdekicljaabDoor
open Go.RowKit

/-- One part in a row that was just made. -/
theorem parts_one (W : World) (sa1 : Option Addr) (n1 c1 : Nat) (b1 : List Int) (h1 : n1 = b1.length) (s1 : SliceAt W sa1 c1 b1) :
    PartsAt (W.alloc (.cells #[.slice sa1 n1 c1] 24)) (some ⟨W.heap.size, 0, none⟩) [⟨sa1, c1, b1⟩] := by
  subst h1
  have hb : Below W.heap.size W (W.alloc (.cells #[.slice sa1 b1.length c1] 24)) := (Below.refl _ _).alloc (Nat.le_refl _) _
  refine ⟨.inr ⟨_, _, rfl, fun j hj => ?_⟩, fun p hp => ?_⟩
  · rw [Nat.zero_add, World.cell?_alloc_at _ _ _ _ rfl]
    obtain rfl : j = 0 := by simp at hj; omega
    rfl
  · simp at hp
    subst hp
    exact s1.below hb
theorem psz_one (p : Part) : psz [p] [p].length = 2 + p.bs.length := by simp [psz]
/-- The first m bytes of a slice. -/
theorem SliceAt.take {w : World} {sa : Option Addr} {cap : Nat} {bs : List Int} (h : SliceAt w sa cap bs) (m : Nat) : SliceAt w sa cap (bs.take m) := by
  refine ⟨by have := h.le; simp; omega, h.max, h.some, h.nil, ?_⟩
  rcases h.bytes with hb | ⟨sb, so, rfl, hb⟩
  · exact .inl (by rw [hb]; simp)
  · refine .inr ⟨sb, so, rfl, fun j hj => ?_⟩
    have hj' : j < m ∧ j < bs.length := by simp at hj; omega
    rw [hb j hj'.2]
    simp [hj'.1]
theorem tagTo_one (tag : Int) (p : Part) (n1 : Nat) (h1 : n1 = p.bs.length) (l1 : n1 ≤ 900) :
    [tag, (n1 : Int) / 256, (n1 : Int) % 256] ++ p.bs = tagTo tag [p] [p].length := by
  have e1 : (n1 : Int) / 256 = (p.bs.length : Int) / 256 % 256 := by omega
  have e3 : (n1 : Int) % 256 = (p.bs.length : Int) % 256 := by omega
  rw [e1, e3]
  simp [tagTo]

set_option maxRecDepth 100000 in
set_option maxHeartbeats 1000000 in
theorem tagWhole_walk (tag : Int) (xs : List Int) (sa : Option Addr) (ca : Nat) (w : World) (_t0 : 0 ≤ tag) (_t1 : tag ≤ 255) (ha : SliceAt w sa ca xs) (_ua : AllU8 xs) (hT : Tabs w) :
    Calls Tryd.prog 4 #[.int .u8 tag, .slice sa xs.length ca] w fun e w' => e = .returned (.bool true) ∧ Below w.heap.size w w' := by
  have hla := ha.le
  have hma : ca ≤ 9223372036854775807 := ha.max
  go_enter Tryd.func4, Tryd.ntmps4
  go_upto_region 1 with (fail)
  go_cut [5] (fun v wx => ∃ n1 : Nat, v = .slice sa n1 ca ∧ n1 ≤ 900 ∧ Hid (n1 = (xs.take 900).length) ∧ w = wx)
  case first =>
    go_wp2_with fail
    all_goals
      go_meet
      case rel => exact ⟨_, rfl, by omega, by show _ = _; simp; omega, rfl⟩
  case rest =>
    obtain ⟨n1, rfl, hn1, Hn1, rfl⟩ := hcut
    have HL : Hid ([tag, (n1 : Int) / 256, (n1 : Int) % 256] ++ xs.take 900 = tagTo tag [⟨sa, ca, xs.take 900⟩] [(⟨sa, ca, xs.take 900⟩ : Part)].length) :=
      tagTo_one tag ⟨sa, ca, xs.take 900⟩ n1 Hn1.out hn1
    have ha' := ha.take 900
    generalize xs.take 900 = ys at *
    clear ha
    have hB0 : Below w.heap.size w (w.alloc (.cells #[.slice sa n1 ca] 24)) := (Below.refl _ _).alloc (Nat.le_refl _) _
    go_wp2_with fail
    refine (tagged_ok tag [⟨sa, ca, ys⟩] _ _ _ _ rfl (parts_one w sa n1 ca _ Hn1.out ha') (by have e1 := Hn1.out; rw [psz_one]; simp only; omega) (hT.below hB0)).mono ?_
    rintro e w1 ⟨b1, rfl, hle1, hb1, hr1⟩
    have hB1 := hB0.trans (hb1.mono hB0.size)
    go_wp2_with (at_builtin; refine wpList_append_part rfl _ _ rfl w1.heap.size _ 3 [tag, (n1 : Int) / 256, (n1 : Int) % 256] rfl (World.ownsRow_lit w1 #[.int .u8 tag, .int .u8 ((n1 : Int) / 256), .int .u8 ((n1 : Int) % 256)] 3 (Nat.le_refl _) (by decide) rfl) sa n1 ca ys rfl Hn1.out (ha'.below (hB1.alloc hB1.size _)) (by omega) (le_alloc (Nat.le_refl _) _) ?_; intro v2 w2 ho2 hg2; obtain ⟨sa4, cap4, hv4, hl4, hs4⟩ := owns_form ho2; subst hv4; have HL4 : Hid (3 + n1 = ([tag, (n1 : Int) / 256, (n1 : Int) % 256] ++ ys).length) := hl4; clear hl4)
    have hc : ∀ q, (Value.slice (some ⟨w1.heap.size, 0, none⟩) 3 3).ownBlock = some q → w1.heap.size ≤ q := fun q e => by simp [Value.ownBlock] at e; omega
    have hB2 := Below.grown (hB1.alloc hB1.size _) hg2 (le_alloc hB1.size _) (fun q e => Nat.le_trans hB1.size (hc q e))
    have hC2 := Below.grown ((Below.refl _ w1).alloc (Nat.le_refl _) _) hg2 (le_alloc (Nat.le_refl _) _) hc
    replace hr1 := hr1.below hC2
    clear ho2 hg2
    refine (sum_ok _ sa4 _ cap4 w2 HL4.out (by have := HL4.out; omega) hs4 (hT.below hB2)).mono ?_
    rintro e w5 ⟨b5, rfl, hle5, hb5, hr5⟩
    have hB5 := hB2.trans (hb5.mono hB2.size)
    rw [HL.out] at hr5
    clear hs4 HL4
    go_wp2_with fail
    refine (same_eq _ _ _ _ _ _ _ w5 (sumL_length _).symm (sumL_length _).symm (hr1.below hb5) hr5).mono ?_
    rintro e w9 ⟨rfl, rfl⟩
    go_wp2_with fail
    go_ret
    exact ⟨rfl, hB5⟩
end Go.Proofs.YtkldpdekicljaabDoor
