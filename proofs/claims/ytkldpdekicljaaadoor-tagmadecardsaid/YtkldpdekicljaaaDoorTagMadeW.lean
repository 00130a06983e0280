/- The walk of TagMade. -/
import Derived.Test.YtkldpdekicljaaaDoorTagLongW
import Derived.Test.YtkldpdekicljaaaDoorSame
import Derived.Deep.DeepCutAuto
namespace Go.Proofs.YtkldpdekicljaaaDoor
open Go.RowKit

/-- The first m bytes of a slice. -/
theorem SliceAt.take {w : World} {sa : Option Addr} {cap : Nat} {bs : List Int} (h : SliceAt w sa cap bs) (m : Nat) : SliceAt w sa cap (bs.take m) := by
  refine ⟨by have := h.le; simp; omega, h.max, h.some, h.nil, ?_⟩
  rcases h.bytes with hb | ⟨sb, so, rfl, hb⟩
  · exact .inl (by rw [hb]; simp)
  · refine .inr ⟨sb, so, rfl, fun j hj => ?_⟩
    have hj' : j < m ∧ j < bs.length := by simp at hj; omega
    rw [hb j hj'.2]
    simp [hj'.1]

theorem tagTo_two (tag : Int) (p q : Part) (n1 n2 : Nat) (h1 : n1 = p.bs.length) (h2 : n2 = q.bs.length) (l1 : n1 ≤ 300) (l2 : n2 ≤ 300) :
    ([tag, (n1 : Int) / 256, (n1 : Int) % 256] ++ p.bs) ++ [(n2 : Int) / 256, (n2 : Int) % 256] ++ q.bs = tagTo tag [p, q] [p, q].length := by
  have e1 : (n1 : Int) / 256 = (p.bs.length : Int) / 256 % 256 := by omega
  have e2 : (n2 : Int) / 256 = (q.bs.length : Int) / 256 % 256 := by omega
  have e3 : (n1 : Int) % 256 = (p.bs.length : Int) % 256 := by omega
  have e4 : (n2 : Int) % 256 = (q.bs.length : Int) % 256 := by omega
  rw [e1, e2, e3, e4]
  simp [tagTo]

theorem grow3 {w w1 w2 w3 : World} {A B : Obj} {c n : Nat} {v2 : Value} {xs : List Value} (h1 : Below w.heap.size w w1) (ho : w2.ownsRow w1.heap.size 5 1 v2 n xs) (h2 : (w1.alloc A).grownBy w2 (Value.slice (some ⟨w1.heap.size, 0, none⟩) c c).ownBlock) (h3 : (w2.alloc B).grownBy w3 v2.ownBlock) : Below w.heap.size w w3 := by
  have b2 : Below w.heap.size w w2 := Below.grown (h1.alloc h1.size _) h2 (le_alloc h1.size _) (fun q e => by simp [Value.ownBlock] at e; have := h1.size; omega)
  exact Below.grown (b2.alloc b2.size _) h3 (le_alloc b2.size _) (fun q e => Nat.le_trans h1.size (ho.lt q e).1)

set_option maxRecDepth 100000 in
set_option maxHeartbeats 1000000 in
theorem tagMade_walk (tag : Int) (xs : List Int) (sa : Option Addr) (ca : Nat) (bs : List Int) (sb : Option Addr) (cb : Nat) (w : World) (_t0 : 0 ≤ tag) (_t1 : tag ≤ 255) (ha : SliceAt w sa ca xs) (_ua : AllU8 xs) (hb : SliceAt w sb cb bs) (_ub : AllU8 bs) (hT : Tabs w) :
    Calls Tryd.prog 7 #[.int .u8 tag, .slice sa xs.length ca, .slice sb bs.length cb] w fun e w' => e = .returned (.bool true) ∧ Below w.heap.size w w' := by
  have hla := ha.le
  have hlb := hb.le
  have hma : ca ≤ 9223372036854775807 := ha.max
  have hmb : cb ≤ 9223372036854775807 := hb.max
  go_enter Tryd.func7, Tryd.ntmps7
  go_upto_region 1 with (fail)
  go_cut [1] (fun v wx => ∃ n1 : Nat, v = .slice sa n1 ca ∧ n1 ≤ 300 ∧ Hid (n1 = (xs.take 300).length) ∧ w = wx)
  case first =>
    go_wp2_with fail
    all_goals
      go_meet
      case rel => exact ⟨_, rfl, by omega, by show _ = _; simp; omega, rfl⟩
  case rest =>
    obtain ⟨n1, rfl, hn1, Hn1, rfl⟩ := hcut
    go_upto_region 2 with (fail)
    go_cut [2] (fun v wx => ∃ n2 : Nat, v = .slice sb n2 cb ∧ n2 ≤ 300 ∧ Hid (n2 = (bs.take 300).length) ∧ w = wx)
    case first =>
      go_wp2_with fail
      all_goals
        go_meet
        case rel => exact ⟨_, rfl, by omega, by show _ = _; simp; omega, rfl⟩
    case rest =>
      obtain ⟨n2, rfl, hn2, Hn2, rfl⟩ := hcut
      obtain ⟨i, hi, hz0, hz1, hz2⟩ := info_parts infoU8
      have HL : Hid (([tag, (n1 : Int) / 256, (n1 : Int) % 256] ++ xs.take 300) ++ [(n2 : Int) / 256, (n2 : Int) % 256] ++ bs.take 300 = tagTo tag [⟨sa, ca, xs.take 300⟩, ⟨sb, cb, bs.take 300⟩] [(⟨sa, ca, xs.take 300⟩ : Part), ⟨sb, cb, bs.take 300⟩].length) :=
        tagTo_two tag ⟨sa, ca, xs.take 300⟩ ⟨sb, cb, bs.take 300⟩ n1 n2 Hn1.out Hn2.out hn1 hn2
      have ha' := ha.take 300
      have hb' := hb.take 300
      generalize xs.take 300 = ys at *
      generalize bs.take 300 = zs at *
      clear ha hb
      have hB0 : Below w.heap.size w (w.alloc (.cells #[.slice sa n1 ca, .slice sb n2 cb] 22)) := (Below.refl _ _).alloc (Nat.le_refl _) _
      go_wp2_with fail
      refine (tagged_ok tag [⟨sa, ca, ys⟩, ⟨sb, cb, zs⟩] _ _ _ _ rfl (parts_two w sa sb n1 ca n2 cb _ _ Hn1.out Hn2.out ha' hb') (by have e1 := Hn1.out; have e2 := Hn2.out; rw [psz_two]; simp only; omega) (hT.below hB0)).mono ?_
      rintro e w1 ⟨b1, rfl, hle1, hb1, hr1⟩
      have hB1 := hB0.trans (hb1.mono hB0.size)
      have tok1 : True := trivial
      have tok2 : True := trivial
      go_wp2_with (first | (at_builtin; have _t := tok1; refine wpList_append_part rfl _ _ rfl w1.heap.size _ 3 [tag, (n1 : Int) / 256, (n1 : Int) % 256] rfl (World.ownsRow_lit w1 #[.int .u8 tag, .int .u8 ((n1 : Int) / 256), .int .u8 ((n1 : Int) % 256)] 3 (Nat.le_refl _) (by decide) rfl) sa n1 ca ys rfl Hn1.out (ha'.below (hB1.alloc hB1.size _)) (by omega) (le_alloc (Nat.le_refl _) _) ?_; clear tok1; intro v2 w2 ho2 hg2) | (at_builtin; have _t := tok2; refine wpList_append_own _ rfl _ _ 22 rfl w1.heap.size 5 i (.int .u8 0) 1 1 Tryd.underlying22 hi hz0 hz1 hz2 rfl (by decide) _ (3 + n1) _ rfl (ho2.alloc _) ⟨w2.heap.size, 0, none⟩ 2 2 [.int .u8 ((n2 : Int) / 256), .int .u8 ((n2 : Int) % 256)] rfl rfl (cells_new _ _ _) (u8_one [_, _]) (by unfold maxLen; omega) (by omega) (le_alloc (Nat.le_trans (le_alloc (Nat.le_refl _) _) hg2.size) _) ?_; clear tok2; intro v3 w3 ho3 hg3 _) | (at_builtin; refine wpList_append_part rfl _ _ rfl w1.heap.size _ _ (([tag, (n1 : Int) / 256, (n1 : Int) % 256] ++ ys) ++ [(n2 : Int) / 256, (n2 : Int) % 256]) rfl (ub_app ho3) sb n2 cb zs rfl Hn2.out (hb'.below (grow3 hB1 ho2 hg2 hg3)) (by omega) (Nat.le_trans (le_alloc (Nat.le_trans (le_alloc (Nat.le_refl _) _) hg2.size) _) hg3.size) ?_; intro v4 w4 ho4 hg4))
      have hB3 := grow3 hB1 ho2 hg2 hg3
      have hB4 := Below.grown hB3 hg4 hB3.size (fun q e => Nat.le_trans hB1.size (ho3.lt q e).1)
      have hC3 := grow3 (Below.refl _ w1) ho2 hg2 hg3
      have hC4 := Below.grown hC3 hg4 hC3.size (fun q e => (ho3.lt q e).1)
      replace hr1 := hr1.below hC4
      obtain ⟨sa4, cap4, hv4, hl4, hs4⟩ := owns_form ho4
      subst hv4
      have HL4 : Hid (3 + n1 + 2 + n2 = (([tag, (n1 : Int) / 256, (n1 : Int) % 256] ++ ys) ++ [(n2 : Int) / 256, (n2 : Int) % 256] ++ zs).length) := hl4
      clear hl4 ho4 ho3 ho2 hg2 hg3 hg4
      refine (sum_ok _ sa4 _ cap4 w4 HL4.out (by have := HL4.out; omega) hs4 (hT.below hB4)).mono ?_
      rintro e w5 ⟨b5, rfl, hle5, hb5, hr5⟩
      have hB5 := hB4.trans (hb5.mono hB4.size)
      rw [HL.out] at hr5
      replace hr1 := hr1.below hb5
      clear hs4 HL4
      go_wp2_with fail
      refine (tagged_ok tag [] none 0 0 w5 rfl ⟨.inl rfl, fun p hp => by cases hp⟩ (by simp [psz]) (hT.below hB5)).mono ?_
      rintro e w6 ⟨b6, rfl, hle6, hb6, hr6⟩
      have hB6 := hB5.trans (hb6.mono hB5.size)
      replace hr1 := hr1.below hb6
      replace hr5 := hr5.below hb6
      have hb7 : Below w6.heap.size w6 (w6.alloc (.cells #[.int .u8 tag] 5)) := (Below.refl _ _).alloc (Nat.le_refl _) _
      have hB7 := hB6.trans (hb7.mono hB6.size)
      have hs7 := (sliceAt_of_owns (bs := [tag]) (World.ownsRow_lit (base := 0) (e := 5) (size := 1) w6 #[.int .u8 tag] 1 (Nat.zero_le _) (by decide) rfl)).2
      go_wp2_with fail
      refine (sum_ok [tag] _ _ _ _ rfl (by simp) hs7 (hT.below hB7)).mono ?_
      rintro e w8 ⟨b8, rfl, hle8, hb8, hr8⟩
      have hB8 := hB7.trans (hb8.mono hB7.size)
      go_wp2_with fail
      refine (same_eq _ _ _ _ _ _ _ w8 (sumL_length _).symm (sumL_length _).symm ((hr1.below hb7).below hb8) ((hr5.below hb7).below hb8)).mono ?_
      rintro e w9 ⟨rfl, rfl⟩
      go_wp2_with fail
      refine (same_eq (sumL [tag]) _ _ _ _ _ _ w8 (sumL_length _).symm (sumL_length _).symm ((hr6.below hb7).below hb8) hr8).mono ?_
      rintro e w9 ⟨rfl, rfl⟩
      go_wp2_with fail
      go_ret
      exact ⟨rfl, hB8⟩
end Go.Proofs.YtkldpdekicljaaaDoor
