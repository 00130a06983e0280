/- The walk of TagEmpty. -/
import Derived.Test.YtkldpdekicljaabDoorTagged
import Derived.Test.YtkldpdekicljaabDoorOpen
import Derived.Test.YtkldpdekicljaabDoorSame
namespace Go.Proofs.YtkldpdekicljaabDoor
open Go.RowKit

theorem infoBs : (Tryd.prog.info? 24).map (fun i => (i.zero, i.size, i.bytes)) = some (some (.slice none 0 0), 1, 24) := by kernel_rfl
/-- Rows of unlike types are unlike rows. -/
theorem owns_apart {w : World} {b b' s s' n n' : Nat} {e e' : TypeId} {v v' : Value} {xs xs' : List Value} (h : w.ownsRow b e s v n xs) (h' : w.ownsRow b' e' s' v' n' xs') (hne : e ≠ e') : v.ownBlock = none ∨ v.ownBlock ≠ v'.ownBlock := by
  rcases h.2 with ⟨rfl, _⟩ | ⟨g, c, cur, rfl, _, hg, _⟩
  · exact .inl rfl
  · right
    rcases h'.2 with ⟨rfl, _⟩ | ⟨g', c', cur', rfl, _, hg', _⟩
    · simp [Value.ownBlock]
    · intro e0
      simp [Value.ownBlock] at e0
      subst e0
      rw [hg] at hg'
      simp at hg'
      exact hne hg'.2
theorem owns_keep {w w' : World} {b b' s s' n n' : Nat} {e e' : TypeId} {v v' : Value} {xs xs' : List Value} (h : w.ownsRow b e s v n xs) (h' : w.ownsRow b' e' s' v' n' xs') (hg : w.grownBy w' v'.ownBlock) (hne : Hid (e ≠ e')) : w'.ownsRow b e s v n xs := by
  have ha := owns_apart h h' hne
  obtain ⟨h1, h2⟩ := h
  refine ⟨h1, ?_⟩
  rcases h2 with h2 | ⟨g, cap, cur, rfl, hb, hc, r⟩
  · exact .inl h2
  · refine .inr ⟨g, cap, cur, rfl, hb, ?_, r⟩
    rcases ha with ha | ha
    · simp [Value.ownBlock] at ha
    · rw [hg.block g (lt_of_heap hc) (by simpa [Value.ownBlock] using ha)]; exact hc
def p0 : Part := ⟨none, 0, []⟩
theorem psz_zero (m k : Nat) (h : k ≤ m) : psz (List.replicate m p0) k = 2 * k := by
  induction k with
  | zero => rfl
  | succ k ih =>
    have hk : k < m := by omega
    have e : (List.replicate m p0).getD k ⟨none, 0, []⟩ = p0 := by simp [List.getD, hk]
    rw [psz, e, ih (by omega)]
    show 2 * k + (2 + 0) = 2 * (k + 1)
    omega
theorem tagTo_zero (tag : Int) (m k : Nat) (h : k ≤ m) : tagTo tag (List.replicate m p0) k = tag :: List.replicate (2 * k) 0 := by
  induction k with
  | zero => rfl
  | succ k ih =>
    have hk : k < m := by omega
    rw [tagTo, ih (by omega)]
    simp [List.getD, hk, p0]
    rw [show 2 * (k + 1) = 2 * k + 1 + 1 by omega, List.replicate_succ', List.replicate_succ']
    simp
theorem parts_zero {w : World} {base k : Nat} {v : Value} (h : w.ownsRow base 24 1 v k (List.replicate k (.slice none 0 0))) : ∃ sa cap, v = .slice sa k cap ∧ PartsAt w sa (List.replicate k p0) := by
  have heach : ∀ p ∈ List.replicate k p0, SliceAt w p.sa p.cap p.bs := by
    intro p hp
    obtain ⟨_, rfl⟩ := List.mem_replicate.1 hp
    exact ⟨Nat.le_refl _, by decide, .inl rfl, fun _ => rfl, .inl rfl⟩
  rcases h.2 with ⟨rfl, rfl⟩ | ⟨g, cap, cur, rfl, _⟩
  · exact ⟨none, 0, rfl, .inl rfl, heach⟩
  · refine ⟨some ⟨g, 0, none⟩, cap, rfl, .inr ⟨g, 0, rfl, fun j hj => ?_⟩, heach⟩
    have hj' : j < k := by simpa using hj
    have := World.ownsRow.cellAt h j (by omega)
    rw [Nat.zero_add, this]
    simp [hj', p0]

set_option maxRecDepth 100000 in
set_option maxHeartbeats 1000000 in
theorem tagEmpty_walk (tag n : Int) (w : World) (_t0 : 0 ≤ tag) (_t1 : tag ≤ 255) (n0 : -9223372036854775808 ≤ n) (n1 : n ≤ 9223372036854775807) (hT : Tabs w) :
    Calls Tryd.prog 3 #[.int .u8 tag, .int .i64 n] w fun e w' => e = .returned (.bool true) ∧ Below w.heap.size w w' := by
  obtain ⟨q0, q1⟩ := pk_bounds n 20 (by decide)
  obtain ⟨m, hm⟩ := Int.eq_ofNat_of_zero_le q0
  have Hm : Hid (pk n 20 = m) := hm
  rw [hm] at q1
  clear hm q0
  have hm20 : m < 20 := by omega
  obtain ⟨i, hi, hz0, hz1, hz2⟩ := info_parts infoU8
  obtain ⟨j, hj, hy0, hy1, hy2⟩ := info_parts infoBs
  have hown0 : (w.alloc (.cells #[.int .u8 tag] 5)).ownsRow w.heap.size 5 1 (.slice (some ⟨w.heap.size, 0, none⟩) 1 1) 1 (ub (tag :: List.replicate (2 * 0) 0)) :=
    World.ownsRow_lit w #[.int .u8 tag] 1 (Nat.le_refl _) (by decide) rfl
  go_enter Tryd.func3, Tryd.ntmps3
  go_wp2_with fail
  refine (picked_any n 20 _ n0 n1 (by decide) (by decide)).mono ?_
  rintro e w' ⟨rfl, rfl⟩
  rw [Hm.out]
  go_wp2_with fail
  go_loopw [8, 6, 7] (fun c vp vl wr => ∃ k : Nat, k ≤ m ∧ c = .int .i64 k ∧ Below w.heap.size w wr ∧ wr.ownsRow w.heap.size 24 1 vp k (List.replicate k (.slice none 0 0)) ∧ wr.ownsRow w.heap.size 5 1 vl (1 + 2 * k) (ub (tag :: List.replicate (2 * k) 0))) (fun c _ _ _ => m - (intOf c).toNat)
  case atStart => exact ⟨0, Nat.zero_le _, rfl, (Below.refl _ _).alloc (Nat.le_refl _) _, World.ownsRow_nil _ _ _ _, hown0⟩
  case round =>
    obtain ⟨k, hk, rfl, hb, hop, hol⟩ := hrel
    by_cases hlt : k < m
    · have hltI : (k : Int) < m := by omega
      have tok : True := trivial
      have hne : Hid ((5 : TypeId) ≠ 24) := by show (5 : TypeId) ≠ 24; decide
      have hne' : Hid ((24 : TypeId) ≠ 5) := by show (24 : TypeId) ≠ 5; decide
      go_wp2_with (first | (at_builtin; have _t := tok; refine wpList_append_own _ rfl _ _ 23 rfl w.heap.size 24 j (.slice none 0 0) 1 24 Tryd.underlying23 hj hy0 hy1 hy2 rfl (by decide) _ k _ rfl (hop.alloc _) ⟨wr.heap.size, 0, none⟩ 1 1 [.slice none 0 0] rfl rfl (cells_new _ _ _) (fun u hu => by simp at hu; subst hu; rfl) (by unfold maxLen; omega) (by omega) (le_alloc hb.size _) ?_; clear tok; intro v1 w1 ho1 hg1 _; have hol1 := owns_keep (hol.alloc _) (hop.alloc _) hg1 hne) | (at_builtin; refine wpList_append_own _ rfl _ _ 24 rfl w.heap.size 5 i (.int .u8 0) 1 1 Tryd.underlying24 hi hz0 hz1 hz2 rfl (by decide) _ (1 + 2 * k) _ rfl (hol1.alloc _) ⟨w1.heap.size, 0, none⟩ 2 2 [.int .u8 0, .int .u8 0] rfl rfl (cells_new _ _ _) (u8_one [_, _]) (by unfold maxLen; omega) (by omega) (le_alloc (Nat.le_trans (le_alloc hb.size _) hg1.size) _) ?_; intro v2 w2 ho2 hg2 _))
      have hb1 := Below.grown (hb.alloc hb.size _) hg1 (le_alloc hb.size _) (fun q e => (hop.lt q e).1)
      have hb2 := Below.grown (hb1.alloc hb1.size _) hg2 (le_alloc hb1.size _) (fun q e => (hol.lt q e).1)
      have hop2 := owns_keep (ho1.alloc _) (hol1.alloc _) hg2 hne'
      go_roundw
      case rel =>
        refine ⟨k + 1, by omega, by go_num, hb2, ?_, ?_⟩
        · rw [List.replicate_succ']; exact hop2
        · rw [show 1 + 2 * (k + 1) = 1 + 2 * k + 2 by omega, show 2 * (k + 1) = 2 * k + 1 + 1 by omega, List.replicate_succ', List.replicate_succ']
          simpa [ub] using ho2
      case measure => simp [intOf]; omega
    · obtain rfl : k = m := by omega
      obtain ⟨sp, cp, hvp, hpp⟩ := parts_zero hop
      subst hvp
      obtain ⟨sl, cl, hvl, hll, hsl⟩ := owns_form hol
      subst hvl
      have HL : Hid (1 + 2 * k = (tag :: List.replicate (2 * k) 0).length) := hll
      clear hll hop hol hown0
      go_wp2_with fail
      refine (tagged_ok tag (List.replicate k p0) sp _ cp wr (by simp) hpp (by rw [List.length_replicate, psz_zero k k (Nat.le_refl _)]; omega) (hT.below hb)).mono ?_
      rintro e w1 ⟨b1, rfl, hle1, hb1, hr1⟩
      rw [List.length_replicate, tagTo_zero tag k k (Nat.le_refl _)] at hr1
      have hB1 := hb.trans (hb1.mono hb.size)
      go_wp2_with fail
      refine (sum_ok _ sl _ cl w1 HL.out (by have := HL.out; omega) (hsl.below hb1) (hT.below hB1)).mono ?_
      rintro e w2 ⟨b2, rfl, hle2, hb2, hr2⟩
      have hB2 := hB1.trans (hb2.mono hB1.size)
      go_wp2_with fail
      refine (same_eq _ _ _ _ _ _ _ w2 (sumL_length _).symm (sumL_length _).symm (hr1.below hb2) hr2).mono ?_
      rintro e w9 ⟨rfl, rfl⟩
      go_wp2_with fail
      go_ret
      exact ⟨rfl, hB2⟩
end Go.Proofs.YtkldpdekicljaabDoor
