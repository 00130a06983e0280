/- The copies that the statements make: texts and batch. -/
import Derived.Test.YtplmploigfhkkaaStrs
import Derived.Test.YtplmploigfhkkaaApp
import Derived.Deep.RegionHeld2
namespace Go.Proofs.Ytplmploigfhkkaa
open Go.RowKit

theorem infoStr : (Try.prog.info? 9).map (fun i => (i.zero, i.size, i.bytes)) = some (some (.string ByteArray.empty), 1, 16) := by kernel_rfl
def sv (ss : List ByteArray) : List Value := ss.map Value.string
theorem sv_length (ss : List ByteArray) : (sv ss).length = ss.length := by simp [sv]
theorem sv_one (ss : List ByteArray) : ∀ u ∈ sv ss, u.oneCell' = true := by
  intro u hu; simp [sv] at hu; obtain ⟨x, _, rfl⟩ := hu; rfl
theorem strsAt_of_owns {w : World} {base n : Nat} {v : Value} {ss : List ByteArray} (h : w.ownsRow base 9 1 v n (sv ss)) (hz : ∀ s ∈ ss, s.size ≤ maxLen) : ∃ ra rc, v = .slice ra n rc ∧ n = ss.length ∧ StrsAt w ra ss ∧ ∀ sb so, ra = some ⟨sb, so, none⟩ → base ≤ sb := by
  have hl : n = ss.length := by have := h.1; rw [sv_length] at this; omega
  rcases h.2 with ⟨rfl, hn⟩ | ⟨g, cap, cur, rfl, _⟩
  · have hb : ss = [] := List.eq_nil_of_length_eq_zero (by omega)
    subst hn hb
    exact ⟨none, 0, rfl, rfl, ⟨.inl rfl, hz⟩, fun _ _ e => by cases e⟩
  · refine ⟨some ⟨g, 0, none⟩, cap, rfl, hl, ⟨.inr ⟨g, 0, rfl, fun j hj => ?_⟩, hz⟩, fun sb so e => by cases e; exact (h.lt _ rfl).1⟩
    rw [Nat.zero_add, World.ownsRow.cellAt h j (by omega)]
    simp [sv, hj]
theorem StrsAt.setCell {w : World} {sa : Option Addr} {ss : List ByteArray} (h : StrsAt w sa ss) (b j : Nat) (v : Value) (hne : ∀ sb so, sa = some ⟨sb, so, none⟩ → b ≠ sb) : StrsAt (w.setCell ⟨b, j, none⟩ v) sa ss := by
  refine ⟨?_, h.size⟩
  rcases h.cells with h | ⟨sb, so, rfl, hc⟩
  · exact .inl h
  · exact .inr ⟨sb, so, rfl, fun k hk => (World.cell?_setCell_far _ _ _ _ (hne sb so rfl)).trans (hc k hk)⟩
/-- What is read of a slice of texts that came in. -/
structure TextsAt (w : World) (sa : Option Addr) (cap : Nat) (ss : List ByteArray) : Prop where
  le : ss.length ≤ cap
  reach : cap * 16 ≤ 140737488351232
  nil : sa = none → cap = 0
  strs : StrsAt w sa ss
theorem TextsAt.below {w w' : World} {sa : Option Addr} {cap : Nat} {ss : List ByteArray} (h : TextsAt w sa cap ss) (hb : Below w.heap.size w w') : TextsAt w' sa cap ss := ⟨h.le, h.reach, h.nil, h.strs.below hb⟩

set_option maxHeartbeats 400000 in
theorem texts_any (ss : List ByteArray) (sa : Option Addr) (n cap : Nat) (w : World) (hn : n = ss.length) (hs : TextsAt w sa cap ss) :
    Calls Try.prog 20 #[.slice sa n cap] w fun e w' => ∃ ra rc, e = .returned (.slice ra ss.length rc) ∧ StrsAt w' ra ss ∧ Below w.heap.size w w' ∧ ∀ sb so, ra = some ⟨sb, so, none⟩ → w.heap.size ≤ sb := by
  obtain ⟨i, hi, hz0, hz1, hz2⟩ := info_parts infoStr
  have hle := hs.le
  have hre := hs.reach
  cases sa with
  | none =>
    obtain rfl := hs.nil rfl
    obtain rfl : ss = [] := List.eq_nil_of_length_eq_zero (by omega)
    subst hn
    go_enter Try.func20, Try.ntmps20
    go_wp2_with (at_builtin; refine wpList_append_own_none rfl _ _ 22 rfl w.heap.size 9 i 1 Try.underlying22 hi _ 0 [] rfl (World.ownsRow_nil _ _ _ _) rfl ?_)
    go_ret
    exact ⟨none, 0, rfl, hs.strs, Below.refl _ _, fun _ _ e => by cases e⟩
  | some ad =>
    have hcell : ∀ j u, (sv ss)[j]? = some u → w.cell? (ad.add j) = some u := by
      intro j u hu
      rcases hs.strs.cells with hb | ⟨sb, so, e, hb⟩
      · subst hb; simp [sv] at hu
      · cases e
        have hj : j < ss.length := by
          rcases Nat.lt_or_ge j ss.length with g | g
          · exact g
          · rw [List.getElem?_eq_none (by rw [sv_length]; exact g)] at hu; cases hu
        rw [add_off, hb j hj]
        simp [sv, hj] at hu
        simp [hj, hu]
    subst hn
    go_enter Try.func20, Try.ntmps20
    go_wp2_with (at_builtin; refine wpList_append_own _ rfl _ _ 22 rfl w.heap.size 9 i (.string ByteArray.empty) 1 16 Try.underlying22 hi hz0 hz1 hz2 rfl (by decide) _ 0 [] rfl (World.ownsRow_nil _ _ _ _) ad ss.length cap (sv ss) rfl (by rw [sv_length]; omega) hcell (sv_one ss) (by unfold maxLen; omega) (by omega) (Nat.le_refl _) ?_; intro v1 w1 ho1 hg1 _)
    obtain ⟨ra, rc, hv, hl, hsl, hfr⟩ := strsAt_of_owns ho1 hs.strs.size
    subst hv
    go_ret
    refine ⟨ra, rc, ?_, hsl, grown_none hg1, hfr⟩
    simp
set_option maxHeartbeats 400000 in
theorem batch_any (au nu : Int) (ss : List ByteArray) (sa : Option Addr) (n cap : Nat) (w : World) (hn : n = ss.length) (hs : TextsAt w sa cap ss) :
    Calls Try.prog 8 #[.agg #[.int .i64 au, .int .i64 nu, .slice sa n cap]] w fun e w' => ∃ ra rc, e = .returned (.agg #[.int .i64 au, .int .i64 nu, .slice ra ss.length rc]) ∧ StrsAt w' ra ss ∧ Below w.heap.size w w' := by
  subst hn
  go_enter Try.func8, Try.ntmps8
  go_wp2_with fail
  have hR : Below w.heap.size w ((w.alloc (.cells #[.int .i64 au, .int .i64 nu, .slice sa ss.length cap] 24)).alloc (.cells #[.int .i64 0, .int .i64 0, .slice none 0 0] 24)) := ((Below.refl _ _).alloc (Nat.le_refl _) _).alloc (by simp) _
  have q0 := row_new (below_alloc (Below.refl ((w.alloc (.cells #[.int .i64 au, .int .i64 nu, .slice sa ss.length cap] 24)).alloc (.cells #[.int .i64 0, .int .i64 0, .slice none 0 0] 24)).heap.size ((w.alloc (.cells #[.int .i64 au, .int .i64 nu, .slice sa ss.length cap] 24)).alloc (.cells #[.int .i64 0, .int .i64 0, .slice none 0 0] 24))))
  have k0 := cells_at q0 0 _ rfl
  have k1 := cells_at q0 1 _ rfl
  have k2 := cells_at q0 2 _ rfl
  go_region_held2 (fun w' => w'.cell? ⟨w.heap.size, 0, none⟩ = some (.int .i64 au) ∧ w'.cell? ⟨w.heap.size, 1, none⟩ = some (.int .i64 nu) ∧ w'.cell? ⟨w.heap.size, 2, none⟩ = some (.slice sa ss.length cap)) (go_keep) ((go_at_call 20; refine (texts_any ss sa _ cap _ rfl (hs.below ?_)).mono ?_; exact hR.drew; rintro e w1 ⟨ra, rc, rfl, hs1, hb1, hfr⟩; replace hb1 := below_drew hb1; have r1 := row_new hb1; have r0 := row_new (below_alloc hb1); rw [size_alloc] at r1; have c0 := cells_at r0 0 _ rfl; have c1 := cells_at r0 1 _ rfl; have c2 := cells_at r0 2 _ rfl; have d0 := cells_at r1 0 _ rfl; have d1 := cells_at r1 1 _ rfl; have d2 := cells_at r1 2 _ rfl; have f0 := frozen_at r1 0; have f1 := frozen_at r1 1; have f2 := frozen_at r1 2))
  all_goals
    go_wp2_with fail
    have hfr' : ∀ sb so, ra = some ⟨sb, so, none⟩ → w.heap.size + 1 ≠ sb := fun sb so e => by have := hfr sb so e; simp at this; omega
    refine bodyPost_ret (v := .agg #[.int .i64 au, .int .i64 nu, .slice ra ss.length rc]) (by simp [results, Try.results8, go_sem, d0, d1, d2]) rfl ⟨ra, rc, rfl, ?_, ?_⟩
    · exact ((hs1.setCell _ _ _ hfr').setCell _ _ _ hfr').setCell _ _ _ hfr'
    · exact (((below_alloc (below_alloc hb1)).setCell (by simp) _).setCell (by simp) _).setCell (by simp) _
end Go.Proofs.Ytplmploigfhkkaa
