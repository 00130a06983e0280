/- The document's signCopy, SignsCopy: new memory with the same signs. -/
import Derived.Test.YtdjaafnghlcjbaaGOwn
import Derived.Test.YtdjaafnghlcjbaaJoined
import Derived.Test.YtdjaafnghlcjbaaOwnL
import Derived.Deep.RegionHeld3
namespace Go.Proofs.Ytdjaafnghlcjbaa
open Go.RowKit

set_option maxRecDepth 100000 in
set_option maxHeartbeats 1000000 in
theorem signCopy_any (nd au rd : Int) (bs : List Int) (sa : Option Addr) (n cap : Nat) (w : World) (hn : n = bs.length) (hs : SliceAt w sa cap bs) (hl : bs.length ≤ 140737488355328) :
    Calls Try.prog 18 #[.agg #[.int .i64 nd, .int .i64 au, .int .i64 rd, .slice sa n cap]] w fun e w' => ∃ ra rc, e = .returned (.agg #[.int .i64 nd, .int .i64 au, .int .i64 rd, .slice ra bs.length rc]) ∧ SliceAt w' ra rc bs ∧ (∀ sb so, ra = some ⟨sb, so, none⟩ → w.heap.size ≤ sb ∧ sb < w'.heap.size) ∧ Below w.heap.size w w' := by
  subst hn
  have hR : Below w.heap.size w ((w.alloc (.cells #[.int .i64 nd, .int .i64 au, .int .i64 rd, .slice sa bs.length cap] 31)).alloc (.cells #[.int .i64 0, .int .i64 0, .int .i64 0, .slice none 0 0] 31)) := ((Below.refl _ _).alloc (Nat.le_refl _) _).alloc (by simp) _
  have q0 := heap_alloc2_old w (.cells #[.int .i64 nd, .int .i64 au, .int .i64 rd, .slice sa bs.length cap] 31) (.cells #[.int .i64 0, .int .i64 0, .int .i64 0, .slice none 0 0] 31)
  have q1 : ((w.alloc (.cells #[.int .i64 nd, .int .i64 au, .int .i64 rd, .slice sa bs.length cap] 31)).alloc (.cells #[.int .i64 0, .int .i64 0, .int .i64 0, .slice none 0 0] 31)).heap[w.heap.size + 1]? = some (.cells #[.int .i64 0, .int .i64 0, .int .i64 0, .slice none 0 0] 31 (0, 0)) := by
    have := heap_alloc_new (w.alloc (.cells #[.int .i64 nd, .int .i64 au, .int .i64 rd, .slice sa bs.length cap] 31)) (.cells #[.int .i64 0, .int .i64 0, .int .i64 0, .slice none 0 0] 31)
    rw [size_alloc] at this; exact this
  go_enter Try.func18, Try.ntmps18
  go_wp2_with fail
  generalize (w.alloc (.cells #[.int .i64 nd, .int .i64 au, .int .i64 rd, .slice sa bs.length cap] 31)).alloc (.cells #[.int .i64 0, .int .i64 0, .int .i64 0, .slice none 0 0] 31) = W0 at hR q0 q1 ⊢
  have k0 : W0.cell? ⟨w.heap.size, 0, none⟩ = some (.int .i64 nd) := cells_at q0 0 _ rfl
  have k1 : W0.cell? ⟨w.heap.size, 1, none⟩ = some (.int .i64 au) := cells_at q0 1 _ rfl
  have k2 : W0.cell? ⟨w.heap.size, 2, none⟩ = some (.int .i64 rd) := cells_at q0 2 _ rfl
  have k3 : W0.cell? ⟨w.heap.size, 3, none⟩ = some (.slice sa bs.length cap) := cells_at q0 3 _ rfl
  have hlt1 : w.heap.size + 1 < W0.heap.size := lt_of_heap q1
  go_region_held3 (fun w' => w'.cell? ⟨w.heap.size, 0, none⟩ = some (.int .i64 nd) ∧ w'.cell? ⟨w.heap.size, 1, none⟩ = some (.int .i64 au) ∧ w'.cell? ⟨w.heap.size, 2, none⟩ = some (.int .i64 rd) ∧ w'.cell? ⟨w.heap.size, 3, none⟩ = some (.slice sa bs.length cap)) (go_keep) ((go_at_call 29; refine (joined_any bs [] sa none _ _ cap 0 _ rfl rfl (hs.below (hR.trans ((Below.refl _ _).drew.mono hR.size))) (nilSlice _) (by simpa using hl)).mono ?_; rintro e w1 ⟨v1, rfl, ho1, hb1⟩; replace hb1 := below_drew hb1; have r0 := (hb1.block _ (lt_of_heap q0)).trans q0; have r1 := (hb1.block _ (lt_of_heap q1)).trans q1; have c0 : w1.cell? ⟨w.heap.size, 0, none⟩ = some (.int .i64 nd) := cells_at r0 0 _ rfl; have c1 : w1.cell? ⟨w.heap.size, 1, none⟩ = some (.int .i64 au) := cells_at r0 1 _ rfl; have c2 : w1.cell? ⟨w.heap.size, 2, none⟩ = some (.int .i64 rd) := cells_at r0 2 _ rfl; have c3 : w1.cell? ⟨w.heap.size, 3, none⟩ = some (.slice sa bs.length cap) := cells_at r0 3 _ rfl; have d0 := cells_at r1 0 _ rfl; have d1 := cells_at r1 1 _ rfl; have d2 := cells_at r1 2 _ rfl; have d3 := cells_at r1 3 _ rfl; have f0 := frozen_at r1 0; have f1 := frozen_at r1 1; have f2 := frozen_at r1 2; have f3 := frozen_at r1 3; simp only [List.append_nil, List.length_nil, Nat.add_zero] at ho1; obtain ⟨ra, rc, rfl, _, hs1⟩ := owns_form ho1))
  all_goals
    go_wp2_with fail
    have hW1 := hR.trans (hb1.mono hR.size)
    have hrow : ∀ sb so, ra = some ⟨sb, so, none⟩ → W0.heap.size ≤ sb ∧ sb < w1.heap.size := fun sb so e => ho1.lt sb (by rw [e]; rfl)
    refine bodyPost_ret (v := .agg #[.int .i64 nd, .int .i64 au, .int .i64 rd, .slice ra bs.length rc]) (by simp [results, Try.results18, go_sem, d0, d1, d2, d3]) rfl ⟨ra, rc, rfl, ?_, ?_, ?_⟩
    · refine ⟨hs1.le, hs1.max, hs1.some, hs1.nil, ?_⟩
      rcases hs1.bytes with hc | ⟨sb, so, e, hc⟩
      · exact .inl hc
      · have := (hrow sb so e).1
        exact .inr ⟨sb, so, e, fun k hk => ((World.cell?_setCell_far _ _ _ _ (by show w.heap.size + 1 ≠ sb; omega)).trans <| (World.cell?_setCell_far _ _ _ _ (by show w.heap.size + 1 ≠ sb; omega)).trans ((World.cell?_setCell_far _ _ _ _ (by show w.heap.size + 1 ≠ sb; omega)).trans (World.cell?_setCell_far _ _ _ _ (by show w.heap.size + 1 ≠ sb; omega)))).trans (hc k hk)⟩
    · intro sb so e
      have := hrow sb so e
      simp; omega
    · exact (((hW1.setCell (Nat.le_succ _) _).setCell (Nat.le_succ _) _).setCell (Nat.le_succ _) _).setCell (Nat.le_succ _) _

set_option maxRecDepth 100000 in
set_option maxHeartbeats 1000000 in
theorem signsCopy_own (ls : List Sg) (sa : Option Addr) (n cap : Nat) (w : World) (hn : n = ls.length) (ht : GRead w sa cap ls) :
    Calls Try.prog 7 #[.slice sa n cap] w fun e w' => ∃ v ks, e = .returned v ∧ gvs ks = gvs ls ∧ w'.ownsRow w.heap.size 31 4 v ls.length (gv ks) ∧ Apart w' w.heap.size v (gps ks) ∧ Below w.heap.size w w' := by
  subst hn
  obtain ⟨i, hi, hz0, hz1, hz2⟩ := info_parts infoSign
  have hreach := ht.tab.small
  go_enter Try.func7, Try.ntmps7
  go_wp2_with fail
  go_loopw [4, 3] (fun j v wr => ∃ (k : Nat) (ks : List Sg), k ≤ ls.length ∧ j = .int .i64 k ∧ gvs ks = (gvs ls).take k ∧ wr.ownsRow w.heap.size 31 4 v k (gv ks) ∧ Apart wr w.heap.size v (gps ks) ∧ Below w.heap.size w wr) (fun j _ _ => ls.length - (intOf j).toNat)
  case atStart => exact ⟨0, [], Nat.zero_le _, rfl, rfl, World.ownsRow_nil _ _ _ _, (fun p hp => by cases hp), Below.refl _ _⟩
  case round =>
    obtain ⟨k, ks, hk, rfl, hS, ho, hap, hb⟩ := hrel
    by_cases hlt : k < ls.length
    · have hpw := ht.tab.slots.below hb
      obtain ⟨sb, so, rfl, hc⟩ : ∃ sb so, sa = some ⟨sb, so, none⟩ ∧ ∀ j (h : j < ls.length), wr.cell? ⟨sb, so + j * 4, none⟩ = some (.int .i64 (ls[j]).nd) ∧ wr.cell? ⟨sb, so + j * 4 + 1, none⟩ = some (.int .i64 (ls[j]).au) ∧ wr.cell? ⟨sb, so + j * 4 + 2, none⟩ = some (.int .i64 (ls[j]).rd) ∧ wr.cell? ⟨sb, so + j * 4 + 3, none⟩ = some (.slice (ls[j]).p.sa (ls[j]).p.bs.length (ls[j]).p.cap) := by
        rcases hpw.cells with h | h
        · rw [h] at hlt; simp at hlt
        · exact h
      obtain ⟨c0, c1, c2, c3⟩ := hc k hlt
      obtain ⟨hx, hxu⟩ := hpw.each (ls[k]) (List.getElem_mem hlt)
      have hxr := ht.each (ls[k]) (List.getElem_mem hlt)
      have hst : Hid ((gvs ls).take (k + 1) = (gvs ls).take k ++ [(ls[k]).v]) := by
        show _ = _
        rw [List.take_succ_eq_append_getElem (by rw [gvs_length]; exact hlt)]
        simp [gvs]
      have hltI : (k : Int) < ls.length := by omega
      clear hc hpw ht
      generalize ls[k] = s at *
      go_wp2_with fail
      refine (signCopy_any s.nd s.au s.rd s.p.bs s.p.sa _ s.p.cap wr rfl hx hxr).mono ?_
      rintro e w2 ⟨ra, rc, he, hs2, hrow, hb2⟩
      subst he
      dsimp only
      have hB2 := hb.trans (hb2.mono hb.size)
      have hob := owns_keep ho hb2
      have hnew := cells_new w2 [.int .i64 s.nd, .int .i64 s.au, .int .i64 s.rd, .slice ra s.p.bs.length rc] 31
      go_wp2_with (at_builtin; refine wpList_append_own_at _ rfl _ _ 22 rfl w.heap.size 31 i (.agg #[.int .i64 0, .int .i64 0, .int .i64 0, .slice none 0 0]) 4 48 Try.underlying22 hi hz0 hz1 hz2 rfl (by decide) _ k _ rfl (World.ownsRow.alloc hob _) ⟨w2.heap.size, 0, none⟩ 1 1 [.int .i64 s.nd, .int .i64 s.au, .int .i64 s.rd, .slice ra s.p.bs.length rc] rfl rfl hnew (by intro u hu; simp at hu; rcases hu with rfl | rfl | rfl | rfl <;> rfl) (by unfold maxLen; omega) (by omega) (le_alloc hB2.size _) ?_; intro v1 w3 ho3 hg3 _ hat)
      have G := Grew.of hg3 hat
      have hap3 := hap.more_at (q := ⟨ra, rc, s.p.bs⟩) hb.size ho hb2 (fun sb so e => by have := hrow sb so e; omega) hs2 G
      have hB4 := Below.grown (hB2.alloc hB2.size _) hg3 (le_alloc hB2.size _) (fun q e => (hob.lt q e).1)
      go_roundw
      case rel =>
        have hR : ∃ (k' : Nat) (ks' : List Sg), k' ≤ ls.length ∧ (Value.int .i64 ((k : Int) + 1)) = .int .i64 k' ∧ gvs ks' = (gvs ls).take k' ∧ w3.ownsRow w.heap.size 31 4 v1 k' (gv ks') ∧ Apart w3 w.heap.size v1 (gps ks') ∧ Below w.heap.size w w3 :=
          ⟨k + 1, ks ++ [⟨s.nd, s.au, s.rd, ⟨ra, rc, s.p.bs⟩⟩], by omega, by go_num, by rw [hst.out, ← hS]; simp [gvs, Sg.v], by rw [gv_snoc]; exact ho3, by simpa [gps] using hap3, hB4⟩
        first | exact hR | ((repeat apply Exists.intro); exact ⟨hR, rfl⟩)
      case measure => simp [intOf]; omega
    · obtain rfl : k = ls.length := by omega
      rw [List.take_of_length_le (by rw [gvs_length]; exact Nat.le_refl _)] at hS
      go_wp2_with fail
      go_ret
      exact ⟨_, ks, rfl, hS, ho, hap, hb⟩
set_option maxRecDepth 100000 in
theorem signsCopy_any (ls : List Sg) (sa : Option Addr) (n cap : Nat) (w : World) (hn : n = ls.length) (ht : GRead w sa cap ls) :
    Calls Try.prog 7 #[.slice sa n cap] w fun e w' => ∃ ra rc ks, e = .returned (.slice ra ls.length rc) ∧ gvs ks = gvs ls ∧ GTab w' ra rc ks ∧ Below w.heap.size w w' ∧ Fresh w.heap.size ra (gps ks) := by
  refine (signsCopy_own ls sa n cap w hn ht).mono ?_
  rintro e w' ⟨v, ks, rfl, hS, ho, hap, hb⟩
  obtain ⟨ra, rc, rfl, hl, hL, hfr⟩ := gtab_of_owns ho hap (gvs_u8 hS (fun s hs => (ht.tab.slots.each s hs).2))
  have hreach := ht.tab.small
  exact ⟨ra, rc, ks, rfl, hS, hL (by omega), hb, hfr⟩
end Go.Proofs.Ytdjaafnghlcjbaa
