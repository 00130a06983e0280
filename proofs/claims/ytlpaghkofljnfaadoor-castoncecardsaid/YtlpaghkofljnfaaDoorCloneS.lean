/- ballot.cloneSlot, cloneSlots: new memory with the same slots. -/
import Derived.Test.YtlpaghkofljnfaaDoorSlCs
import Derived.Test.YtlpaghkofljnfaaDoorClone
import Derived.OwnWalk
namespace Go.Proofs.YtlpaghkofljnfaaDoor
open Go.RowKit

set_option maxRecDepth 100000 in
set_option maxHeartbeats 1000000 in
theorem cloneSlot_any (au rd : Int) (bs : List Int) (sa : Option Addr) (n cap : Nat) (w : World) (hn : n = bs.length) (hs : SliceAt w sa cap bs) (hl : bs.length ≤ 140737488355328) :
    Calls Tryd.prog 40 #[.agg #[.int .i64 au, .int .i64 rd, .slice sa n cap]] w fun e w' => ∃ ra rc, e = .returned (.agg #[.int .i64 au, .int .i64 rd, .slice ra bs.length rc]) ∧ SliceAt w' ra rc bs ∧ (∀ sb so, ra = some ⟨sb, so, none⟩ → w.heap.size ≤ sb ∧ sb < w'.heap.size) ∧ Below w.heap.size w w' := by
  subst hn
  have hR : Below w.heap.size w ((w.alloc (.cells #[.int .i64 au, .int .i64 rd, .slice sa bs.length cap] 39)).alloc (.cells #[.int .i64 0, .int .i64 0, .slice none 0 0] 39)) := ((Below.refl _ _).alloc (Nat.le_refl _) _).alloc (by simp) _
  have q0 := heap_alloc2_old w (.cells #[.int .i64 au, .int .i64 rd, .slice sa bs.length cap] 39) (.cells #[.int .i64 0, .int .i64 0, .slice none 0 0] 39)
  have q1 : ((w.alloc (.cells #[.int .i64 au, .int .i64 rd, .slice sa bs.length cap] 39)).alloc (.cells #[.int .i64 0, .int .i64 0, .slice none 0 0] 39)).heap[w.heap.size + 1]? = some (.cells #[.int .i64 0, .int .i64 0, .slice none 0 0] 39 (0, 0)) := by
    have := heap_alloc_new (w.alloc (.cells #[.int .i64 au, .int .i64 rd, .slice sa bs.length cap] 39)) (.cells #[.int .i64 0, .int .i64 0, .slice none 0 0] 39)
    rw [size_alloc] at this; exact this
  go_enter Tryd.func40, Tryd.ntmps40
  go_wp2_with fail
  generalize (w.alloc (.cells #[.int .i64 au, .int .i64 rd, .slice sa bs.length cap] 39)).alloc (.cells #[.int .i64 0, .int .i64 0, .slice none 0 0] 39) = W0 at hR q0 q1 ⊢
  refine (clone_any bs sa _ cap W0 rfl (hs.below hR) hl).mono ?_
  rintro e w1 ⟨ra, rc, he, hs1, hrow, hb1⟩
  subst he
  dsimp only
  have hlt1 : w.heap.size + 1 < W0.heap.size := lt_of_heap q1
  have r0 := (hb1.block _ (lt_of_heap q0)).trans q0
  have r1 := (hb1.block _ (lt_of_heap q1)).trans q1
  have c0 : w1.cell? ⟨w.heap.size, 0, none⟩ = some (.int .i64 au) := cells_at r0 0 _ rfl
  have c1 : w1.cell? ⟨w.heap.size, 1, none⟩ = some (.int .i64 rd) := cells_at r0 1 _ rfl
  have c2 : w1.cell? ⟨w.heap.size, 2, none⟩ = some (.slice sa bs.length cap) := cells_at r0 2 _ rfl
  have d0 := cells_at r1 0 _ rfl
  have d1 := cells_at r1 1 _ rfl
  have d2 := cells_at r1 2 _ rfl
  have f0 := frozen_at r1 0
  have f1 := frozen_at r1 1
  have f2 := frozen_at r1 2
  have e2 := frozen_at r0 2
  have hne : w.heap.size ≠ w.heap.size + 1 := by omega
  go_wp2_with fail
  have hW1 := hR.trans (hb1.mono hR.size)
  refine bodyPost_ret (v := .agg #[.int .i64 au, .int .i64 rd, .slice ra bs.length rc]) (by simp [results, Tryd.results40, go_sem, d0, d1, d2]) rfl ⟨ra, rc, rfl, ?_, ?_, ?_⟩
  · refine ⟨hs1.le, hs1.max, hs1.some, hs1.nil, ?_⟩
    rcases hs1.bytes with hc | ⟨sb, so, e, hc⟩
    · exact .inl hc
    · have := (hrow sb so e).1
      exact .inr ⟨sb, so, e, fun k hk => ((World.cell?_setCell_far _ _ _ _ (by show w.heap.size + 1 ≠ sb; omega)).trans ((World.cell?_setCell_far _ _ _ _ (by show w.heap.size + 1 ≠ sb; omega)).trans ((World.cell?_setCell_far _ _ _ _ (by show w.heap.size + 1 ≠ sb; omega)).trans (World.cell?_setCell_far _ _ _ _ (by show w.heap.size ≠ sb; omega))))).trans (hc k hk)⟩
  · intro sb so e
    have := hrow sb so e
    simp; omega
  · exact (((hW1.setCell (Nat.le_refl _) _).setCell (Nat.le_succ _) _).setCell (Nat.le_succ _) _).setCell (Nat.le_succ _) _

set_option maxRecDepth 100000 in
set_option maxHeartbeats 1000000 in
theorem cloneSlots_own (ls : List Sl) (sa : Option Addr) (n cap : Nat) (w : World) (hn : n = ls.length) (hl4 : ls.length ≤ 400) (hle : ∀ s ∈ ls, s.p.bs.length ≤ 140737488355328) (ht : SlotsAt w sa ls) :
    Calls Tryd.prog 39 #[.slice sa n cap] w fun e w' => ∃ v ks, e = .returned v ∧ vs ks = vs ls ∧ w'.ownsRow w.heap.size 39 3 v ls.length (sv ks) ∧ Apart w' w.heap.size v (ps ks) ∧ Below w.heap.size w w' := by
  subst hn
  obtain ⟨i, hi, hz0, hz1, hz2⟩ := info_parts infoSlot
  go_enter Tryd.func39, Tryd.ntmps39
  go_wp2_with (at_make; refine wpList_make_own _ rfl _ _ 27 rfl w.heap.size 39 i (.agg #[.int .i64 0, .int .i64 0, .slice none 0 0]) 3 Tryd.underlying27 hi hz0 hz1 .i64 .i64 _ (ls.length + 1) rfl rfl (by go_num) (by rw [hz2]; omega) (by unfold maxLen; omega) (Nat.le_refl _) ?_; intro w1 ho1 hg1)
  go_wp2_with fail
  go_loopw [12, 3] (fun j v wr => ∃ (k : Nat) (ks : List Sl), k ≤ ls.length ∧ j = .int .i64 k ∧ vs ks = (vs ls).take k ∧ wr.ownsRow w.heap.size 39 3 v k (sv ks) ∧ Apart wr w.heap.size v (ps ks) ∧ Below w.heap.size w wr) (fun j _ _ => ls.length - (intOf j).toNat)
  case atStart => exact ⟨0, [], Nat.zero_le _, rfl, rfl, ho1, (fun p hp => by cases hp), grown_none hg1⟩
  case round =>
    obtain ⟨k, ks, hk, rfl, hS, ho, hap, hb⟩ := hrel
    by_cases hlt : k < ls.length
    · have hpw := ht.below hb
      obtain ⟨sb, so, rfl, hc⟩ : ∃ sb so, sa = some ⟨sb, so, none⟩ ∧ ∀ j (h : j < ls.length), wr.cell? ⟨sb, so + j * 3, none⟩ = some (.int .i64 (ls[j]).au) ∧ wr.cell? ⟨sb, so + j * 3 + 1, none⟩ = some (.int .i64 (ls[j]).rd) ∧ wr.cell? ⟨sb, so + j * 3 + 2, none⟩ = some (.slice (ls[j]).p.sa (ls[j]).p.bs.length (ls[j]).p.cap) := by
        rcases hpw.cells with h | h
        · rw [h] at hlt; simp at hlt
        · exact h
      obtain ⟨c0, c1, c2⟩ := hc k hlt
      have hx := hpw.each (ls[k]) (List.getElem_mem hlt)
      have hxr := hle (ls[k]) (List.getElem_mem hlt)
      have hst : Hid ((vs ls).take (k + 1) = (vs ls).take k ++ [(ls[k]).v]) := by
        show _ = _
        rw [List.take_succ_eq_append_getElem (by rw [vs_length]; exact hlt)]
        simp [vs]
      have hltI : (k : Int) < ls.length := by omega
      clear hc hpw ht hle
      generalize ls[k] = s at *
      have hA0 : Below wr.heap.size wr (wr.alloc (.cells #[.int .i64 s.au, .int .i64 s.rd, .slice s.p.sa s.p.bs.length s.p.cap] 39)) := (Below.refl _ _).alloc (Nat.le_refl _) _
      go_wp2_with fail
      refine (cloneSlot_any s.au s.rd s.p.bs s.p.sa _ s.p.cap _ rfl (hx.below hA0) hxr).mono ?_
      rintro e w2 ⟨ra, rc, he, hs2, hrow, hb2⟩
      subst he
      dsimp only
      rw [size_alloc] at hrow
      replace hb2 := below_alloc hb2
      have hB2 := hb.trans (hb2.mono hb.size)
      have hob := owns_keep ho hb2
      have hnew := cells_new w2 [.int .i64 s.au, .int .i64 s.rd, .slice ra s.p.bs.length rc] 39
      go_wp2_with (at_builtin; refine wpList_append_own_at _ rfl _ _ 27 rfl w.heap.size 39 i (.agg #[.int .i64 0, .int .i64 0, .slice none 0 0]) 3 40 Tryd.underlying27 hi hz0 hz1 hz2 rfl (by decide) _ k _ rfl (World.ownsRow.alloc hob _) ⟨w2.heap.size, 0, none⟩ 1 1 [.int .i64 s.au, .int .i64 s.rd, .slice ra s.p.bs.length rc] rfl rfl hnew (by intro u hu; simp at hu; rcases hu with rfl | rfl | rfl <;> rfl) (by unfold maxLen; omega) (by omega) (le_alloc hB2.size _) ?_; intro v1 w3 ho3 hg3 _ hat)
      have G := Grew.of hg3 hat
      have hap3 := hap.more_at (q := ⟨ra, rc, s.p.bs⟩) hb.size ho hb2 (fun sb so e => by have := hrow sb so e; omega) hs2 G
      have hB4 := Below.grown (hB2.alloc hB2.size _) hg3 (le_alloc hB2.size _) (fun q e => (hob.lt q e).1)
      go_wp2_with fail
      go_roundw
      case rel =>
        have hR : ∃ (k' : Nat) (ks' : List Sl), k' ≤ ls.length ∧ (Value.int .i64 ((k : Int) + 1)) = .int .i64 k' ∧ vs ks' = (vs ls).take k' ∧ w3.ownsRow w.heap.size 39 3 v1 k' (sv ks') ∧ Apart w3 w.heap.size v1 (ps ks') ∧ Below w.heap.size w w3 :=
          ⟨k + 1, ks ++ [⟨s.au, s.rd, ⟨ra, rc, s.p.bs⟩⟩], by omega, by go_num, by rw [hst.out, ← hS]; simp [vs, Sl.v], by rw [sv_snoc]; exact ho3, by simpa [ps] using hap3, hB4⟩
        first | exact hR | ((repeat apply Exists.intro); exact ⟨hR, rfl⟩)
      case measure => simp [intOf]; omega
    · obtain rfl : k = ls.length := by omega
      rw [List.take_of_length_le (by rw [vs_length]; exact Nat.le_refl _)] at hS
      go_wp2_with fail
      go_ret
      exact ⟨_, ks, rfl, hS, ho, hap, hb⟩
end Go.Proofs.YtlpaghkofljnfaaDoor
