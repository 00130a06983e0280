/- The document's slotCopy, SlotsCopy: new memory with the same slots. -/
import Derived.Test.YtfnpkiaedbfekaaDoorSlotsL
import Derived.Test.YtfnpkiaedbfekaaDoorJoined
import Derived.Test.YtfnpkiaedbfekaaDoorOwnL
import Derived.Deep.RegionHeld3
namespace Go.Proofs.YtfnpkiaedbfekaaDoor
open Go.RowKit

set_option maxRecDepth 100000 in
theorem infoSlot : (Tryd.prog.info? 29).map (fun i => (i.zero, i.size, i.bytes)) = some (some (.agg #[.int .i64 0, .int .i64 0, .slice none 0 0]), 3, 40) := by kernel_rfl
def Sl.cs (s : Sl) : List Value := [.int .i64 s.au, .int .i64 s.rd, .slice s.p.sa s.p.bs.length s.p.cap]
def sv : List Sl → List Value
  | [] => []
  | s :: r => s.cs ++ sv r
set_option maxRecDepth 100000 in
theorem sv_snoc (ls : List Sl) (s : Sl) : sv (ls ++ [s]) = sv ls ++ s.cs := by
  induction ls with
  | nil => simp [sv]
  | cons x r ih => simp [sv, ih]
set_option maxRecDepth 100000 in
theorem sv_length (ls : List Sl) : (sv ls).length = ls.length * 3 := by
  induction ls with
  | nil => rfl
  | cons x r ih => simp [sv, ih, Sl.cs]; omega
set_option maxRecDepth 100000 in
theorem sv_get (ls : List Sl) (j i : Nat) (h : j < ls.length) (hi : i < 3) : (sv ls)[j * 3 + i]? = (ls[j]).cs[i]? := by
  induction ls generalizing j with
  | nil => cases h
  | cons x r ih =>
    cases j with
    | zero => simp only [sv, Nat.zero_mul, Nat.zero_add, List.getElem_cons_zero]; rw [List.getElem?_append_left (by simp [Sl.cs]; exact hi)]
    | succ j =>
      have h' : j < r.length := by simpa using h
      simp only [sv, List.getElem_cons_succ]
      rw [List.getElem?_append_right (by simp [Sl.cs]; omega), ← ih j h']
      congr 1
      simp [Sl.cs]; omega
def ps (ls : List Sl) : List Part := ls.map Sl.p
set_option maxRecDepth 100000 in
theorem tab_of_owns {w : World} {base n : Nat} {v : Value} {ls : List Sl} (h : w.ownsRow base 29 3 v n (sv ls)) (ha : Apart w base v (ps ls)) : ∃ ra rc, v = .slice ra n rc ∧ n = ls.length ∧ (n ≤ 3000000000000000000 → TabAt w ra rc ls) ∧ Fresh base ra (ps ls) := by
  have hl : n = ls.length := by have := h.1; rw [sv_length] at this; omega
  rcases h.2 with ⟨rfl, hn⟩ | ⟨g, cap, cur, rfl, hr⟩
  · have hb : ls = [] := List.eq_nil_of_length_eq_zero (by omega)
    subst hn hb
    exact ⟨none, 0, rfl, rfl, fun _ => ⟨Nat.le_refl _, by decide, by decide, .inl rfl, ⟨.inl rfl, fun p hp => by cases hp⟩⟩, ⟨(fun _ _ e => by cases e), (fun p hp => by cases hp)⟩⟩
  · refine ⟨some ⟨g, 0, none⟩, cap, rfl, hl, fun hm => ⟨?_, ?_, by omega, .inr ⟨g, 0, rfl⟩, ⟨.inr ⟨g, 0, rfl, fun j hj => ?_⟩, fun s hs => (ha s.p (List.mem_map.2 ⟨s, hs, rfl⟩)).1⟩⟩, ⟨(fun sb so e => by cases e; exact (h.lt _ rfl).1), (fun p hp sb so e => ((ha p hp).2 sb so e).1)⟩⟩
    · obtain ⟨_, _, h1, _⟩ := hr
      omega
    · obtain ⟨_, _, _, h2, _⟩ := hr
      exact h2
    · have e : ∀ i, i < 3 → w.cell? ⟨g, j * 3 + i, none⟩ = (ls[j]).cs[i]? := fun i hi => by rw [World.ownsRow.cellAt h (j * 3 + i) (by omega), sv_get ls j i hj hi]
      have e0 := e 0 (by omega)
      have e1 := e 1 (by omega)
      have e2 := e 2 (by omega)
      exact ⟨by simpa [Sl.cs] using e0, by simpa [Sl.cs] using e1, by simpa [Sl.cs] using e2⟩

set_option maxRecDepth 100000 in
set_option maxHeartbeats 1000000 in
theorem slotCopy_any (au rd : Int) (bs : List Int) (sa : Option Addr) (n cap : Nat) (w : World) (hn : n = bs.length) (hs : SliceAt w sa cap bs) (hl : bs.length ≤ 140737488355328) :
    Calls Tryd.prog 20 #[.agg #[.int .i64 au, .int .i64 rd, .slice sa n cap]] w fun e w' => ∃ ra rc, e = .returned (.agg #[.int .i64 au, .int .i64 rd, .slice ra bs.length rc]) ∧ SliceAt w' ra rc bs ∧ (∀ sb so, ra = some ⟨sb, so, none⟩ → w.heap.size ≤ sb ∧ sb < w'.heap.size) ∧ Below w.heap.size w w' := by
  subst hn
  have hR : Below w.heap.size w ((w.alloc (.cells #[.int .i64 au, .int .i64 rd, .slice sa bs.length cap] 29)).alloc (.cells #[.int .i64 0, .int .i64 0, .slice none 0 0] 29)) := ((Below.refl _ _).alloc (Nat.le_refl _) _).alloc (by simp) _
  have q0 := heap_alloc2_old w (.cells #[.int .i64 au, .int .i64 rd, .slice sa bs.length cap] 29) (.cells #[.int .i64 0, .int .i64 0, .slice none 0 0] 29)
  have q1 : ((w.alloc (.cells #[.int .i64 au, .int .i64 rd, .slice sa bs.length cap] 29)).alloc (.cells #[.int .i64 0, .int .i64 0, .slice none 0 0] 29)).heap[w.heap.size + 1]? = some (.cells #[.int .i64 0, .int .i64 0, .slice none 0 0] 29 (0, 0)) := by
    have := heap_alloc_new (w.alloc (.cells #[.int .i64 au, .int .i64 rd, .slice sa bs.length cap] 29)) (.cells #[.int .i64 0, .int .i64 0, .slice none 0 0] 29)
    rw [size_alloc] at this; exact this
  go_enter Tryd.func20, Tryd.ntmps20
  go_wp2_with fail
  generalize (w.alloc (.cells #[.int .i64 au, .int .i64 rd, .slice sa bs.length cap] 29)).alloc (.cells #[.int .i64 0, .int .i64 0, .slice none 0 0] 29) = W0 at hR q0 q1 ⊢
  have k0 : W0.cell? ⟨w.heap.size, 0, none⟩ = some (.int .i64 au) := cells_at q0 0 _ rfl
  have k1 : W0.cell? ⟨w.heap.size, 1, none⟩ = some (.int .i64 rd) := cells_at q0 1 _ rfl
  have k2 : W0.cell? ⟨w.heap.size, 2, none⟩ = some (.slice sa bs.length cap) := cells_at q0 2 _ rfl
  have hlt1 : w.heap.size + 1 < W0.heap.size := lt_of_heap q1
  go_region_held3 (fun w' => w'.cell? ⟨w.heap.size, 0, none⟩ = some (.int .i64 au) ∧ w'.cell? ⟨w.heap.size, 1, none⟩ = some (.int .i64 rd) ∧ w'.cell? ⟨w.heap.size, 2, none⟩ = some (.slice sa bs.length cap)) (go_keep) ((go_at_call 36; refine (joined_any bs [] sa none _ _ cap 0 _ rfl rfl (hs.below (hR.trans ((Below.refl _ _).drew.mono hR.size))) (nilSlice _) (by simpa using hl)).mono ?_; rintro e w1 ⟨v1, rfl, ho1, hb1⟩; replace hb1 := below_drew hb1; have r0 := (hb1.block _ (lt_of_heap q0)).trans q0; have r1 := (hb1.block _ (lt_of_heap q1)).trans q1; have c0 : w1.cell? ⟨w.heap.size, 0, none⟩ = some (.int .i64 au) := cells_at r0 0 _ rfl; have c1 : w1.cell? ⟨w.heap.size, 1, none⟩ = some (.int .i64 rd) := cells_at r0 1 _ rfl; have c2 : w1.cell? ⟨w.heap.size, 2, none⟩ = some (.slice sa bs.length cap) := cells_at r0 2 _ rfl; have d0 := cells_at r1 0 _ rfl; have d1 := cells_at r1 1 _ rfl; have d2 := cells_at r1 2 _ rfl; have f0 := frozen_at r1 0; have f1 := frozen_at r1 1; have f2 := frozen_at r1 2; simp only [List.append_nil, List.length_nil, Nat.add_zero] at ho1; obtain ⟨ra, rc, rfl, _, hs1⟩ := owns_form ho1))
  all_goals
    go_wp2_with fail
    have hW1 := hR.trans (hb1.mono hR.size)
    have hrow : ∀ sb so, ra = some ⟨sb, so, none⟩ → W0.heap.size ≤ sb ∧ sb < w1.heap.size := fun sb so e => ho1.lt sb (by rw [e]; rfl)
    refine bodyPost_ret (v := .agg #[.int .i64 au, .int .i64 rd, .slice ra bs.length rc]) (by simp [results, Tryd.results20, go_sem, d0, d1, d2]) rfl ⟨ra, rc, rfl, ?_, ?_, ?_⟩
    · refine ⟨hs1.le, hs1.max, hs1.some, hs1.nil, ?_⟩
      rcases hs1.bytes with hc | ⟨sb, so, e, hc⟩
      · exact .inl hc
      · have := (hrow sb so e).1
        exact .inr ⟨sb, so, e, fun k hk => ((World.cell?_setCell_far _ _ _ _ (by show w.heap.size + 1 ≠ sb; omega)).trans ((World.cell?_setCell_far _ _ _ _ (by show w.heap.size + 1 ≠ sb; omega)).trans (World.cell?_setCell_far _ _ _ _ (by show w.heap.size + 1 ≠ sb; omega)))).trans (hc k hk)⟩
    · intro sb so e
      have := hrow sb so e
      simp; omega
    · exact ((hW1.setCell (Nat.le_succ _) _).setCell (Nat.le_succ _) _).setCell (Nat.le_succ _) _

set_option maxRecDepth 100000 in
set_option maxHeartbeats 1000000 in
theorem slotsCopy_own (ls : List Sl) (sa : Option Addr) (n cap : Nat) (w : World) (hn : n = ls.length) (ht : TableAt w sa cap ls) :
    Calls Tryd.prog 7 #[.slice sa n cap] w fun e w' => ∃ v ks, e = .returned v ∧ vs ks = vs ls ∧ w'.ownsRow w.heap.size 29 3 v ls.length (sv ks) ∧ Apart w' w.heap.size v (ps ks) ∧ Below w.heap.size w w' := by
  subst hn
  obtain ⟨i, hi, hz0, hz1, hz2⟩ := info_parts infoSlot
  have hreach := ht.reach
  go_enter Tryd.func7, Tryd.ntmps7
  go_wp2_with fail
  go_loopw [4, 3] (fun j v wr => ∃ (k : Nat) (ks : List Sl), k ≤ ls.length ∧ j = .int .i64 k ∧ vs ks = (vs ls).take k ∧ wr.ownsRow w.heap.size 29 3 v k (sv ks) ∧ Apart wr w.heap.size v (ps ks) ∧ Below w.heap.size w wr) (fun j _ _ => ls.length - (intOf j).toNat)
  case atStart => exact ⟨0, [], Nat.zero_le _, rfl, rfl, World.ownsRow_nil _ _ _ _, (fun p hp => by cases hp), Below.refl _ _⟩
  case round =>
    obtain ⟨k, ks, hk, rfl, hS, ho, hap, hb⟩ := hrel
    by_cases hlt : k < ls.length
    · have hpw := ht.tab.slots.below hb
      obtain ⟨sb, so, rfl, hc⟩ : ∃ sb so, sa = some ⟨sb, so, none⟩ ∧ ∀ j (h : j < ls.length), wr.cell? ⟨sb, so + j * 3, none⟩ = some (.int .i64 (ls[j]).au) ∧ wr.cell? ⟨sb, so + j * 3 + 1, none⟩ = some (.int .i64 (ls[j]).rd) ∧ wr.cell? ⟨sb, so + j * 3 + 2, none⟩ = some (.slice (ls[j]).p.sa (ls[j]).p.bs.length (ls[j]).p.cap) := by
        rcases hpw.cells with h | h
        · rw [h] at hlt; simp at hlt
        · exact h
      obtain ⟨c0, c1, c2⟩ := hc k hlt
      have hx := hpw.each (ls[k]) (List.getElem_mem hlt)
      have hxr := ht.each (ls[k]) (List.getElem_mem hlt)
      have hst : Hid ((vs ls).take (k + 1) = (vs ls).take k ++ [(ls[k]).v]) := by
        show _ = _
        rw [List.take_succ_eq_append_getElem (by rw [vs_length]; exact hlt)]
        simp [vs]
      have hltI : (k : Int) < ls.length := by omega
      clear hc hpw ht
      generalize ls[k] = s at *
      go_wp2_with fail
      refine (slotCopy_any s.au s.rd s.p.bs s.p.sa _ s.p.cap wr rfl hx hxr).mono ?_
      rintro e w2 ⟨ra, rc, he, hs2, hrow, hb2⟩
      subst he
      dsimp only
      have hb3 := hb2.alloc hb2.size (.cells #[.int .i64 s.au, .int .i64 s.rd, .slice ra s.p.bs.length rc] 29)
      have hA3 : Below w2.heap.size w2 (w2.alloc (.cells #[.int .i64 s.au, .int .i64 s.rd, .slice ra s.p.bs.length rc] 29)) := (Below.refl _ _).alloc (Nat.le_refl _) _
      have hs3 := hs2.below hA3
      have hB3 := hb.trans (hb3.mono hb.size)
      have hob := owns_keep ho hb3
      have hsz3 : (w2.alloc (.cells #[.int .i64 s.au, .int .i64 s.rd, .slice ra s.p.bs.length rc] 29)).heap.size = w2.heap.size + 1 := by simp
      have hnew := cells_new (w2.alloc (.cells #[.int .i64 s.au, .int .i64 s.rd, .slice ra s.p.bs.length rc] 29)) [.int .i64 s.au, .int .i64 s.rd, .slice ra s.p.bs.length rc] 29
      rw [hsz3] at hnew
      go_wp2_with (at_builtin; refine wpList_append_own_at _ rfl _ _ 22 rfl w.heap.size 29 i (.agg #[.int .i64 0, .int .i64 0, .slice none 0 0]) 3 40 Tryd.underlying22 hi hz0 hz1 hz2 rfl (by decide) _ k _ rfl (World.ownsRow.alloc hob _) ⟨w2.heap.size + 1, 0, none⟩ 1 1 [.int .i64 s.au, .int .i64 s.rd, .slice ra s.p.bs.length rc] rfl rfl hnew (by intro u hu; simp at hu; rcases hu with rfl | rfl | rfl <;> rfl) (by unfold maxLen; omega) (by omega) (le_alloc hB3.size _) ?_; intro v1 w3 ho3 hg3 _ hat)
      have G := Grew.of hg3 hat
      have hap3 := hap.more_at (q := ⟨ra, rc, s.p.bs⟩) hb.size ho hb3 (fun sb so e => by have := hrow sb so e; rw [hsz3]; omega) hs3 G
      have hB4 := Below.grown (hB3.alloc hB3.size _) hg3 (le_alloc hB3.size _) (fun q e => (hob.lt q e).1)
      go_roundw
      case rel =>
        have hR : ∃ (k' : Nat) (ks' : List Sl), k' ≤ ls.length ∧ (Value.int .i64 ((k : Int) + 1)) = .int .i64 k' ∧ vs ks' = (vs ls).take k' ∧ w3.ownsRow w.heap.size 29 3 v1 k' (sv ks') ∧ Apart w3 w.heap.size v1 (ps ks') ∧ Below w.heap.size w w3 :=
          ⟨k + 1, ks ++ [⟨s.au, s.rd, ⟨ra, rc, s.p.bs⟩⟩], by omega, by go_num, by rw [hst.out, ← hS]; simp [vs, Sl.v], by rw [sv_snoc]; exact ho3, by simpa [ps] using hap3, hB4⟩
        first | exact hR | ((repeat apply Exists.intro); exact ⟨hR, rfl⟩)
      case measure => simp [intOf]; omega
    · obtain rfl : k = ls.length := by omega
      rw [List.take_of_length_le (by rw [vs_length]; exact Nat.le_refl _)] at hS
      go_wp2_with fail
      go_ret
      exact ⟨_, ks, rfl, hS, ho, hap, hb⟩
set_option maxRecDepth 100000 in
theorem slotsCopy_any (ls : List Sl) (sa : Option Addr) (n cap : Nat) (w : World) (hn : n = ls.length) (ht : TableAt w sa cap ls) :
    Calls Tryd.prog 7 #[.slice sa n cap] w fun e w' => ∃ ra rc ks, e = .returned (.slice ra ls.length rc) ∧ vs ks = vs ls ∧ TabAt w' ra rc ks ∧ Below w.heap.size w w' ∧ Fresh w.heap.size ra (ps ks) := by
  refine (slotsCopy_own ls sa n cap w hn ht).mono ?_
  rintro e w' ⟨v, ks, rfl, hS, ho, hap, hb⟩
  obtain ⟨ra, rc, rfl, hl, hL, hfr⟩ := tab_of_owns ho hap
  have hreach := ht.reach
  exact ⟨ra, rc, ks, rfl, hS, hL (by omega), hb, hfr⟩
end Go.Proofs.YtfnpkiaedbfekaaDoor
