/- sheaveskeep.Header: a header of raw numbers. -/
import Derived.Test.YtnpjhpmgelaonabDoorQSome
import Derived.Test.YtnpjhpmgelaonabDoorGOwnL
import Derived.Test.YtnpjhpmgelaonabDoorGCalls
import Derived.Test.YtnpjhpmgelaonabDoorGAppD
import Derived.Deep.RegionHeld3
import Derived.Deep.CutRange
import Derived.Deep.DeepCutAuto
namespace Go.Proofs.YtnpjhpmgelaonabDoor
open Go.RowKit

/-- The batches of a raw header. -/
def hBats (rc : Int) : List (List Int) := (List.range (pk rc 4).toNat).map fun (i : Nat) => someL rc i
/-- The parents of a raw header. -/
def hPars (ra rb rc : Int) : List (List Int) := if pk rb 9 = 0 then [] else (List.range (3 + pk rc 2).toNat).map fun (i : Nat) => someL ra (10 + i)
set_option maxRecDepth 100000 in
theorem Apart.farH {w : World} {B : Nat} {v : Value} {qs : List Part} (h : Apart w B v qs) (b j : Nat) (x : Value) (hb : b < B) : Apart (w.setCell ⟨b, j, none⟩ x) B v qs := fun p hp => by
  obtain ⟨h1, h2⟩ := h p hp
  refine ⟨⟨h1.le, h1.max, h1.some, h1.nil, ?_⟩, fun sb so e => ?_⟩
  · rcases h1.bytes with hc | ⟨sb, so, e, hc⟩
    · exact .inl hc
    · exact .inr ⟨sb, so, e, fun k hk => (World.cell?_setCell_far _ _ _ _ (by have := (h2 sb so e).1; show b ≠ sb; omega)).trans (hc k hk)⟩
  · obtain ⟨a1, a2, a3⟩ := h2 sb so e
    exact ⟨a1, by simpa using a2, a3⟩
set_option maxRecDepth 100000 in
theorem Off.far {w : World} {v : Value} {ra : Option Addr} {qs : List Part} (h : Off w v ra qs) (b j : Nat) (x : Value) : Off (w.setCell ⟨b, j, none⟩ x) v ra qs :=
  ⟨fun sb so e => ⟨by simpa using (h.row sb so e).1, (h.row sb so e).2⟩, fun p hp sb so e => ⟨by simpa using (h.each p hp sb so e).1, (h.each p hp sb so e).2⟩⟩
set_option maxRecDepth 100000 in
theorem Off.below {w w' : World} {v : Value} {ra : Option Addr} {qs : List Part} (h : Off w v ra qs) (hb : Below w.heap.size w w') : Off w' v ra qs :=
  ⟨fun sb so e => ⟨Nat.lt_of_lt_of_le (h.row sb so e).1 hb.size, (h.row sb so e).2⟩, fun p hp sb so e => ⟨Nat.lt_of_lt_of_le (h.each p hp sb so e).1 hb.size, (h.each p hp sb so e).2⟩⟩
set_option maxRecDepth 100000 in
theorem off_of_owns {w : World} {base m : Nat} {e : TypeId} {xs : List Value} {ra : Option Addr} {rc : Nat} {qs : List Part} (h : w.ownsRow base e 1 (.slice ra m rc) m xs) (ha : Apart w base (.slice ra m rc) qs) : Off w (.slice none 0 0) ra qs :=
  ⟨fun sb so e => ⟨by subst e; exact (h.lt sb rfl).2, fun e => by cases e⟩, fun p hp sb so e => ⟨((ha p hp).2 sb so e).2.1, fun e => by cases e⟩⟩
set_option maxRecDepth 100000 in
theorem apart_nil (w : World) (B : Nat) (v : Value) : Apart w B v [] := fun p hp => by cases hp
set_option maxRecDepth 100000 in
set_option maxHeartbeats 2000000 in
theorem header_raw2 (ki ra rb rc : Int) (sa : Option Addr) (n cap : Nat) (w : World) (h2 : I64 ra) (h3 : I64 rb) (h4 : I64 rc) :
    Calls Tryd.prog 11 #[.agg #[.int .i64 ki, .int .i64 ra, .int .i64 rb, .int .i64 rc, .slice sa n cap]] w fun e w' => ∃ ba bc bl pa pc pl, e = .returned (.agg #[.int .i64 (pk ra 4), .int .i64 (1 + pk rb 9), .slice ba (List.length bl) bc, .slice pa (List.length pl) pc]) ∧ ListAt w' ba bc bl ∧ ListAt w' pa pc pl ∧ Off w' (.slice none 0 0) ba bl ∧ Off w' (.slice none 0 0) pa pl ∧ bl.map (·.bs) = hBats rc ∧ pl.map (·.bs) = hPars ra rb rc ∧ Below w.heap.size w w' ∧ Fresh w.heap.size ba bl ∧ Fresh w.heap.size pa pl := by
  obtain ⟨pa0, pa1⟩ := pk_bounds ra 4 (by decide)
  obtain ⟨pb0, pb1⟩ := pk_bounds rb 9 (by decide)
  obtain ⟨pc0, pc1⟩ := pk_bounds rc 4 (by decide)
  obtain ⟨pd0, pd1⟩ := pk_bounds rc 2 (by decide)
  have q0 := heap_alloc2_old w (.cells #[.int .i64 ki, .int .i64 ra, .int .i64 rb, .int .i64 rc, .slice sa n cap] 39) (.cells #[.int .i64 0, .int .i64 0, .slice none 0 0, .slice none 0 0] 41)
  have k1 := cells_at q0 1 _ rfl
  have k2 := cells_at q0 2 _ rfl
  have hw : IntKind.i64.wrap (1 + pk rb 9) = 1 + pk rb 9 := by rw [IntKind.wrap_i64]; omega
  go_enter Tryd.func11, Tryd.ntmps11
  go_upto_region 1 with (fail)
  go_cut [3] (fun v wx => v = .pointer (some ⟨w.heap.size + 2, 0, none⟩) ∧ Below w.heap.size w wx ∧ wx.heap[w.heap.size]? = some (.cells #[.int .i64 ki, .int .i64 ra, .int .i64 rb, .int .i64 rc, .slice sa n cap] 39 (0, 0)) ∧ wx.heap[w.heap.size + 1]? = some (.cells #[.int .i64 0, .int .i64 0, .slice none 0 0, .slice none 0 0] 41 (0, 0)) ∧ wx.heap[w.heap.size + 2]? = some (.cells #[.int .i64 (pk ra 4), .int .i64 (1 + pk rb 9), .slice none 0 0, .slice none 0 0] 41 (0, 0)))
  case first =>
    go_region_held3 (fun w' => w'.cell? ⟨w.heap.size, 1, none⟩ = some (.int .i64 ra) ∧ w'.cell? ⟨w.heap.size, 2, none⟩ = some (.int .i64 rb)) (go_keep) (first | (go_at_call 9; refine (picked_any _ _ _ (by first | exact h2.1 | exact h3.1) (by first | exact h2.2 | exact h3.2) (by omega) (by omega)).mono ?_; rintro e w9 ⟨rfl, rfl⟩))
    all_goals
      go_wp2_with fail
      go_meet
      case rel =>
        refine ⟨rfl, ((((Below.refl _ _).alloc (Nat.le_refl _) _).alloc (by simp) _).alloc (by simp; omega) _).drew, ?_, ?_, ?_⟩
        · exact heap_keep (heap_keep (heap_alloc_new w _))
        · exact heap_keep (heap_new_at _ _ _ (by simp))
        · exact heap_new_at _ _ _ (by simp)
  case rest =>
    obtain ⟨rfl, hW, r0, r1, r2⟩ := hcut
    clear k1 k2 q0 hw
    obtain ⟨i, hi, hz0, hz1, hz2⟩ := info_parts infoBs
    have hent := enters_of Tryd.func23 (by kernel_rfl) rfl
    have Hent : Hid _ := hent
    clear hent
    go_wp2_with fail
    go_loopw [4] (fun j wr => ∃ (k : Nat) (v : Value) (qs : List Part), (k : Int) ≤ pk rc 4 ∧ j = .int .i64 k ∧ Below w.heap.size w wr ∧ wr.heap[w.heap.size]? = some (.cells #[.int .i64 ki, .int .i64 ra, .int .i64 rb, .int .i64 rc, .slice sa n cap] 39 (0, 0)) ∧ wr.heap[w.heap.size + 1]? = some (.cells #[.int .i64 0, .int .i64 0, .slice none 0 0, .slice none 0 0] 41 (0, 0)) ∧ wr.heap[w.heap.size + 2]? = some (.cells #[.int .i64 (pk ra 4), .int .i64 (1 + pk rb 9), v, .slice none 0 0] 41 (0, 0)) ∧ wr.ownsRow (w.heap.size + 3) 54 1 v k (pv qs) ∧ Apart wr (w.heap.size + 3) v qs ∧ Hid (qs.map (·.bs) = (List.range k).map fun (i : Nat) => someL rc i)) (fun j _ => (pk rc 4 - intOf j).toNat)
    case atStart => exact ⟨0, _, [], by omega, rfl, hW, r0, r1, r2, World.ownsRow_nil _ _ _ _, apart_nil _ _ _, by show _ = _; simp⟩
    case round =>
      clear hW r0 r1 r2
      obtain ⟨k, v, qs, hk, rfl, hW, r0, r1, r2, ho, hap, hst⟩ := hrel
      have c3 : wr.cell? ⟨w.heap.size, 3, none⟩ = some (.int .i64 rc) := cells_at r0 3 _ rfl
      have o2 : wr.cell? ⟨w.heap.size + 2, 2, none⟩ = some v := cells_at r2 2 _ rfl
      have of2 := frozen_at r2 2
      have hN : w.heap.size + 2 < wr.heap.size := lt_of_heap r2
      by_cases hlt : (k : Int) < pk rc 4
      · have hvb : v.ownBlock ≠ some (w.heap.size + 2) := fun e => by have := (ho.lt _ e).1; omega
        have hv0 : v.ownBlock ≠ some w.heap.size := fun e => by have := (ho.lt _ e).1; omega
        have hv1 : v.ownBlock ≠ some (w.heap.size + 1) := fun e => by have := (ho.lt _ e).1; omega
        go_wp2_with (go_at_call 9; refine (picked_any rc 4 _ h4.1 h4.2 (by omega) (by omega)).mono ?_; rintro e w9 ⟨rfl, rfl⟩)
        go_region_law (first | (refine step_calls rfl 23 _ _ rfl [.int .i64 rc, .int .i64 k] rfl Hent.out (fun u w9 => u = .slice (some ⟨wr.heap.size, 0, none⟩) 32 32 ∧ w9.ownsRow wr.heap.size 5 1 u 32 (ub (someL rc k)) ∧ Below wr.heap.size wr w9) ((some_any rc k _ h4).mono (fun e w9 ⟨he, ho9, hb9⟩ => ⟨_, he, rfl, ho9, below_drew hb9⟩)) ?_; rintro u w9 ⟨rfl, ho9, hb9⟩; have s0 := (hb9.block _ (lt_of_heap r0)).trans r0; have s1 := (hb9.block _ (lt_of_heap r1)).trans r1; have s2 := (hb9.block _ (lt_of_heap r2)).trans r2; have p2 : w9.cell? ⟨w.heap.size + 2, 2, none⟩ = some v := cells_at s2 2 _ rfl; have p3 : w9.cell? ⟨w.heap.size, 3, none⟩ = some (.int .i64 rc) := cells_at s0 3 _ rfl; have pf2 := frozen_at s2 2; have hN9 : w.heap.size + 2 < w9.heap.size := lt_of_heap s2; have ho9' := owns_keep ho hb9) | (refine step_append_at rfl _ _ 29 rfl (w.heap.size + 3) 54 i (.slice none 0 0) 1 24 Tryd.underlying29 hi hz0 hz1 hz2 rfl (by decide) _ k _ rfl (World.ownsRow.alloc ho9' _) ⟨w9.heap.size, 0, none⟩ 1 1 [.slice (some ⟨wr.heap.size, 0, none⟩) 32 32] rfl rfl (cells_new _ _ _) (by intro u hu; simp at hu; subst hu; rfl) (by unfold maxLen; omega) (by omega) (le_alloc hN9 _) ?_; intro v1 w3 ho3 G3; have t0 := G3.row (heap_keep s0) hv0; have t1 := G3.row (heap_keep s1) hv1; have t2 := G3.row (heap_keep s2) hvb; have g2 : w3.cell? ⟨w.heap.size + 2, 2, none⟩ = some v := cells_at t2 2 _ rfl; have gf2 := frozen_at t2 2; obtain ⟨qa, qc, hq⟩ := owns_shape ho3; subst hq))
        all_goals
          go_wp2_with fail
          go_roundw
          case rel =>
            have hb3 : Below w.heap.size w w3 := (hW.trans (hb9.mono hW.size)).trans (G3.alloc.below (Nat.le_trans hW.size hb9.size) (fun q e => by have := (ho9'.lt q e).1; omega))
            have hs9 := (sliceAt_of_owns ho9).2
            have hap3 := hap.more (q := ⟨some ⟨wr.heap.size, 0, none⟩, 32, someL rc k⟩) (by omega) ho hb9 ho9 hs9 G3
            have hR : ∃ (k' : Nat) (v' : Value) (qs' : List Part), (k' : Int) ≤ pk rc 4 ∧ (Value.int .i64 ((k : Int) + 1)) = .int .i64 k' ∧ Below w.heap.size w (w3.setCell ⟨w.heap.size + 2, 2, none⟩ (.slice qa (k + 1) qc)) ∧ (w3.setCell ⟨w.heap.size + 2, 2, none⟩ (.slice qa (k + 1) qc)).heap[w.heap.size]? = some (.cells #[.int .i64 ki, .int .i64 ra, .int .i64 rb, .int .i64 rc, .slice sa n cap] 39 (0, 0)) ∧ (w3.setCell ⟨w.heap.size + 2, 2, none⟩ (.slice qa (k + 1) qc)).heap[w.heap.size + 1]? = some (.cells #[.int .i64 0, .int .i64 0, .slice none 0 0, .slice none 0 0] 41 (0, 0)) ∧ (w3.setCell ⟨w.heap.size + 2, 2, none⟩ (.slice qa (k + 1) qc)).heap[w.heap.size + 2]? = some (.cells #[.int .i64 (pk ra 4), .int .i64 (1 + pk rb 9), v', .slice none 0 0] 41 (0, 0)) ∧ (w3.setCell ⟨w.heap.size + 2, 2, none⟩ (.slice qa (k + 1) qc)).ownsRow (w.heap.size + 3) 54 1 v' k' (pv qs') ∧ Apart (w3.setCell ⟨w.heap.size + 2, 2, none⟩ (.slice qa (k + 1) qc)) (w.heap.size + 3) v' qs' ∧ Hid (qs'.map (·.bs) = (List.range k').map fun (i : Nat) => someL rc i) :=
              ⟨k + 1, .slice qa (k + 1) qc, qs ++ [⟨some ⟨wr.heap.size, 0, none⟩, 32, someL rc k⟩], by omega, by go_num, hb3.setCell (by simp) _, heap_far t0 (by omega), heap_far t1 (by omega), by simpa using heap_setCell_same _ _ 2 _ _ (.slice qa (k + 1) qc) t2, owns_far (by simpa [pv, Part.val, someL_length] using ho3) _ _ _ (by omega), hap3.farH _ _ _ (by omega), by show _ = _; rw [List.map_append, hst.out, List.range_succ, List.map_append]; rfl⟩
            first | exact hR | ((repeat apply Exists.intro); exact ⟨hR, rfl⟩)
          case measure => simp [intOf]; omega
      · have hkI : (k : Int) = pk rc 4 := by omega
        obtain ⟨ba, bc, hv, hl, hL, hFr⟩ := listAt_of_owns ho hap
        subst hv
        have hL' := hL (by omega)
        have hOf := off_of_owns ho hap
        have hbs : Hid (qs.map (·.bs) = hBats rc) := by show _ = _; rw [hst.out, hBats, ← hkI]; rfl
        have Hl : Hid (k = qs.length) := hl
        have Hk : Hid ((k : Int) = pk rc 4) := hkI
        have hk3 : k ≤ 3 := by omega
        clear hl hkI hL hst
        have d0 : wr.cell? ⟨w.heap.size + 1, 0, none⟩ = some (.int .i64 0) := cells_at r1 0 _ rfl
        have d1 : wr.cell? ⟨w.heap.size + 1, 1, none⟩ = some (.int .i64 0) := cells_at r1 1 _ rfl
        have d2 : wr.cell? ⟨w.heap.size + 1, 2, none⟩ = some (.slice none 0 0) := cells_at r1 2 _ rfl
        have d3 : wr.cell? ⟨w.heap.size + 1, 3, none⟩ = some (.slice none 0 0) := cells_at r1 3 _ rfl
        have f0 := frozen_at r1 0
        have f1 := frozen_at r1 1
        have f2 := frozen_at r1 2
        have f3 := frozen_at r1 3
        have e0 : wr.cell? ⟨w.heap.size + 2, 0, none⟩ = some (.int .i64 (pk ra 4)) := cells_at r2 0 _ rfl
        have e1 : wr.cell? ⟨w.heap.size + 2, 1, none⟩ = some (.int .i64 (1 + pk rb 9)) := cells_at r2 1 _ rfl
        have e3 : wr.cell? ⟨w.heap.size + 2, 3, none⟩ = some (.slice none 0 0) := cells_at r2 3 _ rfl
        by_cases hrd : pk rb 9 = 0
        · have hps : Hid (hPars ra rb rc = []) := by show _ = _; rw [hPars, if_pos hrd]
          have hrI : ¬ (1 : Int) < 1 + pk rb 9 := by omega
          have Hrd : Hid (pk rb 9 = 0) := hrd
          clear hrd
          go_wp2_with (go_at_call 9; refine (picked_any rc 4 _ h4.1 h4.2 (by omega) (by omega)).mono ?_; rintro e w9 ⟨rfl, rfl⟩)
          have g1 : w.heap.size + 1 < w.heap.size + 3 := by omega
          refine bodyPost_ret (v := .agg #[.int .i64 (pk ra 4), .int .i64 (1 + pk rb 9), .slice ba k bc, .slice none 0 0]) (by simp [results, Tryd.results11, go_sem, d0, d1, d2, d3]) rfl ?_
          refine ⟨ba, bc, qs, none, 0, [], by rw [← Hl.out]; rfl, ?_, ?_, ?_, ?_, hbs.out, by rw [hps.out]; rfl, ?_, ⟨fun sb so e => by have := hFr.row sb so e; omega, fun p hp sb so e => by have := hFr.each p hp sb so e; omega⟩, ⟨(fun sb so e => by cases e), (fun p hp => by cases hp)⟩⟩
          · exact (((hL'.setCell hFr _ _ _ g1).setCell hFr _ _ _ g1).setCell hFr _ _ _ g1).setCell hFr _ _ _ g1
          · exact ⟨Nat.le_refl _, by decide, by decide, .inl rfl, ⟨.inl rfl, fun p hp => by cases hp⟩⟩
          · exact (((hOf.far _ _ _).far _ _ _).far _ _ _).far _ _ _
          · exact ⟨(fun sb so e => by cases e), (fun p hp => by cases hp)⟩
          · exact ((((hW.setCell (by simp) _).setCell (by simp) _).setCell (by simp) _).setCell (by simp) _)
        · have hrI : (1 : Int) < 1 + pk rb 9 := by omega
          have hps : Hid (hPars ra rb rc = (List.range (3 + pk rc 2).toNat).map fun (i : Nat) => someL ra (10 + i)) := by show _ = _; rw [hPars, if_neg hrd]
          go_wp2_with (go_at_call 9; refine (picked_any rc 4 _ h4.1 h4.2 (by omega) (by omega)).mono ?_; rintro e w9 ⟨rfl, rfl⟩)
          rename World => wl
          have hoff0 : Off wl (.slice none 0 0) ba qs := hOf
          have hwl : w.heap.size + 3 ≤ wl.heap.size := hN
          go_loopw [5] (fun j wr => ∃ (m : Nat) (v : Value) (ps : List Part), (m : Int) ≤ 3 + pk rc 2 ∧ j = .int .i64 m ∧ Below w.heap.size w wr ∧ wr.heap[w.heap.size]? = some (.cells #[.int .i64 ki, .int .i64 ra, .int .i64 rb, .int .i64 rc, .slice sa n cap] 39 (0, 0)) ∧ wr.heap[w.heap.size + 1]? = some (.cells #[.int .i64 0, .int .i64 0, .slice none 0 0, .slice none 0 0] 41 (0, 0)) ∧ wr.heap[w.heap.size + 2]? = some (.cells #[.int .i64 (pk ra 4), .int .i64 (1 + pk rb 9), .slice ba k bc, v] 41 (0, 0)) ∧ wr.ownsRow wl.heap.size 54 1 v m (pv ps) ∧ Apart wr wl.heap.size v ps ∧ Hid (ps.map (·.bs) = (List.range m).map fun (i : Nat) => someL ra (10 + i)) ∧ ListAt wr ba bc qs ∧ Off wr v ba qs ∧ wl.heap.size ≤ wr.heap.size) (fun j _ => (3 + pk rc 2 - intOf j).toNat)
          case atStart => exact ⟨0, _, [], by omega, rfl, hW, r0, r1, r2, World.ownsRow_nil _ _ _ _, apart_nil _ _ _, (by show _ = _; simp), hL', hoff0, Nat.le_refl _⟩
          case round =>
            clear hW r0 r1 r2 hap ho hL' hOf hoff0 c3 o2 of2 hN d0 d1 d2 d3 f0 f1 f2 f3 e0 e1 e3
            obtain ⟨m, v, ps, hm, rfl, hW, r0, r1, r2, ho, hap, hst, hLb, hOb, hBl⟩ := hrel
            have c3 : wr.cell? ⟨w.heap.size, 3, none⟩ = some (.int .i64 rc) := cells_at r0 3 _ rfl
            have c1 : wr.cell? ⟨w.heap.size, 1, none⟩ = some (.int .i64 ra) := cells_at r0 1 _ rfl
            have o3 : wr.cell? ⟨w.heap.size + 2, 3, none⟩ = some v := cells_at r2 3 _ rfl
            have of3 := frozen_at r2 3
            have hN : w.heap.size + 2 < wr.heap.size := lt_of_heap r2
            by_cases hlt : (m : Int) < 3 + pk rc 2
            · have hvb : v.ownBlock ≠ some (w.heap.size + 2) := fun e => by have := (ho.lt _ e).1; omega
              have hv0 : v.ownBlock ≠ some w.heap.size := fun e => by have := (ho.lt _ e).1; omega
              have hv1 : v.ownBlock ≠ some (w.heap.size + 1) := fun e => by have := (ho.lt _ e).1; omega
              have hw10 : IntKind.i64.wrap (10 + (m : Int)) = 10 + (m : Int) := by rw [IntKind.wrap_i64]; omega
              go_wp2_with (go_at_call 9; refine (picked_any rc 2 _ h4.1 h4.2 (by omega) (by omega)).mono ?_; rintro e w9 ⟨rfl, rfl⟩)
              go_region_law (first | (refine step_calls rfl 23 _ _ rfl [.int .i64 ra, .int .i64 (10 + (m : Int))] rfl Hent.out (fun u w9 => u = .slice (some ⟨wr.heap.size, 0, none⟩) 32 32 ∧ w9.ownsRow wr.heap.size 5 1 u 32 (ub (someL ra (10 + m))) ∧ Below wr.heap.size wr w9) ((some_any ra (10 + m) _ h2).mono (fun e w9 ⟨he, ho9, hb9⟩ => ⟨_, he, rfl, ho9, below_drew hb9⟩)) ?_; rintro u w9 ⟨rfl, ho9, hb9⟩; have s0 := (hb9.block _ (lt_of_heap r0)).trans r0; have s1 := (hb9.block _ (lt_of_heap r1)).trans r1; have s2 := (hb9.block _ (lt_of_heap r2)).trans r2; have p3 : w9.cell? ⟨w.heap.size + 2, 3, none⟩ = some v := cells_at s2 3 _ rfl; have p1 : w9.cell? ⟨w.heap.size, 1, none⟩ = some (.int .i64 ra) := cells_at s0 1 _ rfl; have pf3 := frozen_at s2 3; have hN8 : w.heap.size + 2 < w9.heap.size := lt_of_heap s2; have hN9 : wl.heap.size ≤ w9.heap.size := Nat.le_trans hBl hb9.size; have ho9' := owns_keep ho hb9) | (refine step_append_at rfl _ _ 29 rfl wl.heap.size 54 i (.slice none 0 0) 1 24 Tryd.underlying29 hi hz0 hz1 hz2 rfl (by decide) _ m _ rfl (World.ownsRow.alloc ho9' _) ⟨w9.heap.size, 0, none⟩ 1 1 [.slice (some ⟨wr.heap.size, 0, none⟩) 32 32] rfl rfl (cells_new _ _ _) (by intro u hu; simp at hu; subst hu; rfl) (by unfold maxLen; omega) (by omega) (le_alloc hN9 _) ?_; intro v1 w3 ho3 G3; have t0 := G3.row (heap_keep s0) hv0; have t1 := G3.row (heap_keep s1) hv1; have t2 := G3.row (heap_keep s2) hvb; have g3 : w3.cell? ⟨w.heap.size + 2, 3, none⟩ = some v := cells_at t2 3 _ rfl; have gf3 := frozen_at t2 3; obtain ⟨qa, qc, hq⟩ := owns_shape ho3; subst hq))
              all_goals
                go_wp2_with fail
                go_roundw
                case rel =>
                  have hb3 : Below w.heap.size w w3 := (hW.trans (hb9.mono hW.size)).trans (G3.alloc.below (Nat.le_trans hW.size hb9.size) (fun q e => by have := (ho9'.lt q e).1; omega))
                  have hs9 := (sliceAt_of_owns ho9).2
                  have hap3 := hap.more (q := ⟨some ⟨wr.heap.size, 0, none⟩, 32, someL ra (10 + m)⟩) hBl ho hb9 ho9 hs9 G3
                  have hA9 : Below w9.heap.size w9 (w9.alloc (.cells #[.slice (some ⟨wr.heap.size, 0, none⟩) 32 32] 54)) := (Below.refl _ _).alloc (Nat.le_refl _) _
                  have hOb9 := (hOb.below hb9).alloc (.cells #[.slice (some ⟨wr.heap.size, 0, none⟩) 32 32] 54)
                  have hLb3 := G3.list ((hLb.below hb9).below hA9) hOb9
                  have hOb3 := G3.off hOb9
                  have hR : ∃ (m' : Nat) (v' : Value) (ps' : List Part), (m' : Int) ≤ 3 + pk rc 2 ∧ (Value.int .i64 ((m : Int) + 1)) = .int .i64 m' ∧ Below w.heap.size w (w3.setCell ⟨w.heap.size + 2, 3, none⟩ (.slice qa (m + 1) qc)) ∧ (w3.setCell ⟨w.heap.size + 2, 3, none⟩ (.slice qa (m + 1) qc)).heap[w.heap.size]? = some (.cells #[.int .i64 ki, .int .i64 ra, .int .i64 rb, .int .i64 rc, .slice sa n cap] 39 (0, 0)) ∧ (w3.setCell ⟨w.heap.size + 2, 3, none⟩ (.slice qa (m + 1) qc)).heap[w.heap.size + 1]? = some (.cells #[.int .i64 0, .int .i64 0, .slice none 0 0, .slice none 0 0] 41 (0, 0)) ∧ (w3.setCell ⟨w.heap.size + 2, 3, none⟩ (.slice qa (m + 1) qc)).heap[w.heap.size + 2]? = some (.cells #[.int .i64 (pk ra 4), .int .i64 (1 + pk rb 9), .slice ba k bc, v'] 41 (0, 0)) ∧ (w3.setCell ⟨w.heap.size + 2, 3, none⟩ (.slice qa (m + 1) qc)).ownsRow wl.heap.size 54 1 v' m' (pv ps') ∧ Apart (w3.setCell ⟨w.heap.size + 2, 3, none⟩ (.slice qa (m + 1) qc)) wl.heap.size v' ps' ∧ Hid (ps'.map (·.bs) = (List.range m').map fun (i : Nat) => someL ra (10 + i)) ∧ ListAt (w3.setCell ⟨w.heap.size + 2, 3, none⟩ (.slice qa (m + 1) qc)) ba bc qs ∧ Off (w3.setCell ⟨w.heap.size + 2, 3, none⟩ (.slice qa (m + 1) qc)) v' ba qs ∧ wl.heap.size ≤ (w3.setCell ⟨w.heap.size + 2, 3, none⟩ (.slice qa (m + 1) qc)).heap.size :=
                    ⟨m + 1, .slice qa (m + 1) qc, ps ++ [⟨some ⟨wr.heap.size, 0, none⟩, 32, someL ra (10 + m)⟩], by omega, by go_num, hb3.setCell (by simp) _, heap_far t0 (by omega), heap_far t1 (by omega), by simpa using heap_setCell_same _ _ 3 _ _ (.slice qa (m + 1) qc) t2, owns_far (by simpa [pv, Part.val, someL_length] using ho3) _ _ _ (by omega), hap3.farH _ _ _ (by omega), (by show _ = _; rw [List.map_append, hst.out, List.range_succ, List.map_append]; rfl), hLb3.setCell hFr _ _ _ (by omega), hOb3.far _ _ _, by simpa using Nat.le_trans (le_alloc hN9 _) G3.grown.size⟩
                  first | exact hR | ((repeat apply Exists.intro); exact ⟨hR, rfl⟩)
                case measure => simp [intOf]; omega
            · have hkI : (m : Int) = 3 + pk rc 2 := by omega
              obtain ⟨qa, qc, hv, hl, hL, hFp⟩ := listAt_of_owns ho hap
              subst hv
              have hLp := hL (by omega)
              have hOp := off_of_owns ho hap
              have hpp : Hid (ps.map (·.bs) = hPars ra rb rc) := by show _ = _; rw [hst.out, hps.out, ← hkI]; rfl
              have Hlp : Hid (m = ps.length) := hl
              have hOb' : Off wr (.slice none 0 0) ba qs := ⟨fun sb so e => ⟨(hOb.row sb so e).1, fun e => by cases e⟩, fun p hp sb so e => ⟨(hOb.each p hp sb so e).1, fun e => by cases e⟩⟩
              have hm4 : m ≤ 4 := by omega
              have Hm : Hid ((m : Int) = 3 + pk rc 2) := hkI
              clear hl hkI hL hst
              have d0 : wr.cell? ⟨w.heap.size + 1, 0, none⟩ = some (.int .i64 0) := cells_at r1 0 _ rfl
              have d1 : wr.cell? ⟨w.heap.size + 1, 1, none⟩ = some (.int .i64 0) := cells_at r1 1 _ rfl
              have d2 : wr.cell? ⟨w.heap.size + 1, 2, none⟩ = some (.slice none 0 0) := cells_at r1 2 _ rfl
              have d3 : wr.cell? ⟨w.heap.size + 1, 3, none⟩ = some (.slice none 0 0) := cells_at r1 3 _ rfl
              have f0 := frozen_at r1 0
              have f1 := frozen_at r1 1
              have f2 := frozen_at r1 2
              have f3 := frozen_at r1 3
              have e0 : wr.cell? ⟨w.heap.size + 2, 0, none⟩ = some (.int .i64 (pk ra 4)) := cells_at r2 0 _ rfl
              have e1 : wr.cell? ⟨w.heap.size + 2, 1, none⟩ = some (.int .i64 (1 + pk rb 9)) := cells_at r2 1 _ rfl
              have e2 : wr.cell? ⟨w.heap.size + 2, 2, none⟩ = some (.slice ba k bc) := cells_at r2 2 _ rfl
              go_wp2_with (go_at_call 9; refine (picked_any rc 2 _ h4.1 h4.2 (by omega) (by omega)).mono ?_; rintro e w9 ⟨rfl, rfl⟩)
              have g1 : w.heap.size + 1 < w.heap.size + 3 := by omega
              have g2 : w.heap.size + 1 < wl.heap.size := by omega
              refine bodyPost_ret (v := .agg #[.int .i64 (pk ra 4), .int .i64 (1 + pk rb 9), .slice ba k bc, .slice qa m qc]) (by simp [results, Tryd.results11, go_sem, d0, d1, d2, d3]) rfl ?_
              refine ⟨ba, bc, qs, qa, qc, ps, by rw [← Hl.out, ← Hlp.out], ?_, ?_, ?_, ?_, hbs.out, hpp.out, ?_, ⟨fun sb so e => by have := hFr.row sb so e; omega, fun p hp sb so e => by have := hFr.each p hp sb so e; omega⟩, ⟨fun sb so e => by have := hFp.row sb so e; omega, fun p hp sb so e => by have := hFp.each p hp sb so e; omega⟩⟩
              · exact (((hLb.setCell hFr _ _ _ g1).setCell hFr _ _ _ g1).setCell hFr _ _ _ g1).setCell hFr _ _ _ g1
              · exact (((hLp.setCell hFp _ _ _ g2).setCell hFp _ _ _ g2).setCell hFp _ _ _ g2).setCell hFp _ _ _ g2
              · exact (((hOb'.far _ _ _).far _ _ _).far _ _ _).far _ _ _
              · exact (((hOp.far _ _ _).far _ _ _).far _ _ _).far _ _ _
              · exact ((((hW.setCell (by simp) _).setCell (by simp) _).setCell (by simp) _).setCell (by simp) _)
set_option maxRecDepth 100000 in
theorem header_raw (ki ra rb rc : Int) (sa : Option Addr) (n cap : Nat) (w : World) (h2 : I64 ra) (h3 : I64 rb) (h4 : I64 rc) :
    Calls Tryd.prog 11 #[.agg #[.int .i64 ki, .int .i64 ra, .int .i64 rb, .int .i64 rc, .slice sa n cap]] w fun e w' => ∃ ba bc bl pa pc pl, e = .returned (.agg #[.int .i64 (pk ra 4), .int .i64 (1 + pk rb 9), .slice ba (List.length bl) bc, .slice pa (List.length pl) pc]) ∧ ListAt w' ba bc bl ∧ ListAt w' pa pc pl ∧ Off w' (.slice none 0 0) ba bl ∧ Off w' (.slice none 0 0) pa pl ∧ bl.map (·.bs) = hBats rc ∧ pl.map (·.bs) = hPars ra rb rc ∧ Below w.heap.size w w' := by
  refine (header_raw2 ki ra rb rc sa n cap w h2 h3 h4).mono ?_
  rintro e w' ⟨ba, bc, bl, pa, pc, pl, he, a1, a2, a3, a4, a5, a6, a7, _, _⟩
  exact ⟨ba, bc, bl, pa, pc, pl, he, a1, a2, a3, a4, a5, a6, a7⟩
end Go.Proofs.YtnpjhpmgelaonabDoor
