/- sheaveskeep.record: a record of raw numbers. -/
import Derived.Test.YtldlknmpkoebbaaTapeRecoversM54
import Derived.Test.YtldlknmpkoebbaaTapeRecoversM0
import Derived.Test.YtldlknmpkoebbaaTapeRecoversM12
import Derived.Test.YtldlknmpkoebbaaTapeRecoversM6
import Derived.Deep.RegionHeld3
import Derived.Deep.CutRange
import Derived.Deep.DeepCutAuto
import Derived.Test.YtldlknmpkoebbaaTapeRecoversM42
import Derived.Test.YtldlknmpkoebbaaMsgF
import Derived.Test.YtldlknmpkoebbaaTapeRecoversM18
namespace Go.Proofs.Ytldlknmpkoebbaa
open Go.RowKit

/-- The batches of a raw header. -/
def hBats (rc : Int) : List (List Int) := (List.range (pk rc 4).toNat).map fun (i : Nat) => someL rc i
/-- The parents of a raw header. -/
def hPars (ra rb rc : Int) : List (List Int) := if pk rb 9 = 0 then [] else (List.range (3 + pk rc 2).toNat).map fun (i : Nat) => someL ra (10 + i)
set_option maxRecDepth 100000 in
theorem Apart.far {w : World} {B : Nat} {v : Value} {qs : List Part} (h : Apart w B v qs) (b j : Nat) (x : Value) (hb : b < B) : Apart (w.setCell ⟨b, j, none⟩ x) B v qs := fun p hp => by
  obtain ⟨h1, h2⟩ := h p hp
  refine ⟨⟨h1.le, h1.max, h1.some, h1.nil, ?_⟩, fun sb so e => ?_⟩
  · rcases h1.bytes with hc | ⟨sb, so, e, hc⟩
    · exact .inl hc
    · exact .inr ⟨sb, so, e, fun k hk => (World.cell?_setCell_far _ _ _ _ (by have := (h2 sb so e).1; show b ≠ sb; omega)).trans (hc k hk)⟩
  · obtain ⟨a1, a2, a3⟩ := h2 sb so e
    exact ⟨a1, by simpa using a2, a3⟩
set_option maxRecDepth 100000 in
theorem Off.far {w : World} {v : Value} {ra : Option Addr} {qs : List Part} (h : Off w v ra qs) (b j : Nat) (x : Value) : Off (w.setCell ⟨b, j, none⟩ x) v ra qs :=
  ⟨fun sb so e => ⟨by simpa using (h.row sb so e).1, (h.row sb so e).2⟩, fun p hp sb so e => ⟨by simpa using (h.each p hp sb so e).1, (h.each p hp sb so e).2⟩⟩
set_option maxRecDepth 100000 in
theorem Off.below {w w' : World} {v : Value} {ra : Option Addr} {qs : List Part} (h : Off w v ra qs) (hb : Below w.heap.size w w') : Off w' v ra qs :=
  ⟨fun sb so e => ⟨Nat.lt_of_lt_of_le (h.row sb so e).1 hb.size, (h.row sb so e).2⟩, fun p hp sb so e => ⟨Nat.lt_of_lt_of_le (h.each p hp sb so e).1 hb.size, (h.each p hp sb so e).2⟩⟩
set_option maxRecDepth 100000 in
theorem off_of_owns {w : World} {base m : Nat} {e : TypeId} {xs : List Value} {ra : Option Addr} {rc : Nat} {qs : List Part} (h : w.ownsRow base e 1 (.slice ra m rc) m xs) (ha : Apart w base (.slice ra m rc) qs) : Off w (.slice none 0 0) ra qs :=
  ⟨fun sb so e => ⟨by subst e; exact (h.lt sb rfl).2, fun e => by cases e⟩, fun p hp sb so e => ⟨((ha p hp).2 sb so e).2.1, fun e => by cases e⟩⟩
set_option maxRecDepth 100000 in
theorem apart_nil (w : World) (B : Nat) (v : Value) : Apart w B v [] := fun p hp => by cases hp
set_option maxRecDepth 100000 in
set_option maxHeartbeats 2000000 in
theorem header_raw2 (ki ra rb rc : Int) (sa : Option Addr) (n cap : Nat) (w : World) (h2 : I64 ra) (h3 : I64 rb) (h4 : I64 rc) :
    Calls Try.prog 60 #[.agg #[.int .i64 ki, .int .i64 ra, .int .i64 rb, .int .i64 rc, .slice sa n cap]] w fun e w' => ∃ ba bc bl pa pc pl, e = .returned (.agg #[.int .i64 (pk ra 4), .int .i64 (1 + pk rb 9), .slice ba (List.length bl) bc, .slice pa (List.length pl) pc]) ∧ ListAt w' ba bc bl ∧ ListAt w' pa pc pl ∧ Off w' (.slice none 0 0) ba bl ∧ Off w' (.slice none 0 0) pa pl ∧ bl.map (·.bs) = hBats rc ∧ pl.map (·.bs) = hPars ra rb rc ∧ Below w.heap.size w w' ∧ Fresh w.heap.size ba bl ∧ Fresh w.heap.size pa pl := by
  obtain ⟨pa0, pa1⟩ := pk_bounds ra 4 (by decide)
  obtain ⟨pb0, pb1⟩ := pk_bounds rb 9 (by decide)
  obtain ⟨pc0, pc1⟩ := pk_bounds rc 4 (by decide)
  obtain ⟨pd0, pd1⟩ := pk_bounds rc 2 (by decide)
  have q0 := heap_alloc2_old w (.cells #[.int .i64 ki, .int .i64 ra, .int .i64 rb, .int .i64 rc, .slice sa n cap] 67) (.cells #[.int .i64 0, .int .i64 0, .slice none 0 0, .slice none 0 0] 46)
  have k1 := cells_at q0 1 _ rfl
  have k2 := cells_at q0 2 _ rfl
  have hw : IntKind.i64.wrap (1 + pk rb 9) = 1 + pk rb 9 := by rw [IntKind.wrap_i64]; omega
  go_enter Try.func60, Try.ntmps60
  go_upto_region 1 with (fail)
  go_cut [3] (fun v wx => v = .pointer (some ⟨w.heap.size + 2, 0, none⟩) ∧ Below w.heap.size w wx ∧ wx.heap[w.heap.size]? = some (.cells #[.int .i64 ki, .int .i64 ra, .int .i64 rb, .int .i64 rc, .slice sa n cap] 67 (0, 0)) ∧ wx.heap[w.heap.size + 1]? = some (.cells #[.int .i64 0, .int .i64 0, .slice none 0 0, .slice none 0 0] 46 (0, 0)) ∧ wx.heap[w.heap.size + 2]? = some (.cells #[.int .i64 (pk ra 4), .int .i64 (1 + pk rb 9), .slice none 0 0, .slice none 0 0] 46 (0, 0)))
  case first =>
    go_region_held3 (fun w' => w'.cell? ⟨w.heap.size, 1, none⟩ = some (.int .i64 ra) ∧ w'.cell? ⟨w.heap.size, 2, none⟩ = some (.int .i64 rb)) (go_keep) (first | (go_at_call 11; refine (picked_any _ _ _ (by first | exact h2.1 | exact h3.1) (by first | exact h2.2 | exact h3.2) (by omega) (by omega)).mono ?_; rintro e w9 ⟨rfl, rfl⟩))
    all_goals
      go_wp2_with fail
      go_meet
      case rel =>
        refine ⟨rfl, ((((Below.refl _ _).alloc (Nat.le_refl _) _).alloc (by simp) _).alloc (by simp; omega) _).drew, ?_, ?_, ?_⟩
        · exact heap_keep (heap_keep (heap_alloc_new w _))
        · exact heap_keep (heap_new_at _ _ _ (by simp))
        · exact heap_new_at _ _ _ (by simp)
  case rest =>
    obtain ⟨rfl, hW, r0, r1, r2⟩ := hcut
    clear k1 k2 q0 hw
    obtain ⟨i, hi, hz0, hz1, hz2⟩ := info_parts infoBs
    have hent := enters_of Try.func61 (by kernel_rfl) rfl
    have Hent : Hid _ := hent
    clear hent
    go_wp2_with fail
    go_loopw [4] (fun j wr => ∃ (k : Nat) (v : Value) (qs : List Part), (k : Int) ≤ pk rc 4 ∧ j = .int .i64 k ∧ Below w.heap.size w wr ∧ wr.heap[w.heap.size]? = some (.cells #[.int .i64 ki, .int .i64 ra, .int .i64 rb, .int .i64 rc, .slice sa n cap] 67 (0, 0)) ∧ wr.heap[w.heap.size + 1]? = some (.cells #[.int .i64 0, .int .i64 0, .slice none 0 0, .slice none 0 0] 46 (0, 0)) ∧ wr.heap[w.heap.size + 2]? = some (.cells #[.int .i64 (pk ra 4), .int .i64 (1 + pk rb 9), v, .slice none 0 0] 46 (0, 0)) ∧ wr.ownsRow (w.heap.size + 3) 22 1 v k (pv qs) ∧ Apart wr (w.heap.size + 3) v qs ∧ Hid (qs.map (·.bs) = (List.range k).map fun (i : Nat) => someL rc i)) (fun j _ => (pk rc 4 - intOf j).toNat)
    case atStart => exact ⟨0, _, [], by omega, rfl, hW, r0, r1, r2, World.ownsRow_nil _ _ _ _, apart_nil _ _ _, by show _ = _; simp⟩
    case round =>
      clear hW r0 r1 r2
      obtain ⟨k, v, qs, hk, rfl, hW, r0, r1, r2, ho, hap, hst⟩ := hrel
      have c3 : wr.cell? ⟨w.heap.size, 3, none⟩ = some (.int .i64 rc) := cells_at r0 3 _ rfl
      have o2 : wr.cell? ⟨w.heap.size + 2, 2, none⟩ = some v := cells_at r2 2 _ rfl
      have of2 := frozen_at r2 2
      have hN : w.heap.size + 2 < wr.heap.size := lt_of_heap r2
      by_cases hlt : (k : Int) < pk rc 4
      · have hvb : v.ownBlock ≠ some (w.heap.size + 2) := fun e => by have := (ho.lt _ e).1; omega
        have hv0 : v.ownBlock ≠ some w.heap.size := fun e => by have := (ho.lt _ e).1; omega
        have hv1 : v.ownBlock ≠ some (w.heap.size + 1) := fun e => by have := (ho.lt _ e).1; omega
        go_wp2_with (go_at_call 11; refine (picked_any rc 4 _ h4.1 h4.2 (by omega) (by omega)).mono ?_; rintro e w9 ⟨rfl, rfl⟩)
        go_region_law (first | (refine step_calls rfl 61 _ _ rfl [.int .i64 rc, .int .i64 k] rfl Hent.out (fun u w9 => u = .slice (some ⟨wr.heap.size, 0, none⟩) 32 32 ∧ w9.ownsRow wr.heap.size 5 1 u 32 (ub (someL rc k)) ∧ Below wr.heap.size wr w9) ((some_any rc k _ h4).mono (fun e w9 ⟨he, ho9, hb9⟩ => ⟨_, he, rfl, ho9, below_drew hb9⟩)) ?_; rintro u w9 ⟨rfl, ho9, hb9⟩; have s0 := (hb9.block _ (lt_of_heap r0)).trans r0; have s1 := (hb9.block _ (lt_of_heap r1)).trans r1; have s2 := (hb9.block _ (lt_of_heap r2)).trans r2; have p2 : w9.cell? ⟨w.heap.size + 2, 2, none⟩ = some v := cells_at s2 2 _ rfl; have p3 : w9.cell? ⟨w.heap.size, 3, none⟩ = some (.int .i64 rc) := cells_at s0 3 _ rfl; have pf2 := frozen_at s2 2; have hN9 : w.heap.size + 2 < w9.heap.size := lt_of_heap s2; have ho9' := owns_keep ho hb9) | (refine step_append_at rfl _ _ 44 rfl (w.heap.size + 3) 22 i (.slice none 0 0) 1 24 Try.underlying44 hi hz0 hz1 hz2 rfl (by decide) _ k _ rfl (World.ownsRow.alloc ho9' _) ⟨w9.heap.size, 0, none⟩ 1 1 [.slice (some ⟨wr.heap.size, 0, none⟩) 32 32] rfl rfl (cells_new _ _ _) (by intro u hu; simp at hu; subst hu; rfl) (by unfold maxLen; omega) (by omega) (le_alloc hN9 _) ?_; intro v1 w3 ho3 G3; have t0 := G3.row (heap_keep s0) hv0; have t1 := G3.row (heap_keep s1) hv1; have t2 := G3.row (heap_keep s2) hvb; have g2 : w3.cell? ⟨w.heap.size + 2, 2, none⟩ = some v := cells_at t2 2 _ rfl; have gf2 := frozen_at t2 2; obtain ⟨qa, qc, hq⟩ := owns_shape ho3; subst hq))
        all_goals
          go_wp2_with fail
          go_roundw
          case rel =>
            have hb3 : Below w.heap.size w w3 := (hW.trans (hb9.mono hW.size)).trans (G3.alloc.below (Nat.le_trans hW.size hb9.size) (fun q e => by have := (ho9'.lt q e).1; omega))
            have hs9 := (sliceAt_of_owns ho9).2
            have hap3 := hap.more (q := ⟨some ⟨wr.heap.size, 0, none⟩, 32, someL rc k⟩) (by omega) ho hb9 ho9 hs9 G3
            have hR : ∃ (k' : Nat) (v' : Value) (qs' : List Part), (k' : Int) ≤ pk rc 4 ∧ (Value.int .i64 ((k : Int) + 1)) = .int .i64 k' ∧ Below w.heap.size w (w3.setCell ⟨w.heap.size + 2, 2, none⟩ (.slice qa (k + 1) qc)) ∧ (w3.setCell ⟨w.heap.size + 2, 2, none⟩ (.slice qa (k + 1) qc)).heap[w.heap.size]? = some (.cells #[.int .i64 ki, .int .i64 ra, .int .i64 rb, .int .i64 rc, .slice sa n cap] 67 (0, 0)) ∧ (w3.setCell ⟨w.heap.size + 2, 2, none⟩ (.slice qa (k + 1) qc)).heap[w.heap.size + 1]? = some (.cells #[.int .i64 0, .int .i64 0, .slice none 0 0, .slice none 0 0] 46 (0, 0)) ∧ (w3.setCell ⟨w.heap.size + 2, 2, none⟩ (.slice qa (k + 1) qc)).heap[w.heap.size + 2]? = some (.cells #[.int .i64 (pk ra 4), .int .i64 (1 + pk rb 9), v', .slice none 0 0] 46 (0, 0)) ∧ (w3.setCell ⟨w.heap.size + 2, 2, none⟩ (.slice qa (k + 1) qc)).ownsRow (w.heap.size + 3) 22 1 v' k' (pv qs') ∧ Apart (w3.setCell ⟨w.heap.size + 2, 2, none⟩ (.slice qa (k + 1) qc)) (w.heap.size + 3) v' qs' ∧ Hid (qs'.map (·.bs) = (List.range k').map fun (i : Nat) => someL rc i) :=
              ⟨k + 1, .slice qa (k + 1) qc, qs ++ [⟨some ⟨wr.heap.size, 0, none⟩, 32, someL rc k⟩], by omega, by go_num, hb3.setCell (by simp) _, heap_far t0 (by omega), heap_far t1 (by omega), by simpa using heap_setCell_same _ _ 2 _ _ (.slice qa (k + 1) qc) t2, owns_far (by simpa [pv, Part.val, someL_length] using ho3) _ _ _ (by omega), hap3.far _ _ _ (by omega), by show _ = _; rw [List.map_append, hst.out, List.range_succ, List.map_append]; rfl⟩
            first | exact hR | ((repeat apply Exists.intro); exact ⟨hR, rfl⟩)
          case measure => simp [intOf]; omega
      · have hkI : (k : Int) = pk rc 4 := by omega
        obtain ⟨ba, bc, hv, hl, hL, hFr⟩ := listAt_of_owns ho hap
        subst hv
        have hL' := hL (by omega)
        have hOf := off_of_owns ho hap
        have hbs : Hid (qs.map (·.bs) = hBats rc) := by show _ = _; rw [hst.out, hBats, ← hkI]; rfl
        have Hl : Hid (k = qs.length) := hl
        have Hk : Hid ((k : Int) = pk rc 4) := hkI
        have hk3 : k ≤ 3 := by omega
        clear hl hkI hL hst
        have d0 : wr.cell? ⟨w.heap.size + 1, 0, none⟩ = some (.int .i64 0) := cells_at r1 0 _ rfl
        have d1 : wr.cell? ⟨w.heap.size + 1, 1, none⟩ = some (.int .i64 0) := cells_at r1 1 _ rfl
        have d2 : wr.cell? ⟨w.heap.size + 1, 2, none⟩ = some (.slice none 0 0) := cells_at r1 2 _ rfl
        have d3 : wr.cell? ⟨w.heap.size + 1, 3, none⟩ = some (.slice none 0 0) := cells_at r1 3 _ rfl
        have f0 := frozen_at r1 0
        have f1 := frozen_at r1 1
        have f2 := frozen_at r1 2
        have f3 := frozen_at r1 3
        have e0 : wr.cell? ⟨w.heap.size + 2, 0, none⟩ = some (.int .i64 (pk ra 4)) := cells_at r2 0 _ rfl
        have e1 : wr.cell? ⟨w.heap.size + 2, 1, none⟩ = some (.int .i64 (1 + pk rb 9)) := cells_at r2 1 _ rfl
        have e3 : wr.cell? ⟨w.heap.size + 2, 3, none⟩ = some (.slice none 0 0) := cells_at r2 3 _ rfl
        by_cases hrd : pk rb 9 = 0
        · have hps : Hid (hPars ra rb rc = []) := by show _ = _; rw [hPars, if_pos hrd]
          have hrI : ¬ (1 : Int) < 1 + pk rb 9 := by omega
          have Hrd : Hid (pk rb 9 = 0) := hrd
          clear hrd
          go_wp2_with (go_at_call 11; refine (picked_any rc 4 _ h4.1 h4.2 (by omega) (by omega)).mono ?_; rintro e w9 ⟨rfl, rfl⟩)
          have g1 : w.heap.size + 1 < w.heap.size + 3 := by omega
          refine bodyPost_ret (v := .agg #[.int .i64 (pk ra 4), .int .i64 (1 + pk rb 9), .slice ba k bc, .slice none 0 0]) (by simp [results, Try.results60, go_sem, d0, d1, d2, d3]) rfl ?_
          refine ⟨ba, bc, qs, none, 0, [], by rw [← Hl.out]; rfl, ?_, ?_, ?_, ?_, hbs.out, by rw [hps.out]; rfl, ?_, ⟨fun sb so e => by have := hFr.row sb so e; omega, fun p hp sb so e => by have := hFr.each p hp sb so e; omega⟩, ⟨(fun sb so e => by cases e), (fun p hp => by cases hp)⟩⟩
          · exact (((hL'.setCell hFr _ _ _ g1).setCell hFr _ _ _ g1).setCell hFr _ _ _ g1).setCell hFr _ _ _ g1
          · exact ⟨Nat.le_refl _, by decide, by decide, .inl rfl, ⟨.inl rfl, fun p hp => by cases hp⟩⟩
          · exact (((hOf.far _ _ _).far _ _ _).far _ _ _).far _ _ _
          · exact ⟨(fun sb so e => by cases e), (fun p hp => by cases hp)⟩
          · exact ((((hW.setCell (by simp) _).setCell (by simp) _).setCell (by simp) _).setCell (by simp) _)
        · have hrI : (1 : Int) < 1 + pk rb 9 := by omega
          have hps : Hid (hPars ra rb rc = (List.range (3 + pk rc 2).toNat).map fun (i : Nat) => someL ra (10 + i)) := by show _ = _; rw [hPars, if_neg hrd]
          go_wp2_with (go_at_call 11; refine (picked_any rc 4 _ h4.1 h4.2 (by omega) (by omega)).mono ?_; rintro e w9 ⟨rfl, rfl⟩)
          rename World => wl
          have hoff0 : Off wl (.slice none 0 0) ba qs := hOf
          have hwl : w.heap.size + 3 ≤ wl.heap.size := hN
          go_loopw [5] (fun j wr => ∃ (m : Nat) (v : Value) (ps : List Part), (m : Int) ≤ 3 + pk rc 2 ∧ j = .int .i64 m ∧ Below w.heap.size w wr ∧ wr.heap[w.heap.size]? = some (.cells #[.int .i64 ki, .int .i64 ra, .int .i64 rb, .int .i64 rc, .slice sa n cap] 67 (0, 0)) ∧ wr.heap[w.heap.size + 1]? = some (.cells #[.int .i64 0, .int .i64 0, .slice none 0 0, .slice none 0 0] 46 (0, 0)) ∧ wr.heap[w.heap.size + 2]? = some (.cells #[.int .i64 (pk ra 4), .int .i64 (1 + pk rb 9), .slice ba k bc, v] 46 (0, 0)) ∧ wr.ownsRow wl.heap.size 22 1 v m (pv ps) ∧ Apart wr wl.heap.size v ps ∧ Hid (ps.map (·.bs) = (List.range m).map fun (i : Nat) => someL ra (10 + i)) ∧ ListAt wr ba bc qs ∧ Off wr v ba qs ∧ wl.heap.size ≤ wr.heap.size) (fun j _ => (3 + pk rc 2 - intOf j).toNat)
          case atStart => exact ⟨0, _, [], by omega, rfl, hW, r0, r1, r2, World.ownsRow_nil _ _ _ _, apart_nil _ _ _, (by show _ = _; simp), hL', hoff0, Nat.le_refl _⟩
          case round =>
            clear hW r0 r1 r2 hap ho hL' hOf hoff0 c3 o2 of2 hN d0 d1 d2 d3 f0 f1 f2 f3 e0 e1 e3
            obtain ⟨m, v, ps, hm, rfl, hW, r0, r1, r2, ho, hap, hst, hLb, hOb, hBl⟩ := hrel
            have c3 : wr.cell? ⟨w.heap.size, 3, none⟩ = some (.int .i64 rc) := cells_at r0 3 _ rfl
            have c1 : wr.cell? ⟨w.heap.size, 1, none⟩ = some (.int .i64 ra) := cells_at r0 1 _ rfl
            have o3 : wr.cell? ⟨w.heap.size + 2, 3, none⟩ = some v := cells_at r2 3 _ rfl
            have of3 := frozen_at r2 3
            have hN : w.heap.size + 2 < wr.heap.size := lt_of_heap r2
            by_cases hlt : (m : Int) < 3 + pk rc 2
            · have hvb : v.ownBlock ≠ some (w.heap.size + 2) := fun e => by have := (ho.lt _ e).1; omega
              have hv0 : v.ownBlock ≠ some w.heap.size := fun e => by have := (ho.lt _ e).1; omega
              have hv1 : v.ownBlock ≠ some (w.heap.size + 1) := fun e => by have := (ho.lt _ e).1; omega
              have hw10 : IntKind.i64.wrap (10 + (m : Int)) = 10 + (m : Int) := by rw [IntKind.wrap_i64]; omega
              go_wp2_with (go_at_call 11; refine (picked_any rc 2 _ h4.1 h4.2 (by omega) (by omega)).mono ?_; rintro e w9 ⟨rfl, rfl⟩)
              go_region_law (first | (refine step_calls rfl 61 _ _ rfl [.int .i64 ra, .int .i64 (10 + (m : Int))] rfl Hent.out (fun u w9 => u = .slice (some ⟨wr.heap.size, 0, none⟩) 32 32 ∧ w9.ownsRow wr.heap.size 5 1 u 32 (ub (someL ra (10 + m))) ∧ Below wr.heap.size wr w9) ((some_any ra (10 + m) _ h2).mono (fun e w9 ⟨he, ho9, hb9⟩ => ⟨_, he, rfl, ho9, below_drew hb9⟩)) ?_; rintro u w9 ⟨rfl, ho9, hb9⟩; have s0 := (hb9.block _ (lt_of_heap r0)).trans r0; have s1 := (hb9.block _ (lt_of_heap r1)).trans r1; have s2 := (hb9.block _ (lt_of_heap r2)).trans r2; have p3 : w9.cell? ⟨w.heap.size + 2, 3, none⟩ = some v := cells_at s2 3 _ rfl; have p1 : w9.cell? ⟨w.heap.size, 1, none⟩ = some (.int .i64 ra) := cells_at s0 1 _ rfl; have pf3 := frozen_at s2 3; have hN8 : w.heap.size + 2 < w9.heap.size := lt_of_heap s2; have hN9 : wl.heap.size ≤ w9.heap.size := Nat.le_trans hBl hb9.size; have ho9' := owns_keep ho hb9) | (refine step_append_at rfl _ _ 44 rfl wl.heap.size 22 i (.slice none 0 0) 1 24 Try.underlying44 hi hz0 hz1 hz2 rfl (by decide) _ m _ rfl (World.ownsRow.alloc ho9' _) ⟨w9.heap.size, 0, none⟩ 1 1 [.slice (some ⟨wr.heap.size, 0, none⟩) 32 32] rfl rfl (cells_new _ _ _) (by intro u hu; simp at hu; subst hu; rfl) (by unfold maxLen; omega) (by omega) (le_alloc hN9 _) ?_; intro v1 w3 ho3 G3; have t0 := G3.row (heap_keep s0) hv0; have t1 := G3.row (heap_keep s1) hv1; have t2 := G3.row (heap_keep s2) hvb; have g3 : w3.cell? ⟨w.heap.size + 2, 3, none⟩ = some v := cells_at t2 3 _ rfl; have gf3 := frozen_at t2 3; obtain ⟨qa, qc, hq⟩ := owns_shape ho3; subst hq))
              all_goals
                go_wp2_with fail
                go_roundw
                case rel =>
                  have hb3 : Below w.heap.size w w3 := (hW.trans (hb9.mono hW.size)).trans (G3.alloc.below (Nat.le_trans hW.size hb9.size) (fun q e => by have := (ho9'.lt q e).1; omega))
                  have hs9 := (sliceAt_of_owns ho9).2
                  have hap3 := hap.more (q := ⟨some ⟨wr.heap.size, 0, none⟩, 32, someL ra (10 + m)⟩) hBl ho hb9 ho9 hs9 G3
                  have hA9 : Below w9.heap.size w9 (w9.alloc (.cells #[.slice (some ⟨wr.heap.size, 0, none⟩) 32 32] 22)) := (Below.refl _ _).alloc (Nat.le_refl _) _
                  have hOb9 := (hOb.below hb9).alloc (.cells #[.slice (some ⟨wr.heap.size, 0, none⟩) 32 32] 22)
                  have hLb3 := G3.list ((hLb.below hb9).below hA9) hOb9
                  have hOb3 := G3.off hOb9
                  have hR : ∃ (m' : Nat) (v' : Value) (ps' : List Part), (m' : Int) ≤ 3 + pk rc 2 ∧ (Value.int .i64 ((m : Int) + 1)) = .int .i64 m' ∧ Below w.heap.size w (w3.setCell ⟨w.heap.size + 2, 3, none⟩ (.slice qa (m + 1) qc)) ∧ (w3.setCell ⟨w.heap.size + 2, 3, none⟩ (.slice qa (m + 1) qc)).heap[w.heap.size]? = some (.cells #[.int .i64 ki, .int .i64 ra, .int .i64 rb, .int .i64 rc, .slice sa n cap] 67 (0, 0)) ∧ (w3.setCell ⟨w.heap.size + 2, 3, none⟩ (.slice qa (m + 1) qc)).heap[w.heap.size + 1]? = some (.cells #[.int .i64 0, .int .i64 0, .slice none 0 0, .slice none 0 0] 46 (0, 0)) ∧ (w3.setCell ⟨w.heap.size + 2, 3, none⟩ (.slice qa (m + 1) qc)).heap[w.heap.size + 2]? = some (.cells #[.int .i64 (pk ra 4), .int .i64 (1 + pk rb 9), .slice ba k bc, v'] 46 (0, 0)) ∧ (w3.setCell ⟨w.heap.size + 2, 3, none⟩ (.slice qa (m + 1) qc)).ownsRow wl.heap.size 22 1 v' m' (pv ps') ∧ Apart (w3.setCell ⟨w.heap.size + 2, 3, none⟩ (.slice qa (m + 1) qc)) wl.heap.size v' ps' ∧ Hid (ps'.map (·.bs) = (List.range m').map fun (i : Nat) => someL ra (10 + i)) ∧ ListAt (w3.setCell ⟨w.heap.size + 2, 3, none⟩ (.slice qa (m + 1) qc)) ba bc qs ∧ Off (w3.setCell ⟨w.heap.size + 2, 3, none⟩ (.slice qa (m + 1) qc)) v' ba qs ∧ wl.heap.size ≤ (w3.setCell ⟨w.heap.size + 2, 3, none⟩ (.slice qa (m + 1) qc)).heap.size :=
                    ⟨m + 1, .slice qa (m + 1) qc, ps ++ [⟨some ⟨wr.heap.size, 0, none⟩, 32, someL ra (10 + m)⟩], by omega, by go_num, hb3.setCell (by simp) _, heap_far t0 (by omega), heap_far t1 (by omega), by simpa using heap_setCell_same _ _ 3 _ _ (.slice qa (m + 1) qc) t2, owns_far (by simpa [pv, Part.val, someL_length] using ho3) _ _ _ (by omega), hap3.far _ _ _ (by omega), (by show _ = _; rw [List.map_append, hst.out, List.range_succ, List.map_append]; rfl), hLb3.setCell hFr _ _ _ (by omega), hOb3.far _ _ _, by simpa using Nat.le_trans (le_alloc hN9 _) G3.grown.size⟩
                  first | exact hR | ((repeat apply Exists.intro); exact ⟨hR, rfl⟩)
                case measure => simp [intOf]; omega
            · have hkI : (m : Int) = 3 + pk rc 2 := by omega
              obtain ⟨qa, qc, hv, hl, hL, hFp⟩ := listAt_of_owns ho hap
              subst hv
              have hLp := hL (by omega)
              have hOp := off_of_owns ho hap
              have hpp : Hid (ps.map (·.bs) = hPars ra rb rc) := by show _ = _; rw [hst.out, hps.out, ← hkI]; rfl
              have Hlp : Hid (m = ps.length) := hl
              have hOb' : Off wr (.slice none 0 0) ba qs := ⟨fun sb so e => ⟨(hOb.row sb so e).1, fun e => by cases e⟩, fun p hp sb so e => ⟨(hOb.each p hp sb so e).1, fun e => by cases e⟩⟩
              have hm4 : m ≤ 4 := by omega
              have Hm : Hid ((m : Int) = 3 + pk rc 2) := hkI
              clear hl hkI hL hst
              have d0 : wr.cell? ⟨w.heap.size + 1, 0, none⟩ = some (.int .i64 0) := cells_at r1 0 _ rfl
              have d1 : wr.cell? ⟨w.heap.size + 1, 1, none⟩ = some (.int .i64 0) := cells_at r1 1 _ rfl
              have d2 : wr.cell? ⟨w.heap.size + 1, 2, none⟩ = some (.slice none 0 0) := cells_at r1 2 _ rfl
              have d3 : wr.cell? ⟨w.heap.size + 1, 3, none⟩ = some (.slice none 0 0) := cells_at r1 3 _ rfl
              have f0 := frozen_at r1 0
              have f1 := frozen_at r1 1
              have f2 := frozen_at r1 2
              have f3 := frozen_at r1 3
              have e0 : wr.cell? ⟨w.heap.size + 2, 0, none⟩ = some (.int .i64 (pk ra 4)) := cells_at r2 0 _ rfl
              have e1 : wr.cell? ⟨w.heap.size + 2, 1, none⟩ = some (.int .i64 (1 + pk rb 9)) := cells_at r2 1 _ rfl
              have e2 : wr.cell? ⟨w.heap.size + 2, 2, none⟩ = some (.slice ba k bc) := cells_at r2 2 _ rfl
              go_wp2_with (go_at_call 11; refine (picked_any rc 2 _ h4.1 h4.2 (by omega) (by omega)).mono ?_; rintro e w9 ⟨rfl, rfl⟩)
              have g1 : w.heap.size + 1 < w.heap.size + 3 := by omega
              have g2 : w.heap.size + 1 < wl.heap.size := by omega
              refine bodyPost_ret (v := .agg #[.int .i64 (pk ra 4), .int .i64 (1 + pk rb 9), .slice ba k bc, .slice qa m qc]) (by simp [results, Try.results60, go_sem, d0, d1, d2, d3]) rfl ?_
              refine ⟨ba, bc, qs, qa, qc, ps, by rw [← Hl.out, ← Hlp.out], ?_, ?_, ?_, ?_, hbs.out, hpp.out, ?_, ⟨fun sb so e => by have := hFr.row sb so e; omega, fun p hp sb so e => by have := hFr.each p hp sb so e; omega⟩, ⟨fun sb so e => by have := hFp.row sb so e; omega, fun p hp sb so e => by have := hFp.each p hp sb so e; omega⟩⟩
              · exact (((hLb.setCell hFr _ _ _ g1).setCell hFr _ _ _ g1).setCell hFr _ _ _ g1).setCell hFr _ _ _ g1
              · exact (((hLp.setCell hFp _ _ _ g2).setCell hFp _ _ _ g2).setCell hFp _ _ _ g2).setCell hFp _ _ _ g2
              · exact (((hOb'.far _ _ _).far _ _ _).far _ _ _).far _ _ _
              · exact (((hOp.far _ _ _).far _ _ _).far _ _ _).far _ _ _
              · exact ((((hW.setCell (by simp) _).setCell (by simp) _).setCell (by simp) _).setCell (by simp) _)
set_option maxRecDepth 100000 in
theorem header_raw (ki ra rb rc : Int) (sa : Option Addr) (n cap : Nat) (w : World) (h2 : I64 ra) (h3 : I64 rb) (h4 : I64 rc) :
    Calls Try.prog 60 #[.agg #[.int .i64 ki, .int .i64 ra, .int .i64 rb, .int .i64 rc, .slice sa n cap]] w fun e w' => ∃ ba bc bl pa pc pl, e = .returned (.agg #[.int .i64 (pk ra 4), .int .i64 (1 + pk rb 9), .slice ba (List.length bl) bc, .slice pa (List.length pl) pc]) ∧ ListAt w' ba bc bl ∧ ListAt w' pa pc pl ∧ Off w' (.slice none 0 0) ba bl ∧ Off w' (.slice none 0 0) pa pl ∧ bl.map (·.bs) = hBats rc ∧ pl.map (·.bs) = hPars ra rb rc ∧ Below w.heap.size w w' := by
  refine (header_raw2 ki ra rb rc sa n cap w h2 h3 h4).mono ?_
  rintro e w' ⟨ba, bc, bl, pa, pc, pl, he, a1, a2, a3, a4, a5, a6, a7, _, _⟩
  exact ⟨ba, bc, bl, pa, pc, pl, he, a1, a2, a3, a4, a5, a6, a7⟩
end Go.Proofs.Ytldlknmpkoebbaa

namespace Go.Proofs.Ytldlknmpkoebbaa
open Go.RowKit

set_option maxRecDepth 100000 in
theorem someL_u8 (n m : Int) : ∀ x ∈ someL n m, 0 ≤ x ∧ x ≤ 255 := by
  obtain ⟨hp0, hp1⟩ := pk_bounds n 256 (by decide)
  intro x hx
  rcases List.mem_or_eq_of_mem_set hx with hx | rfl
  · rcases List.mem_or_eq_of_mem_set hx with hx | rfl
    · rcases List.mem_or_eq_of_mem_set hx with hx | rfl
      · rw [List.mem_replicate] at hx; omega
      · omega
    · omega
  · omega
set_option maxRecDepth 100000 in
theorem someL_inj {a : Int} {i j : Int} (hi : 0 ≤ i ∧ i < 256) (hj : 0 ≤ j ∧ j < 256) (h : someL a i = someL a j) : i = j := by
  have h1 : (someL a i)[1]? = (someL a j)[1]? := by rw [h]
  simp [someL] at h1
  omega
set_option maxRecDepth 100000 in
/-- Digests of raw numbers are whole, and all different. -/
theorem digF_some (ps : List Part) (a c : Int) (n : Nat) (hc : 0 ≤ c ∧ c + n ≤ 256) (h : ps.map (·.bs) = (List.range n).map fun (i : Nat) => someL a (c + i)) : digF ps = 0 := by
  have hl : ps.length = n := by have := congrArg List.length h; simpa using this
  have hg : ∀ k, k < ps.length → (partAt ps k).bs = someL a (c + k) := by
    intro k hk
    rw [partAt_get ps k hk]
    have h1 : (ps.map (·.bs))[k]? = ((List.range n).map fun (i : Nat) => someL a (c + i))[k]? := by rw [h]
    simp [hk, show k < n by omega] at h1
    exact h1
  have hall : ∀ k, k ≤ ps.length → digTo1 ps k = 0 := by
    intro k
    induction k with
    | zero => intro _; rfl
    | succ k ih =>
      intro hk
      rw [digTo1, ih (by omega)]
      simp only [ne_eq, not_true_eq_false, if_false]
      have htw : twice ps k = false := by
        rw [twice, List.any_eq_false]
        intro j hj
        rw [List.mem_range] at hj
        rw [hg j (by omega), hg k (by omega)]
        intro e
        have e' := of_decide_eq_true e
        unfold txL at e'
        have e2 : someL a (c + j) = someL a (c + k) := bstr_inj (someL_u8 _ _) (someL_u8 _ _) (ba_ext e')
        have := someL_inj (by omega) (by omega) e2
        omega
      rw [digAt, hg k (by omega), someL_length, htw]
      simp
  exact hall ps.length (Nat.le_refl _)
set_option maxRecDepth 100000 in
theorem headerF_raw (ra rb rc : Int) (bl pl : List Part) (hb : bl.map (·.bs) = hBats rc) (hp : pl.map (·.bs) = hPars ra rb rc) : headerF (pk ra 4) (1 + pk rb 9) bl pl = 0 := by
  obtain ⟨pa0, pa1⟩ := pk_bounds ra 4 (by decide)
  obtain ⟨pb0, pb1⟩ := pk_bounds rb 9 (by decide)
  obtain ⟨pc0, pc1⟩ := pk_bounds rc 4 (by decide)
  obtain ⟨pd0, pd1⟩ := pk_bounds rc 2 (by decide)
  have hbl : bl.length = (pk rc 4).toNat := by have := congrArg List.length hb; simpa [hBats] using this
  have hdb : digF bl = 0 := digF_some bl rc 0 (pk rc 4).toNat (by omega) (by rw [hb, hBats]; simp)
  by_cases h0 : pk rb 9 = 0
  · rw [hPars, if_pos h0] at hp
    have hpl : pl = [] := by simpa using hp
    subst hpl
    rw [headerF, if_neg (by omega), if_neg (by simp; omega), if_neg (by simp [hdb]), if_neg (by simp [digF, digTo1])]
    simp [parentsF, h0]
  · rw [hPars, if_neg h0] at hp
    have hpl : pl.length = (3 + pk rc 2).toNat := by have := congrArg List.length hp; simpa using this
    have hdp : digF pl = 0 := digF_some pl ra 10 (3 + pk rc 2).toNat (by omega) hp
    rw [headerF, if_neg (by omega), if_neg (by omega), if_neg (by simp [hdb]), if_neg (by simp [hdp]), parentsF, if_neg (by omega)]
end Go.Proofs.Ytldlknmpkoebbaa

namespace Go.Proofs.Ytldlknmpkoebbaa
open Go.RowKit

/-- The numbers below i, without k. -/
def without (k : Int) : Nat → List Int
  | 0 => []
  | i + 1 => if (i : Int) = k then without k i else without k i ++ [(i : Int)]
def votersL (n : Int) : List Int := without (pk n 5) 4
set_option maxRecDepth 100000 in
theorem without_le (k : Int) (i : Nat) : (without k i).length ≤ i := by
  induction i with
  | zero => simp [without]
  | succ i ih =>
    rw [without]
    split
    · omega
    · simp; omega
set_option maxRecDepth 100000 in
set_option maxHeartbeats 1000000 in
theorem voters_any (n : Int) (w : World) (hn : I64 n) :
    Calls Try.prog 62 #[.int .i64 n] w fun e w' => ∃ v, e = .returned v ∧ w'.ownsRow w.heap.size 3 1 v (votersL n).length (iv (votersL n)) ∧ Below w.heap.size w w' := by
  obtain ⟨p0, p1⟩ := pk_bounds n 5 (by decide)
  obtain ⟨i, hi, hz0, hz1, hz2⟩ := info_parts infoInt2
  have hP := fun wx => picked_any n 5 wx hn.1 hn.2 (by decide) (by decide)
  unfold votersL
  generalize pk n 5 = k at *
  have HP : Hid _ := hP
  clear hP
  go_enter Try.func62, Try.ntmps62
  go_wp2_with (go_at_call 11; refine (HP.out _).mono ?_; rintro e w9 ⟨rfl, rfl⟩)
  go_loopw [5, 4] (fun j t wr => ∃ (m : Nat) (tv : Value), m ≤ 4 ∧ j = .int .i64 m ∧ tv = t ∧ wr.ownsRow w.heap.size 3 1 tv (without k m).length (iv (without k m)) ∧ Below w.heap.size w wr) (fun j _ _ => 4 - (intOf j).toNat)
  case atStart => exact ⟨0, _, Nat.zero_le _, rfl, rfl, World.ownsRow_nil _ _ _ _, Below.refl _ _⟩
  case round =>
    obtain ⟨m, tv, hm, rfl, rfl, ho, hbw⟩ := hrel
    by_cases hlt : m < 4
    · have hltI : (m : Int) < 4 := by omega
      have hle := without_le k m
      by_cases he : (m : Int) = k
      · have hst : Hid (without k (m + 1) = without k m) := by show _ = _; rw [without, if_pos he]
        have heb : ((m : Int) == k) = true := by simpa using he
        have He : Hid ((m : Int) = k) := he
        clear he
        go_wp2_with fail
        go_roundw
        case rel =>
          have hR : ∃ (m' : Nat) (tv' : Value), m' ≤ 4 ∧ (Value.int .i64 ((m : Int) + 1)) = .int .i64 m' ∧ tv' = tv ∧ wr.ownsRow w.heap.size 3 1 tv' (without k m').length (iv (without k m')) ∧ Below w.heap.size w wr := ⟨m + 1, tv, by omega, by go_num, rfl, by rw [hst.out]; exact ho, hbw⟩
          first | exact hR | ((repeat apply Exists.intro); exact ⟨hR, rfl⟩)
        case measure => simp [intOf]; omega
      · have hst : Hid (without k (m + 1) = without k m ++ [(m : Int)]) := by show _ = _; rw [without, if_neg he]
        have heb : ((m : Int) == k) = false := by simpa using he
        generalize without k m = T at *
        have hBr := hbw.size
        go_wp2_with (at_builtin; refine wpList_append_own_at _ rfl _ _ 49 rfl w.heap.size 3 i (.int .i64 0) 1 8 Try.underlying49 hi hz0 hz1 hz2 rfl (by decide) _ T.length _ rfl (World.ownsRow.alloc ho _) ⟨wr.heap.size, 0, none⟩ 1 1 [.int .i64 (m : Int)] rfl rfl (cells_new _ _ _) (iv_one [_]) (by unfold maxLen; omega) (by omega) (le_alloc hBr _) ?_; intro v5 w5 ho5 hg5 _ _)
        go_roundw
        case rel =>
          have hb5 : Below w.heap.size w w5 := Below.grown (hbw.alloc hBr _) hg5 (le_alloc hBr _) (fun q e => (ho.lt q e).1)
          have hR : ∃ (m' : Nat) (tv' : Value), m' ≤ 4 ∧ (Value.int .i64 ((m : Int) + 1)) = .int .i64 m' ∧ tv' = v5 ∧ w5.ownsRow w.heap.size 3 1 tv' (without k m').length (iv (without k m')) ∧ Below w.heap.size w w5 := ⟨m + 1, v5, by omega, by go_num, rfl, by rw [hst.out]; simpa [iv] using ho5, hb5⟩
          first | exact hR | ((repeat apply Exists.intro); exact ⟨hR, rfl⟩)
        case measure => simp [intOf]; omega
    · obtain rfl : m = 4 := by omega
      go_wp2_with fail
      go_ret
      exact ⟨_, rfl, ho, hbw⟩
end Go.Proofs.Ytldlknmpkoebbaa

namespace Go.Proofs.Ytldlknmpkoebbaa
open Go.RowKit

set_option maxRecDepth 100000 in
theorem votersL_form (rc : Int) : ∃ x0 x1 x2 xs, votersL rc = x0 :: x1 :: x2 :: xs ∧ 0 ≤ x0 ∧ x0 < x1 ∧ x1 < 4 ∧ votersF (votersL rc) = 0 ∧ x0 < 4 ∧ (votersL rc).length ≤ 4 := by
  obtain ⟨p0, p1⟩ := pk_bounds rc 5 (by decide)
  unfold votersL
  generalize pk rc 5 = k at *
  have h : k = 0 ∨ k = 1 ∨ k = 2 ∨ k = 3 ∨ k = 4 := by omega
  rcases h with rfl | rfl | rfl | rfl | rfl
  · exact ⟨1, 2, 3, [], by decide, by decide, by decide, by decide, by decide, by decide, by decide⟩
  · exact ⟨0, 2, 3, [], by decide, by decide, by decide, by decide, by decide, by decide, by decide⟩
  · exact ⟨0, 1, 3, [], by decide, by decide, by decide, by decide, by decide, by decide, by decide⟩
  · exact ⟨0, 1, 2, [], by decide, by decide, by decide, by decide, by decide, by decide, by decide⟩
  · exact ⟨0, 1, 2, [3], by decide, by decide, by decide, by decide, by decide, by decide, by decide⟩
set_option maxRecDepth 100000 in
theorem votersL_four (rc : Int) : ∀ x ∈ votersL rc, 0 ≤ x ∧ x < 4 := by
  obtain ⟨p0, p1⟩ := pk_bounds rc 5 (by decide)
  unfold votersL
  generalize pk rc 5 = k at *
  have h : k = 0 ∨ k = 1 ∨ k = 2 ∨ k = 3 ∨ k = 4 := by omega
  rcases h with rfl | rfl | rfl | rfl | rfl <;> decide
end Go.Proofs.Ytldlknmpkoebbaa

namespace Go.Proofs.Ytldlknmpkoebbaa
open Go.RowKit

/-- What Message gives: a message that may be. -/
structure RawM (w w' : World) (e : Ending) (ki rb rc : Int) : Prop where
  out : ∃ (m : Msg) (ss : List ByteArray) (bl pl cbl cpl : List Part) (vl : List Int), e = .returned (.agg #[.int .i64 m.fr, .int .i64 m.tt, .int .i64 m.ki, .int .i64 m.bau, .int .i64 m.bnu, .slice m.bta m.btn m.btc, .int .i64 m.hau, .int .i64 m.hrd, .slice m.hba m.hbn m.hbc, .slice m.hpa m.hpn m.hpc, .int .i64 m.sau, .int .i64 m.srd, .slice m.sda m.sdn m.sdc, .int .i64 m.cau, .int .i64 m.crd, .slice m.cba m.cbn m.cbc, .slice m.cpa m.cpn m.cpc, .slice m.cva m.cvn m.cvc, .int .i64 m.ro]) ∧ MsgAt w' m ss bl pl cbl cpl vl ∧ m.fr = pk rc 4 ∧ m.tt = pk rb 4 ∧ carriedF m ss bl pl cbl cpl vl = 0 ∧ msgEmpty (strip m) = true ∧ Below w.heap.size w w' ∧ m.ki = 1 + pk ki 5 ∧ (m.ki = 1 → m.bnu ≠ 0) ∧ (m.ki = 2 → m.hrd ≠ 0) ∧ (m.ki = 3 → m.srd ≠ 0) ∧ (m.ki = 4 → m.crd ≠ 0) ∧ (m.ki = 5 → m.ro ≠ 0) ∧ ∃ ds : List Int, SliceAt w' m.sda m.sdc ds ∧ m.sdn = ds.length ∧ NewM w.heap.size m bl pl cbl cpl
set_option maxRecDepth 100000 in
theorem u8_bats {rc : Int} {bl : List Part} (h : bl.map (·.bs) = hBats rc) : ∀ p ∈ bl, ∀ x ∈ p.bs, 0 ≤ x ∧ x ≤ 255 := by
  intro p hp x hx
  have h1 : p.bs ∈ bl.map (·.bs) := List.mem_map_of_mem hp
  rw [h, hBats] at h1
  obtain ⟨i, _, hi⟩ := List.mem_map.1 h1
  rw [← hi] at hx
  exact someL_u8 _ _ x hx
set_option maxRecDepth 100000 in
theorem u8_pars {ra rb rc : Int} {pl : List Part} (h : pl.map (·.bs) = hPars ra rb rc) : ∀ p ∈ pl, ∀ x ∈ p.bs, 0 ≤ x ∧ x ≤ 255 := by
  intro p hp x hx
  have h1 : p.bs ∈ pl.map (·.bs) := List.mem_map_of_mem hp
  rw [h, hPars] at h1
  split at h1
  · cases h1
  · obtain ⟨i, _, hi⟩ := List.mem_map.1 h1
    rw [← hi] at hx
    exact someL_u8 _ _ x hx
/-- The same, and that its bytes are bytes. -/
structure RawMU (w w' : World) (e : Ending) (ki rb rc : Int) : Prop where
  out : ∃ (m : Msg) (ss : List ByteArray) (bl pl cbl cpl : List Part) (vl : List Int), e = .returned (.agg #[.int .i64 m.fr, .int .i64 m.tt, .int .i64 m.ki, .int .i64 m.bau, .int .i64 m.bnu, .slice m.bta m.btn m.btc, .int .i64 m.hau, .int .i64 m.hrd, .slice m.hba m.hbn m.hbc, .slice m.hpa m.hpn m.hpc, .int .i64 m.sau, .int .i64 m.srd, .slice m.sda m.sdn m.sdc, .int .i64 m.cau, .int .i64 m.crd, .slice m.cba m.cbn m.cbc, .slice m.cpa m.cpn m.cpc, .slice m.cva m.cvn m.cvc, .int .i64 m.ro]) ∧ MsgAt w' m ss bl pl cbl cpl vl ∧ m.fr = pk rc 4 ∧ m.tt = pk rb 4 ∧ carriedF m ss bl pl cbl cpl vl = 0 ∧ msgEmpty (strip m) = true ∧ Below w.heap.size w w' ∧ m.ki = 1 + pk ki 5 ∧ (m.ki = 1 → m.bnu ≠ 0) ∧ (m.ki = 2 → m.hrd ≠ 0) ∧ (m.ki = 3 → m.srd ≠ 0) ∧ (m.ki = 4 → m.crd ≠ 0) ∧ (m.ki = 5 → m.ro ≠ 0) ∧ ∃ ds : List Int, SliceAt w' m.sda m.sdc ds ∧ m.sdn = ds.length ∧ NewM w.heap.size m bl pl cbl cpl ∧ U8M bl pl cbl cpl ds
set_option maxRecDepth 100000 in
theorem ints_setRowM {w : World} {va : Option Addr} {vl : List Int} (h : IntsAt w va vl) (b : Nat) (cs : Array Value) (hne : ∀ sb so, va = some ⟨sb, so, none⟩ → sb ≠ b) : IntsAt (w.setRow b cs) va vl := by
  refine ⟨?_⟩
  rcases h.cells with h | ⟨sb, so, rfl, hc⟩
  · exact .inl h
  · exact .inr ⟨sb, so, rfl, fun k hk => (cell_row (hne sb so rfl)).trans (hc k hk)⟩
set_option maxRecDepth 100000 in
theorem ints_owned {w : World} {base n : Nat} {va : Option Addr} {vc : Nat} {vl : List Int} (h : w.ownsRow base 3 1 (.slice va n vc) n (iv vl)) : IntsAt w va vl ∧ ∀ sb so, va = some ⟨sb, so, none⟩ → base ≤ sb := by
  have hl : n = vl.length := by have := h.1; simp [iv] at this; omega
  have hc := fun (g : Nat) (e : va = some ⟨g, 0, none⟩) j hj => World.ownsRow.cellAt (g := g) (by rw [← e]; exact h) j hj
  rcases h.2 with ⟨e, hn⟩ | ⟨g, cap, cur, e, hg, _⟩
  · simp only [Value.slice.injEq] at e
    obtain ⟨rfl, _, _⟩ := e
    exact ⟨⟨.inl (List.eq_nil_of_length_eq_zero (by omega))⟩, fun _ _ e => by cases e⟩
  · simp only [Value.slice.injEq, true_and] at e
    obtain ⟨rfl, _⟩ := e
    refine ⟨⟨.inr ⟨g, 0, rfl, fun j hj => ?_⟩⟩, fun sb so e => by cases e; exact hg⟩
    rw [Nat.zero_add, hc g rfl j (by omega)]
    simp [iv, hj]
set_option maxRecDepth 100000 in
theorem certF_ofM {au rd : Int} {bl pl : List Part} {vl : List Int} (hF : headerF au rd bl pl = 0) (hv : votersF vl = 0) (hl : vl.length ≤ 4) : certF au rd bl pl vl = 0 := by
  rw [certF, if_neg (by simp [hF]), if_neg (by omega), hv]
set_option maxRecDepth 100000 in
set_option maxHeartbeats 20000000 in
theorem message_rawU (ki ra rb rc : Int) (sa : Option Addr) (cap : Nat) (ss : List ByteArray) (w : World) (h1 : I64 ki) (h2 : I64 ra) (h3 : I64 rb) (h4 : I64 rc) (h5 : TextsAt w sa cap ss) :
    Calls Try.prog 42 #[.agg #[.int .i64 ki, .int .i64 ra, .int .i64 rb, .int .i64 rc, .slice sa ss.length cap]] w fun e w' => RawMU w w' e ki rb rc := by
  obtain ⟨pk0, pk1⟩ := pk_bounds ki 5 (by decide)
  have hw : IntKind.i64.wrap (1 + pk ki 5) = 1 + pk ki 5 := by rw [IntKind.wrap_i64]; omega
  have hA0 : Below w.heap.size w ((w.alloc (.cells #[.int .i64 ki, .int .i64 ra, .int .i64 rb, .int .i64 rc, .slice sa ss.length cap] 67)).alloc (.cells #[.int .i64 0, .int .i64 0, .int .i64 0, .int .i64 0, .int .i64 0, .slice none 0 0, .int .i64 0, .int .i64 0, .slice none 0 0, .slice none 0 0, .int .i64 0, .int .i64 0, .slice none 0 0, .int .i64 0, .int .i64 0, .slice none 0 0, .slice none 0 0, .slice none 0 0, .int .i64 0] 53)) := ((Below.refl _ _).alloc (Nat.le_refl _) _).alloc (by simp) _
  have q0 := heap_alloc2_old w (.cells #[.int .i64 ki, .int .i64 ra, .int .i64 rb, .int .i64 rc, .slice sa ss.length cap] 67) (.cells #[.int .i64 0, .int .i64 0, .int .i64 0, .int .i64 0, .int .i64 0, .slice none 0 0, .int .i64 0, .int .i64 0, .slice none 0 0, .slice none 0 0, .int .i64 0, .int .i64 0, .slice none 0 0, .int .i64 0, .int .i64 0, .slice none 0 0, .slice none 0 0, .slice none 0 0, .int .i64 0] 53)
  have q1 := heap_alloc2_new w (.cells #[.int .i64 ki, .int .i64 ra, .int .i64 rb, .int .i64 rc, .slice sa ss.length cap] 67) (.cells #[.int .i64 0, .int .i64 0, .int .i64 0, .int .i64 0, .int .i64 0, .slice none 0 0, .int .i64 0, .int .i64 0, .slice none 0 0, .slice none 0 0, .int .i64 0, .int .i64 0, .slice none 0 0, .int .i64 0, .int .i64 0, .slice none 0 0, .slice none 0 0, .slice none 0 0, .int .i64 0] 53)
  go_enter Try.func42, Try.ntmps42
  go_upto_region 1 with (fail)
  generalize (w.alloc (.cells #[.int .i64 ki, .int .i64 ra, .int .i64 rb, .int .i64 rc, .slice sa ss.length cap] 67)).alloc (.cells #[.int .i64 0, .int .i64 0, .int .i64 0, .int .i64 0, .int .i64 0, .slice none 0 0, .int .i64 0, .int .i64 0, .slice none 0 0, .slice none 0 0, .int .i64 0, .int .i64 0, .slice none 0 0, .int .i64 0, .int .i64 0, .slice none 0 0, .slice none 0 0, .slice none 0 0, .int .i64 0] 53) = W0 at hA0 q0 q1 ⊢
  go_cut [3] (fun v wx => ∃ b, v = .pointer (some ⟨b, 0, none⟩) ∧ w.heap.size + 1 < b ∧ Below w.heap.size w wx ∧ wx.heap[w.heap.size]? = some (.cells #[.int .i64 ki, .int .i64 ra, .int .i64 rb, .int .i64 rc, .slice sa ss.length cap] 67 (0, 0)) ∧ wx.heap[w.heap.size + 1]? = some (.cells #[.int .i64 0, .int .i64 0, .int .i64 0, .int .i64 0, .int .i64 0, .slice none 0 0, .int .i64 0, .int .i64 0, .slice none 0 0, .slice none 0 0, .int .i64 0, .int .i64 0, .slice none 0 0, .int .i64 0, .int .i64 0, .slice none 0 0, .slice none 0 0, .slice none 0 0, .int .i64 0] 53 (0, 0)) ∧ wx.heap[b]? = some (.cells #[.int .i64 (pk rc 4), .int .i64 (pk rb 4), .int .i64 (1 + pk ki 5), .int .i64 0, .int .i64 0, .slice none 0 0, .int .i64 0, .int .i64 0, .slice none 0 0, .slice none 0 0, .int .i64 0, .int .i64 0, .slice none 0 0, .int .i64 0, .int .i64 0, .slice none 0 0, .slice none 0 0, .slice none 0 0, .int .i64 0] 53 (0, 0)))
  case first =>
      have hV : Below w.heap.size w W0.drew := hA0.drew
      have qV0 : W0.drew.heap[w.heap.size]? = some (.cells #[.int .i64 ki, .int .i64 ra, .int .i64 rb, .int .i64 rc, .slice sa ss.length cap] 67 (0, 0)) := q0
      have qV1 : W0.drew.heap[w.heap.size + 1]? = some (.cells #[.int .i64 0, .int .i64 0, .int .i64 0, .int .i64 0, .int .i64 0, .slice none 0 0, .int .i64 0, .int .i64 0, .slice none 0 0, .slice none 0 0, .int .i64 0, .int .i64 0, .slice none 0 0, .int .i64 0, .int .i64 0, .slice none 0 0, .slice none 0 0, .slice none 0 0, .int .i64 0] 53 (0, 0)) := q1
      have hA := hV.alloc hV.size (.cells #[.int .i64 0, .int .i64 0, .int .i64 0, .int .i64 0, .int .i64 0, .slice none 0 0, .int .i64 0, .int .i64 0, .slice none 0 0, .slice none 0 0, .int .i64 0, .int .i64 0, .slice none 0 0, .int .i64 0, .int .i64 0, .slice none 0 0, .slice none 0 0, .slice none 0 0, .int .i64 0] 53)
      have qA0 := heap_keep (o := .cells #[.int .i64 0, .int .i64 0, .int .i64 0, .int .i64 0, .int .i64 0, .slice none 0 0, .int .i64 0, .int .i64 0, .slice none 0 0, .slice none 0 0, .int .i64 0, .int .i64 0, .slice none 0 0, .int .i64 0, .int .i64 0, .slice none 0 0, .slice none 0 0, .slice none 0 0, .int .i64 0] 53) qV0
      have qA1 := heap_keep (o := .cells #[.int .i64 0, .int .i64 0, .int .i64 0, .int .i64 0, .int .i64 0, .slice none 0 0, .int .i64 0, .int .i64 0, .slice none 0 0, .slice none 0 0, .int .i64 0, .int .i64 0, .slice none 0 0, .int .i64 0, .int .i64 0, .slice none 0 0, .slice none 0 0, .slice none 0 0, .int .i64 0] 53) qV1
      have qN := heap_alloc_new W0.drew (.cells #[.int .i64 0, .int .i64 0, .int .i64 0, .int .i64 0, .int .i64 0, .slice none 0 0, .int .i64 0, .int .i64 0, .slice none 0 0, .slice none 0 0, .int .i64 0, .int .i64 0, .slice none 0 0, .int .i64 0, .int .i64 0, .slice none 0 0, .slice none 0 0, .slice none 0 0, .int .i64 0] 53)
      have hlt1 := lt_of_heap qV1
      have hne0 : w.heap.size ≠ W0.drew.heap.size := by omega
      have hne1 : w.heap.size + 1 ≠ W0.drew.heap.size := by omega
      have hle0 : w.heap.size ≤ W0.drew.heap.size := by omega
      refine wp_region_held_drew (S := (fun w' => w'.cell? ⟨w.heap.size, 0, none⟩ = some (.int .i64 ki) ∧ w'.cell? ⟨w.heap.size, 2, none⟩ = some (.int .i64 rb) ∧ w'.cell? ⟨w.heap.size, 3, none⟩ = some (.int .i64 rc))) (by kernel_rfl) ⟨cells_at q0 0 _ rfl, cells_at q0 2 _ rfl, cells_at q0 3 _ rfl⟩ (fun hHeld => ?_)
      generalize W0.drew = V0 at *
      refine take_dst (i := 0) (d := 4) (v := .pointer (some ⟨w.heap.size, 3, none⟩)) rfl rfl (by kernel_rfl) (by kernel_rfl) (by kernel_rfl) (fun _ _ _ h => h) (Or.inl ⟨by rfl, ?_⟩) hHeld ?_
      · (intro w0 hSw; (try dsimp only at hSw); go_simp)
      simp only [Act.put, List.setIfInBounds_toArray, List.set_cons_zero, List.set_cons_succ]
      refine take_dst (i := 1) (d := 5) (v := .int .i64 rc) rfl rfl (by kernel_rfl) (by kernel_rfl) (by kernel_rfl) (fun _ _ _ h => h) (Or.inl ⟨by rfl, ?_⟩) hHeld ?_
      · (intro w0 hSw; (try dsimp only at hSw); go_simp)
      simp only [Act.put, List.setIfInBounds_toArray, List.set_cons_zero, List.set_cons_succ]
      refine take_dst (i := 3) (d := 7) (v := .pointer (some ⟨w.heap.size, 2, none⟩)) rfl rfl (by kernel_rfl) (by kernel_rfl) (by kernel_rfl) (fun _ _ _ h => h) (Or.inl ⟨by rfl, ?_⟩) hHeld ?_
      · (intro w0 hSw; (try dsimp only at hSw); go_simp)
      simp only [Act.put, List.setIfInBounds_toArray, List.set_cons_zero, List.set_cons_succ]
      refine take_dst (i := 4) (d := 8) (v := .int .i64 rb) rfl rfl (by kernel_rfl) (by kernel_rfl) (by kernel_rfl) (fun _ _ _ h => h) (Or.inl ⟨by rfl, ?_⟩) hHeld ?_
      · (intro w0 hSw; (try dsimp only at hSw); go_simp)
      simp only [Act.put, List.setIfInBounds_toArray, List.set_cons_zero, List.set_cons_succ]
      refine take_dst (i := 6) (d := 10) (v := .pointer (some ⟨w.heap.size, 0, none⟩)) rfl rfl (by kernel_rfl) (by kernel_rfl) (by kernel_rfl) (fun _ _ _ h => h) (Or.inl ⟨by rfl, ?_⟩) hHeld ?_
      · (intro w0 hSw; (try dsimp only at hSw); go_simp)
      simp only [Act.put, List.setIfInBounds_toArray, List.set_cons_zero, List.set_cons_succ]
      refine take_dst (i := 7) (d := 11) (v := .int .i64 ki) rfl rfl (by kernel_rfl) (by kernel_rfl) (by kernel_rfl) (fun _ _ _ h => h) (Or.inl ⟨by rfl, ?_⟩) hHeld ?_
      · (intro w0 hSw; (try dsimp only at hSw); go_simp)
      simp only [Act.put, List.setIfInBounds_toArray, List.set_cons_zero, List.set_cons_succ]
      refine wpAnyH_ready (rs := [2, 11]) (by kernel_rfl) (by simp) (AllReadyH.cons rfl (fun K hK => ?_) (AllReadyH.cons rfl (fun K hK => ?_) AllReadyH.nil))
      · skip
        refine step_calls_dst rfl 6 rfl 11 [.tmp 5, .const (.int .i64 4)] #[3, 3] rfl [.int .i64 rc, .int .i64 4] rfl (enters_of Try.func11 (by kernel_rfl) rfl) (fun v w' => v = .int .i64 (pk rc 4) ∧ V0 = w') ((picked_any rc 4 V0 h4.1 h4.2 (by omega) (by omega)).mono (fun e w2 h => ⟨_, h.1, rfl, h.2⟩)) ?_
        rintro v w' ⟨rfl, rfl⟩
        refine hK.out _ _ ⟨cells_at qV0 0 _ rfl, cells_at qV0 2 _ rfl, cells_at qV0 3 _ rfl⟩ (fun hHeld => ?_)
        simp only [Act.put, List.setIfInBounds_toArray, List.set_cons_zero, List.set_cons_succ]
        refine wpAnyH_ready (rs := [5, 11]) (by kernel_rfl) (by simp) (AllReadyH.cons rfl (fun K hK => ?_) (AllReadyH.cons rfl (fun K hK => ?_) AllReadyH.nil))
        · skip
          refine step_calls_dst rfl 9 rfl 11 [.tmp 8, .const (.int .i64 4)] #[3, 3] rfl [.int .i64 rb, .int .i64 4] rfl (enters_of Try.func11 (by kernel_rfl) rfl) (fun v w' => v = .int .i64 (pk rb 4) ∧ V0 = w') ((picked_any rb 4 V0 h3.1 h3.2 (by omega) (by omega)).mono (fun e w2 h => ⟨_, h.1, rfl, h.2⟩)) ?_
          rintro v w' ⟨rfl, rfl⟩
          refine hK.out _ _ ⟨cells_at qV0 0 _ rfl, cells_at qV0 2 _ rfl, cells_at qV0 3 _ rfl⟩ (fun hHeld => ?_)
          simp only [Act.put, List.setIfInBounds_toArray, List.set_cons_zero, List.set_cons_succ]
          refine wpAnyH_ready (rs := [8, 11]) (by kernel_rfl) (by simp) (AllReadyH.cons rfl (fun K hK => ?_) (AllReadyH.cons rfl (fun K hK => ?_) AllReadyH.nil))
          · skip
            refine step_calls_dst rfl 12 rfl 11 [.tmp 11, .const (.int .i64 5)] #[3, 3] rfl [.int .i64 ki, .int .i64 5] rfl (enters_of Try.func11 (by kernel_rfl) rfl) (fun v w' => v = .int .i64 (pk ki 5) ∧ V0 = w') ((picked_any ki 5 V0 h1.1 h1.2 (by omega) (by omega)).mono (fun e w2 h => ⟨_, h.1, rfl, h.2⟩)) ?_
            rintro v w' ⟨rfl, rfl⟩
            refine hK.out _ _ ⟨cells_at qV0 0 _ rfl, cells_at qV0 2 _ rfl, cells_at qV0 3 _ rfl⟩ (fun hHeld => ?_)
            simp only [Act.put, List.setIfInBounds_toArray, List.set_cons_zero, List.set_cons_succ]
            refine take_dst (i := 9) (d := 13) (v := .int .i64 (1 + pk ki 5)) rfl rfl (by kernel_rfl) (by kernel_rfl) (by kernel_rfl) (fun _ _ _ h => h) (Or.inl ⟨by rfl, ?_⟩) hHeld ?_
            · (intro w0 hSw; (try dsimp only at hSw); go_simp)
            simp only [Act.put, List.setIfInBounds_toArray, List.set_cons_zero, List.set_cons_succ]
            refine take_dst (i := 10) (d := 14) (v := .agg #[.int .i64 (pk rc 4), .int .i64 (pk rb 4), .int .i64 (1 + pk ki 5), .int .i64 0, .int .i64 0, .slice none 0 0, .int .i64 0, .int .i64 0, .slice none 0 0, .slice none 0 0, .int .i64 0, .int .i64 0, .slice none 0 0, .int .i64 0, .int .i64 0, .slice none 0 0, .slice none 0 0, .slice none 0 0, .int .i64 0]) rfl rfl (by kernel_rfl) (by kernel_rfl) (by kernel_rfl) (fun _ _ _ h => h) (Or.inl ⟨by rfl, ?_⟩) hHeld ?_
            · (intro w0 hSw; (try dsimp only at hSw); go_simp)
            simp only [Act.put, List.setIfInBounds_toArray, List.set_cons_zero, List.set_cons_succ]
            refine wpAnyH_ready (rs := [11]) (by kernel_rfl) (by simp) (AllReadyH.cons rfl (fun K hK => ?_) AllReadyH.nil)
            refine step_run rfl 3 rfl (.pointer (some ⟨V0.heap.size, 0, none⟩)) (V0.alloc (.cells #[.int .i64 0, .int .i64 0, .int .i64 0, .int .i64 0, .int .i64 0, .slice none 0 0, .int .i64 0, .int .i64 0, .slice none 0 0, .slice none 0 0, .int .i64 0, .int .i64 0, .slice none 0 0, .int .i64 0, .int .i64 0, .slice none 0 0, .slice none 0 0, .slice none 0 0, .int .i64 0] 53)) (by go_simp) ?_
            refine hK.out _ _ ⟨cells_at qA0 0 _ rfl, cells_at qA0 2 _ rfl, cells_at qA0 3 _ rfl⟩ (fun hHeld => ?_)
            simp only [Act.put, List.setIfInBounds_toArray, List.set_cons_zero, List.set_cons_succ]
            generalize V0.alloc (.cells #[.int .i64 0, .int .i64 0, .int .i64 0, .int .i64 0, .int .i64 0, .slice none 0 0, .int .i64 0, .int .i64 0, .slice none 0 0, .slice none 0 0, .int .i64 0, .int .i64 0, .slice none 0 0, .int .i64 0, .int .i64 0, .slice none 0 0, .slice none 0 0, .slice none 0 0, .int .i64 0] 53) = V1 at hA qA0 qA1 qN hHeld ⊢
            refine wpAnyH_ready (rs := [12]) (by kernel_rfl) (by simp) (AllReadyH.cons rfl (fun K hK => ?_) AllReadyH.nil)
            refine step_store_row rfl rfl 53 (.tmp 3) (.tmp 14) rfl V0.heap.size #[.int .i64 (pk rc 4), .int .i64 (pk rb 4), .int .i64 (1 + pk ki 5), .int .i64 0, .int .i64 0, .slice none 0 0, .int .i64 0, .int .i64 0, .slice none 0 0, .slice none 0 0, .int .i64 0, .int .i64 0, .slice none 0 0, .int .i64 0, .int .i64 0, .slice none 0 0, .slice none 0 0, .slice none 0 0, .int .i64 0] rfl rfl 53 _ qN sMsg' rfl (by simp [Value.oneCell']) ?_
            have qF0 := (setRow_other V1 V0.heap.size w.heap.size #[.int .i64 (pk rc 4), .int .i64 (pk rb 4), .int .i64 (1 + pk ki 5), .int .i64 0, .int .i64 0, .slice none 0 0, .int .i64 0, .int .i64 0, .slice none 0 0, .slice none 0 0, .int .i64 0, .int .i64 0, .slice none 0 0, .int .i64 0, .int .i64 0, .slice none 0 0, .slice none 0 0, .slice none 0 0, .int .i64 0] hne0).trans qA0
            have qF1 := (setRow_other V1 V0.heap.size (w.heap.size + 1) #[.int .i64 (pk rc 4), .int .i64 (pk rb 4), .int .i64 (1 + pk ki 5), .int .i64 0, .int .i64 0, .slice none 0 0, .int .i64 0, .int .i64 0, .slice none 0 0, .slice none 0 0, .int .i64 0, .int .i64 0, .slice none 0 0, .int .i64 0, .int .i64 0, .slice none 0 0, .slice none 0 0, .slice none 0 0, .int .i64 0] hne1).trans qA1
            have qFN := setRow_heap V1 V0.heap.size _ #[.int .i64 (pk rc 4), .int .i64 (pk rb 4), .int .i64 (1 + pk ki 5), .int .i64 0, .int .i64 0, .slice none 0 0, .int .i64 0, .int .i64 0, .slice none 0 0, .slice none 0 0, .int .i64 0, .int .i64 0, .slice none 0 0, .int .i64 0, .int .i64 0, .slice none 0 0, .slice none 0 0, .slice none 0 0, .int .i64 0] _ _ qN
            have hF := (Upd.setRow (cs := #[.int .i64 (pk rc 4), .int .i64 (pk rb 4), .int .i64 (1 + pk ki 5), .int .i64 0, .int .i64 0, .slice none 0 0, .int .i64 0, .int .i64 0, .slice none 0 0, .slice none 0 0, .int .i64 0, .int .i64 0, .slice none 0 0, .int .i64 0, .int .i64 0, .slice none 0 0, .slice none 0 0, .slice none 0 0, .int .i64 0]) qN).below hA hA.size hle0
            refine hK.out _ _ ⟨cells_at qF0 0 _ rfl, cells_at qF0 2 _ rfl, cells_at qF0 3 _ rfl⟩ (fun hHeld => ?_)
            generalize V1.setRow V0.heap.size #[.int .i64 (pk rc 4), .int .i64 (pk rb 4), .int .i64 (1 + pk ki 5), .int .i64 0, .int .i64 0, .slice none 0 0, .int .i64 0, .int .i64 0, .slice none 0 0, .slice none 0 0, .int .i64 0, .int .i64 0, .slice none 0 0, .int .i64 0, .int .i64 0, .slice none 0 0, .slice none 0 0, .slice none 0 0, .int .i64 0] = VF at *
            refine wpAnyH_done (by kernel_rfl) ?_ _
            go_wp2_with fail
            go_meet
            case rel => exact ⟨V0.heap.size, rfl, by omega, hF, qF0, qF1, qFN⟩
          · skip
            refine step_run rfl 3 rfl (.pointer (some ⟨V0.heap.size, 0, none⟩)) (V0.alloc (.cells #[.int .i64 0, .int .i64 0, .int .i64 0, .int .i64 0, .int .i64 0, .slice none 0 0, .int .i64 0, .int .i64 0, .slice none 0 0, .slice none 0 0, .int .i64 0, .int .i64 0, .slice none 0 0, .int .i64 0, .int .i64 0, .slice none 0 0, .slice none 0 0, .slice none 0 0, .int .i64 0] 53)) (by go_simp) ?_
            refine hK.out _ _ ⟨cells_at qA0 0 _ rfl, cells_at qA0 2 _ rfl, cells_at qA0 3 _ rfl⟩ (fun hHeld => ?_)
            simp only [Act.put, List.setIfInBounds_toArray, List.set_cons_zero, List.set_cons_succ]
            generalize V0.alloc (.cells #[.int .i64 0, .int .i64 0, .int .i64 0, .int .i64 0, .int .i64 0, .slice none 0 0, .int .i64 0, .int .i64 0, .slice none 0 0, .slice none 0 0, .int .i64 0, .int .i64 0, .slice none 0 0, .int .i64 0, .int .i64 0, .slice none 0 0, .slice none 0 0, .slice none 0 0, .int .i64 0] 53) = V1 at hA qA0 qA1 qN hHeld ⊢
            refine wpAnyH_ready (rs := [8]) (by kernel_rfl) (by simp) (AllReadyH.cons rfl (fun K hK => ?_) AllReadyH.nil)
            refine step_calls_dst rfl 12 rfl 11 [.tmp 11, .const (.int .i64 5)] #[3, 3] rfl [.int .i64 ki, .int .i64 5] rfl (enters_of Try.func11 (by kernel_rfl) rfl) (fun v w' => v = .int .i64 (pk ki 5) ∧ V1 = w') ((picked_any ki 5 V1 h1.1 h1.2 (by omega) (by omega)).mono (fun e w2 h => ⟨_, h.1, rfl, h.2⟩)) ?_
            rintro v w' ⟨rfl, rfl⟩
            refine hK.out _ _ ⟨cells_at qA0 0 _ rfl, cells_at qA0 2 _ rfl, cells_at qA0 3 _ rfl⟩ (fun hHeld => ?_)
            simp only [Act.put, List.setIfInBounds_toArray, List.set_cons_zero, List.set_cons_succ]
            refine take_dst (i := 9) (d := 13) (v := .int .i64 (1 + pk ki 5)) rfl rfl (by kernel_rfl) (by kernel_rfl) (by kernel_rfl) (fun _ _ _ h => h) (Or.inl ⟨by rfl, ?_⟩) hHeld ?_
            · (intro w0 hSw; (try dsimp only at hSw); go_simp)
            simp only [Act.put, List.setIfInBounds_toArray, List.set_cons_zero, List.set_cons_succ]
            refine take_dst (i := 10) (d := 14) (v := .agg #[.int .i64 (pk rc 4), .int .i64 (pk rb 4), .int .i64 (1 + pk ki 5), .int .i64 0, .int .i64 0, .slice none 0 0, .int .i64 0, .int .i64 0, .slice none 0 0, .slice none 0 0, .int .i64 0, .int .i64 0, .slice none 0 0, .int .i64 0, .int .i64 0, .slice none 0 0, .slice none 0 0, .slice none 0 0, .int .i64 0]) rfl rfl (by kernel_rfl) (by kernel_rfl) (by kernel_rfl) (fun _ _ _ h => h) (Or.inl ⟨by rfl, ?_⟩) hHeld ?_
            · (intro w0 hSw; (try dsimp only at hSw); go_simp)
            simp only [Act.put, List.setIfInBounds_toArray, List.set_cons_zero, List.set_cons_succ]
            refine wpAnyH_ready (rs := [12]) (by kernel_rfl) (by simp) (AllReadyH.cons rfl (fun K hK => ?_) AllReadyH.nil)
            refine step_store_row rfl rfl 53 (.tmp 3) (.tmp 14) rfl V0.heap.size #[.int .i64 (pk rc 4), .int .i64 (pk rb 4), .int .i64 (1 + pk ki 5), .int .i64 0, .int .i64 0, .slice none 0 0, .int .i64 0, .int .i64 0, .slice none 0 0, .slice none 0 0, .int .i64 0, .int .i64 0, .slice none 0 0, .int .i64 0, .int .i64 0, .slice none 0 0, .slice none 0 0, .slice none 0 0, .int .i64 0] rfl rfl 53 _ qN sMsg' rfl (by simp [Value.oneCell']) ?_
            have qF0 := (setRow_other V1 V0.heap.size w.heap.size #[.int .i64 (pk rc 4), .int .i64 (pk rb 4), .int .i64 (1 + pk ki 5), .int .i64 0, .int .i64 0, .slice none 0 0, .int .i64 0, .int .i64 0, .slice none 0 0, .slice none 0 0, .int .i64 0, .int .i64 0, .slice none 0 0, .int .i64 0, .int .i64 0, .slice none 0 0, .slice none 0 0, .slice none 0 0, .int .i64 0] hne0).trans qA0
            have qF1 := (setRow_other V1 V0.heap.size (w.heap.size + 1) #[.int .i64 (pk rc 4), .int .i64 (pk rb 4), .int .i64 (1 + pk ki 5), .int .i64 0, .int .i64 0, .slice none 0 0, .int .i64 0, .int .i64 0, .slice none 0 0, .slice none 0 0, .int .i64 0, .int .i64 0, .slice none 0 0, .int .i64 0, .int .i64 0, .slice none 0 0, .slice none 0 0, .slice none 0 0, .int .i64 0] hne1).trans qA1
            have qFN := setRow_heap V1 V0.heap.size _ #[.int .i64 (pk rc 4), .int .i64 (pk rb 4), .int .i64 (1 + pk ki 5), .int .i64 0, .int .i64 0, .slice none 0 0, .int .i64 0, .int .i64 0, .slice none 0 0, .slice none 0 0, .int .i64 0, .int .i64 0, .slice none 0 0, .int .i64 0, .int .i64 0, .slice none 0 0, .slice none 0 0, .slice none 0 0, .int .i64 0] _ _ qN
            have hF := (Upd.setRow (cs := #[.int .i64 (pk rc 4), .int .i64 (pk rb 4), .int .i64 (1 + pk ki 5), .int .i64 0, .int .i64 0, .slice none 0 0, .int .i64 0, .int .i64 0, .slice none 0 0, .slice none 0 0, .int .i64 0, .int .i64 0, .slice none 0 0, .int .i64 0, .int .i64 0, .slice none 0 0, .slice none 0 0, .slice none 0 0, .int .i64 0]) qN).below hA hA.size hle0
            refine hK.out _ _ ⟨cells_at qF0 0 _ rfl, cells_at qF0 2 _ rfl, cells_at qF0 3 _ rfl⟩ (fun hHeld => ?_)
            generalize V1.setRow V0.heap.size #[.int .i64 (pk rc 4), .int .i64 (pk rb 4), .int .i64 (1 + pk ki 5), .int .i64 0, .int .i64 0, .slice none 0 0, .int .i64 0, .int .i64 0, .slice none 0 0, .slice none 0 0, .int .i64 0, .int .i64 0, .slice none 0 0, .int .i64 0, .int .i64 0, .slice none 0 0, .slice none 0 0, .slice none 0 0, .int .i64 0] = VF at *
            refine wpAnyH_done (by kernel_rfl) ?_ _
            go_wp2_with fail
            go_meet
            case rel => exact ⟨V0.heap.size, rfl, by omega, hF, qF0, qF1, qFN⟩
        · skip
          refine step_run rfl 3 rfl (.pointer (some ⟨V0.heap.size, 0, none⟩)) (V0.alloc (.cells #[.int .i64 0, .int .i64 0, .int .i64 0, .int .i64 0, .int .i64 0, .slice none 0 0, .int .i64 0, .int .i64 0, .slice none 0 0, .slice none 0 0, .int .i64 0, .int .i64 0, .slice none 0 0, .int .i64 0, .int .i64 0, .slice none 0 0, .slice none 0 0, .slice none 0 0, .int .i64 0] 53)) (by go_simp) ?_
          refine hK.out _ _ ⟨cells_at qA0 0 _ rfl, cells_at qA0 2 _ rfl, cells_at qA0 3 _ rfl⟩ (fun hHeld => ?_)
          simp only [Act.put, List.setIfInBounds_toArray, List.set_cons_zero, List.set_cons_succ]
          generalize V0.alloc (.cells #[.int .i64 0, .int .i64 0, .int .i64 0, .int .i64 0, .int .i64 0, .slice none 0 0, .int .i64 0, .int .i64 0, .slice none 0 0, .slice none 0 0, .int .i64 0, .int .i64 0, .slice none 0 0, .int .i64 0, .int .i64 0, .slice none 0 0, .slice none 0 0, .slice none 0 0, .int .i64 0] 53) = V1 at hA qA0 qA1 qN hHeld ⊢
          refine wpAnyH_ready (rs := [5]) (by kernel_rfl) (by simp) (AllReadyH.cons rfl (fun K hK => ?_) AllReadyH.nil)
          refine step_calls_dst rfl 9 rfl 11 [.tmp 8, .const (.int .i64 4)] #[3, 3] rfl [.int .i64 rb, .int .i64 4] rfl (enters_of Try.func11 (by kernel_rfl) rfl) (fun v w' => v = .int .i64 (pk rb 4) ∧ V1 = w') ((picked_any rb 4 V1 h3.1 h3.2 (by omega) (by omega)).mono (fun e w2 h => ⟨_, h.1, rfl, h.2⟩)) ?_
          rintro v w' ⟨rfl, rfl⟩
          refine hK.out _ _ ⟨cells_at qA0 0 _ rfl, cells_at qA0 2 _ rfl, cells_at qA0 3 _ rfl⟩ (fun hHeld => ?_)
          simp only [Act.put, List.setIfInBounds_toArray, List.set_cons_zero, List.set_cons_succ]
          refine wpAnyH_ready (rs := [8]) (by kernel_rfl) (by simp) (AllReadyH.cons rfl (fun K hK => ?_) AllReadyH.nil)
          refine step_calls_dst rfl 12 rfl 11 [.tmp 11, .const (.int .i64 5)] #[3, 3] rfl [.int .i64 ki, .int .i64 5] rfl (enters_of Try.func11 (by kernel_rfl) rfl) (fun v w' => v = .int .i64 (pk ki 5) ∧ V1 = w') ((picked_any ki 5 V1 h1.1 h1.2 (by omega) (by omega)).mono (fun e w2 h => ⟨_, h.1, rfl, h.2⟩)) ?_
          rintro v w' ⟨rfl, rfl⟩
          refine hK.out _ _ ⟨cells_at qA0 0 _ rfl, cells_at qA0 2 _ rfl, cells_at qA0 3 _ rfl⟩ (fun hHeld => ?_)
          simp only [Act.put, List.setIfInBounds_toArray, List.set_cons_zero, List.set_cons_succ]
          refine take_dst (i := 9) (d := 13) (v := .int .i64 (1 + pk ki 5)) rfl rfl (by kernel_rfl) (by kernel_rfl) (by kernel_rfl) (fun _ _ _ h => h) (Or.inl ⟨by rfl, ?_⟩) hHeld ?_
          · (intro w0 hSw; (try dsimp only at hSw); go_simp)
          simp only [Act.put, List.setIfInBounds_toArray, List.set_cons_zero, List.set_cons_succ]
          refine take_dst (i := 10) (d := 14) (v := .agg #[.int .i64 (pk rc 4), .int .i64 (pk rb 4), .int .i64 (1 + pk ki 5), .int .i64 0, .int .i64 0, .slice none 0 0, .int .i64 0, .int .i64 0, .slice none 0 0, .slice none 0 0, .int .i64 0, .int .i64 0, .slice none 0 0, .int .i64 0, .int .i64 0, .slice none 0 0, .slice none 0 0, .slice none 0 0, .int .i64 0]) rfl rfl (by kernel_rfl) (by kernel_rfl) (by kernel_rfl) (fun _ _ _ h => h) (Or.inl ⟨by rfl, ?_⟩) hHeld ?_
          · (intro w0 hSw; (try dsimp only at hSw); go_simp)
          simp only [Act.put, List.setIfInBounds_toArray, List.set_cons_zero, List.set_cons_succ]
          refine wpAnyH_ready (rs := [12]) (by kernel_rfl) (by simp) (AllReadyH.cons rfl (fun K hK => ?_) AllReadyH.nil)
          refine step_store_row rfl rfl 53 (.tmp 3) (.tmp 14) rfl V0.heap.size #[.int .i64 (pk rc 4), .int .i64 (pk rb 4), .int .i64 (1 + pk ki 5), .int .i64 0, .int .i64 0, .slice none 0 0, .int .i64 0, .int .i64 0, .slice none 0 0, .slice none 0 0, .int .i64 0, .int .i64 0, .slice none 0 0, .int .i64 0, .int .i64 0, .slice none 0 0, .slice none 0 0, .slice none 0 0, .int .i64 0] rfl rfl 53 _ qN sMsg' rfl (by simp [Value.oneCell']) ?_
          have qF0 := (setRow_other V1 V0.heap.size w.heap.size #[.int .i64 (pk rc 4), .int .i64 (pk rb 4), .int .i64 (1 + pk ki 5), .int .i64 0, .int .i64 0, .slice none 0 0, .int .i64 0, .int .i64 0, .slice none 0 0, .slice none 0 0, .int .i64 0, .int .i64 0, .slice none 0 0, .int .i64 0, .int .i64 0, .slice none 0 0, .slice none 0 0, .slice none 0 0, .int .i64 0] hne0).trans qA0
          have qF1 := (setRow_other V1 V0.heap.size (w.heap.size + 1) #[.int .i64 (pk rc 4), .int .i64 (pk rb 4), .int .i64 (1 + pk ki 5), .int .i64 0, .int .i64 0, .slice none 0 0, .int .i64 0, .int .i64 0, .slice none 0 0, .slice none 0 0, .int .i64 0, .int .i64 0, .slice none 0 0, .int .i64 0, .int .i64 0, .slice none 0 0, .slice none 0 0, .slice none 0 0, .int .i64 0] hne1).trans qA1
          have qFN := setRow_heap V1 V0.heap.size _ #[.int .i64 (pk rc 4), .int .i64 (pk rb 4), .int .i64 (1 + pk ki 5), .int .i64 0, .int .i64 0, .slice none 0 0, .int .i64 0, .int .i64 0, .slice none 0 0, .slice none 0 0, .int .i64 0, .int .i64 0, .slice none 0 0, .int .i64 0, .int .i64 0, .slice none 0 0, .slice none 0 0, .slice none 0 0, .int .i64 0] _ _ qN
          have hF := (Upd.setRow (cs := #[.int .i64 (pk rc 4), .int .i64 (pk rb 4), .int .i64 (1 + pk ki 5), .int .i64 0, .int .i64 0, .slice none 0 0, .int .i64 0, .int .i64 0, .slice none 0 0, .slice none 0 0, .int .i64 0, .int .i64 0, .slice none 0 0, .int .i64 0, .int .i64 0, .slice none 0 0, .slice none 0 0, .slice none 0 0, .int .i64 0]) qN).below hA hA.size hle0
          refine hK.out _ _ ⟨cells_at qF0 0 _ rfl, cells_at qF0 2 _ rfl, cells_at qF0 3 _ rfl⟩ (fun hHeld => ?_)
          generalize V1.setRow V0.heap.size #[.int .i64 (pk rc 4), .int .i64 (pk rb 4), .int .i64 (1 + pk ki 5), .int .i64 0, .int .i64 0, .slice none 0 0, .int .i64 0, .int .i64 0, .slice none 0 0, .slice none 0 0, .int .i64 0, .int .i64 0, .slice none 0 0, .int .i64 0, .int .i64 0, .slice none 0 0, .slice none 0 0, .slice none 0 0, .int .i64 0] = VF at *
          refine wpAnyH_done (by kernel_rfl) ?_ _
          go_wp2_with fail
          go_meet
          case rel => exact ⟨V0.heap.size, rfl, by omega, hF, qF0, qF1, qFN⟩
      · skip
        refine step_run rfl 3 rfl (.pointer (some ⟨V0.heap.size, 0, none⟩)) (V0.alloc (.cells #[.int .i64 0, .int .i64 0, .int .i64 0, .int .i64 0, .int .i64 0, .slice none 0 0, .int .i64 0, .int .i64 0, .slice none 0 0, .slice none 0 0, .int .i64 0, .int .i64 0, .slice none 0 0, .int .i64 0, .int .i64 0, .slice none 0 0, .slice none 0 0, .slice none 0 0, .int .i64 0] 53)) (by go_simp) ?_
        refine hK.out _ _ ⟨cells_at qA0 0 _ rfl, cells_at qA0 2 _ rfl, cells_at qA0 3 _ rfl⟩ (fun hHeld => ?_)
        simp only [Act.put, List.setIfInBounds_toArray, List.set_cons_zero, List.set_cons_succ]
        generalize V0.alloc (.cells #[.int .i64 0, .int .i64 0, .int .i64 0, .int .i64 0, .int .i64 0, .slice none 0 0, .int .i64 0, .int .i64 0, .slice none 0 0, .slice none 0 0, .int .i64 0, .int .i64 0, .slice none 0 0, .int .i64 0, .int .i64 0, .slice none 0 0, .slice none 0 0, .slice none 0 0, .int .i64 0] 53) = V1 at hA qA0 qA1 qN hHeld ⊢
        refine wpAnyH_ready (rs := [2]) (by kernel_rfl) (by simp) (AllReadyH.cons rfl (fun K hK => ?_) AllReadyH.nil)
        refine step_calls_dst rfl 6 rfl 11 [.tmp 5, .const (.int .i64 4)] #[3, 3] rfl [.int .i64 rc, .int .i64 4] rfl (enters_of Try.func11 (by kernel_rfl) rfl) (fun v w' => v = .int .i64 (pk rc 4) ∧ V1 = w') ((picked_any rc 4 V1 h4.1 h4.2 (by omega) (by omega)).mono (fun e w2 h => ⟨_, h.1, rfl, h.2⟩)) ?_
        rintro v w' ⟨rfl, rfl⟩
        refine hK.out _ _ ⟨cells_at qA0 0 _ rfl, cells_at qA0 2 _ rfl, cells_at qA0 3 _ rfl⟩ (fun hHeld => ?_)
        simp only [Act.put, List.setIfInBounds_toArray, List.set_cons_zero, List.set_cons_succ]
        refine wpAnyH_ready (rs := [5]) (by kernel_rfl) (by simp) (AllReadyH.cons rfl (fun K hK => ?_) AllReadyH.nil)
        refine step_calls_dst rfl 9 rfl 11 [.tmp 8, .const (.int .i64 4)] #[3, 3] rfl [.int .i64 rb, .int .i64 4] rfl (enters_of Try.func11 (by kernel_rfl) rfl) (fun v w' => v = .int .i64 (pk rb 4) ∧ V1 = w') ((picked_any rb 4 V1 h3.1 h3.2 (by omega) (by omega)).mono (fun e w2 h => ⟨_, h.1, rfl, h.2⟩)) ?_
        rintro v w' ⟨rfl, rfl⟩
        refine hK.out _ _ ⟨cells_at qA0 0 _ rfl, cells_at qA0 2 _ rfl, cells_at qA0 3 _ rfl⟩ (fun hHeld => ?_)
        simp only [Act.put, List.setIfInBounds_toArray, List.set_cons_zero, List.set_cons_succ]
        refine wpAnyH_ready (rs := [8]) (by kernel_rfl) (by simp) (AllReadyH.cons rfl (fun K hK => ?_) AllReadyH.nil)
        refine step_calls_dst rfl 12 rfl 11 [.tmp 11, .const (.int .i64 5)] #[3, 3] rfl [.int .i64 ki, .int .i64 5] rfl (enters_of Try.func11 (by kernel_rfl) rfl) (fun v w' => v = .int .i64 (pk ki 5) ∧ V1 = w') ((picked_any ki 5 V1 h1.1 h1.2 (by omega) (by omega)).mono (fun e w2 h => ⟨_, h.1, rfl, h.2⟩)) ?_
        rintro v w' ⟨rfl, rfl⟩
        refine hK.out _ _ ⟨cells_at qA0 0 _ rfl, cells_at qA0 2 _ rfl, cells_at qA0 3 _ rfl⟩ (fun hHeld => ?_)
        simp only [Act.put, List.setIfInBounds_toArray, List.set_cons_zero, List.set_cons_succ]
        refine take_dst (i := 9) (d := 13) (v := .int .i64 (1 + pk ki 5)) rfl rfl (by kernel_rfl) (by kernel_rfl) (by kernel_rfl) (fun _ _ _ h => h) (Or.inl ⟨by rfl, ?_⟩) hHeld ?_
        · (intro w0 hSw; (try dsimp only at hSw); go_simp)
        simp only [Act.put, List.setIfInBounds_toArray, List.set_cons_zero, List.set_cons_succ]
        refine take_dst (i := 10) (d := 14) (v := .agg #[.int .i64 (pk rc 4), .int .i64 (pk rb 4), .int .i64 (1 + pk ki 5), .int .i64 0, .int .i64 0, .slice none 0 0, .int .i64 0, .int .i64 0, .slice none 0 0, .slice none 0 0, .int .i64 0, .int .i64 0, .slice none 0 0, .int .i64 0, .int .i64 0, .slice none 0 0, .slice none 0 0, .slice none 0 0, .int .i64 0]) rfl rfl (by kernel_rfl) (by kernel_rfl) (by kernel_rfl) (fun _ _ _ h => h) (Or.inl ⟨by rfl, ?_⟩) hHeld ?_
        · (intro w0 hSw; (try dsimp only at hSw); go_simp)
        simp only [Act.put, List.setIfInBounds_toArray, List.set_cons_zero, List.set_cons_succ]
        refine wpAnyH_ready (rs := [12]) (by kernel_rfl) (by simp) (AllReadyH.cons rfl (fun K hK => ?_) AllReadyH.nil)
        refine step_store_row rfl rfl 53 (.tmp 3) (.tmp 14) rfl V0.heap.size #[.int .i64 (pk rc 4), .int .i64 (pk rb 4), .int .i64 (1 + pk ki 5), .int .i64 0, .int .i64 0, .slice none 0 0, .int .i64 0, .int .i64 0, .slice none 0 0, .slice none 0 0, .int .i64 0, .int .i64 0, .slice none 0 0, .int .i64 0, .int .i64 0, .slice none 0 0, .slice none 0 0, .slice none 0 0, .int .i64 0] rfl rfl 53 _ qN sMsg' rfl (by simp [Value.oneCell']) ?_
        have qF0 := (setRow_other V1 V0.heap.size w.heap.size #[.int .i64 (pk rc 4), .int .i64 (pk rb 4), .int .i64 (1 + pk ki 5), .int .i64 0, .int .i64 0, .slice none 0 0, .int .i64 0, .int .i64 0, .slice none 0 0, .slice none 0 0, .int .i64 0, .int .i64 0, .slice none 0 0, .int .i64 0, .int .i64 0, .slice none 0 0, .slice none 0 0, .slice none 0 0, .int .i64 0] hne0).trans qA0
        have qF1 := (setRow_other V1 V0.heap.size (w.heap.size + 1) #[.int .i64 (pk rc 4), .int .i64 (pk rb 4), .int .i64 (1 + pk ki 5), .int .i64 0, .int .i64 0, .slice none 0 0, .int .i64 0, .int .i64 0, .slice none 0 0, .slice none 0 0, .int .i64 0, .int .i64 0, .slice none 0 0, .int .i64 0, .int .i64 0, .slice none 0 0, .slice none 0 0, .slice none 0 0, .int .i64 0] hne1).trans qA1
        have qFN := setRow_heap V1 V0.heap.size _ #[.int .i64 (pk rc 4), .int .i64 (pk rb 4), .int .i64 (1 + pk ki 5), .int .i64 0, .int .i64 0, .slice none 0 0, .int .i64 0, .int .i64 0, .slice none 0 0, .slice none 0 0, .int .i64 0, .int .i64 0, .slice none 0 0, .int .i64 0, .int .i64 0, .slice none 0 0, .slice none 0 0, .slice none 0 0, .int .i64 0] _ _ qN
        have hF := (Upd.setRow (cs := #[.int .i64 (pk rc 4), .int .i64 (pk rb 4), .int .i64 (1 + pk ki 5), .int .i64 0, .int .i64 0, .slice none 0 0, .int .i64 0, .int .i64 0, .slice none 0 0, .slice none 0 0, .int .i64 0, .int .i64 0, .slice none 0 0, .int .i64 0, .int .i64 0, .slice none 0 0, .slice none 0 0, .slice none 0 0, .int .i64 0]) qN).below hA hA.size hle0
        refine hK.out _ _ ⟨cells_at qF0 0 _ rfl, cells_at qF0 2 _ rfl, cells_at qF0 3 _ rfl⟩ (fun hHeld => ?_)
        generalize V1.setRow V0.heap.size #[.int .i64 (pk rc 4), .int .i64 (pk rb 4), .int .i64 (1 + pk ki 5), .int .i64 0, .int .i64 0, .slice none 0 0, .int .i64 0, .int .i64 0, .slice none 0 0, .slice none 0 0, .int .i64 0, .int .i64 0, .slice none 0 0, .int .i64 0, .int .i64 0, .slice none 0 0, .slice none 0 0, .slice none 0 0, .int .i64 0] = VF at *
        refine wpAnyH_done (by kernel_rfl) ?_ _
        go_wp2_with fail
        go_meet
        case rel => exact ⟨V0.heap.size, rfl, by omega, hF, qF0, qF1, qFN⟩
  case rest =>
      obtain ⟨b, rfl, hb1, hB, r0, r1, rB⟩ := hcut
      clear hA0 q0 q1
      have d0 : wc.cell? ⟨w.heap.size, 0, none⟩ = some (.int .i64 ki) := cells_at r0 0 _ rfl
      have d1 : wc.cell? ⟨w.heap.size, 1, none⟩ = some (.int .i64 ra) := cells_at r0 1 _ rfl
      have d2 : wc.cell? ⟨w.heap.size, 2, none⟩ = some (.int .i64 rb) := cells_at r0 2 _ rfl
      have d3 : wc.cell? ⟨w.heap.size, 3, none⟩ = some (.int .i64 rc) := cells_at r0 3 _ rfl
      have d4 : wc.cell? ⟨w.heap.size, 4, none⟩ = some (.slice sa ss.length cap) := cells_at r0 4 _ rfl
      obtain ⟨pb0, pb1⟩ := pk_bounds rb 9 (by decide)
      obtain ⟨pa0, pa1⟩ := pk_bounds ra 4 (by decide)
      have hwr : IntKind.i64.wrap (1 + pk rb 9) = 1 + pk rb 9 := by rw [IntKind.wrap_i64]; omega
      have hK : 1 + pk ki 5 = 1 ∨ 1 + pk ki 5 = 2 ∨ 1 + pk ki 5 = 3 ∨ 1 + pk ki 5 = 4 ∨ 1 + pk ki 5 = 5 := by omega
      clear hw
      generalize hkk : 1 + pk ki 5 = kk at *
      have HKK : Hid (1 + pk ki 5 = kk) := hkk
      clear hkk
      clear pk0 pk1
      have b2 : wc.cell? ⟨b, 2, none⟩ = some (.int .i64 kk) := cells_at rB 2 _ rfl
      rcases hK with rfl | rfl | rfl | rfl | rfl
      · go_wp2_with fail
        refine (batch_raw ki ra rb rc sa cap ss wc h2 h3 (h5.below hB)).mono ?_
        rintro e w3 ⟨ba, bc, he, ho, hb3⟩
        subst he
        dsimp only
        have s1 := (hb3.block _ (lt_of_heap r1)).trans r1
        have sB := (hb3.block _ (lt_of_heap rB)).trans rB
        have hB3 := hB.trans (hb3.mono hB.size)
        have hbw : w.heap.size ≤ b := by omega
        have hob : ∀ q, (Value.slice ba (bTxs ss).length bc).ownBlock = some q → q ≠ b ∧ q ≠ w.heap.size + 1 := fun q e => by have := (ho.lt q e).1; have := lt_of_heap rB; omega
        have x3 : w3.cell? ⟨b, 3, none⟩ = some (.int .i64 0) := cells_at sB 3 _ rfl
        have f3 := frozen_at sB 3
        have x4 : w3.cell? ⟨b, 4, none⟩ = some (.int .i64 0) := cells_at sB 4 _ rfl
        have f4 := frozen_at sB 4
        have x5 : w3.cell? ⟨b, 5, none⟩ = some (.slice none 0 0) := cells_at sB 5 _ rfl
        have f5 := frozen_at sB 5
        have rF : (((w3.setCell ⟨b, 3, none⟩ (.int .i64 (pk ra 4))).setCell ⟨b, 4, none⟩ (.int .i64 (1 + pk rb 9))).setCell ⟨b, 5, none⟩ (.slice ba (bTxs ss).length bc)).heap[b]? = some (.cells #[.int .i64 (pk rc 4), .int .i64 (pk rb 4), .int .i64 1, .int .i64 (pk ra 4), .int .i64 (1 + pk rb 9), .slice ba (bTxs ss).length bc, .int .i64 0, .int .i64 0, .slice none 0 0, .slice none 0 0, .int .i64 0, .int .i64 0, .slice none 0 0, .int .i64 0, .int .i64 0, .slice none 0 0, .slice none 0 0, .slice none 0 0, .int .i64 0] 53 (0, 0)) := by simpa using (heap_setCell_same _ _ 5 _ _ (.slice ba (bTxs ss).length bc) (heap_setCell_same _ _ 4 _ _ (.int .i64 (1 + pk rb 9)) (heap_setCell_same _ _ 3 _ _ (.int .i64 (pk ra 4)) sB)))
        have r1F := (heap_far (j := 5) (v := .slice ba (bTxs ss).length bc) (heap_far (j := 4) (v := .int .i64 (1 + pk rb 9)) (heap_far (j := 3) (v := .int .i64 (pk ra 4)) s1 (show w.heap.size + 1 ≠ b by omega)) (show w.heap.size + 1 ≠ b by omega)) (show w.heap.size + 1 ≠ b by omega))
        have hBF := (((hB3.setCell (p := ⟨b, 3, none⟩) hbw (.int .i64 (pk ra 4))).setCell (p := ⟨b, 4, none⟩) hbw (.int .i64 (1 + pk rb 9))).setCell (p := ⟨b, 5, none⟩) hbw (.slice ba (bTxs ss).length bc))
        have hbwc : b < wc.heap.size := lt_of_heap rB
        have hoF : (((w3.setCell ⟨b, 3, none⟩ (.int .i64 (pk ra 4))).setCell ⟨b, 4, none⟩ (.int .i64 (1 + pk rb 9))).setCell ⟨b, 5, none⟩ (.slice ba (bTxs ss).length bc)).ownsRow wc.heap.size 9 1 (.slice ba (bTxs ss).length bc) (bTxs ss).length (sv (bTxs ss)) := owns_far (owns_far (owns_far ho _ _ _ hbwc) _ _ _ hbwc) _ _ _ hbwc
        have hob1 : w.heap.size + 1 < wc.heap.size := lt_of_heap r1
        obtain ⟨_, _, hbe, -, hsA, hsf⟩ := strsAt_of_owns hoF (fun s hs => Nat.le_trans ((bTxs_ok ss).2 s hs).2 (by decide))
        simp only [Value.slice.injEq, true_and] at hbe
        obtain ⟨rfl, rfl⟩ := hbe
        have hl := (bTxs_ok ss).1
        have hcar := batchF_raw ra rb ss
        generalize bTxs ss = T at *
        go_wp2_with (first | refine wpList_load_row rfl 53 _ rfl b rfl 53 #[.int .i64 (pk rc 4), .int .i64 (pk rb 4), .int .i64 1, .int .i64 (pk ra 4), .int .i64 (1 + pk rb 9), .slice ba T.length bc, .int .i64 0, .int .i64 0, .slice none 0 0, .slice none 0 0, .int .i64 0, .int .i64 0, .slice none 0 0, .int .i64 0, .int .i64 0, .slice none 0 0, .slice none 0 0, .slice none 0 0, .int .i64 0] (0, 0) _ rF Try.underlying53 rfl sMsg' ?_ | refine wpList_store_row rfl 53 _ _ rfl (w.heap.size + 1) #[.int .i64 (pk rc 4), .int .i64 (pk rb 4), .int .i64 1, .int .i64 (pk ra 4), .int .i64 (1 + pk rb 9), .slice ba T.length bc, .int .i64 0, .int .i64 0, .slice none 0 0, .slice none 0 0, .int .i64 0, .int .i64 0, .slice none 0 0, .int .i64 0, .int .i64 0, .slice none 0 0, .slice none 0 0, .slice none 0 0, .int .i64 0] rfl rfl 53 _ r1F sMsg' rfl (by simp [Value.oneCell']) ?_)
        exact bodyPost_ret (v := .agg #[.int .i64 (pk rc 4), .int .i64 (pk rb 4), .int .i64 1, .int .i64 (pk ra 4), .int .i64 (1 + pk rb 9), .slice ba T.length bc, .int .i64 0, .int .i64 0, .slice none 0 0, .slice none 0 0, .int .i64 0, .int .i64 0, .slice none 0 0, .int .i64 0, .int .i64 0, .slice none 0 0, .slice none 0 0, .slice none 0 0, .int .i64 0]) (results_cell_row (fn := Try.f42) (p := 2) (ty := 53) rfl _ _ (w.heap.size + 1) 53 _ (0, 0) _ rfl (setRow_heap _ _ _ _ _ _ r1F) Try.underlying53 rfl sMsg') rfl ⟨⟨pk rc 4, pk rb 4, 1, pk ra 4, 1 + pk rb 9, 0, 0, 0, 0, 0, 0, 0, ba, none, none, none, none, none, none, T.length, bc, 0, 0, 0, 0, 0, 0, 0, 0, 0, 0, 0, 0⟩, T, [], [], [], [], [], rfl, ⟨rfl, rfl, rfl, rfl, rfl, rfl, by omega, by simp, by simp, (hsA.setRow _ _ (fun sb so e => by have := hsf sb so e; omega)), (list_nilM _), (list_nilM _), (list_nilM _), (list_nilM _), ⟨.inl rfl⟩⟩, rfl, rfl, (by rw [carriedF, if_pos rfl]; exact hcar), rfl, (Upd.setRow r1F).below hBF hBF.size (by omega), HKK.out.symm, (by intro h; dsimp only at h ⊢; omega), (by intro h; dsimp only at h ⊢; omega), (by intro h; dsimp only at h ⊢; omega), (by intro h; dsimp only at h ⊢; omega), (by intro h; dsimp only at h ⊢; omega), [], (nilM _), rfl, ⟨(fun sb so e => Nat.le_trans hB.size (hsf sb so e)), ⟨(fun _ _ e => by cases e), (fun p hp => by cases hp)⟩, ⟨(fun _ _ e => by cases e), (fun p hp => by cases hp)⟩, (fun _ _ e => by cases e), ⟨(fun _ _ e => by cases e), (fun p hp => by cases hp)⟩, ⟨(fun _ _ e => by cases e), (fun p hp => by cases hp)⟩, (fun _ _ e => by cases e)⟩, ⟨u8_none, u8_none, u8_none, u8_none, u8_none⟩⟩
      · go_wp2_with fail
        refine (header_raw2 ki ra rb rc sa _ cap wc h2 h3 h4).mono ?_
        rintro e w3 ⟨ba, bc, bl, pa, pc, pl, he, hL1, hL2, -, -, hE1, hE2, hb3, hF1, hF2⟩
        subst he
        dsimp only
        have s1 := (hb3.block _ (lt_of_heap r1)).trans r1
        have sB := (hb3.block _ (lt_of_heap rB)).trans rB
        have hB3 := hB.trans (hb3.mono hB.size)
        have hbw : w.heap.size ≤ b := by omega
        have hbwc : b < wc.heap.size := lt_of_heap rB
        have hb1c : w.heap.size + 1 < wc.heap.size := lt_of_heap r1
        have hcar := headerF_raw ra rb rc bl pl hE1 hE2
        have HL1 : Hid _ := hL1
        have HL2 : Hid _ := hL2
        have HF1 : Hid _ := hF1
        have HF2 : Hid _ := hF2
        have x6 : w3.cell? ⟨b, 6, none⟩ = some (.int .i64 0) := cells_at sB 6 _ rfl
        have f6 := frozen_at sB 6
        have x7 : w3.cell? ⟨b, 7, none⟩ = some (.int .i64 0) := cells_at sB 7 _ rfl
        have f7 := frozen_at sB 7
        have x8 : w3.cell? ⟨b, 8, none⟩ = some (.slice none 0 0) := cells_at sB 8 _ rfl
        have f8 := frozen_at sB 8
        have x9 : w3.cell? ⟨b, 9, none⟩ = some (.slice none 0 0) := cells_at sB 9 _ rfl
        have f9 := frozen_at sB 9
        have rF : ((((w3.setCell ⟨b, 6, none⟩ (.int .i64 (pk ra 4))).setCell ⟨b, 7, none⟩ (.int .i64 (1 + pk rb 9))).setCell ⟨b, 8, none⟩ (.slice ba bl.length bc)).setCell ⟨b, 9, none⟩ (.slice pa pl.length pc)).heap[b]? = some (.cells #[.int .i64 (pk rc 4), .int .i64 (pk rb 4), .int .i64 2, .int .i64 0, .int .i64 0, .slice none 0 0, .int .i64 (pk ra 4), .int .i64 (1 + pk rb 9), .slice ba bl.length bc, .slice pa pl.length pc, .int .i64 0, .int .i64 0, .slice none 0 0, .int .i64 0, .int .i64 0, .slice none 0 0, .slice none 0 0, .slice none 0 0, .int .i64 0] 53 (0, 0)) := by simpa using (heap_setCell_same _ _ 9 _ _ (.slice pa pl.length pc) (heap_setCell_same _ _ 8 _ _ (.slice ba bl.length bc) (heap_setCell_same _ _ 7 _ _ (.int .i64 (1 + pk rb 9)) (heap_setCell_same _ _ 6 _ _ (.int .i64 (pk ra 4)) sB))))
        have r1F := (heap_far (j := 9) (v := .slice pa pl.length pc) (heap_far (j := 8) (v := .slice ba bl.length bc) (heap_far (j := 7) (v := .int .i64 (1 + pk rb 9)) (heap_far (j := 6) (v := .int .i64 (pk ra 4)) s1 (show w.heap.size + 1 ≠ b by omega)) (show w.heap.size + 1 ≠ b by omega)) (show w.heap.size + 1 ≠ b by omega)) (show w.heap.size + 1 ≠ b by omega))
        have hBF := ((((hB3.setCell (p := ⟨b, 6, none⟩) hbw (.int .i64 (pk ra 4))).setCell (p := ⟨b, 7, none⟩) hbw (.int .i64 (1 + pk rb 9))).setCell (p := ⟨b, 8, none⟩) hbw (.slice ba bl.length bc)).setCell (p := ⟨b, 9, none⟩) hbw (.slice pa pl.length pc))
        have HLa : Hid (ListAt ((((w3.setCell ⟨b, 6, none⟩ (.int .i64 (pk ra 4))).setCell ⟨b, 7, none⟩ (.int .i64 (1 + pk rb 9))).setCell ⟨b, 8, none⟩ (.slice ba bl.length bc)).setCell ⟨b, 9, none⟩ (.slice pa pl.length pc)) ba bc bl) := ((((HL1.out.setCell HF1.out b 6 _ hbwc).setCell HF1.out b 7 _ hbwc).setCell HF1.out b 8 _ hbwc).setCell HF1.out b 9 _ hbwc)
        have HLb : Hid (ListAt ((((w3.setCell ⟨b, 6, none⟩ (.int .i64 (pk ra 4))).setCell ⟨b, 7, none⟩ (.int .i64 (1 + pk rb 9))).setCell ⟨b, 8, none⟩ (.slice ba bl.length bc)).setCell ⟨b, 9, none⟩ (.slice pa pl.length pc)) pa pc pl) := ((((HL2.out.setCell HF2.out b 6 _ hbwc).setCell HF2.out b 7 _ hbwc).setCell HF2.out b 8 _ hbwc).setCell HF2.out b 9 _ hbwc)
        have HU : Hid (U8M bl pl [] [] []) := ⟨u8_bats hE1, u8_pars hE2, u8_none, u8_none, u8_none⟩
        clear hL1 hL2 hE1 hE2 hF1 hF2
        go_wp2_with (first | refine wpList_load_row rfl 53 _ rfl b rfl 53 #[.int .i64 (pk rc 4), .int .i64 (pk rb 4), .int .i64 2, .int .i64 0, .int .i64 0, .slice none 0 0, .int .i64 (pk ra 4), .int .i64 (1 + pk rb 9), .slice ba bl.length bc, .slice pa pl.length pc, .int .i64 0, .int .i64 0, .slice none 0 0, .int .i64 0, .int .i64 0, .slice none 0 0, .slice none 0 0, .slice none 0 0, .int .i64 0] (0, 0) _ rF Try.underlying53 rfl sMsg' ?_ | refine wpList_store_row rfl 53 _ _ rfl (w.heap.size + 1) #[.int .i64 (pk rc 4), .int .i64 (pk rb 4), .int .i64 2, .int .i64 0, .int .i64 0, .slice none 0 0, .int .i64 (pk ra 4), .int .i64 (1 + pk rb 9), .slice ba bl.length bc, .slice pa pl.length pc, .int .i64 0, .int .i64 0, .slice none 0 0, .int .i64 0, .int .i64 0, .slice none 0 0, .slice none 0 0, .slice none 0 0, .int .i64 0] rfl rfl 53 _ r1F sMsg' rfl (by simp [Value.oneCell']) ?_)
        exact bodyPost_ret (v := .agg #[.int .i64 (pk rc 4), .int .i64 (pk rb 4), .int .i64 2, .int .i64 0, .int .i64 0, .slice none 0 0, .int .i64 (pk ra 4), .int .i64 (1 + pk rb 9), .slice ba bl.length bc, .slice pa pl.length pc, .int .i64 0, .int .i64 0, .slice none 0 0, .int .i64 0, .int .i64 0, .slice none 0 0, .slice none 0 0, .slice none 0 0, .int .i64 0]) (results_cell_row (fn := Try.f42) (p := 2) (ty := 53) rfl _ _ (w.heap.size + 1) 53 _ (0, 0) _ rfl (setRow_heap _ _ _ _ _ _ r1F) Try.underlying53 rfl sMsg') rfl ⟨⟨pk rc 4, pk rb 4, 2, 0, 0, pk ra 4, 1 + pk rb 9, 0, 0, 0, 0, 0, none, ba, pa, none, none, none, none, 0, 0, bl.length, bc, pl.length, pc, 0, 0, 0, 0, 0, 0, 0, 0⟩, [], bl, pl, [], [], [], rfl, ⟨rfl, rfl, rfl, rfl, rfl, rfl, by simp, by simp, by simp, ⟨.inl rfl, fun s h => by cases h⟩, (list_setRowM HLa.out HF1.out _ _ hb1c), (list_setRowM HLb.out HF2.out _ _ hb1c), (list_nilM _), (list_nilM _), ⟨.inl rfl⟩⟩, rfl, rfl, (by simp only [carriedF]; rw [if_neg (show ¬ (2 : Int) = 1 by decide), if_pos trivial]; exact hcar), rfl, (Upd.setRow r1F).below hBF hBF.size (by omega), HKK.out.symm, (by intro h; dsimp only at h ⊢; omega), (by intro h; dsimp only at h ⊢; omega), (by intro h; dsimp only at h ⊢; omega), (by intro h; dsimp only at h ⊢; omega), (by intro h; dsimp only at h ⊢; omega), [], (nilM _), rfl, ⟨(fun _ _ e => by cases e), (HF1.out.monoM hB.size), (HF2.out.monoM hB.size), (fun _ _ e => by cases e), ⟨(fun _ _ e => by cases e), (fun p hp => by cases hp)⟩, ⟨(fun _ _ e => by cases e), (fun p hp => by cases hp)⟩, (fun _ _ e => by cases e)⟩, HU.out⟩
      · have hneb : w.heap.size ≠ b := by omega
        have hbw : w.heap.size ≤ b := by omega
        go_upto_region 8 with fail
        go_region_held3 (fun w' => w'.cell? ⟨w.heap.size, 1, none⟩ = some (.int .i64 ra) ∧ w'.cell? ⟨w.heap.size, 2, none⟩ = some (.int .i64 rb) ∧ w'.cell? ⟨w.heap.size, 3, none⟩ = some (.int .i64 rc)) (go_keep) (first | (go_at_call 61; refine (some_any rc ra wc.drew h4).mono ?_; rintro e w3 ⟨rfl, ho3, hb3⟩; replace hb3 := below_drew hb3; have s0 := (hb3.block _ (lt_of_heap r0)).trans r0; have s1 := (hb3.block _ (lt_of_heap r1)).trans r1; have sB := (hb3.block _ (lt_of_heap rB)).trans rB; have g1 : w3.cell? ⟨w.heap.size, 1, none⟩ = some (.int .i64 ra) := cells_at s0 1 _ rfl; have g2 : w3.cell? ⟨w.heap.size, 2, none⟩ = some (.int .i64 rb) := cells_at s0 2 _ rfl; have g3 : w3.cell? ⟨w.heap.size, 3, none⟩ = some (.int .i64 rc) := cells_at s0 3 _ rfl; have x10 : w3.cell? ⟨b, 10, none⟩ = some (.int .i64 0) := cells_at sB 10 _ rfl; have f10 := frozen_at sB 10; have x11 : w3.cell? ⟨b, 11, none⟩ = some (.int .i64 0) := cells_at sB 11 _ rfl; have f11 := frozen_at sB 11; have x12 : w3.cell? ⟨b, 12, none⟩ = some (.slice none 0 0) := cells_at sB 12 _ rfl; have f12 := frozen_at sB 12; have sF0 := (heap_far (j := 12) (v := .slice (some ⟨wc.heap.size, 0, none⟩) 32 32) (heap_far (j := 11) (v := .int .i64 (1 + pk rb 9)) (heap_far (j := 10) (v := .int .i64 (pk ra 4)) s0 hneb) hneb) hneb); have k1 : (((w3.setCell ⟨b, 10, none⟩ (.int .i64 (pk ra 4))).setCell ⟨b, 11, none⟩ (.int .i64 (1 + pk rb 9))).setCell ⟨b, 12, none⟩ (.slice (some ⟨wc.heap.size, 0, none⟩) 32 32)).cell? ⟨w.heap.size, 1, none⟩ = some (.int .i64 ra) := cells_at sF0 1 _ rfl; have k2 : (((w3.setCell ⟨b, 10, none⟩ (.int .i64 (pk ra 4))).setCell ⟨b, 11, none⟩ (.int .i64 (1 + pk rb 9))).setCell ⟨b, 12, none⟩ (.slice (some ⟨wc.heap.size, 0, none⟩) 32 32)).cell? ⟨w.heap.size, 2, none⟩ = some (.int .i64 rb) := cells_at sF0 2 _ rfl; have k3 : (((w3.setCell ⟨b, 10, none⟩ (.int .i64 (pk ra 4))).setCell ⟨b, 11, none⟩ (.int .i64 (1 + pk rb 9))).setCell ⟨b, 12, none⟩ (.slice (some ⟨wc.heap.size, 0, none⟩) 32 32)).cell? ⟨w.heap.size, 3, none⟩ = some (.int .i64 rc) := cells_at sF0 3 _ rfl) | (go_at_call 11; refine (picked_any _ _ _ (by first | exact h2.1 | exact h3.1) (by first | exact h2.2 | exact h3.2) (by omega) (by omega)).mono ?_; rintro e w9 ⟨rfl, rfl⟩))
        all_goals
          have hB3 := hB.trans (hb3.mono hB.size)
          have rF : (((w3.setCell ⟨b, 10, none⟩ (.int .i64 (pk ra 4))).setCell ⟨b, 11, none⟩ (.int .i64 (1 + pk rb 9))).setCell ⟨b, 12, none⟩ (.slice (some ⟨wc.heap.size, 0, none⟩) 32 32)).heap[b]? = some (.cells #[.int .i64 (pk rc 4), .int .i64 (pk rb 4), .int .i64 3, .int .i64 0, .int .i64 0, .slice none 0 0, .int .i64 0, .int .i64 0, .slice none 0 0, .slice none 0 0, .int .i64 (pk ra 4), .int .i64 (1 + pk rb 9), .slice (some ⟨wc.heap.size, 0, none⟩) 32 32, .int .i64 0, .int .i64 0, .slice none 0 0, .slice none 0 0, .slice none 0 0, .int .i64 0] 53 (0, 0)) := by simpa using (heap_setCell_same _ _ 12 _ _ (.slice (some ⟨wc.heap.size, 0, none⟩) 32 32) (heap_setCell_same _ _ 11 _ _ (.int .i64 (1 + pk rb 9)) (heap_setCell_same _ _ 10 _ _ (.int .i64 (pk ra 4)) sB)))
          have r1F := (heap_far (j := 12) (v := .slice (some ⟨wc.heap.size, 0, none⟩) 32 32) (heap_far (j := 11) (v := .int .i64 (1 + pk rb 9)) (heap_far (j := 10) (v := .int .i64 (pk ra 4)) s1 (show w.heap.size + 1 ≠ b by omega)) (show w.heap.size + 1 ≠ b by omega)) (show w.heap.size + 1 ≠ b by omega))
          have hBF := (((hB3.setCell (p := ⟨b, 10, none⟩) hbw (.int .i64 (pk ra 4))).setCell (p := ⟨b, 11, none⟩) hbw (.int .i64 (1 + pk rb 9))).setCell (p := ⟨b, 12, none⟩) hbw (.slice (some ⟨wc.heap.size, 0, none⟩) 32 32))
          have hoF : (((w3.setCell ⟨b, 10, none⟩ (.int .i64 (pk ra 4))).setCell ⟨b, 11, none⟩ (.int .i64 (1 + pk rb 9))).setCell ⟨b, 12, none⟩ (.slice (some ⟨wc.heap.size, 0, none⟩) 32 32)).ownsRow wc.heap.size 5 1 (.slice (some ⟨wc.heap.size, 0, none⟩) 32 32) 32 (ub (someL rc ra)) := owns_far (owns_far (owns_far ho3 _ _ _ (lt_of_heap rB)) _ _ _ (lt_of_heap rB)) _ _ _ (lt_of_heap rB)
          go_wp2_with (first | refine wpList_load_row rfl 53 _ rfl b rfl 53 #[.int .i64 (pk rc 4), .int .i64 (pk rb 4), .int .i64 3, .int .i64 0, .int .i64 0, .slice none 0 0, .int .i64 0, .int .i64 0, .slice none 0 0, .slice none 0 0, .int .i64 (pk ra 4), .int .i64 (1 + pk rb 9), .slice (some ⟨wc.heap.size, 0, none⟩) 32 32, .int .i64 0, .int .i64 0, .slice none 0 0, .slice none 0 0, .slice none 0 0, .int .i64 0] (0, 0) _ rF Try.underlying53 rfl sMsg' ?_ | refine wpList_store_row rfl 53 _ _ rfl (w.heap.size + 1) #[.int .i64 (pk rc 4), .int .i64 (pk rb 4), .int .i64 3, .int .i64 0, .int .i64 0, .slice none 0 0, .int .i64 0, .int .i64 0, .slice none 0 0, .slice none 0 0, .int .i64 (pk ra 4), .int .i64 (1 + pk rb 9), .slice (some ⟨wc.heap.size, 0, none⟩) 32 32, .int .i64 0, .int .i64 0, .slice none 0 0, .slice none 0 0, .slice none 0 0, .int .i64 0] rfl rfl 53 _ r1F sMsg' rfl (by simp [Value.oneCell']) ?_)
          exact bodyPost_ret (v := .agg #[.int .i64 (pk rc 4), .int .i64 (pk rb 4), .int .i64 3, .int .i64 0, .int .i64 0, .slice none 0 0, .int .i64 0, .int .i64 0, .slice none 0 0, .slice none 0 0, .int .i64 (pk ra 4), .int .i64 (1 + pk rb 9), .slice (some ⟨wc.heap.size, 0, none⟩) 32 32, .int .i64 0, .int .i64 0, .slice none 0 0, .slice none 0 0, .slice none 0 0, .int .i64 0]) (results_cell_row (fn := Try.f42) (p := 2) (ty := 53) rfl _ _ (w.heap.size + 1) 53 _ (0, 0) _ rfl (setRow_heap _ _ _ _ _ _ r1F) Try.underlying53 rfl sMsg') rfl ⟨⟨pk rc 4, pk rb 4, 3, 0, 0, 0, 0, pk ra 4, 1 + pk rb 9, 0, 0, 0, none, none, none, some ⟨wc.heap.size, 0, none⟩, none, none, none, 0, 0, 0, 0, 0, 0, 32, 32, 0, 0, 0, 0, 0, 0⟩, [], [], [], [], [], [], rfl, ⟨rfl, rfl, rfl, rfl, rfl, rfl, by simp, by simp, by simp, ⟨.inl rfl, fun s h => by cases h⟩, (list_nilM _), (list_nilM _), (list_nilM _), (list_nilM _), ⟨.inl rfl⟩⟩, rfl, rfl, (by simp only [carriedF]; rw [if_neg (show ¬ (3 : Int) = 1 by decide), if_neg (show ¬ (3 : Int) = 2 by decide), if_pos trivial, slotF, if_neg (by omega), if_neg (by decide)]), rfl, (Upd.setRow r1F).below hBF hBF.size (by omega), HKK.out.symm, (by intro h; dsimp only at h ⊢; omega), (by intro h; dsimp only at h ⊢; omega), (by intro h; dsimp only at h ⊢; omega), (by intro h; dsimp only at h ⊢; omega), (by intro h; dsimp only at h ⊢; omega), someL rc ra, (slice_setRow (sliceAt_of_owns hoF).2 _ _ (fun sb so e => by cases e; have := lt_of_heap r1; omega)), (sliceAt_of_owns hoF).1, ⟨(fun _ _ e => by cases e), ⟨(fun _ _ e => by cases e), (fun p hp => by cases hp)⟩, ⟨(fun _ _ e => by cases e), (fun p hp => by cases hp)⟩, (fun sb so e => by cases e; exact hB.size), ⟨(fun _ _ e => by cases e), (fun p hp => by cases hp)⟩, ⟨(fun _ _ e => by cases e), (fun p hp => by cases hp)⟩, (fun _ _ e => by cases e)⟩, ⟨u8_none, u8_none, u8_none, u8_none, someL_u8 _ _⟩⟩
      · have hneb : w.heap.size ≠ b := by omega
        have hbw : w.heap.size ≤ b := by omega
        have hbwc : b < wc.heap.size := lt_of_heap rB
        have hb1c : w.heap.size + 1 < wc.heap.size := lt_of_heap r1
        obtain ⟨VN, hVN⟩ : ∃ n, (votersL rc).length = n := ⟨_, rfl⟩
        have HVN : Hid ((votersL rc).length = VN) := hVN
        clear hVN
        go_upto_region 10 with fail
        go_region_held3 (fun w' => w'.cell? ⟨w.heap.size, 0, none⟩ = some (.int .i64 ki) ∧ w'.cell? ⟨w.heap.size, 1, none⟩ = some (.int .i64 ra) ∧ w'.cell? ⟨w.heap.size, 2, none⟩ = some (.int .i64 rb) ∧ w'.cell? ⟨w.heap.size, 3, none⟩ = some (.int .i64 rc) ∧ w'.cell? ⟨w.heap.size, 4, none⟩ = some (.slice sa ss.length cap)) (go_keep) (first | (go_at_call 62; refine (voters_any rc w3 h4).mono ?_; rintro e w4 ⟨v4, he, ho4, hb4⟩; rw [HVN.out] at ho4; obtain ⟨va, vc, hv4⟩ := owns_shape ho4; subst hv4; subst he; have hb34 := hb3.trans (hb4.mono hb3.size); have s0 := (hb34.block _ (lt_of_heap r0)).trans r0; have s1 := (hb34.block _ (lt_of_heap r1)).trans r1; have sB := (hb34.block _ (lt_of_heap rB)).trans rB; have g0 : w4.cell? ⟨w.heap.size, 0, none⟩ = some (.int .i64 ki) := cells_at s0 0 _ rfl; have g1 : w4.cell? ⟨w.heap.size, 1, none⟩ = some (.int .i64 ra) := cells_at s0 1 _ rfl; have g2 : w4.cell? ⟨w.heap.size, 2, none⟩ = some (.int .i64 rb) := cells_at s0 2 _ rfl; have g3 : w4.cell? ⟨w.heap.size, 3, none⟩ = some (.int .i64 rc) := cells_at s0 3 _ rfl; have g4 : w4.cell? ⟨w.heap.size, 4, none⟩ = some (.slice sa ss.length cap) := cells_at s0 4 _ rfl; have x13 : w4.cell? ⟨b, 13, none⟩ = some (.int .i64 0) := cells_at sB 13 _ rfl; have f13 := frozen_at sB 13; have x14 : w4.cell? ⟨b, 14, none⟩ = some (.int .i64 0) := cells_at sB 14 _ rfl; have f14 := frozen_at sB 14; have x15 : w4.cell? ⟨b, 15, none⟩ = some (.slice none 0 0) := cells_at sB 15 _ rfl; have f15 := frozen_at sB 15; have x16 : w4.cell? ⟨b, 16, none⟩ = some (.slice none 0 0) := cells_at sB 16 _ rfl; have f16 := frozen_at sB 16; have x17 : w4.cell? ⟨b, 17, none⟩ = some (.slice none 0 0) := cells_at sB 17 _ rfl; have f17 := frozen_at sB 17; have sF0 := (heap_far (j := 17) (v := .slice va VN vc) (heap_far (j := 16) (v := .slice pa pl.length pc) (heap_far (j := 15) (v := .slice ba bl.length bc) (heap_far (j := 14) (v := .int .i64 (1 + pk rb 9)) (heap_far (j := 13) (v := .int .i64 (pk ra 4)) s0 hneb) hneb) hneb) hneb) hneb); have k0 : (((((w4.setCell ⟨b, 13, none⟩ (.int .i64 (pk ra 4))).setCell ⟨b, 14, none⟩ (.int .i64 (1 + pk rb 9))).setCell ⟨b, 15, none⟩ (.slice ba bl.length bc)).setCell ⟨b, 16, none⟩ (.slice pa pl.length pc)).setCell ⟨b, 17, none⟩ (.slice va VN vc)).cell? ⟨w.heap.size, 0, none⟩ = some (.int .i64 ki) := cells_at sF0 0 _ rfl; have k1 : (((((w4.setCell ⟨b, 13, none⟩ (.int .i64 (pk ra 4))).setCell ⟨b, 14, none⟩ (.int .i64 (1 + pk rb 9))).setCell ⟨b, 15, none⟩ (.slice ba bl.length bc)).setCell ⟨b, 16, none⟩ (.slice pa pl.length pc)).setCell ⟨b, 17, none⟩ (.slice va VN vc)).cell? ⟨w.heap.size, 1, none⟩ = some (.int .i64 ra) := cells_at sF0 1 _ rfl; have k2 : (((((w4.setCell ⟨b, 13, none⟩ (.int .i64 (pk ra 4))).setCell ⟨b, 14, none⟩ (.int .i64 (1 + pk rb 9))).setCell ⟨b, 15, none⟩ (.slice ba bl.length bc)).setCell ⟨b, 16, none⟩ (.slice pa pl.length pc)).setCell ⟨b, 17, none⟩ (.slice va VN vc)).cell? ⟨w.heap.size, 2, none⟩ = some (.int .i64 rb) := cells_at sF0 2 _ rfl; have k3 : (((((w4.setCell ⟨b, 13, none⟩ (.int .i64 (pk ra 4))).setCell ⟨b, 14, none⟩ (.int .i64 (1 + pk rb 9))).setCell ⟨b, 15, none⟩ (.slice ba bl.length bc)).setCell ⟨b, 16, none⟩ (.slice pa pl.length pc)).setCell ⟨b, 17, none⟩ (.slice va VN vc)).cell? ⟨w.heap.size, 3, none⟩ = some (.int .i64 rc) := cells_at sF0 3 _ rfl; have k4 : (((((w4.setCell ⟨b, 13, none⟩ (.int .i64 (pk ra 4))).setCell ⟨b, 14, none⟩ (.int .i64 (1 + pk rb 9))).setCell ⟨b, 15, none⟩ (.slice ba bl.length bc)).setCell ⟨b, 16, none⟩ (.slice pa pl.length pc)).setCell ⟨b, 17, none⟩ (.slice va VN vc)).cell? ⟨w.heap.size, 4, none⟩ = some (.slice sa ss.length cap) := cells_at sF0 4 _ rfl) | (go_at_call 60; refine (header_raw2 ki ra rb rc sa _ cap wc.drew h2 h3 h4).mono ?_; rintro e w3 ⟨ba, bc, bl, pa, pc, pl, rfl, hL1, hL2, -, -, hE1, hE2, hb3, hF1, hF2⟩; replace hb3 := below_drew hb3; have t0 := (hb3.block _ (lt_of_heap r0)).trans r0; have m0 : w3.cell? ⟨w.heap.size, 0, none⟩ = some (.int .i64 ki) := cells_at t0 0 _ rfl; have m1 : w3.cell? ⟨w.heap.size, 1, none⟩ = some (.int .i64 ra) := cells_at t0 1 _ rfl; have m2 : w3.cell? ⟨w.heap.size, 2, none⟩ = some (.int .i64 rb) := cells_at t0 2 _ rfl; have m3 : w3.cell? ⟨w.heap.size, 3, none⟩ = some (.int .i64 rc) := cells_at t0 3 _ rfl; have m4 : w3.cell? ⟨w.heap.size, 4, none⟩ = some (.slice sa ss.length cap) := cells_at t0 4 _ rfl; have HL1 : Hid _ := hL1; have HL2 : Hid _ := hL2; have HF1 : Hid _ := hF1; have HF2 : Hid _ := hF2; have HE1 : Hid _ := hE1; have HE2 : Hid _ := hE2; clear hL1 hL2 hF1 hF2 hE1 hE2))
        all_goals
          have hB3 := hB.trans (hb34.mono hB.size)
          have hcar := headerF_raw ra rb rc bl pl HE1.out HE2.out
          obtain ⟨_, _, _, _, _, _, _, _, hvf, _, hvl⟩ := votersL_form rc
          have rF : (((((w4.setCell ⟨b, 13, none⟩ (.int .i64 (pk ra 4))).setCell ⟨b, 14, none⟩ (.int .i64 (1 + pk rb 9))).setCell ⟨b, 15, none⟩ (.slice ba bl.length bc)).setCell ⟨b, 16, none⟩ (.slice pa pl.length pc)).setCell ⟨b, 17, none⟩ (.slice va VN vc)).heap[b]? = some (.cells #[.int .i64 (pk rc 4), .int .i64 (pk rb 4), .int .i64 4, .int .i64 0, .int .i64 0, .slice none 0 0, .int .i64 0, .int .i64 0, .slice none 0 0, .slice none 0 0, .int .i64 0, .int .i64 0, .slice none 0 0, .int .i64 (pk ra 4), .int .i64 (1 + pk rb 9), .slice ba bl.length bc, .slice pa pl.length pc, .slice va VN vc, .int .i64 0] 53 (0, 0)) := by simpa using (heap_setCell_same _ _ 17 _ _ (.slice va VN vc) (heap_setCell_same _ _ 16 _ _ (.slice pa pl.length pc) (heap_setCell_same _ _ 15 _ _ (.slice ba bl.length bc) (heap_setCell_same _ _ 14 _ _ (.int .i64 (1 + pk rb 9)) (heap_setCell_same _ _ 13 _ _ (.int .i64 (pk ra 4)) sB)))))
          have r1F := (heap_far (j := 17) (v := .slice va VN vc) (heap_far (j := 16) (v := .slice pa pl.length pc) (heap_far (j := 15) (v := .slice ba bl.length bc) (heap_far (j := 14) (v := .int .i64 (1 + pk rb 9)) (heap_far (j := 13) (v := .int .i64 (pk ra 4)) s1 (show w.heap.size + 1 ≠ b by omega)) (show w.heap.size + 1 ≠ b by omega)) (show w.heap.size + 1 ≠ b by omega)) (show w.heap.size + 1 ≠ b by omega)) (show w.heap.size + 1 ≠ b by omega))
          have hBF := (((((hB3.setCell (p := ⟨b, 13, none⟩) hbw (.int .i64 (pk ra 4))).setCell (p := ⟨b, 14, none⟩) hbw (.int .i64 (1 + pk rb 9))).setCell (p := ⟨b, 15, none⟩) hbw (.slice ba bl.length bc)).setCell (p := ⟨b, 16, none⟩) hbw (.slice pa pl.length pc)).setCell (p := ⟨b, 17, none⟩) hbw (.slice va VN vc))
          have HLa : Hid (ListAt (((((w4.setCell ⟨b, 13, none⟩ (.int .i64 (pk ra 4))).setCell ⟨b, 14, none⟩ (.int .i64 (1 + pk rb 9))).setCell ⟨b, 15, none⟩ (.slice ba bl.length bc)).setCell ⟨b, 16, none⟩ (.slice pa pl.length pc)).setCell ⟨b, 17, none⟩ (.slice va VN vc)) ba bc bl) := ((((((HL1.out.below hb4).setCell HF1.out b 13 _ hbwc).setCell HF1.out b 14 _ hbwc).setCell HF1.out b 15 _ hbwc).setCell HF1.out b 16 _ hbwc).setCell HF1.out b 17 _ hbwc)
          have HLb : Hid (ListAt (((((w4.setCell ⟨b, 13, none⟩ (.int .i64 (pk ra 4))).setCell ⟨b, 14, none⟩ (.int .i64 (1 + pk rb 9))).setCell ⟨b, 15, none⟩ (.slice ba bl.length bc)).setCell ⟨b, 16, none⟩ (.slice pa pl.length pc)).setCell ⟨b, 17, none⟩ (.slice va VN vc)) pa pc pl) := ((((((HL2.out.below hb4).setCell HF2.out b 13 _ hbwc).setCell HF2.out b 14 _ hbwc).setCell HF2.out b 15 _ hbwc).setCell HF2.out b 16 _ hbwc).setCell HF2.out b 17 _ hbwc)
          have hoF : (((((w4.setCell ⟨b, 13, none⟩ (.int .i64 (pk ra 4))).setCell ⟨b, 14, none⟩ (.int .i64 (1 + pk rb 9))).setCell ⟨b, 15, none⟩ (.slice ba bl.length bc)).setCell ⟨b, 16, none⟩ (.slice pa pl.length pc)).setCell ⟨b, 17, none⟩ (.slice va VN vc)).ownsRow w3.heap.size 3 1 (.slice va VN vc) VN (iv (votersL rc)) := (owns_far (owns_far (owns_far (owns_far (owns_far ho4 _ _ _ (by have := hb3.size; omega)) _ _ _ (by have := hb3.size; omega)) _ _ _ (by have := hb3.size; omega)) _ _ _ (by have := hb3.size; omega)) _ _ _ (by have := hb3.size; omega))
          have hIv : Hid (IntsAt (((((w4.setCell ⟨b, 13, none⟩ (.int .i64 (pk ra 4))).setCell ⟨b, 14, none⟩ (.int .i64 (1 + pk rb 9))).setCell ⟨b, 15, none⟩ (.slice ba bl.length bc)).setCell ⟨b, 16, none⟩ (.slice pa pl.length pc)).setCell ⟨b, 17, none⟩ (.slice va VN vc)) va (votersL rc) ∧ ∀ sb so, va = some ⟨sb, so, none⟩ → w3.heap.size ≤ sb) := ints_owned hoF
          have hsz3 : wc.heap.size ≤ w3.heap.size := hb3.size
          go_wp2_with (first | refine wpList_load_row rfl 53 _ rfl b rfl 53 #[.int .i64 (pk rc 4), .int .i64 (pk rb 4), .int .i64 4, .int .i64 0, .int .i64 0, .slice none 0 0, .int .i64 0, .int .i64 0, .slice none 0 0, .slice none 0 0, .int .i64 0, .int .i64 0, .slice none 0 0, .int .i64 (pk ra 4), .int .i64 (1 + pk rb 9), .slice ba bl.length bc, .slice pa pl.length pc, .slice va VN vc, .int .i64 0] (0, 0) _ rF Try.underlying53 rfl sMsg' ?_ | refine wpList_store_row rfl 53 _ _ rfl (w.heap.size + 1) #[.int .i64 (pk rc 4), .int .i64 (pk rb 4), .int .i64 4, .int .i64 0, .int .i64 0, .slice none 0 0, .int .i64 0, .int .i64 0, .slice none 0 0, .slice none 0 0, .int .i64 0, .int .i64 0, .slice none 0 0, .int .i64 (pk ra 4), .int .i64 (1 + pk rb 9), .slice ba bl.length bc, .slice pa pl.length pc, .slice va VN vc, .int .i64 0] rfl rfl 53 _ r1F sMsg' rfl (by simp [Value.oneCell']) ?_)
          exact bodyPost_ret (v := .agg #[.int .i64 (pk rc 4), .int .i64 (pk rb 4), .int .i64 4, .int .i64 0, .int .i64 0, .slice none 0 0, .int .i64 0, .int .i64 0, .slice none 0 0, .slice none 0 0, .int .i64 0, .int .i64 0, .slice none 0 0, .int .i64 (pk ra 4), .int .i64 (1 + pk rb 9), .slice ba bl.length bc, .slice pa pl.length pc, .slice va VN vc, .int .i64 0]) (results_cell_row (fn := Try.f42) (p := 2) (ty := 53) rfl _ _ (w.heap.size + 1) 53 _ (0, 0) _ rfl (setRow_heap _ _ _ _ _ _ r1F) Try.underlying53 rfl sMsg') rfl ⟨⟨pk rc 4, pk rb 4, 4, 0, 0, 0, 0, 0, 0, pk ra 4, 1 + pk rb 9, 0, none, none, none, none, ba, pa, va, 0, 0, 0, 0, 0, 0, 0, 0, bl.length, bc, pl.length, pc, VN, vc⟩, [], [], [], bl, pl, votersL rc, rfl, ⟨rfl, rfl, rfl, rfl, rfl, HVN.out.symm, by simp, by omega, by simp, ⟨.inl rfl, fun s h => by cases h⟩, (list_nilM _), (list_nilM _), (list_setRowM HLa.out HF1.out _ _ hb1c), (list_setRowM HLb.out HF2.out _ _ hb1c), (ints_setRowM hIv.out.1 _ _ (fun sb so e => by have := hIv.out.2 sb so e; omega))⟩, rfl, rfl, (by simp only [carriedF]; rw [if_neg (show ¬ (4 : Int) = 1 by decide), if_neg (show ¬ (4 : Int) = 2 by decide), if_neg (show ¬ (4 : Int) = 3 by decide), if_pos trivial]; exact certF_ofM hcar hvf hvl), rfl, (Upd.setRow r1F).below hBF hBF.size (by omega), HKK.out.symm, (by intro h; dsimp only at h ⊢; omega), (by intro h; dsimp only at h ⊢; omega), (by intro h; dsimp only at h ⊢; omega), (by intro h; dsimp only at h ⊢; omega), (by intro h; dsimp only at h ⊢; omega), [], (nilM _), rfl, ⟨(fun _ _ e => by cases e), ⟨(fun _ _ e => by cases e), (fun p hp => by cases hp)⟩, ⟨(fun _ _ e => by cases e), (fun p hp => by cases hp)⟩, (fun _ _ e => by cases e), (HF1.out.monoM hB.size), (HF2.out.monoM hB.size), (fun sb so e => Nat.le_trans hB.size (Nat.le_trans hsz3 (hIv.out.2 sb so e)))⟩, ⟨u8_none, u8_none, u8_bats HE1.out, u8_pars HE2.out, u8_none⟩⟩
      · have rF : (wc.setCell ⟨b, 18, none⟩ (.int .i64 (1 + pk rb 9))).heap[b]? = some (.cells #[.int .i64 (pk rc 4), .int .i64 (pk rb 4), .int .i64 5, .int .i64 0, .int .i64 0, .slice none 0 0, .int .i64 0, .int .i64 0, .slice none 0 0, .slice none 0 0, .int .i64 0, .int .i64 0, .slice none 0 0, .int .i64 0, .int .i64 0, .slice none 0 0, .slice none 0 0, .slice none 0 0, .int .i64 (1 + pk rb 9)] 53 (0, 0)) := by simpa using heap_setCell_same _ _ 18 _ _ (.int .i64 (1 + pk rb 9)) rB
        have r1F := heap_far (j := 18) (v := .int .i64 (1 + pk rb 9)) r1 (show w.heap.size + 1 ≠ b by omega)
        have hBF := hB.setCell (p := ⟨b, 18, none⟩) (by simp; omega) (.int .i64 (1 + pk rb 9))
        have x18 : wc.cell? ⟨b, 18, none⟩ = some (.int .i64 0) := cells_at rB 18 _ rfl
        have f18 := frozen_at rB 18
        go_wp2_with (first | (go_at_call 11; refine (picked_any _ _ _ h3.1 h3.2 (by omega) (by omega)).mono ?_; rintro e w9 ⟨rfl, rfl⟩) | refine wpList_load_row rfl 53 _ rfl b rfl 53 #[.int .i64 (pk rc 4), .int .i64 (pk rb 4), .int .i64 5, .int .i64 0, .int .i64 0, .slice none 0 0, .int .i64 0, .int .i64 0, .slice none 0 0, .slice none 0 0, .int .i64 0, .int .i64 0, .slice none 0 0, .int .i64 0, .int .i64 0, .slice none 0 0, .slice none 0 0, .slice none 0 0, .int .i64 (1 + pk rb 9)] (0, 0) _ rF Try.underlying53 rfl sMsg' ?_ | refine wpList_store_row rfl 53 _ _ rfl (w.heap.size + 1) #[.int .i64 (pk rc 4), .int .i64 (pk rb 4), .int .i64 5, .int .i64 0, .int .i64 0, .slice none 0 0, .int .i64 0, .int .i64 0, .slice none 0 0, .slice none 0 0, .int .i64 0, .int .i64 0, .slice none 0 0, .int .i64 0, .int .i64 0, .slice none 0 0, .slice none 0 0, .slice none 0 0, .int .i64 (1 + pk rb 9)] rfl rfl 53 _ r1F sMsg' rfl (by simp [Value.oneCell']) ?_)
        exact bodyPost_ret (v := .agg #[.int .i64 (pk rc 4), .int .i64 (pk rb 4), .int .i64 5, .int .i64 0, .int .i64 0, .slice none 0 0, .int .i64 0, .int .i64 0, .slice none 0 0, .slice none 0 0, .int .i64 0, .int .i64 0, .slice none 0 0, .int .i64 0, .int .i64 0, .slice none 0 0, .slice none 0 0, .slice none 0 0, .int .i64 (1 + pk rb 9)]) (results_cell_row (fn := Try.f42) (p := 2) (ty := 53) rfl _ _ (w.heap.size + 1) 53 _ (0, 0) _ rfl (setRow_heap _ _ _ _ _ _ r1F) Try.underlying53 rfl sMsg') rfl ⟨⟨pk rc 4, pk rb 4, 5, 0, 0, 0, 0, 0, 0, 0, 0, 1 + pk rb 9, none, none, none, none, none, none, none, 0, 0, 0, 0, 0, 0, 0, 0, 0, 0, 0, 0, 0, 0⟩, [], [], [], [], [], [], rfl, ⟨rfl, rfl, rfl, rfl, rfl, rfl, by simp, by simp, by simp, ⟨.inl rfl, fun s h => by cases h⟩, (list_nilM _), (list_nilM _), (list_nilM _), (list_nilM _), ⟨.inl rfl⟩⟩, rfl, rfl, (by rw [carriedF]; simp; omega), rfl, (Upd.setRow r1F).below hBF hBF.size (by omega), HKK.out.symm, (by intro h; dsimp only at h ⊢; omega), (by intro h; dsimp only at h ⊢; omega), (by intro h; dsimp only at h ⊢; omega), (by intro h; dsimp only at h ⊢; omega), (by intro h; dsimp only at h ⊢; omega), [], (nilM _), rfl, ⟨(fun _ _ e => by cases e), ⟨(fun _ _ e => by cases e), (fun p hp => by cases hp)⟩, ⟨(fun _ _ e => by cases e), (fun p hp => by cases hp)⟩, (fun _ _ e => by cases e), ⟨(fun _ _ e => by cases e), (fun p hp => by cases hp)⟩, ⟨(fun _ _ e => by cases e), (fun p hp => by cases hp)⟩, (fun _ _ e => by cases e)⟩, ⟨u8_none, u8_none, u8_none, u8_none, u8_none⟩⟩
set_option maxRecDepth 100000 in
theorem message_raw (ki ra rb rc : Int) (sa : Option Addr) (cap : Nat) (ss : List ByteArray) (w : World) (h1 : I64 ki) (h2 : I64 ra) (h3 : I64 rb) (h4 : I64 rc) (h5 : TextsAt w sa cap ss) :
    Calls Try.prog 42 #[.agg #[.int .i64 ki, .int .i64 ra, .int .i64 rb, .int .i64 rc, .slice sa ss.length cap]] w fun e w' => RawM w w' e ki rb rc := by
  refine (message_rawU ki ra rb rc sa cap ss w h1 h2 h3 h4 h5).mono ?_
  rintro e w' ⟨m, s, bl, pl, cbl, cpl, vl, x1, x2, x3, x4, x5, x6, x7, x8, x9, xa, xb, xc, xd, ds, xe, xf, xg, -⟩
  exact ⟨m, s, bl, pl, cbl, cpl, vl, x1, x2, x3, x4, x5, x6, x7, x8, x9, xa, xb, xc, xd, ds, xe, xf, xg⟩
end Go.Proofs.Ytldlknmpkoebbaa

namespace Go.Proofs.Ytldlknmpkoebbaa
open Go.RowKit

set_option maxRecDepth 100000 in
set_option maxHeartbeats 4000000 in
theorem record_anyU (ki ra rb rc : Int) (sa : Option Addr) (cap : Nat) (ss : List ByteArray) (w : World) (h1 : I64 ki) (h2 : I64 ra) (h3 : I64 rb) (h4 : I64 rc) (h5 : TextsAt w sa cap ss) :
    Calls Try.prog 26 #[.agg #[.int .i64 ki, .int .i64 ra, .int .i64 rb, .int .i64 rc, .slice sa ss.length cap]] w fun e w' => ∃ x : MV, e = .returned (.agg #[.int .i64 x.m.fr, .int .i64 x.m.tt, .int .i64 x.m.ki, .int .i64 x.m.bau, .int .i64 x.m.bnu, .slice x.m.bta x.m.btn x.m.btc, .int .i64 x.m.hau, .int .i64 x.m.hrd, .slice x.m.hba x.m.hbn x.m.hbc, .slice x.m.hpa x.m.hpn x.m.hpc, .int .i64 x.m.sau, .int .i64 x.m.srd, .slice x.m.sda x.m.sdn x.m.sdc, .int .i64 x.m.cau, .int .i64 x.m.crd, .slice x.m.cba x.m.cbn x.m.cbc, .slice x.m.cpa x.m.cpn x.m.cpc, .slice x.m.cva x.m.cvn x.m.cvc, .int .i64 x.m.ro]) ∧ MAt w' x ∧ IsRec x ∧ HasM (fun k => w.heap.size ≤ k) x ∧ Below w.heap.size w w' ∧ U8M x.bl x.pl x.cbl x.cpl x.ds := by
  have hA : Below w.heap.size w ((w.alloc (.cells #[.int .i64 ki, .int .i64 ra, .int .i64 rb, .int .i64 rc, .slice sa ss.length cap] 67)).alloc (.cells #[.int .i64 0, .int .i64 0, .int .i64 0, .int .i64 0, .int .i64 0, .slice none 0 0, .int .i64 0, .int .i64 0, .slice none 0 0, .slice none 0 0, .int .i64 0, .int .i64 0, .slice none 0 0, .int .i64 0, .int .i64 0, .slice none 0 0, .slice none 0 0, .slice none 0 0, .int .i64 0] 53)) := ((Below.refl _ _).alloc (Nat.le_refl _) _).alloc (by simp) _
  have q0 := heap_alloc2_old w (.cells #[.int .i64 ki, .int .i64 ra, .int .i64 rb, .int .i64 rc, .slice sa ss.length cap] 67) (.cells #[.int .i64 0, .int .i64 0, .int .i64 0, .int .i64 0, .int .i64 0, .slice none 0 0, .int .i64 0, .int .i64 0, .slice none 0 0, .slice none 0 0, .int .i64 0, .int .i64 0, .slice none 0 0, .int .i64 0, .int .i64 0, .slice none 0 0, .slice none 0 0, .slice none 0 0, .int .i64 0] 53)
  have q1 := heap_alloc2_new w (.cells #[.int .i64 ki, .int .i64 ra, .int .i64 rb, .int .i64 rc, .slice sa ss.length cap] 67) (.cells #[.int .i64 0, .int .i64 0, .int .i64 0, .int .i64 0, .int .i64 0, .slice none 0 0, .int .i64 0, .int .i64 0, .slice none 0 0, .slice none 0 0, .int .i64 0, .int .i64 0, .slice none 0 0, .int .i64 0, .int .i64 0, .slice none 0 0, .slice none 0 0, .slice none 0 0, .int .i64 0] 53)
  have hsz : ((w.alloc (.cells #[.int .i64 ki, .int .i64 ra, .int .i64 rb, .int .i64 rc, .slice sa ss.length cap] 67)).alloc (.cells #[.int .i64 0, .int .i64 0, .int .i64 0, .int .i64 0, .int .i64 0, .slice none 0 0, .int .i64 0, .int .i64 0, .slice none 0 0, .slice none 0 0, .int .i64 0, .int .i64 0, .slice none 0 0, .int .i64 0, .int .i64 0, .slice none 0 0, .slice none 0 0, .slice none 0 0, .int .i64 0] 53)).heap.size = w.heap.size + 2 := by simp
  go_enter Try.func26, Try.ntmps26
  go_wp2_with fail
  generalize (w.alloc (.cells #[.int .i64 ki, .int .i64 ra, .int .i64 rb, .int .i64 rc, .slice sa ss.length cap] 67)).alloc (.cells #[.int .i64 0, .int .i64 0, .int .i64 0, .int .i64 0, .int .i64 0, .slice none 0 0, .int .i64 0, .int .i64 0, .slice none 0 0, .slice none 0 0, .int .i64 0, .int .i64 0, .slice none 0 0, .int .i64 0, .int .i64 0, .slice none 0 0, .slice none 0 0, .slice none 0 0, .int .i64 0] 53) = W0 at hA q0 q1 hsz ⊢
  refine (message_rawU ki ra rb rc sa cap ss W0 h1 h2 h3 h4 (h5.below hA)).mono ?_
  rintro e w1 ⟨m, ss1, bl, pl, cbl, cpl, vl, he, H, -, -, hcar, hemp, hb1, hki, -, -, -, -, -, ds, hd, hdn, hnew, hu8⟩
  subst he
  dsimp only
  obtain ⟨x, hx⟩ : ∃ x : MV, x = ⟨m, ss1, bl, pl, cbl, cpl, ds, vl⟩ := ⟨_, rfl⟩
  have HU : Hid (U8M x.bl x.pl x.cbl x.cpl x.ds) := by show U8M _ _ _ _ _; subst hx; exact hu8
  clear hu8
  have hM : MAt w1 x := by subst hx; exact ⟨H, hd, hdn⟩
  have hC : x.car = 0 := by subst hx; exact hcar
  have hG : HasM (fun k => W0.heap.size ≤ k) x := by subst hx; exact NewM.has (x := ⟨_, ss1, bl, pl, cbl, cpl, ds, vl⟩) hnew
  obtain rfl : m = x.m := by rw [hx]
  have hG1 : HasM (fun k => w.heap.size + 2 ≤ k ∧ k ≠ w1.heap.size) x := (hG.lt hM).mono (fun k hk => by have := hk.1; have := hk.2; constructor <;> omega)
  have HE : Hid (msgEmpty (strip x.m) = true) := hemp
  have HX : Hid (MAt w1 x ∧ x.car = 0 ∧ HasM (fun k => w.heap.size + 2 ≤ k ∧ k ≠ w1.heap.size) x) := ⟨hM, hC, hG1⟩
  clear hemp hM hC hG hG1 hcar H hd hdn hnew hx
  have hB1 := hA.trans (hb1.mono hA.size)
  have p0 := (hb1.block _ (lt_of_heap q0)).trans q0
  have p1 := (hb1.block _ (lt_of_heap q1)).trans q1
  have hlt1 : w.heap.size + 1 < w1.heap.size := lt_of_heap p1
  have qz := heap_alloc_new w1 (.cells #[.int .i64 0, .int .i64 0, .int .i64 0, .int .i64 0, .int .i64 0, .slice none 0 0, .int .i64 0, .int .i64 0, .slice none 0 0, .slice none 0 0, .int .i64 0, .int .i64 0, .slice none 0 0, .int .i64 0, .int .i64 0, .slice none 0 0, .slice none 0 0, .slice none 0 0, .int .i64 0] 53)
  have hA1 : Below w1.heap.size w1 ((w1.alloc (.cells #[.int .i64 0, .int .i64 0, .int .i64 0, .int .i64 0, .int .i64 0, .slice none 0 0, .int .i64 0, .int .i64 0, .slice none 0 0, .slice none 0 0, .int .i64 0, .int .i64 0, .slice none 0 0, .int .i64 0, .int .i64 0, .slice none 0 0, .slice none 0 0, .slice none 0 0, .int .i64 0] 53)).setRow w1.heap.size #[.int .i64 x.m.fr, .int .i64 x.m.tt, .int .i64 x.m.ki, .int .i64 x.m.bau, .int .i64 x.m.bnu, .slice x.m.bta x.m.btn x.m.btc, .int .i64 x.m.hau, .int .i64 x.m.hrd, .slice x.m.hba x.m.hbn x.m.hbc, .slice x.m.hpa x.m.hpn x.m.hpc, .int .i64 x.m.sau, .int .i64 x.m.srd, .slice x.m.sda x.m.sdn x.m.sdc, .int .i64 x.m.cau, .int .i64 x.m.crd, .slice x.m.cba x.m.cbn x.m.cbc, .slice x.m.cpa x.m.cpn x.m.cpc, .slice x.m.cva x.m.cvn x.m.cvc, .int .i64 x.m.ro]) := laid_row w1 #[.int .i64 0, .int .i64 0, .int .i64 0, .int .i64 0, .int .i64 0, .slice none 0 0, .int .i64 0, .int .i64 0, .slice none 0 0, .slice none 0 0, .int .i64 0, .int .i64 0, .slice none 0 0, .int .i64 0, .int .i64 0, .slice none 0 0, .slice none 0 0, .slice none 0 0, .int .i64 0] #[.int .i64 x.m.fr, .int .i64 x.m.tt, .int .i64 x.m.ki, .int .i64 x.m.bau, .int .i64 x.m.bnu, .slice x.m.bta x.m.btn x.m.btc, .int .i64 x.m.hau, .int .i64 x.m.hrd, .slice x.m.hba x.m.hbn x.m.hbc, .slice x.m.hpa x.m.hpn x.m.hpc, .int .i64 x.m.sau, .int .i64 x.m.srd, .slice x.m.sda x.m.sdn x.m.sdc, .int .i64 x.m.cau, .int .i64 x.m.crd, .slice x.m.cba x.m.cbn x.m.cbc, .slice x.m.cpa x.m.cpn x.m.cpc, .slice x.m.cva x.m.cvn x.m.cvc, .int .i64 x.m.ro] 53
  have qN := setRow_heap _ _ _ #[.int .i64 x.m.fr, .int .i64 x.m.tt, .int .i64 x.m.ki, .int .i64 x.m.bau, .int .i64 x.m.bnu, .slice x.m.bta x.m.btn x.m.btc, .int .i64 x.m.hau, .int .i64 x.m.hrd, .slice x.m.hba x.m.hbn x.m.hbc, .slice x.m.hpa x.m.hpn x.m.hpc, .int .i64 x.m.sau, .int .i64 x.m.srd, .slice x.m.sda x.m.sdn x.m.sdc, .int .i64 x.m.cau, .int .i64 x.m.crd, .slice x.m.cba x.m.cbn x.m.cbc, .slice x.m.cpa x.m.cpn x.m.cpc, .slice x.m.cva x.m.cvn x.m.cvc, .int .i64 x.m.ro] _ _ qz
  go_upto_region 2 with (refine wpList_store_row rfl 53 _ _ rfl w1.heap.size #[.int .i64 x.m.fr, .int .i64 x.m.tt, .int .i64 x.m.ki, .int .i64 x.m.bau, .int .i64 x.m.bnu, .slice x.m.bta x.m.btn x.m.btc, .int .i64 x.m.hau, .int .i64 x.m.hrd, .slice x.m.hba x.m.hbn x.m.hbc, .slice x.m.hpa x.m.hpn x.m.hpc, .int .i64 x.m.sau, .int .i64 x.m.srd, .slice x.m.sda x.m.sdn x.m.sdc, .int .i64 x.m.cau, .int .i64 x.m.crd, .slice x.m.cba x.m.cbn x.m.cbc, .slice x.m.cpa x.m.cpn x.m.cpc, .slice x.m.cva x.m.cvn x.m.cvc, .int .i64 x.m.ro] rfl rfl 53 _ qz sMsg' rfl (by simp [Value.oneCell']) ?_)
  have p0A := (hA1.block _ (lt_of_heap p0)).trans p0
  have p1A := (hA1.block _ (lt_of_heap p1)).trans p1
  have hszA : w1.heap.size < ((w1.alloc (.cells #[.int .i64 0, .int .i64 0, .int .i64 0, .int .i64 0, .int .i64 0, .slice none 0 0, .int .i64 0, .int .i64 0, .slice none 0 0, .slice none 0 0, .int .i64 0, .int .i64 0, .slice none 0 0, .int .i64 0, .int .i64 0, .slice none 0 0, .slice none 0 0, .slice none 0 0, .int .i64 0] 53)).setRow w1.heap.size #[.int .i64 x.m.fr, .int .i64 x.m.tt, .int .i64 x.m.ki, .int .i64 x.m.bau, .int .i64 x.m.bnu, .slice x.m.bta x.m.btn x.m.btc, .int .i64 x.m.hau, .int .i64 x.m.hrd, .slice x.m.hba x.m.hbn x.m.hbc, .slice x.m.hpa x.m.hpn x.m.hpc, .int .i64 x.m.sau, .int .i64 x.m.srd, .slice x.m.sda x.m.sdn x.m.sdc, .int .i64 x.m.cau, .int .i64 x.m.crd, .slice x.m.cba x.m.cbn x.m.cbc, .slice x.m.cpa x.m.cpn x.m.cpc, .slice x.m.cva x.m.cvn x.m.cvc, .int .i64 x.m.ro]).heap.size := lt_of_heap qN
  generalize (w1.alloc (.cells #[.int .i64 0, .int .i64 0, .int .i64 0, .int .i64 0, .int .i64 0, .slice none 0 0, .int .i64 0, .int .i64 0, .slice none 0 0, .slice none 0 0, .int .i64 0, .int .i64 0, .slice none 0 0, .int .i64 0, .int .i64 0, .slice none 0 0, .slice none 0 0, .slice none 0 0, .int .i64 0] 53)).setRow w1.heap.size #[.int .i64 x.m.fr, .int .i64 x.m.tt, .int .i64 x.m.ki, .int .i64 x.m.bau, .int .i64 x.m.bnu, .slice x.m.bta x.m.btn x.m.btc, .int .i64 x.m.hau, .int .i64 x.m.hrd, .slice x.m.hba x.m.hbn x.m.hbc, .slice x.m.hpa x.m.hpn x.m.hpc, .int .i64 x.m.sau, .int .i64 x.m.srd, .slice x.m.sda x.m.sdn x.m.sdc, .int .i64 x.m.cau, .int .i64 x.m.crd, .slice x.m.cba x.m.cbn x.m.cbc, .slice x.m.cpa x.m.cpn x.m.cpc, .slice x.m.cva x.m.cvn x.m.cvc, .int .i64 x.m.ro] = W1 at hA1 qN p0A p1A hszA ⊢
  have hB1A := hB1.trans (hA1.mono hB1.size)
  have hMA : Hid (MAt W1 x) := HX.out.1.below hA1
  generalize hbq : w1.heap.size = b at *
  clear qz p0 p1
  have k2 : W1.cell? ⟨b, 2, none⟩ = some (.int .i64 x.m.ki) := cells_at qN 2 _ rfl
  by_cases h5k : x.m.ki = 5
  · have H5 : Hid (x.m.ki = 5) := h5k
    have d1 : W1.cell? ⟨w.heap.size, 1, none⟩ = some (.int .i64 ra) := cells_at p0A 1 _ rfl
    have d2 : W1.cell? ⟨w.heap.size, 2, none⟩ = some (.int .i64 rb) := cells_at p0A 2 _ rfl
    have d4 : W1.cell? ⟨w.heap.size, 4, none⟩ = some (.slice sa ss.length cap) := cells_at p0A 4 _ rfl
    have hbe : (x.m.ki == 5) = true := by simp [h5k]
    clear h5k
    go_wp2_with fail
    refine (message_rawU 0 ra rb 0 sa cap ss W1 (by constructor <;> omega) h2 h3 (by constructor <;> omega) (h5.below hB1A)).mono ?_
    rintro e w2 ⟨m2, ss2, bl2, pl2, cbl2, cpl2, vl2, he, H2, -, -, hcar2, hemp2, hb2, hki2, -, -, -, -, -, ds2, hd2, hdn2, hnew2, hu82⟩
    subst he
    dsimp only
    obtain ⟨y, hy⟩ : ∃ y : MV, y = ⟨m2, ss2, bl2, pl2, cbl2, cpl2, ds2, vl2⟩ := ⟨_, rfl⟩
    have HU2 : Hid (U8M y.bl y.pl y.cbl y.cpl y.ds) := by show U8M _ _ _ _ _; subst hy; exact hu82
    clear hu82
    have hM2 : MAt w2 y := by subst hy; exact ⟨H2, hd2, hdn2⟩
    have hC2 : Hid (y.car = 0) := by subst hy; exact hcar2
    have hG2 : HasM (fun k => W1.heap.size ≤ k) y := by subst hy; exact NewM.has (x := ⟨_, ss2, bl2, pl2, cbl2, cpl2, ds2, vl2⟩) hnew2
    obtain rfl : m2 = y.m := by rw [hy]
    have HE2 : Hid (msgEmpty (strip y.m) = true) := hemp2
    have HK2 : Hid (y.m.ki ≠ 5) := by show _ ≠ _; rw [hki2]; decide
    have HM2 : Hid (MAt (w2.setRow b #[.int .i64 y.m.fr, .int .i64 y.m.tt, .int .i64 y.m.ki, .int .i64 y.m.bau, .int .i64 y.m.bnu, .slice y.m.bta y.m.btn y.m.btc, .int .i64 y.m.hau, .int .i64 y.m.hrd, .slice y.m.hba y.m.hbn y.m.hbc, .slice y.m.hpa y.m.hpn y.m.hpc, .int .i64 y.m.sau, .int .i64 y.m.srd, .slice y.m.sda y.m.sdn y.m.sdc, .int .i64 y.m.cau, .int .i64 y.m.crd, .slice y.m.cba y.m.cbn y.m.cbc, .slice y.m.cpa y.m.cpn y.m.cpc, .slice y.m.cva y.m.cvn y.m.cvc, .int .i64 y.m.ro]) y) := hM2.setRow hG2 hszA
    have HG2 : Hid (HasM (fun k => w.heap.size + 2 ≤ k ∧ k ≠ b) y) := hG2.mono (fun k hk => by constructor <;> omega)
    clear hemp2 hM2 hG2 hcar2 H2 hd2 hdn2 hnew2 hy hki2
    have hB2 := hB1A.trans (hb2.mono hB1A.size)
    have s1 := (hb2.block _ (lt_of_heap p1A)).trans p1A
    have sN := (hb2.block _ (lt_of_heap qN)).trans qN
    have tN := setRow_heap _ _ _ #[.int .i64 y.m.fr, .int .i64 y.m.tt, .int .i64 y.m.ki, .int .i64 y.m.bau, .int .i64 y.m.bnu, .slice y.m.bta y.m.btn y.m.btc, .int .i64 y.m.hau, .int .i64 y.m.hrd, .slice y.m.hba y.m.hbn y.m.hbc, .slice y.m.hpa y.m.hpn y.m.hpc, .int .i64 y.m.sau, .int .i64 y.m.srd, .slice y.m.sda y.m.sdn y.m.sdc, .int .i64 y.m.cau, .int .i64 y.m.crd, .slice y.m.cba y.m.cbn y.m.cbc, .slice y.m.cpa y.m.cpn y.m.cpc, .slice y.m.cva y.m.cvn y.m.cvc, .int .i64 y.m.ro] _ _ sN
    have t1 := (setRow_other w2 b (w.heap.size + 1) #[.int .i64 y.m.fr, .int .i64 y.m.tt, .int .i64 y.m.ki, .int .i64 y.m.bau, .int .i64 y.m.bnu, .slice y.m.bta y.m.btn y.m.btc, .int .i64 y.m.hau, .int .i64 y.m.hrd, .slice y.m.hba y.m.hbn y.m.hbc, .slice y.m.hpa y.m.hpn y.m.hpc, .int .i64 y.m.sau, .int .i64 y.m.srd, .slice y.m.sda y.m.sdn y.m.sdc, .int .i64 y.m.cau, .int .i64 y.m.crd, .slice y.m.cba y.m.cbn y.m.cbc, .slice y.m.cpa y.m.cpn y.m.cpc, .slice y.m.cva y.m.cvn y.m.cvc, .int .i64 y.m.ro] (by omega)).trans s1
    have hB2A := (Upd.setRow (cs := #[.int .i64 y.m.fr, .int .i64 y.m.tt, .int .i64 y.m.ki, .int .i64 y.m.bau, .int .i64 y.m.bnu, .slice y.m.bta y.m.btn y.m.btc, .int .i64 y.m.hau, .int .i64 y.m.hrd, .slice y.m.hba y.m.hbn y.m.hbc, .slice y.m.hpa y.m.hpn y.m.hpc, .int .i64 y.m.sau, .int .i64 y.m.srd, .slice y.m.sda y.m.sdn y.m.sdc, .int .i64 y.m.cau, .int .i64 y.m.crd, .slice y.m.cba y.m.cbn y.m.cbc, .slice y.m.cpa y.m.cpn y.m.cpc, .slice y.m.cva y.m.cvn y.m.cvc, .int .i64 y.m.ro]) sN).below hB2 hB2.size (by omega)
    go_upto_region 4 with (refine wpList_store_row rfl 53 _ _ rfl b #[.int .i64 y.m.fr, .int .i64 y.m.tt, .int .i64 y.m.ki, .int .i64 y.m.bau, .int .i64 y.m.bnu, .slice y.m.bta y.m.btn y.m.btc, .int .i64 y.m.hau, .int .i64 y.m.hrd, .slice y.m.hba y.m.hbn y.m.hbc, .slice y.m.hpa y.m.hpn y.m.hpc, .int .i64 y.m.sau, .int .i64 y.m.srd, .slice y.m.sda y.m.sdn y.m.sdc, .int .i64 y.m.cau, .int .i64 y.m.crd, .slice y.m.cba y.m.cbn y.m.cbc, .slice y.m.cpa y.m.cpn y.m.cpc, .slice y.m.cva y.m.cvn y.m.cvc, .int .i64 y.m.ro] rfl rfl 53 _ sN sMsg' rfl (by simp [Value.oneCell']) ?_)
    generalize w2.setRow b #[.int .i64 y.m.fr, .int .i64 y.m.tt, .int .i64 y.m.ki, .int .i64 y.m.bau, .int .i64 y.m.bnu, .slice y.m.bta y.m.btn y.m.btc, .int .i64 y.m.hau, .int .i64 y.m.hrd, .slice y.m.hba y.m.hbn y.m.hbc, .slice y.m.hpa y.m.hpn y.m.hpc, .int .i64 y.m.sau, .int .i64 y.m.srd, .slice y.m.sda y.m.sdn y.m.sdc, .int .i64 y.m.cau, .int .i64 y.m.crd, .slice y.m.cba y.m.cbn y.m.cbc, .slice y.m.cpa y.m.cpn y.m.cpc, .slice y.m.cva y.m.cvn y.m.cvc, .int .i64 y.m.ro] = W2 at tN t1 hB2A HM2 ⊢
    clear k2 d1 d2 d4
    have e0 : W2.cell? ⟨b, 0, none⟩ = some (.int .i64 y.m.fr) := cells_at tN 0 _ rfl
    have e1 : W2.cell? ⟨b, 1, none⟩ = some (.int .i64 y.m.tt) := cells_at tN 1 _ rfl
    have f0 := frozen_at tN 0
    have f1 := frozen_at tN 1
    have hbb : w.heap.size ≤ b := by omega
    have qF : ((W2.setCell ⟨b, 0, none⟩ (.int .i64 0)).setCell ⟨b, 1, none⟩ (.int .i64 0)).heap[b]? = some (.cells #[.int .i64 0, .int .i64 0, .int .i64 y.m.ki, .int .i64 y.m.bau, .int .i64 y.m.bnu, .slice y.m.bta y.m.btn y.m.btc, .int .i64 y.m.hau, .int .i64 y.m.hrd, .slice y.m.hba y.m.hbn y.m.hbc, .slice y.m.hpa y.m.hpn y.m.hpc, .int .i64 y.m.sau, .int .i64 y.m.srd, .slice y.m.sda y.m.sdn y.m.sdc, .int .i64 y.m.cau, .int .i64 y.m.crd, .slice y.m.cba y.m.cbn y.m.cbc, .slice y.m.cpa y.m.cpn y.m.cpc, .slice y.m.cva y.m.cvn y.m.cvc, .int .i64 y.m.ro] 53 (0, 0)) := by simpa using heap_setCell_same _ _ 1 _ _ (.int .i64 0) (heap_setCell_same _ _ 0 _ _ (.int .i64 0) tN)
    have q1F := heap_far (j := 1) (v := .int .i64 0) (heap_far (j := 0) (v := .int .i64 0) t1 (show w.heap.size + 1 ≠ b by omega)) (show w.heap.size + 1 ≠ b by omega)
    have hBF := (hB2A.setCell (p := ⟨b, 0, none⟩) hbb (.int .i64 0)).setCell (p := ⟨b, 1, none⟩) hbb (.int .i64 0)
    go_wp2_with (first | refine wpList_load_row rfl 53 _ rfl b rfl 53 _ (0, 0) _ qF Try.underlying53 rfl sMsg' ?_ | refine wpList_store_row rfl 53 _ _ rfl (w.heap.size + 1) #[.int .i64 0, .int .i64 0, .int .i64 y.m.ki, .int .i64 y.m.bau, .int .i64 y.m.bnu, .slice y.m.bta y.m.btn y.m.btc, .int .i64 y.m.hau, .int .i64 y.m.hrd, .slice y.m.hba y.m.hbn y.m.hbc, .slice y.m.hpa y.m.hpn y.m.hpc, .int .i64 y.m.sau, .int .i64 y.m.srd, .slice y.m.sda y.m.sdn y.m.sdc, .int .i64 y.m.cau, .int .i64 y.m.crd, .slice y.m.cba y.m.cbn y.m.cbc, .slice y.m.cpa y.m.cpn y.m.cpc, .slice y.m.cva y.m.cvn y.m.cvc, .int .i64 y.m.ro] rfl rfl 53 _ q1F sMsg' rfl (by simp [Value.oneCell']) ?_)
    refine bodyPost_ret (v := .agg #[.int .i64 0, .int .i64 0, .int .i64 y.m.ki, .int .i64 y.m.bau, .int .i64 y.m.bnu, .slice y.m.bta y.m.btn y.m.btc, .int .i64 y.m.hau, .int .i64 y.m.hrd, .slice y.m.hba y.m.hbn y.m.hbc, .slice y.m.hpa y.m.hpn y.m.hpc, .int .i64 y.m.sau, .int .i64 y.m.srd, .slice y.m.sda y.m.sdn y.m.sdc, .int .i64 y.m.cau, .int .i64 y.m.crd, .slice y.m.cba y.m.cbn y.m.cbc, .slice y.m.cpa y.m.cpn y.m.cpc, .slice y.m.cva y.m.cvn y.m.cvc, .int .i64 y.m.ro]) (results_cell_row (fn := Try.f26) (p := 2) (ty := 53) rfl _ _ (w.heap.size + 1) 53 _ (0, 0) _ rfl (setRow_heap _ _ _ _ _ _ q1F) Try.underlying53 rfl sMsg') rfl ⟨y.bare, rfl, ?_, MV.bare_rec hC2.out HE2.out HK2.out, MV.bare_has (HG2.out.mono (fun k hk => by omega)), (Upd.setRow q1F).below hBF hBF.size (by omega), HU2.out⟩
    refine MV.bare_at (HM2.out.stays (G := fun k => w.heap.size + 2 ≤ k ∧ k ≠ b) (fun k hk => ?_) HG2.out)
    exact (setRow_other _ (w.heap.size + 1) k _ (by omega)).trans ((heap_setCell_other _ ⟨b, 1, none⟩ k _ hk.2).trans (heap_setCell_other _ ⟨b, 0, none⟩ k _ hk.2))
  · have H5 : Hid (x.m.ki ≠ 5) := h5k
    have hbe : (x.m.ki == 5) = false := by simp [h5k]
    clear h5k
    go_upto_region 4 with fail
    clear k2
    have e0 : W1.cell? ⟨b, 0, none⟩ = some (.int .i64 x.m.fr) := cells_at qN 0 _ rfl
    have e1 : W1.cell? ⟨b, 1, none⟩ = some (.int .i64 x.m.tt) := cells_at qN 1 _ rfl
    have f0 := frozen_at qN 0
    have f1 := frozen_at qN 1
    have hbb : w.heap.size ≤ b := by omega
    have qF : ((W1.setCell ⟨b, 0, none⟩ (.int .i64 0)).setCell ⟨b, 1, none⟩ (.int .i64 0)).heap[b]? = some (.cells #[.int .i64 0, .int .i64 0, .int .i64 x.m.ki, .int .i64 x.m.bau, .int .i64 x.m.bnu, .slice x.m.bta x.m.btn x.m.btc, .int .i64 x.m.hau, .int .i64 x.m.hrd, .slice x.m.hba x.m.hbn x.m.hbc, .slice x.m.hpa x.m.hpn x.m.hpc, .int .i64 x.m.sau, .int .i64 x.m.srd, .slice x.m.sda x.m.sdn x.m.sdc, .int .i64 x.m.cau, .int .i64 x.m.crd, .slice x.m.cba x.m.cbn x.m.cbc, .slice x.m.cpa x.m.cpn x.m.cpc, .slice x.m.cva x.m.cvn x.m.cvc, .int .i64 x.m.ro] 53 (0, 0)) := by simpa using heap_setCell_same _ _ 1 _ _ (.int .i64 0) (heap_setCell_same _ _ 0 _ _ (.int .i64 0) qN)
    have q1F := heap_far (j := 1) (v := .int .i64 0) (heap_far (j := 0) (v := .int .i64 0) p1A (show w.heap.size + 1 ≠ b by omega)) (show w.heap.size + 1 ≠ b by omega)
    have hBF := (hB1A.setCell (p := ⟨b, 0, none⟩) hbb (.int .i64 0)).setCell (p := ⟨b, 1, none⟩) hbb (.int .i64 0)
    go_wp2_with (first | refine wpList_load_row rfl 53 _ rfl b rfl 53 _ (0, 0) _ qF Try.underlying53 rfl sMsg' ?_ | refine wpList_store_row rfl 53 _ _ rfl (w.heap.size + 1) #[.int .i64 0, .int .i64 0, .int .i64 x.m.ki, .int .i64 x.m.bau, .int .i64 x.m.bnu, .slice x.m.bta x.m.btn x.m.btc, .int .i64 x.m.hau, .int .i64 x.m.hrd, .slice x.m.hba x.m.hbn x.m.hbc, .slice x.m.hpa x.m.hpn x.m.hpc, .int .i64 x.m.sau, .int .i64 x.m.srd, .slice x.m.sda x.m.sdn x.m.sdc, .int .i64 x.m.cau, .int .i64 x.m.crd, .slice x.m.cba x.m.cbn x.m.cbc, .slice x.m.cpa x.m.cpn x.m.cpc, .slice x.m.cva x.m.cvn x.m.cvc, .int .i64 x.m.ro] rfl rfl 53 _ q1F sMsg' rfl (by simp [Value.oneCell']) ?_)
    refine bodyPost_ret (v := .agg #[.int .i64 0, .int .i64 0, .int .i64 x.m.ki, .int .i64 x.m.bau, .int .i64 x.m.bnu, .slice x.m.bta x.m.btn x.m.btc, .int .i64 x.m.hau, .int .i64 x.m.hrd, .slice x.m.hba x.m.hbn x.m.hbc, .slice x.m.hpa x.m.hpn x.m.hpc, .int .i64 x.m.sau, .int .i64 x.m.srd, .slice x.m.sda x.m.sdn x.m.sdc, .int .i64 x.m.cau, .int .i64 x.m.crd, .slice x.m.cba x.m.cbn x.m.cbc, .slice x.m.cpa x.m.cpn x.m.cpc, .slice x.m.cva x.m.cvn x.m.cvc, .int .i64 x.m.ro]) (results_cell_row (fn := Try.f26) (p := 2) (ty := 53) rfl _ _ (w.heap.size + 1) 53 _ (0, 0) _ rfl (setRow_heap _ _ _ _ _ _ q1F) Try.underlying53 rfl sMsg') rfl ⟨x.bare, rfl, ?_, MV.bare_rec HX.out.2.1 HE.out H5.out, MV.bare_has (HX.out.2.2.mono (fun k hk => by omega)), (Upd.setRow q1F).below hBF hBF.size (by omega), HU.out⟩
    refine MV.bare_at (hMA.out.stays (G := fun k => w.heap.size + 2 ≤ k ∧ k ≠ b) (fun k hk => ?_) HX.out.2.2)
    exact (setRow_other _ (w.heap.size + 1) k _ (by omega)).trans ((heap_setCell_other _ ⟨b, 1, none⟩ k _ hk.2).trans (heap_setCell_other _ ⟨b, 0, none⟩ k _ hk.2))
set_option maxRecDepth 100000 in
theorem record_any (ki ra rb rc : Int) (sa : Option Addr) (cap : Nat) (ss : List ByteArray) (w : World) (h1 : I64 ki) (h2 : I64 ra) (h3 : I64 rb) (h4 : I64 rc) (h5 : TextsAt w sa cap ss) :
    Calls Try.prog 26 #[.agg #[.int .i64 ki, .int .i64 ra, .int .i64 rb, .int .i64 rc, .slice sa ss.length cap]] w fun e w' => ∃ x : MV, e = .returned (.agg #[.int .i64 x.m.fr, .int .i64 x.m.tt, .int .i64 x.m.ki, .int .i64 x.m.bau, .int .i64 x.m.bnu, .slice x.m.bta x.m.btn x.m.btc, .int .i64 x.m.hau, .int .i64 x.m.hrd, .slice x.m.hba x.m.hbn x.m.hbc, .slice x.m.hpa x.m.hpn x.m.hpc, .int .i64 x.m.sau, .int .i64 x.m.srd, .slice x.m.sda x.m.sdn x.m.sdc, .int .i64 x.m.cau, .int .i64 x.m.crd, .slice x.m.cba x.m.cbn x.m.cbc, .slice x.m.cpa x.m.cpn x.m.cpc, .slice x.m.cva x.m.cvn x.m.cvc, .int .i64 x.m.ro]) ∧ MAt w' x ∧ IsRec x ∧ HasM (fun k => w.heap.size ≤ k) x ∧ Below w.heap.size w w' := by
  refine (record_anyU ki ra rb rc sa cap ss w h1 h2 h3 h4 h5).mono ?_
  rintro e w' ⟨x, he, hM, hI, hG, hb, -⟩
  exact ⟨x, he, hM, hI, hG, hb⟩
end Go.Proofs.Ytldlknmpkoebbaa
