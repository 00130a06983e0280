/- sheaveslaw.octets: new memory with the same bytes. -/
import Derived.Test.YtchmfbhdnhaleaaTapeChecksM0
import Derived.Test.YtchmfbhdnhaleaaApp
import Derived.Test.YtchmfbhdnhaleaaSx
import Derived.Deep.RegionHeld2
import Derived.Test.YtchmfbhdnhaleaaOpenB
import Derived.Deep.Strs
import Derived.Deep.RegionHeld
import Derived.Test.YtchmfbhdnhaleaaCertF
import Derived.Deep.CutRange
import Derived.Deep.DeepCutAuto
import Derived.Deep.RegionLaw
namespace Go.Proofs.Ytchmfbhdnhaleaa
open Go.RowKit

set_option maxRecDepth 100000 in
set_option maxHeartbeats 400000 in
theorem texts_any (ss : List ByteArray) (sa : Option Addr) (n cap : Nat) (w : World) (hn : n = ss.length) (hs : TextsAt w sa cap ss) :
    Calls Try.prog 34 #[.slice sa n cap] w fun e w' => ∃ ra rc, e = .returned (.slice ra ss.length rc) ∧ StrsAt w' ra ss ∧ Below w.heap.size w w' ∧ ∀ sb so, ra = some ⟨sb, so, none⟩ → w.heap.size ≤ sb := by
  obtain ⟨i, hi, hz0, hz1, hz2⟩ := info_parts infoStr
  have hle := hs.le
  have hre := hs.reach
  cases sa with
  | none =>
    obtain rfl := hs.nil rfl
    obtain rfl : ss = [] := List.eq_nil_of_length_eq_zero (by omega)
    subst hn
    go_enter Try.func34, Try.ntmps34
    go_wp2_with (at_builtin; refine wpList_append_own_none rfl _ _ 22 rfl w.heap.size 9 i 1 Try.underlying22 hi _ 0 [] rfl (World.ownsRow_nil _ _ _ _) rfl ?_)
    go_ret
    exact ⟨none, 0, rfl, hs.strs, Below.refl _ _, fun _ _ e => by cases e⟩
  | some ad =>
    have hcell : ∀ j u, (sv ss)[j]? = some u → w.cell? (ad.add j) = some u := by
      intro j u hu
      rcases hs.strs.cells with hb | ⟨sb, so, e, hb⟩
      · subst hb; simp [sv] at hu
      · cases e
        have hj : j < ss.length := by
          rcases Nat.lt_or_ge j ss.length with g | g
          · exact g
          · rw [List.getElem?_eq_none (by rw [sv_length]; exact g)] at hu; cases hu
        rw [add_off, hb j hj]
        simp [sv, hj] at hu
        simp [hj, hu]
    subst hn
    go_enter Try.func34, Try.ntmps34
    go_wp2_with (at_builtin; refine wpList_append_own _ rfl _ _ 22 rfl w.heap.size 9 i (.string ByteArray.empty) 1 16 Try.underlying22 hi hz0 hz1 hz2 rfl (by decide) _ 0 [] rfl (World.ownsRow_nil _ _ _ _) ad ss.length cap (sv ss) rfl (by rw [sv_length]; omega) hcell (sv_one ss) (by unfold maxLen; omega) (by omega) (Nat.le_refl _) ?_; intro v1 w1 ho1 hg1 _)
    obtain ⟨ra, rc, hv, hl, hsl, hfr⟩ := strsAt_of_owns ho1 hs.strs.size
    subst hv
    go_ret
    refine ⟨ra, rc, ?_, hsl, grown_none hg1, hfr⟩
    simp
set_option maxRecDepth 100000 in
set_option maxHeartbeats 400000 in
theorem batch_any2 (au nu : Int) (ss : List ByteArray) (sa : Option Addr) (n cap : Nat) (w : World) (hn : n = ss.length) (hs : TextsAt w sa cap ss) :
    Calls Try.prog 19 #[.agg #[.int .i64 au, .int .i64 nu, .slice sa n cap]] w fun e w' => ∃ ra rc, e = .returned (.agg #[.int .i64 au, .int .i64 nu, .slice ra ss.length rc]) ∧ StrsAt w' ra ss ∧ Below w.heap.size w w' ∧ (∀ sb so, ra = some ⟨sb, so, none⟩ → w.heap.size ≤ sb) := by
  subst hn
  go_enter Try.func19, Try.ntmps19
  go_wp2_with fail
  have hR : Below w.heap.size w ((w.alloc (.cells #[.int .i64 au, .int .i64 nu, .slice sa ss.length cap] 24)).alloc (.cells #[.int .i64 0, .int .i64 0, .slice none 0 0] 24)) := ((Below.refl _ _).alloc (Nat.le_refl _) _).alloc (by simp) _
  have q0 := row_new (below_alloc (Below.refl ((w.alloc (.cells #[.int .i64 au, .int .i64 nu, .slice sa ss.length cap] 24)).alloc (.cells #[.int .i64 0, .int .i64 0, .slice none 0 0] 24)).heap.size ((w.alloc (.cells #[.int .i64 au, .int .i64 nu, .slice sa ss.length cap] 24)).alloc (.cells #[.int .i64 0, .int .i64 0, .slice none 0 0] 24))))
  have k0 := cells_at q0 0 _ rfl
  have k1 := cells_at q0 1 _ rfl
  have k2 := cells_at q0 2 _ rfl
  go_region_held2 (fun w' => w'.cell? ⟨w.heap.size, 0, none⟩ = some (.int .i64 au) ∧ w'.cell? ⟨w.heap.size, 1, none⟩ = some (.int .i64 nu) ∧ w'.cell? ⟨w.heap.size, 2, none⟩ = some (.slice sa ss.length cap)) (go_keep) ((go_at_call 34; refine (texts_any ss sa _ cap _ rfl (hs.below ?_)).mono ?_; exact hR.drew; rintro e w1 ⟨ra, rc, rfl, hs1, hb1, hfr⟩; replace hb1 := below_drew hb1; have r1 := row_new hb1; have r0 := row_new (below_alloc hb1); rw [size_alloc] at r1; have c0 := cells_at r0 0 _ rfl; have c1 := cells_at r0 1 _ rfl; have c2 := cells_at r0 2 _ rfl; have d0 := cells_at r1 0 _ rfl; have d1 := cells_at r1 1 _ rfl; have d2 := cells_at r1 2 _ rfl; have f0 := frozen_at r1 0; have f1 := frozen_at r1 1; have f2 := frozen_at r1 2))
  all_goals
    go_wp2_with fail
    have hfr' : ∀ sb so, ra = some ⟨sb, so, none⟩ → w.heap.size + 1 ≠ sb := fun sb so e => by have := hfr sb so e; simp at this; omega
    refine bodyPost_ret (v := .agg #[.int .i64 au, .int .i64 nu, .slice ra ss.length rc]) (by simp [results, Try.results19, go_sem, d0, d1, d2]) rfl ⟨ra, rc, rfl, ?_, ?_, fun sb so e => by have := hfr sb so e; simp at this; omega⟩
    · exact ((hs1.setCell _ _ _ hfr').setCell _ _ _ hfr').setCell _ _ _ hfr'
    · exact (((below_alloc (below_alloc hb1)).setCell (by simp) _).setCell (by simp) _).setCell (by simp) _
set_option maxRecDepth 100000 in
theorem batch_any (au nu : Int) (ss : List ByteArray) (sa : Option Addr) (n cap : Nat) (w : World) (hn : n = ss.length) (hs : TextsAt w sa cap ss) :
    Calls Try.prog 19 #[.agg #[.int .i64 au, .int .i64 nu, .slice sa n cap]] w fun e w' => ∃ ra rc, e = .returned (.agg #[.int .i64 au, .int .i64 nu, .slice ra ss.length rc]) ∧ StrsAt w' ra ss ∧ Below w.heap.size w w' := by
  refine (batch_any2 au nu ss sa n cap w hn hs).mono ?_
  rintro e w' ⟨ra, rc, he, h1, h2, _⟩
  exact ⟨ra, rc, he, h1, h2⟩
end Go.Proofs.Ytchmfbhdnhaleaa

namespace Go.Proofs.Ytchmfbhdnhaleaa
open Go.ChangeShapes Go.WideShapes Go.ChangeAt Go.RowKit Go.Deep

set_option maxRecDepth 100000 in
theorem cBatch : Try.prog.cellsOf 24 = 3 := by kernel_rfl
set_option maxRecDepth 100000 in
theorem cStrs : Try.prog.cellsOf 22 = 1 := by kernel_rfl
set_option maxRecDepth 100000 in
theorem cInt' : Try.prog.cellsOf 3 = 1 := by kernel_rfl
set_option maxRecDepth 100000 in
theorem open_batch_cells {H : Type} {enc : TypeId × Value → H} {W : World} {fuel : Nat} {cs : List Value} {x : DataW H × List MemPlace}
    (hf : DataW.trod enc Try.prog W 0 (fun _ => true) true fuel 24 cs = some x) (hfit : ∀ n ∈ x.1.weights Try.prog 24, n ≤ reachBytes) :
    ∃ au nu sa cap ss, cs = [.int .i64 au, .int .i64 nu, .slice sa (List.length ss) cap] ∧ I64 au ∧ I64 nu ∧ TextsAt W sa cap ss := by
  obtain ⟨y0, y1, y2, n, rfl, hl, h0, h1, h2⟩ := trod_struct3 Try.underlying24 hf
  rw [cBatch] at hl
  match cs, hl with
  | [c0, c1, c2], _ =>
  obtain ⟨a, e0, rfl, wa⟩ := DataW.trod_int Try.underlying3 h0
  obtain ⟨b, e1, rfl, wb⟩ := DataW.trod_int Try.underlying3 h1
  obtain ⟨sa, cap, ss, e2, hs⟩ := open_texts_cells h2 (fun n hn => hfit n (by simp [DataW.weights, DataW.weightsEach, Try.underlying24, hn]))
  simp [cInt', cStrs] at e0 e1 e2
  subst e0 e1 e2
  exact ⟨a, b, sa, cap, ss, rfl, bounds_i64 wa, bounds_i64 wb, hs⟩
set_option maxRecDepth 100000 in
theorem open_batch {H : Type} {enc : TypeId × Value → H} {W : World} {base : Nat} {v : Value} {d : DataW H} {p : List MemPlace}
    (hv : Value.okWide Try.prog W .any base 24 v) (h : DataW.Trod enc Try.prog W 0 (fun _ => true) true 24 v d p) (hfit : ∀ n ∈ d.weights Try.prog 24, n ≤ reachBytes) :
    ∃ au nu sa cap ss, v = .agg #[.int .i64 au, .int .i64 nu, .slice sa (List.length ss) cap] ∧ I64 au ∧ I64 nu ∧ TextsAt W sa cap ss := by
  obtain ⟨cs, rfl, _⟩ := okWide_struct Try.underlying24 hv
  obtain ⟨fuel, hf⟩ := h
  obtain ⟨au, nu, sa, cap, ss, hcs, h1, h2, h3⟩ := open_batch_cells hf hfit
  refine ⟨au, nu, sa, cap, ss, ?_, h1, h2, h3⟩
  have : cs.toList = _ := hcs
  rw [← this]
end Go.Proofs.Ytchmfbhdnhaleaa

namespace Go.Proofs.Ytchmfbhdnhaleaa
open Go.RowKit

set_option maxRecDepth 100000 in
theorem owns_shape {w : World} {base n : Nat} {e : TypeId} {s : Nat} {v : Value} {xs : List Value} (h : w.ownsRow base e s v n xs) : ∃ za zc, v = .slice za n zc := by
  rcases h.2 with ⟨rfl, hn⟩ | ⟨g, cap, cur, rfl, _⟩
  · subst hn; exact ⟨none, 0, rfl⟩
  · exact ⟨some ⟨g, 0, none⟩, cap, rfl⟩
set_option maxRecDepth 100000 in
/-- A row stays where a block below its base is rewritten. -/
theorem owns_far {w : World} {base n : Nat} {e : TypeId} {s : Nat} {v : Value} {xs : List Value} (h : w.ownsRow base e s v n xs) (b j : Nat) (x : Value) (hb : b < base) : (w.setCell ⟨b, j, none⟩ x).ownsRow base e s v n xs := by
  obtain ⟨h1, h2⟩ := h
  refine ⟨h1, ?_⟩
  rcases h2 with h2 | ⟨g, cap, cur, rfl, hg, hc, r⟩
  · exact .inl h2
  · exact .inr ⟨g, cap, cur, rfl, hg, (heap_setCell_other w ⟨b, j, none⟩ g x (by show g ≠ b; omega)).trans hc, r⟩
end Go.Proofs.Ytchmfbhdnhaleaa

namespace Go.Proofs.Ytchmfbhdnhaleaa
open Go.RowKit

set_option maxRecDepth 100000 in
theorem infoInt2 : (Try.prog.info? 3).map (fun i => (i.zero, i.size, i.bytes)) = some (some (.int .i64 0), 1, 8) := by kernel_rfl
def iv (vl : List Int) : List Value := vl.map (Value.int .i64)
set_option maxRecDepth 100000 in
theorem iv_length (vl : List Int) : (iv vl).length = vl.length := by simp [iv]
set_option maxRecDepth 100000 in
theorem iv_one (vl : List Int) : ∀ u ∈ iv vl, u.oneCell' = true := by
  intro u hu; simp [iv] at hu; obtain ⟨x, _, rfl⟩ := hu; rfl
set_option maxRecDepth 100000 in
theorem intsAt_of_owns {w : World} {base n : Nat} {v : Value} {vl : List Int} (h : w.ownsRow base 3 1 v n (iv vl)) : ∃ za zc, v = .slice za n zc ∧ n = vl.length ∧ IntsAt w za vl ∧ ∀ sb so, za = some ⟨sb, so, none⟩ → base ≤ sb := by
  have hl : n = vl.length := by have := h.1; rw [iv_length] at this; omega
  rcases h.2 with ⟨rfl, hn⟩ | ⟨g, cap, cur, rfl, _⟩
  · have hb : vl = [] := List.eq_nil_of_length_eq_zero (by omega)
    subst hn hb
    exact ⟨none, 0, rfl, rfl, ⟨.inl rfl⟩, fun _ _ e => by cases e⟩
  · refine ⟨some ⟨g, 0, none⟩, cap, rfl, hl, ⟨.inr ⟨g, 0, rfl, fun j hj => ?_⟩⟩, fun sb so e => by cases e; exact (h.lt _ rfl).1⟩
    rw [Nat.zero_add, World.ownsRow.cellAt h j (by omega)]
    simp [iv, hj]
set_option maxRecDepth 100000 in
theorem IntsAt.setCell {w : World} {va : Option Addr} {vl : List Int} (h : IntsAt w va vl) (b j : Nat) (v : Value) (hne : ∀ sb so, va = some ⟨sb, so, none⟩ → b ≠ sb) : IntsAt (w.setCell ⟨b, j, none⟩ v) va vl := by
  refine ⟨?_⟩
  rcases h.cells with h | ⟨sb, so, rfl, hc⟩
  · exact .inl h
  · exact .inr ⟨sb, so, rfl, fun k hk => (World.cell?_setCell_far _ _ _ _ (hne sb so rfl)).trans (hc k hk)⟩
end Go.Proofs.Ytchmfbhdnhaleaa

namespace Go.Proofs.Ytchmfbhdnhaleaa
open Go.RowKit

set_option maxRecDepth 100000 in
set_option maxHeartbeats 1000000 in
theorem certCopy_any2 (au rd : Int) (ba : Option Addr) (bc : Nat) (bl : List Part) (pa : Option Addr) (pc : Nat) (pl : List Part) (va : Option Addr) (vc : Nat) (vl : List Int) (w : World) (hb : ReadAt w ba bc bl) (hp : ReadAt w pa pc pl) (hv : IntsAt w va vl) (hvr : vl.length * 8 ≤ 140737488355328) :
    Calls Try.prog 22 #[.agg #[.int .i64 au, .int .i64 rd, .slice ba bl.length bc, .slice pa pl.length pc, .slice va vl.length vc]] w fun e w' => ∃ xa xc xs ya yc ys za zc, e = .returned (.agg #[.int .i64 au, .int .i64 rd, .slice xa bl.length xc, .slice ya pl.length yc, .slice za vl.length zc]) ∧ Same xs bl ∧ Same ys pl ∧ ListAt w' xa xc xs ∧ ListAt w' ya yc ys ∧ IntsAt w' za vl ∧ Below w.heap.size w w' ∧ Fresh w.heap.size xa xs ∧ Fresh w.heap.size ya ys ∧ (∀ sb so, za = some ⟨sb, so, none⟩ → w.heap.size ≤ sb) := by
  go_enter Try.func22, Try.ntmps22
  go_wp2_with fail
  have hR : Below w.heap.size w ((w.alloc (.cells #[.int .i64 au, .int .i64 rd, .slice ba bl.length bc, .slice pa pl.length pc, .slice va vl.length vc] 33)).alloc (.cells #[.int .i64 0, .int .i64 0, .slice none 0 0, .slice none 0 0, .slice none 0 0] 33)) := ((Below.refl _ _).alloc (Nat.le_refl _) _).alloc (by simp) _
  refine (headerCopy_any au rd ba bc bl pa pc pl _ (hb.below hR) (hp.below hR)).mono ?_
  rintro e w1 ⟨xa, xc, xs, ya, yc, ys, he, hS1, hS2, hL1, hL2, hb1, hF1, hF2⟩
  subst he
  dsimp only
  have r1 := row_new hb1
  have r0 := row_new (below_alloc hb1)
  rw [size_alloc] at r1
  rw [size_alloc, size_alloc] at hF1 hF2
  have hW1 := below_alloc (below_alloc hb1)
  have hlt1 : w.heap.size + 1 < w1.heap.size := lt_of_heap r1
  have hv1 := hv.below hW1
  clear hb1 hR
  obtain ⟨i, hi, hz0, hz1, hz2⟩ := info_parts infoInt2
  go_wp2_with fail
  go_loopw [4] (fun j wr => ∃ (k : Nat) (v : Value), k ≤ vl.length ∧ j = .int .i64 k ∧ Below w1.heap.size w1 wr ∧ wr.heap[w1.heap.size]? = some (.cells #[.int .i64 au, .int .i64 rd, .slice xa bl.length xc, .slice ya pl.length yc, v] 33 (0, 0)) ∧ wr.ownsRow (w1.heap.size + 1) 3 1 v k (iv (vl.take k))) (fun j _ => vl.length - (intOf j).toNat)
  case atStart => exact ⟨0, _, Nat.zero_le _, rfl, (Below.refl _ _).alloc (Nat.le_refl _) _, heap_alloc_new _ _, World.ownsRow_nil _ _ _ _⟩
  case round =>
    obtain ⟨k, v, hk, rfl, hbw, hro, ho⟩ := hrel
    have hrc := (hbw.block _ (lt_of_heap r0)).trans r0
    have c4 : wr.cell? ⟨w.heap.size, 4, none⟩ = some (.slice va vl.length vc) := cells_at hrc 4 _ rfl
    have o4 : wr.cell? ⟨w1.heap.size, 4, none⟩ = some v := cells_at hro 4 _ rfl
    have of4 := frozen_at hro 4
    have hsz : w1.heap.size < wr.heap.size := lt_of_heap hro
    by_cases hlt : k < vl.length
    · obtain ⟨sb, so, rfl, hc⟩ : ∃ sb so, va = some ⟨sb, so, none⟩ ∧ ∀ j, j < vl.length → wr.cell? ⟨sb, so + j, none⟩ = some (.int .i64 (vl.getD j 0)) := by
        rcases (hv1.below hbw).cells with h | h
        · rw [h] at hlt; simp at hlt
        · exact h
      have ck := hc k hlt
      have hltI : (k : Int) < vl.length := by omega
      have hst : Hid (vl.take (k + 1) = vl.take k ++ [vl.getD k 0]) := by
        show _ = _
        rw [List.take_succ_eq_append_getElem hlt]
        simp [List.getD, hlt]
      have hvb : v.ownBlock ≠ some w1.heap.size := fun e => by have := (ho.lt _ e).1; omega
      clear hc
      generalize vl.getD k 0 = x at ck hst
      have hroA : (wr.alloc (.cells #[.int .i64 x] 3)).drew.heap[w1.heap.size]? = some (.cells #[.int .i64 au, .int .i64 rd, .slice xa bl.length xc, .slice ya pl.length yc, v] 33 (0, 0)) := row_old (w1 := wr.alloc (.cells #[.int .i64 x] 3)) hro (Below.refl _ _)
      have hszA : w1.heap.size < (wr.alloc (.cells #[.int .i64 x] 3)).drew.heap.size := lt_of_heap hroA
      go_wp2_with fail
      go_region_law (refine step_append_own rfl _ _ 31 rfl (w1.heap.size + 1) 3 i (.int .i64 0) 1 8 Try.underlying31 hi hz0 hz1 hz2 rfl (by decide) _ k _ rfl (World.ownsRow.alloc ho.drew _) ⟨wr.heap.size, 0, none⟩ 1 1 [.int .i64 x] rfl rfl (cells_new _ _ _) (iv_one [_]) (by unfold maxLen; omega) (by omega) (le_alloc hsz _) ?_; intro v1 w2 ho1 hg1; have hr2 := (hg1.block w1.heap.size hszA (fun e => hvb e.symm)).trans hroA; have p4 : w2.cell? ⟨w1.heap.size, 4, none⟩ = some v := cells_at hr2 4 _ rfl; have pf4 := frozen_at hr2 4; obtain ⟨qa, qc, hq⟩ := owns_shape ho1; subst hq)
      all_goals
        go_wp2_with fail
        go_roundw
        case rel =>
          have hb2 : Below w1.heap.size w1 w2 := Below.grown (hbw.drew.alloc hbw.size _) hg1 (le_alloc hbw.size _) (fun q e => Nat.le_trans (Nat.le_succ _) (ho.lt q e).1)
          have hR : ∃ (k' : Nat) (v' : Value), k' ≤ vl.length ∧ (Value.int .i64 ((k : Int) + 1)) = .int .i64 k' ∧ Below w1.heap.size w1 (w2.setCell ⟨w1.heap.size, 4, none⟩ (.slice qa (k + 1) qc)) ∧ (w2.setCell ⟨w1.heap.size, 4, none⟩ (.slice qa (k + 1) qc)).heap[w1.heap.size]? = some (.cells #[.int .i64 au, .int .i64 rd, .slice xa bl.length xc, .slice ya pl.length yc, v'] 33 (0, 0)) ∧ (w2.setCell ⟨w1.heap.size, 4, none⟩ (.slice qa (k + 1) qc)).ownsRow (w1.heap.size + 1) 3 1 v' k' (iv (vl.take k')) :=
            ⟨k + 1, .slice qa (k + 1) qc, by omega, by go_num, hb2.setCell (Nat.le_refl _) _, by simpa using heap_setCell_same _ _ 4 _ _ (.slice qa (k + 1) qc) hr2, by rw [hst.out]; exact owns_far (by simpa [iv] using ho1) _ _ _ (by omega)⟩
          first | exact hR | ((repeat apply Exists.intro); exact ⟨hR, rfl⟩)
        case measure => simp [intOf]; omega
    · obtain rfl : k = vl.length := by omega
      rw [List.take_of_length_le (Nat.le_refl _)] at ho
      obtain ⟨za, zc, hz, _, hZ, hzf⟩ := intsAt_of_owns ho
      subst hz
      have s1 := (hbw.block _ (lt_of_heap r1)).trans r1
      have d0 := cells_at s1 0 _ rfl
      have d1 := cells_at s1 1 _ rfl
      have d2 := cells_at s1 2 _ rfl
      have d3 := cells_at s1 3 _ rfl
      have d4 := cells_at s1 4 _ rfl
      have f0 := frozen_at s1 0
      have f1 := frozen_at s1 1
      have f2 := frozen_at s1 2
      have f3 := frozen_at s1 3
      have f4 := frozen_at s1 4
      have o0 : wr.cell? ⟨w1.heap.size, 0, none⟩ = some (.int .i64 au) := cells_at hro 0 _ rfl
      have o1 : wr.cell? ⟨w1.heap.size, 1, none⟩ = some (.int .i64 rd) := cells_at hro 1 _ rfl
      have o2 : wr.cell? ⟨w1.heap.size, 2, none⟩ = some (.slice xa bl.length xc) := cells_at hro 2 _ rfl
      have o3 : wr.cell? ⟨w1.heap.size, 3, none⟩ = some (.slice ya pl.length yc) := cells_at hro 3 _ rfl
      have g1 : w.heap.size + 1 < w.heap.size + 1 + 1 := Nat.lt_succ_self _
      have hne : ∀ sb so, za = some ⟨sb, so, none⟩ → w.heap.size + 1 ≠ sb := fun sb so e => by have := hzf sb so e; omega
      have hWr := hW1.trans (hbw.mono hW1.size)
      have hL1r := hL1.below hbw
      have hL2r := hL2.below hbw
      go_wp2_with fail
      refine bodyPost_ret (v := .agg #[.int .i64 au, .int .i64 rd, .slice xa bl.length xc, .slice ya pl.length yc, .slice za vl.length zc]) (by simp [results, Try.results22, go_sem, d0, d1, d2, d3, d4]) rfl ?_
      refine ⟨xa, xc, xs, ya, yc, ys, za, ⟨zc, rfl⟩, hS1, hS2, ?_, ?_, ?_, ?_, hF1.mono (by omega), hF2.mono (by omega), fun sb so e => by have := hzf sb so e; omega⟩
      · exact ((((hL1r.setCell hF1 _ _ _ g1).setCell hF1 _ _ _ g1).setCell hF1 _ _ _ g1).setCell hF1 _ _ _ g1).setCell hF1 _ _ _ g1
      · exact ((((hL2r.setCell hF2 _ _ _ g1).setCell hF2 _ _ _ g1).setCell hF2 _ _ _ g1).setCell hF2 _ _ _ g1).setCell hF2 _ _ _ g1
      · exact ((((hZ.setCell _ _ _ hne).setCell _ _ _ hne).setCell _ _ _ hne).setCell _ _ _ hne).setCell _ _ _ hne
      · exact ((((hWr.setCell (Nat.le_succ _) _).setCell (Nat.le_succ _) _).setCell (Nat.le_succ _) _).setCell (Nat.le_succ _) _).setCell (Nat.le_succ _) _
set_option maxRecDepth 100000 in
theorem certCopy_any (au rd : Int) (ba : Option Addr) (bc : Nat) (bl : List Part) (pa : Option Addr) (pc : Nat) (pl : List Part) (va : Option Addr) (vc : Nat) (vl : List Int) (w : World) (hb : ReadAt w ba bc bl) (hp : ReadAt w pa pc pl) (hv : IntsAt w va vl) (hvr : vl.length * 8 ≤ 140737488355328) :
    Calls Try.prog 22 #[.agg #[.int .i64 au, .int .i64 rd, .slice ba bl.length bc, .slice pa pl.length pc, .slice va vl.length vc]] w fun e w' => ∃ xa xc xs ya yc ys za zc, e = .returned (.agg #[.int .i64 au, .int .i64 rd, .slice xa bl.length xc, .slice ya pl.length yc, .slice za vl.length zc]) ∧ Same xs bl ∧ Same ys pl ∧ ListAt w' xa xc xs ∧ ListAt w' ya yc ys ∧ IntsAt w' za vl ∧ Below w.heap.size w w' := by
  refine (certCopy_any2 au rd ba bc bl pa pc pl va vc vl w hb hp hv hvr).mono ?_
  rintro e w' ⟨xa, xc, xs, ya, yc, ys, za, zc, he, h1, h2, h3, h4, h5, h6, _⟩
  exact ⟨xa, xc, xs, ya, yc, ys, za, zc, he, h1, h2, h3, h4, h5, h6⟩
end Go.Proofs.Ytchmfbhdnhaleaa

namespace Go.Proofs.Ytchmfbhdnhaleaa
open Go.RowKit

set_option maxRecDepth 100000 in
set_option maxHeartbeats 400000 in
theorem octets_any2 (bs : List Int) (sa : Option Addr) (n cap : Nat) (w : World) (hn : n = bs.length) (hs : SliceAt w sa cap bs) (hr : cap ≤ 140737488351232) :
    Calls Try.prog 21 #[.slice sa n cap] w fun e w' => ∃ ra rc, e = .returned (.slice ra bs.length rc) ∧ SliceAt w' ra rc bs ∧ Below w.heap.size w w' ∧ (∀ sb so, ra = some ⟨sb, so, none⟩ → w.heap.size ≤ sb) := by
  have hle := hs.le
  go_enter Try.func21, Try.ntmps21
  go_wp2_with (at_builtin; refine wpList_append_part rfl _ _ rfl w.heap.size _ 0 [] rfl (World.ownsRow_nil _ _ _ _) sa n cap bs rfl hn hs (by omega) (Nat.le_refl _) ?_; intro v1 w1 ho1 hg1)
  obtain ⟨ra, rc, hv, hl, hsl⟩ := owns_form ho1
  have hlt := ho1.lt
  subst hv
  go_ret
  refine ⟨ra, rc, ?_, by simpa using hsl, grown_none hg1, fun sb so e => (hlt sb (by rw [e]; rfl)).1⟩
  simp [hn]
end Go.Proofs.Ytchmfbhdnhaleaa
