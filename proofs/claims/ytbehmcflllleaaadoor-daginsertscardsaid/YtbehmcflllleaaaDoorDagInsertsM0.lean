/- The document's certOf, placeOf, for every list. -/
import Derived.Test.YtbehmcflllleaaaDoorCtFar
import Derived.Test.YtbehmcflllleaaaDoorClone
import Derived.Test.YtbehmcflllleaaaDoorIv
import Derived.Test.YtbehmcflllleaaaDoorHCopy
import Derived.OwnWalk
import Derived.Test.YtbehmcflllleaaaDoorTxL
import Derived.Deep.RegionHeld2
import Derived.Test.YtbehmcflllleaaaDoorGrew
import Derived.Shelf.Abstract
import Derived.Deep.RegionHeld
import Derived.Test.YtbehmcflllleaaaDoorCerts
import Derived.Deep.RegionHeld3
namespace Go.Proofs.YtbehmcflllleaaaDoor
open Go.RowKit

set_option maxRecDepth 100000 in
set_option maxHeartbeats 1000000 in
theorem cloneDigests_any (ps : List Part) (sa : Option Addr) (n cap : Nat) (w : World) (hn : n = ps.length) (hl4 : ps.length ≤ 1000) (hre : ∀ p ∈ ps, p.bs.length ≤ 140737488355328) (hp : PartsAt w sa ps) :
    Calls Tryd.prog 40 #[.slice sa n cap] w fun e w' => ∃ ra rc qs, e = .returned (.slice ra ps.length rc) ∧ Same qs ps ∧ ListAt w' ra rc qs ∧ Below w.heap.size w w' ∧ Fresh w.heap.size ra qs ∧ (∀ sb so, ra = some ⟨sb, so, none⟩ → sb < w'.heap.size) := by
  subst hn
  obtain ⟨i, hi, hz0, hz1, hz2⟩ := info_parts infoBs
  go_enter Tryd.func40, Tryd.ntmps40
  go_wp2_with (at_make; refine wpList_make_own _ rfl _ _ 30 rfl w.heap.size 29 i (.slice none 0 0) 1 Tryd.underlying30 hi hz0 hz1 .i64 .i64 _ ps.length rfl rfl (by go_num) (by rw [hz2]; omega) (by unfold maxLen; omega) (Nat.le_refl _) ?_; intro w1 ho1 hg1)
  go_wp2_with fail
  go_loopw [11, 3] (fun j v wr => ∃ (k : Nat) (qs : List Part), k ≤ ps.length ∧ j = .int .i64 k ∧ Same qs (ps.take k) ∧ wr.ownsRow w.heap.size 29 1 v k (pv qs) ∧ Apart wr w.heap.size v qs ∧ Below w.heap.size w wr) (fun j _ _ => ps.length - (intOf j).toNat)
  case atStart => exact ⟨0, [], Nat.zero_le _, rfl, by simp [Same], ho1, (fun p hp => by cases hp), grown_none hg1⟩
  case round =>
    obtain ⟨k, qs, hk, rfl, hS, ho, hap, hb⟩ := hrel
    by_cases hlt : k < ps.length
    · have hpw := hp.below hb
      obtain ⟨sb, so, rfl, hc⟩ : ∃ sb so, sa = some ⟨sb, so, none⟩ ∧ ∀ j (h : j < ps.length), wr.cell? ⟨sb, so + j, none⟩ = some (.slice (ps[j]).sa (ps[j]).bs.length (ps[j]).cap) := by
        rcases hpw.cells with h | h
        · rw [h] at hlt; simp at hlt
        · exact h
      have ck := hc k hlt
      have hx := hpw.each (ps[k]) (List.getElem_mem hlt)
      have hxr := hre (ps[k]) (List.getElem_mem hlt)
      have hst : Hid (ps.take (k + 1) = ps.take k ++ [ps[k]]) := List.take_succ_eq_append_getElem hlt
      have hltI : (k : Int) < ps.length := by omega
      clear hc
      generalize ps[k] = p at *
      go_wp2_with fail
      refine (clone_any p.bs p.sa _ p.cap wr rfl hx hxr).mono ?_
      rintro e w2 ⟨ra, rc, he, hs2, hrow, hb2⟩
      subst he
      dsimp only
      have hob := owns_keep ho hb2
      have hB2 := hb.trans (hb2.mono hb.size)
      go_wp2_with (at_builtin; refine wpList_append_own_at _ rfl _ _ 30 rfl w.heap.size 29 i (.slice none 0 0) 1 24 Tryd.underlying30 hi hz0 hz1 hz2 rfl (by decide) _ k _ rfl (World.ownsRow.alloc hob _) ⟨w2.heap.size, 0, none⟩ 1 1 [.slice ra p.bs.length rc] rfl rfl (cells_new _ _ _) (by intro u hu; simp at hu; subst hu; rfl) (by unfold maxLen; omega) (by omega) (le_alloc hB2.size _) ?_; intro v1 w3 ho3 hg3 _ hat)
      have G := Grew.of hg3 hat
      have hap3 := hap.more_at (q := ⟨ra, rc, p.bs⟩) hb.size ho hb2 hrow hs2 G
      have hB3 := Below.grown (hB2.alloc hB2.size _) hg3 (le_alloc hB2.size _) (fun q e => (hob.lt q e).1)
      go_wp2_with fail
      go_roundw
      case rel =>
        have hR : ∃ (k' : Nat) (qs' : List Part), k' ≤ ps.length ∧ (Value.int .i64 ((k : Int) + 1)) = .int .i64 k' ∧ Same qs' (ps.take k') ∧ w3.ownsRow w.heap.size 29 1 v1 k' (pv qs') ∧ Apart w3 w.heap.size v1 qs' ∧ Below w.heap.size w w3 :=
          ⟨k + 1, qs ++ [⟨ra, rc, p.bs⟩], by omega, by go_num, by rw [hst.out]; simp only [Same, List.map_append] at hS ⊢; rw [hS]; rfl, by simpa [pv, Part.val] using ho3, hap3, hB3⟩
        first | exact hR | ((repeat apply Exists.intro); exact ⟨hR, rfl⟩)
      case measure => simp [intOf]; omega
    · obtain rfl : k = ps.length := by omega
      rw [List.take_of_length_le (Nat.le_refl _)] at hS
      obtain ⟨ra, rc, hv, hl, hL, hfr⟩ := listAt_of_owns ho hap
      subst hv
      go_wp2_with fail
      go_ret
      exact ⟨ra, rc, qs, rfl, hS, hL (by omega), hb, hfr, fun sb so e => by subst e; exact (ho.lt sb rfl).2⟩
set_option maxRecDepth 100000 in
theorem infoIntC : (Tryd.prog.info? 3).map (fun i => (i.zero, i.size, i.bytes)) = some (some (.int .i64 0), 1, 8) := by kernel_rfl
set_option maxRecDepth 100000 in
set_option maxHeartbeats 400000 in
theorem cloneInts_any (vl : List Int) (va : Option Addr) (n cap : Nat) (w : World) (hn : n = vl.length) (hl : vl.length ≤ 1000) (hs : IntsAt w va vl) :
    Calls Tryd.prog 56 #[.slice va n cap] w fun e w' => ∃ ra rc, e = .returned (.slice ra vl.length rc) ∧ IntsAt w' ra vl ∧ (∀ sb so, ra = some ⟨sb, so, none⟩ → w.heap.size ≤ sb ∧ sb < w'.heap.size) ∧ Below w.heap.size w w' := by
  subst hn
  obtain ⟨i, hi, hz0, hz1, hz2⟩ := info_parts infoIntC
  cases va with
  | none =>
    have hb : vl = [] := by
      rcases hs.cells with h | ⟨_, _, h, _⟩
      · exact h
      · cases h
    subst hb
    have he : ∀ w : World, (binOp .eql 33 (.slice none 0 cap) (.slice none 0 0)).run Tryd.prog w = .ok (.bool true) w := fun _ => rfl
    go_enter Tryd.func56, Tryd.ntmps56
    go_wp2_with fail
    go_ret
    exact ⟨none, 0, rfl, ⟨.inl rfl⟩, (fun _ _ e => by cases e), Below.refl _ _⟩
  | some ad =>
    have he : ∀ w : World, (binOp .eql 33 (.slice (some ad) vl.length cap) (.slice none 0 0)).run Tryd.prog w = .ok (.bool false) w := fun _ => rfl
    have hA : Below w.heap.size w (w.alloc (.cells #[] 3)) := (Below.refl _ _).alloc (Nat.le_refl _) _
    have hcells : ∀ j u, (iv vl)[j]? = some u → (w.alloc (.cells #[] 3)).cell? (ad.add j) = some u := fun j u hu => by
      have hj : j < vl.length := by
        rcases Nat.lt_or_ge j vl.length with h | h
        · exact h
        · rw [List.getElem?_eq_none (by rw [iv_length]; exact h)] at hu; cases hu
      rcases (hs.below hA).cells with h | ⟨sb, so, e, hc⟩
      · rw [h] at hj; simp at hj
      · cases e
        have e2 := hc j hj
        simp only [iv, List.getElem?_map, List.getElem?_eq_getElem hj, Option.map_some, Option.some.injEq] at hu
        subst hu
        have e3 : (⟨sb, so, none⟩ : Addr).add j = ⟨sb, so + j, none⟩ := by
          simp only [Addr.add]
          split
          · rename_i h
            subst h
            rfl
          · rfl
        rw [e3, e2]
        simp [List.getD, hj]
    go_enter Tryd.func56, Tryd.ntmps56
    go_wp2_with (at_builtin; refine wpList_append_own_at _ rfl _ _ 33 rfl w.heap.size 3 i (.int .i64 0) 1 8 Tryd.underlying33 hi hz0 hz1 hz2 rfl (by decide) _ 0 [] rfl (World.ownsRow_made _ _ 0 (Nat.le_refl _) (by decide) rfl) ad vl.length cap (iv vl) rfl (by simp [iv]) hcells (iv_one vl) (by unfold maxLen; omega) (by omega) hA.size ?_; intro v1 w1 ho1 hg1 _ hat)
    rw [List.nil_append, Nat.zero_add] at ho1
    obtain ⟨ra, rc, hv, _, hI, hfr⟩ := intsAt_of_owns ho1
    have hlt := ho1.lt
    subst hv
    go_ret
    refine ⟨ra, rc, rfl, hI, (fun sb so e => hlt sb (by rw [e]; rfl)), ?_⟩
    exact Below.grown hA hg1 hA.size (fun q e => (World.ownsRow.lt (World.ownsRow_made (e := 3) (size := 1) w #[] 0 (Nat.le_refl _) (by decide) rfl) q e).1)
end Go.Proofs.YtbehmcflllleaaaDoor

namespace Go.Proofs.YtbehmcflllleaaaDoor
open Go.RowKit

set_option maxRecDepth 100000 in
set_option maxHeartbeats 1000000 in
theorem cloneCert_any (c : Ct) (w : World) (hc : CtAt w c) (h1 : c.bl.length ≤ 1000) (h2 : c.pl.length ≤ 1000) (h3 : c.vl.length ≤ 1000) (h4 : ∀ p ∈ c.bl, p.bs.length ≤ 140737488355328) (h5 : ∀ p ∈ c.pl, p.bs.length ≤ 140737488355328) :
    Calls Tryd.prog 34 #[.agg #[.int .i64 c.au, .int .i64 c.rd, .slice c.ba c.bl.length c.bc, .slice c.pa c.pl.length c.pc, .slice c.va c.vl.length c.vc]] w fun e w' => ∃ k : Ct, e = .returned (.agg #[.int .i64 k.au, .int .i64 k.rd, .slice k.ba k.bl.length k.bc, .slice k.pa k.pl.length k.pc, .slice k.va k.vl.length k.vc]) ∧ k.v = c.v ∧ CtAt w' k ∧ (∀ b, CtIn k b → w.heap.size ≤ b) ∧ Below w.heap.size w w' := by
  have HB : Hid (∀ p ∈ c.bl, p.bs.length ≤ 140737488355328) := h4
  have HP : Hid (∀ p ∈ c.pl, p.bs.length ≤ 140737488355328) := h5
  clear h4 h5
  have hA : Below w.heap.size w ((w.alloc (.cells #[.int .i64 c.au, .int .i64 c.rd, .slice c.ba c.bl.length c.bc, .slice c.pa c.pl.length c.pc, .slice c.va c.vl.length c.vc] 35)).alloc (.cells #[.int .i64 0, .int .i64 0, .slice none 0 0, .slice none 0 0, .slice none 0 0] 35)) := ((Below.refl _ _).alloc (Nat.le_refl _) _).alloc (by rw [size_alloc]; omega) _
  have q0 := heap_alloc2_old w (.cells #[.int .i64 c.au, .int .i64 c.rd, .slice c.ba c.bl.length c.bc, .slice c.pa c.pl.length c.pc, .slice c.va c.vl.length c.vc] 35) (.cells #[.int .i64 0, .int .i64 0, .slice none 0 0, .slice none 0 0, .slice none 0 0] 35)
  have q1 : ((w.alloc (.cells #[.int .i64 c.au, .int .i64 c.rd, .slice c.ba c.bl.length c.bc, .slice c.pa c.pl.length c.pc, .slice c.va c.vl.length c.vc] 35)).alloc (.cells #[.int .i64 0, .int .i64 0, .slice none 0 0, .slice none 0 0, .slice none 0 0] 35)).heap[w.heap.size + 1]? = some (.cells #[.int .i64 0, .int .i64 0, .slice none 0 0, .slice none 0 0, .slice none 0 0] 35 (0, 0)) := by
    have := heap_alloc_new (w.alloc (.cells #[.int .i64 c.au, .int .i64 c.rd, .slice c.ba c.bl.length c.bc, .slice c.pa c.pl.length c.pc, .slice c.va c.vl.length c.vc] 35)) (.cells #[.int .i64 0, .int .i64 0, .slice none 0 0, .slice none 0 0, .slice none 0 0] 35)
    rw [size_alloc] at this; exact this
  go_enter Tryd.func34, Tryd.ntmps34
  go_wp2_with fail
  generalize (w.alloc (.cells #[.int .i64 c.au, .int .i64 c.rd, .slice c.ba c.bl.length c.bc, .slice c.pa c.pl.length c.pc, .slice c.va c.vl.length c.vc] 35)).alloc (.cells #[.int .i64 0, .int .i64 0, .slice none 0 0, .slice none 0 0, .slice none 0 0] 35) = W0 at hA q0 q1 ⊢
  have l1 : w.heap.size + 1 < W0.heap.size := lt_of_heap q1
  have l0 : w.heap.size < W0.heap.size := lt_of_heap q0
  have c0 := hc.below hA
  refine (cloneDigests_any c.bl c.ba _ c.bc W0 rfl h1 HB.out c0.hat.lb.parts).mono ?_
  rintro e w1 ⟨xa, xc, xs, he, hS1, hL1, hb1, hF1, hU1⟩
  subst he
  dsimp only
  have r0 := (hb1.block _ l0).trans q0
  have r1 := (hb1.block _ l1).trans q1
  have e2 := cells_at r0 2 _ rfl
  have f2 := frozen_at r0 2
  have e3 := cells_at r0 3 _ rfl
  have hB1 := hA.trans (hb1.mono hA.size)
  have s0 := heap_setCell_same _ _ 2 _ _ (.slice xa c.bl.length xc) r0
  have s1 := heap_far (b := w.heap.size) (j := 2) (v := .slice xa c.bl.length xc) r1 (Nat.succ_ne_self _)
  have hX1 := hB1.setCell (p := ⟨w.heap.size, 2, none⟩) (Nat.le_refl _) (.slice xa c.bl.length xc)
  have hL1 := hL1.setCell hF1 w.heap.size 2 (.slice xa c.bl.length xc) l0
  have hz1 : W0.heap.size ≤ (w1.setCell ⟨w.heap.size, 2, none⟩ (.slice xa c.bl.length xc)).heap.size := by simpa using hb1.size
  have hU1' : ∀ sb so, xa = some ⟨sb, so, none⟩ → sb < (w1.setCell ⟨w.heap.size, 2, none⟩ (.slice xa c.bl.length xc)).heap.size := fun sb so e => by simpa using hU1 sb so e
  go_wp2_with fail
  generalize w1.setCell ⟨w.heap.size, 2, none⟩ (.slice xa c.bl.length xc) = X1 at s0 s1 hX1 hL1 hz1 hU1' ⊢
  have s0' : X1.heap[w.heap.size]? = some (.cells #[.int .i64 c.au, .int .i64 c.rd, .slice xa c.bl.length xc, .slice c.pa c.pl.length c.pc, .slice c.va c.vl.length c.vc] 35 (0, 0)) := by simpa using s0
  clear s0 e2 f2 e3 r0 r1
  have c1 := hc.below hX1
  refine (cloneDigests_any c.pl c.pa _ c.pc X1 rfl h2 HP.out c1.hat.lp.parts).mono ?_
  rintro e w2 ⟨ya, yc, ys, he, hS2, hL2, hb2, hF2, hU2⟩
  subst he
  dsimp only
  have t0 := (hb2.block _ (lt_of_heap s0')).trans s0'
  have t1 := (hb2.block _ (lt_of_heap s1)).trans s1
  have e3 := cells_at t0 3 _ rfl
  have f3 := frozen_at t0 3
  have e4 := cells_at t0 4 _ rfl
  have hB2 := hX1.trans (hb2.mono hX1.size)
  have u0 := heap_setCell_same _ _ 3 _ _ (.slice ya c.pl.length yc) t0
  have u1 := heap_far (b := w.heap.size) (j := 3) (v := .slice ya c.pl.length yc) t1 (Nat.succ_ne_self _)
  have hX2 := hB2.setCell (p := ⟨w.heap.size, 3, none⟩) (Nat.le_refl _) (.slice ya c.pl.length yc)
  have hF2' : Fresh W0.heap.size ya ys := hF2.mono hz1
  have hL1 := (hL1.below hb2).setCell hF1 w.heap.size 3 (.slice ya c.pl.length yc) l0
  have hL2 := hL2.setCell hF2' w.heap.size 3 (.slice ya c.pl.length yc) l0
  have hz2 : W0.heap.size ≤ (w2.setCell ⟨w.heap.size, 3, none⟩ (.slice ya c.pl.length yc)).heap.size := by have := hb2.size; simp; omega
  have hV1 : ∀ sb so, xa = some ⟨sb, so, none⟩ → sb < (w2.setCell ⟨w.heap.size, 3, none⟩ (.slice ya c.pl.length yc)).heap.size := fun sb so e => by have := hU1' sb so e; have := hb2.size; simp; omega
  have hV2 : ∀ sb so, ya = some ⟨sb, so, none⟩ → sb < (w2.setCell ⟨w.heap.size, 3, none⟩ (.slice ya c.pl.length yc)).heap.size := fun sb so e => by simpa using hU2 sb so e
  go_wp2_with fail
  generalize w2.setCell ⟨w.heap.size, 3, none⟩ (.slice ya c.pl.length yc) = X2 at u0 u1 hX2 hL1 hL2 hz2 hV1 hV2 ⊢
  have u0' : X2.heap[w.heap.size]? = some (.cells #[.int .i64 c.au, .int .i64 c.rd, .slice xa c.bl.length xc, .slice ya c.pl.length yc, .slice c.va c.vl.length c.vc] 35 (0, 0)) := by simpa using u0
  clear u0 e3 f3 e4 t0 t1 s0' s1
  have c2 := hc.below hX2
  refine (cloneInts_any c.vl c.va _ c.vc X2 rfl h3 c2.ints).mono ?_
  rintro e w3 ⟨za, zc, he, hZ, hF3, hb3⟩
  subst he
  dsimp only
  have v0 := (hb3.block _ (lt_of_heap u0')).trans u0'
  have v1 := (hb3.block _ (lt_of_heap u1)).trans u1
  have g0 := cells_at v0 0 _ rfl
  have g1 := cells_at v0 1 _ rfl
  have g2 := cells_at v0 2 _ rfl
  have g3 := cells_at v0 3 _ rfl
  have g4 := cells_at v0 4 _ rfl
  have gf4 := frozen_at v0 4
  have d0 := cells_at v1 0 _ rfl
  have d1 := cells_at v1 1 _ rfl
  have d2 := cells_at v1 2 _ rfl
  have d3 := cells_at v1 3 _ rfl
  have d4 := cells_at v1 4 _ rfl
  have f0 := frozen_at v1 0
  have f1 := frozen_at v1 1
  have f2 := frozen_at v1 2
  have f3 := frozen_at v1 3
  have f4 := frozen_at v1 4
  have hne : w.heap.size ≠ w.heap.size + 1 := by omega
  have hB3 := hX2.trans (hb3.mono hX2.size)
  have hLx := (hL1.below hb3).setCell hF1 w.heap.size 4 (.slice za c.vl.length zc) l0
  have hLy := (hL2.below hb3).setCell hF2' w.heap.size 4 (.slice za c.vl.length zc) l0
  have hzn0 : ∀ sb so, za = some ⟨sb, so, none⟩ → w.heap.size ≠ sb := fun sb so e => by have := (hF3 sb so e).1; omega
  have hzn1 : ∀ sb so, za = some ⟨sb, so, none⟩ → w.heap.size + 1 ≠ sb := fun sb so e => by have := (hF3 sb so e).1; omega
  have hZx := hZ.setCell w.heap.size 4 (.slice za c.vl.length zc) hzn0
  have hBx := hB3.setCell (p := ⟨w.heap.size, 4, none⟩) (Nat.le_refl _) (.slice za c.vl.length zc)
  have E1 : Hid (xs.length = c.bl.length) := hS1.length
  have E2 : Hid (ys.length = c.pl.length) := hS2.length
  have HV : Hid ((⟨c.au, c.rd, xa, xc, xs, ya, yc, ys, za, zc, c.vl⟩ : Ct).v = c.v) := by
    show Ct.v _ = _
    simp only [Ct.v]
    rw [bss_same hS1, bss_same hS2]
  go_wp2_with fail
  refine bodyPost_ret (v := .agg #[.int .i64 c.au, .int .i64 c.rd, .slice xa c.bl.length xc, .slice ya c.pl.length yc, .slice za c.vl.length zc]) (by simp [results, Tryd.results34, go_sem, d0, d1, d2, d3, d4]) rfl ⟨⟨c.au, c.rd, xa, xc, xs, ya, yc, ys, za, zc, c.vl⟩, by rw [E1.out, E2.out], HV.out, ⟨⟨?_, ?_, ?_, ?_⟩, ?_, hc.vle⟩, ?_, ?_⟩
  · exact ((((hLx.setCell hF1 _ _ _ l1).setCell hF1 _ _ _ l1).setCell hF1 _ _ _ l1).setCell hF1 _ _ _ l1).setCell hF1 _ _ _ l1
  · exact ((((hLy.setCell hF2' _ _ _ l1).setCell hF2' _ _ _ l1).setCell hF2' _ _ _ l1).setCell hF2' _ _ _ l1).setCell hF2' _ _ _ l1
  · intro sb so e
    have := hV1 sb so e
    have := hb3.size
    simp; omega
  · intro sb so e
    have := hV2 sb so e
    have := hb3.size
    simp; omega
  · exact ((((hZx.setCell _ _ _ hzn1).setCell _ _ _ hzn1).setCell _ _ _ hzn1).setCell _ _ _ hzn1).setCell _ _ _ hzn1
  · rintro b (⟨so, e⟩ | ⟨so, e⟩ | ⟨p, hp, _, so, e⟩ | ⟨_, so, e⟩)
    · have := hF1.row b so e; omega
    · have := hF2'.row b so e; omega
    · rcases List.mem_append.1 hp with hp | hp
      · have := hF1.each p hp b so e; omega
      · have := hF2'.each p hp b so e; omega
    · have := (hF3 b so e).1; omega
  · exact ((((hBx.setCell (Nat.le_succ _) _).setCell (Nat.le_succ _) _).setCell (Nat.le_succ _) _).setCell (Nat.le_succ _) _).setCell (Nat.le_succ _) _
end Go.Proofs.YtbehmcflllleaaaDoor

namespace Go.Proofs.YtbehmcflllleaaaDoor
open Go.RowKit

set_option maxRecDepth 100000 in
theorem sameBytes_any (xs ys : List Int) (sa sb : Option Addr) (n m c d : Nat) (w : World) (hn : n = xs.length) (hm : m = ys.length) (ha : SliceAt w sa c xs) (hb : SliceAt w sb d ys) :
    Calls Tryd.prog 57 #[.slice sa n c, .slice sb m d] w fun e w' => e = .returned (.bool (decide (txL xs = txL ys))) ∧ w = w' := by
  have h1 := run_text w sa n c xs hn ha
  have h2 := run_text w sb m d ys hm hb
  clear hn hm ha hb
  unfold txL
  generalize bstr xs = A at *
  generalize bstr ys = B at *
  go_enter Tryd.func57, Tryd.ntmps57
  go_wp2_with fail
  go_ret
  refine ⟨ret_bool ?_, rfl⟩
  by_cases h : A.toList = B.toList <;> simp [h]
end Go.Proofs.YtbehmcflllleaaaDoor

namespace Go.Proofs.YtbehmcflllleaaaDoor
open Go.RowKit

set_option maxRecDepth 100000 in
theorem twice_yes (ps : List Part) (k m : Nat) (hm : m < k) (h : txL (partAt ps m).bs = txL (partAt ps k).bs) : twice ps k = true := by
  simp only [twice, List.any_eq_true]
  exact ⟨m, by simpa using hm, by simpa using h⟩
set_option maxRecDepth 100000 in
theorem twice_no (ps : List Part) (k : Nat) (h : ∀ j, j < k → ¬ txL (partAt ps j).bs = txL (partAt ps k).bs) : twice ps k = false := by
  simp only [twice, List.any_eq_false]
  intro j hj
  simpa using h j (by simpa using hj)

set_option maxRecDepth 100000 in
set_option maxHeartbeats 1000000 in
theorem digestsFault_any (ps : List Part) (sa : Option Addr) (n cap : Nat) (w : World) (hn : n = ps.length) (hcm : n ≤ 9000000000000000000) (hp : PartsAt w sa ps) :
    Calls Tryd.prog 63 #[.slice sa n cap] w fun e w' => e = .returned (.int .i64 (digF ps)) ∧ Below w.heap.size w w' := by
  subst hn
  go_enter Tryd.func63, Tryd.ntmps63
  go_wp2_with fail
  go_loopw [3] (fun i wr => ∃ k : Nat, k ≤ ps.length ∧ i = .int .i64 k ∧ digTo1 ps k = 0 ∧ Below w.heap.size w wr) (fun i _ => ps.length - (intOf i).toNat)
  case atStart => exact ⟨0, Nat.zero_le _, rfl, rfl, Below.refl _ _⟩
  case round =>
    obtain ⟨k, hk, rfl, h0, hb⟩ := hrel
    by_cases hlt : k < ps.length
    · have hpw := hp.below hb
      obtain ⟨sb, so, rfl, hc⟩ : ∃ sb so, sa = some ⟨sb, so, none⟩ ∧ ∀ j (h : j < ps.length), wr.cell? ⟨sb, so + j, none⟩ = some (.slice (ps[j]).sa (ps[j]).bs.length (ps[j]).cap) := by
        rcases hpw.cells with h | h
        · rw [h] at hlt; simp at hlt
        · exact h
      have hx := hpw.each (ps[k]) (List.getElem_mem hlt)
      have hpe := partAt_get ps k hlt
      have ck := hc k hlt
      have Hc : Hid (∀ j (h : j < ps.length), wr.cell? ⟨sb, so + j, none⟩ = some (.slice (ps[j]).sa (ps[j]).bs.length (ps[j]).cap)) := hc
      clear hc
      have hltI : (k : Int) < ps.length := by omega
      have hAt : Hid (digAt ps k = if (ps[k]).bs.length ≠ 32 then 4 else if twice ps k then 7 else 0) := by
        show _ = _
        rw [digAt, hpe]
      have hF : Hid (digAt ps k ≠ 0 → digF ps = digAt ps k) := by
        show _ → _
        exact digF_at ps k hlt h0
      have hS : Hid (digAt ps k = 0 → digTo1 ps (k + 1) = 0) := by
        show _ → _
        intro h
        rw [digTo1, h0, h]; rfl
      have hxl : (ps[k]).bs.length ≤ 9223372036854775807 := Nat.le_trans hx.le hx.max
      generalize hpk : ps[k] = p at *
      by_cases h32 : p.bs.length = 32
      · have e7 : Hid (twice ps k = true → digF ps = 7) := by
          show _ → _
          intro hT
          have : digAt ps k = 7 := by rw [hAt.out, if_neg (by simp [h32]), hT]; rfl
          rw [hF.out (by rw [this]; decide), this]
        have e0 : Hid (twice ps k = false → digTo1 ps (k + 1) = 0) := by
          show _ → _
          intro hT
          exact hS.out (by rw [hAt.out, if_neg (by simp [h32]), hT]; rfl)
        have hY : Hid (∀ m, m < k → txL (partAt ps m).bs = txL p.bs → twice ps k = true) := by
          show ∀ m, _
          intro m hm h
          exact twice_yes ps k m hm (by rw [hpe]; exact h)
        have hN : Hid ((∀ j, j < k → ¬ txL (partAt ps j).bs = txL p.bs) → twice ps k = false) := by
          show _ → _
          intro h
          exact twice_no ps k (fun j hj => by rw [hpe]; exact h j hj)
        clear hAt hF hS h0 hpe
        go_wp2_with fail
        go_loopw [4] (fun i wq => ∃ m : Nat, m ≤ k ∧ i = .int .i64 m ∧ (∀ j, j < m → ¬ txL (partAt ps j).bs = txL p.bs) ∧ Below w.heap.size w wq) (fun i _ => k - (intOf i).toNat)
        case atStart => exact ⟨0, Nat.zero_le _, rfl, (fun j hj => by omega), hb⟩
        case round =>
          clear Hc hx ck hb hpw
          obtain ⟨m, hm, rfl, hno, hb⟩ := hrel
          have hpw := hp.below hb
          by_cases hmk : m < k
          · have hmp : m < ps.length := by omega
            have hc : ∀ j (h : j < ps.length), wr.cell? ⟨sb, so + j, none⟩ = some (.slice (ps[j]).sa (ps[j]).bs.length (ps[j]).cap) := by
              rcases hpw.cells with h | ⟨sb', so', e, h⟩
              · rw [h] at hlt; simp at hlt
              · cases e; exact h
            have cm := hc m hmp
            have ck := hc k hlt
            have hx := hpw.each (ps[k]) (List.getElem_mem hlt)
            rw [hpk] at ck hx
            clear hc
            have hxm := hpw.each (ps[m]) (List.getElem_mem hmp)
            have hpm := partAt_get ps m hmp
            have hmkI : (m : Int) < k := by omega
            have hmpI : (m : Int) < ps.length := by omega
            have Hno : Hid (¬ txL (ps[m]).bs = txL p.bs → ∀ j, j < m + 1 → ¬ txL (partAt ps j).bs = txL p.bs) := by
              show _ → _
              intro h j hj
              rcases Nat.lt_or_ge j m with g | g
              · exact hno j g
              · obtain rfl : j = m := by omega
                rw [hpm]; exact h
            have Hyes : Hid (txL (ps[m]).bs = txL p.bs → digF ps = 7) := by
              show _ → _
              intro h
              exact e7.out (hY.out m hmk (by rw [hpm]; exact h))
            clear hno hpm
            generalize ps[m] = q at *
            go_wp2_with fail
            go_region_held2 (fun w' => w'.cell? ⟨sb, so + m, none⟩ = some (.slice q.sa q.bs.length q.cap) ∧ w'.cell? ⟨sb, so + k, none⟩ = some (.slice p.sa p.bs.length p.cap)) (go_keep) ((go_at_call 57; refine (sameBytes_any q.bs p.bs q.sa p.sa _ _ q.cap p.cap _ (by first | rfl | exact h32.symm) (by first | rfl | exact h32.symm) (hxm.below ?_) (hx.below ?_)).mono ?_; exact (Below.refl _ _).drew; exact (Below.refl _ _).drew; rintro e w1 ⟨rfl, rfl⟩))
            all_goals
              by_cases h : txL q.bs = txL p.bs
              · have hy := Hyes.out h
                rw [decide_eq_true h]
                clear Hyes Hno h
                go_wp2_with fail
                go_ret
                exact ⟨ret_int hy.symm, hb.drew⟩
              · have hn := Hno.out h
                rw [decide_eq_false h]
                clear Hyes Hno h
                go_wp2_with fail
                go_roundw
                case rel =>
                  have hR : ∃ m' : Nat, m' ≤ k ∧ (Value.int .i64 ((m : Int) + 1)) = .int .i64 m' ∧ (∀ j, j < m' → ¬ txL (partAt ps j).bs = txL p.bs) ∧ Below w.heap.size w wr.drew := ⟨m + 1, by omega, by go_num, hn, hb.drew⟩
                  first | exact hR | ((repeat apply Exists.intro); exact ⟨hR, rfl⟩)
                case measure => simp [intOf]; omega
          · obtain rfl : m = k := by omega
            have h1 := e0.out (hN.out hno)
            clear hno
            go_wp2_with fail
            go_roundw
            case rel =>
              have hR : ∃ k' : Nat, k' ≤ ps.length ∧ (Value.int .i64 ((m : Int) + 1)) = .int .i64 k' ∧ digTo1 ps k' = 0 ∧ Below w.heap.size w wr := ⟨m + 1, by omega, by go_num, h1, hb⟩
              first | exact hR | ((repeat apply Exists.intro); exact ⟨hR, rfl⟩)
            case measure => simp [intOf]; omega
      · have h32I : ¬ (p.bs.length : Int) = 32 := by omega
        have e4 : Hid (digF ps = 4) := by
          show _ = _
          have : digAt ps k = 4 := by rw [hAt.out, if_pos h32]
          rw [hF.out (by rw [this]; decide), this]
        clear hAt hF hS
        go_wp2_with fail
        go_ret
        exact ⟨ret_int e4.out.symm, hb⟩
    · obtain rfl : k = ps.length := by omega
      go_wp2_with fail
      go_ret
      exact ⟨ret_int h0.symm, hb⟩
end Go.Proofs.YtbehmcflllleaaaDoor

namespace Go.Proofs.YtbehmcflllleaaaDoor
open Go.RowKit

set_option maxRecDepth 100000 in
theorem step_calls {ops : Array Oper} {o : Oper} {a : Act} {w : World} {K : Act → World → Prop} {Q : Exit → Act → World → Prop} {E : Prop}
    (hg : o.guard = none) (f : FuncId) (xs : List Operand) (ats : Array TypeId) (ho : o.op = .call { callee := .value (.func f), args := xs.toArray, argTypes := ats })
    (vs : List Value) (hv : xs.map a.eval = vs) (hent : ∀ args w, (callFunc f args).run Tryd.prog w = .ok (.enter f args) w)
    (R : Value → World → Prop) (hc : Calls Tryd.prog f vs.toArray w fun e w' => ∃ v, e = .returned v ∧ R v w') (hK : ∀ v w', R v w' → K (a.put o.dst v) w') :
    if Region.wanted o (yielded ops a.tmps) = true then Oper.wp Tryd.prog o a w K Q else E := by
  have hw : Region.wanted o (yielded ops a.tmps) = true := by simp [Region.wanted, hg]
  rw [if_pos hw]
  obtain ⟨dst, op, ty, pos, after, guard⟩ := o
  simp only at ho
  subst ho
  unfold Oper.wp
  rw [execOp_call_go, List.map_toArray, hv, hent, Oper.upon_enter, show (#[] ++ vs.toArray ++ #[] : Array Value) = vs.toArray by simp]
  refine hc.mono ?_
  rintro e w' ⟨v, rfl, h⟩
  exact hK v w' h
set_option maxRecDepth 100000 in
/-- Take an operation first, its slot written out. -/
theorem take_dst {P : Program} {ops : Array Oper} {Q : Exit → Act → World → Prop} {md : Region.Mode} {S : World → Prop} {i d : Nat} {oi : Oper} {v : Value} {fuel : Nat} {listed : Array Bool} {a : Act} {w : World} (hi : ops[i]? = some oi) (hd : oi.dst = some d)
    (hs : Region.noSelect ops = true) (hf : Region.free md ops listed i = true) (hr : (Region.ready md ops listed).contains i = true)
    (hQ : ∀ c a w, Q (.panic c) (a.put (some d) v) w → Q (.panic c) a w) (hy : YieldsIf P ops S oi v a) (hS : S w)
    (h : wpAnyH P md ops Q S fuel (listed.setIfInBounds i true) (a.put (some d) v) w) : wpAnyH P md ops Q S (fuel + 1) listed a w :=
  wpAnyH_take hi hs hf hr (by rw [hd]; exact hQ) hy hS (by rw [hd]; exact h)
set_option maxRecDepth 100000 in
/-- A call with a contract as the one operation that comes up, its slot written out. -/
theorem step_calls_dst {ops : Array Oper} {o : Oper} {a : Act} {w : World} {K : Act → World → Prop} {Q : Exit → Act → World → Prop} {E : Prop}
    (hg : o.guard = none) (d : Nat) (hd : o.dst = some d) (f : FuncId) (xs : List Operand) (ats : Array TypeId) (ho : o.op = .call { callee := .value (.func f), args := xs.toArray, argTypes := ats })
    (vs : List Value) (hv : xs.map a.eval = vs) (hent : ∀ args w, (callFunc f args).run Tryd.prog w = .ok (.enter f args) w)
    (R : Value → World → Prop) (hc : Calls Tryd.prog f vs.toArray w fun e w' => ∃ v, e = .returned v ∧ R v w') (hK : ∀ v w', R v w' → K (a.put (some d) v) w') :
    if Region.wanted o (yielded ops a.tmps) = true then Oper.wp Tryd.prog o a w K Q else E :=
  step_calls hg f xs ats ho vs hv hent R hc (by rw [hd]; exact hK)
set_option maxRecDepth 100000 in
/-- The same for a call behind a guard that lets it by. -/
theorem step_calls_on {ops : Array Oper} {o : Oper} {a : Act} {w : World} {K : Act → World → Prop} {Q : Exit → Act → World → Prop} {E : Prop}
    (hw : Region.wanted o (yielded ops a.tmps) = true) (d : Nat) (hd : o.dst = some d) (f : FuncId) (xs : List Operand) (ats : Array TypeId) (ho : o.op = .call { callee := .value (.func f), args := xs.toArray, argTypes := ats })
    (vs : List Value) (hv : xs.map a.eval = vs) (hent : ∀ args w, (callFunc f args).run Tryd.prog w = .ok (.enter f args) w)
    (R : Value → World → Prop) (hc : Calls Tryd.prog f vs.toArray w fun e w' => ∃ v, e = .returned v ∧ R v w') (hK : ∀ v w', R v w' → K (a.put (some d) v) w') :
    if Region.wanted o (yielded ops a.tmps) = true then Oper.wp Tryd.prog o a w K Q else E := by
  rw [if_pos hw]
  obtain ⟨dst, op, ty, pos, after, guard⟩ := o
  simp only at ho hd
  subst ho hd
  unfold Oper.wp
  rw [execOp_call_go, List.map_toArray, hv, hent, Oper.upon_enter, show (#[] ++ vs.toArray ++ #[] : Array Value) = vs.toArray by simp]
  refine hc.mono ?_
  rintro e w' ⟨v, rfl, h⟩
  exact hK v w' h
set_option maxRecDepth 100000 in
/-- An operation that is no call, and that turns the world, as the one that comes up. -/
theorem step_run {ops : Array Oper} {o : Oper} {a : Act} {w : World} {K : Act → World → Prop} {Q : Exit → Act → World → Prop} {E : Prop}
    (hg : o.guard = none) (d : Nat) (hd : o.dst = some d) (v : Value) (w' : World) (hr : (execOp a.eval o).run Tryd.prog w = .ok (.value v) w') (hK : K (a.put (some d) v) w') :
    if Region.wanted o (yielded ops a.tmps) = true then Oper.wp Tryd.prog o a w K Q else E := by
  have hw : Region.wanted o (yielded ops a.tmps) = true := by simp [Region.wanted, hg]
  rw [if_pos hw]
  unfold Oper.wp
  rw [hr, Oper.upon_value, hd]
  exact hK
set_option maxRecDepth 100000 in
/-- An append onto a row that the call owns, as one step of such a region, and where the new slice lies. -/
theorem step_append_at {ops : Array Oper} {o : Oper} {a : Act} {w : World} {K : Act → World → Prop} {Q : Exit → Act → World → Prop} {E : Prop}
    (hg : o.guard = none) (s x : Operand) (t : TypeId) (ho : o.op = .call { callee := .builtin .append, args := #[s, x], argTypes := #[t, t] })
    (base : Nat) (e : TypeId) (i : TypeInfo) (z : Value) (size bytes : Nat) (ht : Tryd.prog.underlying t = some (.slice e)) (hi : Tryd.prog.info? e = some i) (hz : i.zero = some z)
    (hsize : i.size = size) (hby : i.bytes = bytes) (hzs : z.cells.size = size) (hsz : 0 < size)
    (v : Value) (n : Nat) (xs : List Value) (hs : a.eval s = v) (hown : w.ownsRow base e size v n xs)
    (ad : Addr) (m c : Nat) (news : List Value) (hx : a.eval x = .slice (some ad) m c) (hl : news.length = m * size) (hnews : ∀ j u, news[j]? = some u → w.cell? (ad.add j) = some u) (h1 : ∀ u ∈ news, u.oneCell' = true)
    (h63 : n + m ≤ maxLen) (hbytes : (n + m) * bytes ≤ 140737488355328) (hbase : base ≤ w.heap.size)
    (hK : ∀ v' w', w'.ownsRow base e size v' (n + m) (xs ++ news) → Grew w v w' v' → K (a.put o.dst v') w') :
    if Region.wanted o (yielded ops a.tmps) = true then Oper.wp Tryd.prog o a w K Q else E := by
  have hw : Region.wanted o (yielded ops a.tmps) = true := by simp [Region.wanted, hg]
  rw [if_pos hw]
  obtain ⟨v', w', hr, h2, h3, _, h5⟩ := run_append_own_at (P := Tryd.prog) w base t o.type e i z size bytes ht hi hz hsize hby hzs hsz v n xs hown ad m c news hl hnews h1 h63 hbytes hbase
  unfold Oper.wp execOp
  simp only [ho, resolve, invoke, builtin, Sem.run_bind, Sem.run_pure, Result.andThen_ok, List.map_toArray, List.map_cons, List.map_nil, hs, hx, hr]
  exact hK v' w' h2 (Grew.of h3 h5)
end Go.Proofs.YtbehmcflllleaaaDoor

namespace Go.Proofs.YtbehmcflllleaaaDoor
open Go.RowKit

set_option maxRecDepth 100000 in
set_option maxHeartbeats 1000000 in
theorem certOf_any (ls : List Ct) (sa : Option Addr) (n cap : Nat) (au rd : Int) (w : World) (hn : n = ls.length) (hk2 : n ≤ 3000000000000000000) (hp : CertsAt w sa ls) :
    Calls Tryd.prog 31 #[.slice sa n cap, .int .i64 au, .int .i64 rd] w fun e w' => e = .returned (.int .i64 (cOf (cvs ls) au rd)) ∧ w = w' := by
  subst hn
  go_enter Tryd.func31, Tryd.ntmps31
  go_wp2_with fail
  go_loop [7] (fun i => ∃ m : Nat, m ≤ ls.length ∧ i = .int .i64 m ∧ fidx (cHit (cvs ls) au rd) m = -1) (fun i => ls.length - (intOf i).toNat)
  case atStart => exact ⟨0, Nat.zero_le _, rfl, rfl⟩
  case round =>
    obtain ⟨m, hm, rfl, hno⟩ := hrel
    by_cases hlt : m < ls.length
    · obtain ⟨sb, so, rfl, c0, c1, _, _, _⟩ := hp.at m hlt
      have hg := cHit_get ls au rd m hlt
      have hltI : (m : Int) < ls.length := by omega
      have Hf : Hid ((ls[m]).au = au ∧ (ls[m]).rd = rd → cOf (cvs ls) au rd = m) := by
        show _ → _
        intro h
        exact fidx_hit _ m _ hno (by rw [hg]; simpa using h) (by rw [cvs_length]; exact hlt)
      have Hn : Hid (¬ ((ls[m]).au = au ∧ (ls[m]).rd = rd) → fidx (cHit (cvs ls) au rd) (m + 1) = -1) := by
        show _ → _
        intro h
        exact fidx_step _ m hno (by rw [hg]; simpa using h)
      clear hno hg
      generalize ls[m] = s at *
      by_cases h : s.au = au ∧ s.rd = rd
      · obtain ⟨rfl, rfl⟩ := h
        have He : Hid (cOf (cvs ls) s.au s.rd = m) := Hf.out ⟨rfl, rfl⟩
        clear Hf Hn
        go_wp2_with fail
        all_goals
          go_ret
          exact ⟨ret_int He.out.symm, rfl⟩
      · have He : Hid (fidx (cHit (cvs ls) au rd) (m + 1) = -1) := Hn.out h
        clear Hf Hn
        go_wp2_with fail
        all_goals
          go_round
          case rel => exact ⟨m + 1, by omega, by go_num, He.out⟩
          case measure => simp [intOf]; omega
    · obtain rfl : m = ls.length := by omega
      have He : Hid (cOf (cvs ls) au rd = -1) := by
        show fidx _ _ = -1
        rw [cvs_length]; exact hno
      clear hno
      go_wp2_with fail
      go_ret
      exact ⟨ret_int He.out.symm, rfl⟩
set_option maxRecDepth 100000 in
theorem digs_get {l : List CV} {ds : List Part} (hS : bss ds = l.map CV.d) (k : Nat) (h : k < ds.length) : (cvAt l k).d = (ds[k]).bs := by
  have hl := congrArg List.length hS
  simp only [bss, List.length_map] at hl
  have h' : k < l.length := by omega
  have e : (bss ds)[k]? = (l.map CV.d)[k]? := by rw [hS]
  simp only [bss, List.getElem?_map, List.getElem?_eq_getElem h, List.getElem?_eq_getElem h', Option.map_some, Option.some.injEq] at e
  rw [e]
  simp [cvAt, h']
set_option maxRecDepth 100000 in
theorem digs_length {l : List CV} {ds : List Part} (hS : bss ds = l.map CV.d) : ds.length = l.length := by
  have hl := congrArg List.length hS
  simpa [bss] using hl
set_option maxRecDepth 100000 in
set_option maxHeartbeats 1000000 in
theorem placeOf_any (l : List CV) (ds : List Part) (da : Option Addr) (n cap : Nat) (bs : List Int) (ka : Option Addr) (kn kc : Nat) (w : World) (hn : n = ds.length) (hS : bss ds = l.map CV.d) (hk2 : n ≤ 3000000000000000000) (hd : PartsAt w da ds) (hkn : kn = bs.length) (hk : SliceAt w ka kc bs) :
    Calls Tryd.prog 35 #[.slice da n cap, .slice ka kn kc] w fun e w' => e = .returned (.int .i64 (pOf l bs)) ∧ w = w' := by
  subst hn hkn
  have HL : Hid (ds.length = l.length) := digs_length hS
  have HS : Hid (bss ds = l.map CV.d) := hS
  clear hS
  go_enter Tryd.func35, Tryd.ntmps35
  go_wp2_with fail
  go_loop [5] (fun i => ∃ m : Nat, m ≤ ds.length ∧ i = .int .i64 m ∧ fidx (dHit l bs) m = -1) (fun i => ds.length - (intOf i).toNat)
  case atStart => exact ⟨0, Nat.zero_le _, rfl, rfl⟩
  case round =>
    obtain ⟨m, hm, rfl, hno⟩ := hrel
    by_cases hlt : m < ds.length
    · rcases hd.cells with hc | ⟨sb, so, rfl, hc⟩
      · subst hc; simp at hlt
      have ck := hc m hlt
      have hx := hd.each (ds[m]) (List.getElem_mem hlt)
      have hltI : (m : Int) < ds.length := by omega
      have hg := digs_get HS.out m hlt
      have Hf : Hid (txL (ds[m]).bs = txL bs → pOf l bs = m) := by
        show _ → _
        intro h
        exact fidx_hit _ m _ hno (by rw [dHit, hg]; simpa using h) (by rw [← HL.out]; exact hlt)
      have Hn : Hid (¬ txL (ds[m]).bs = txL bs → fidx (dHit l bs) (m + 1) = -1) := by
        show _ → _
        intro h
        exact fidx_step _ m hno (by rw [dHit, hg]; simpa using h)
      clear hno hg hc
      generalize ds[m] = p at *
      go_wp2_with fail
      refine (sameBytes_any p.bs bs p.sa ka _ _ p.cap kc w rfl rfl hx hk).mono ?_
      rintro e w1 ⟨he, rfl⟩
      subst he
      dsimp only
      by_cases h : txL p.bs = txL bs
      · have He : Hid (pOf l bs = m) := Hf.out h
        rw [decide_eq_true h]
        clear Hf Hn h
        go_wp2_with fail
        go_ret
        exact ⟨ret_int He.out.symm, rfl⟩
      · have He : Hid (fidx (dHit l bs) (m + 1) = -1) := Hn.out h
        rw [decide_eq_false h]
        clear Hf Hn h
        go_wp2_with fail
        go_round
        case rel => exact ⟨m + 1, by omega, by go_num, He.out⟩
        case measure => simp [intOf]; omega
    · obtain rfl : m = ds.length := by omega
      have He : Hid (pOf l bs = -1) := by
        show fidx _ _ = -1
        rw [← HL.out]; exact hno
      clear hno
      go_wp2_with fail
      go_ret
      exact ⟨ret_int He.out.symm, rfl⟩
end Go.Proofs.YtbehmcflllleaaaDoor
