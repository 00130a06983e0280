/- stock: Insert. -/
import Derived.Test.YtbmodfegcmaieaaDoorGCtFar
import Derived.Test.YtbmodfegcmaieaaDoorGClone
import Derived.Test.YtbmodfegcmaieaaDoorGIv
import Derived.OwnWalk
import Derived.Deep.RegionLaw
namespace Go.Proofs.YtbmodfegcmaieaaDoor
open Go.RowKit

set_option maxRecDepth 100000 in
set_option maxHeartbeats 1000000 in
theorem cloneDigests_any (ps : List Part) (sa : Option Addr) (n cap : Nat) (w : World) (hn : n = ps.length) (hl4 : ps.length ≤ 1000) (hre : ∀ p ∈ ps, p.bs.length ≤ 140737488355328) (hp : PartsAt w sa ps) :
    Calls Tryd.prog 103 #[.slice sa n cap] w fun e w' => ∃ ra rc qs, e = .returned (.slice ra ps.length rc) ∧ Same qs ps ∧ ListAt w' ra rc qs ∧ Below w.heap.size w w' ∧ Fresh w.heap.size ra qs ∧ (∀ sb so, ra = some ⟨sb, so, none⟩ → sb < w'.heap.size) := by
  subst hn
  obtain ⟨i, hi, hz0, hz1, hz2⟩ := info_parts infoBs
  go_enter Tryd.func103, Tryd.ntmps103
  go_wp2_with fail
  go_loopw [8, 3] (fun j v wr => ∃ (k : Nat) (qs : List Part), k ≤ ps.length ∧ j = .int .i64 k ∧ Same qs (ps.take k) ∧ wr.ownsRow w.heap.size 46 1 v k (pv qs) ∧ Apart wr w.heap.size v qs ∧ Below w.heap.size w wr) (fun j _ _ => ps.length - (intOf j).toNat)
  case atStart => exact ⟨0, [], Nat.zero_le _, rfl, by simp [Same], World.ownsRow_nil _ _ _ _, (fun p hp => by cases hp), Below.refl _ _⟩
  case round =>
    obtain ⟨k, qs, hk, rfl, hS, ho, hap, hb⟩ := hrel
    by_cases hlt : k < ps.length
    · have hpw := hp.below hb
      obtain ⟨sb, so, rfl, hc⟩ : ∃ sb so, sa = some ⟨sb, so, none⟩ ∧ ∀ j (h : j < ps.length), wr.cell? ⟨sb, so + j, none⟩ = some (.slice (ps[j]).sa (ps[j]).bs.length (ps[j]).cap) := by
        rcases hpw.cells with h | h
        · rw [h] at hlt; simp at hlt
        · exact h
      have ck := hc k hlt
      have hx := hpw.each (ps[k]) (List.getElem_mem hlt)
      have hxr := hre (ps[k]) (List.getElem_mem hlt)
      have hst : Hid (ps.take (k + 1) = ps.take k ++ [ps[k]]) := List.take_succ_eq_append_getElem hlt
      have hltI : (k : Int) < ps.length := by omega
      clear hc
      generalize ps[k] = p at *
      go_wp2_with fail
      refine (clone_any p.bs p.sa _ p.cap wr rfl hx hxr).mono ?_
      rintro e w2 ⟨ra, rc, he, hs2, hrow, hb2⟩
      subst he
      dsimp only
      have hob := owns_keep ho hb2
      have hB2 := hb.trans (hb2.mono hb.size)
      go_wp2_with (at_builtin; refine wpList_append_own_at _ rfl _ _ 44 rfl w.heap.size 46 i (.slice none 0 0) 1 24 Tryd.underlying44 hi hz0 hz1 hz2 rfl (by decide) _ k _ rfl (World.ownsRow.alloc hob _) ⟨w2.heap.size, 0, none⟩ 1 1 [.slice ra p.bs.length rc] rfl rfl (cells_new _ _ _) (by intro u hu; simp at hu; subst hu; rfl) (by unfold maxLen; omega) (by omega) (le_alloc hB2.size _) ?_; intro v1 w3 ho3 hg3 _ hat)
      have G := Grew.of hg3 hat
      have hap3 := hap.more_at (q := ⟨ra, rc, p.bs⟩) hb.size ho hb2 hrow hs2 G
      have hB3 := Below.grown (hB2.alloc hB2.size _) hg3 (le_alloc hB2.size _) (fun q e => (hob.lt q e).1)
      go_wp2_with fail
      go_roundw
      case rel =>
        have hR : ∃ (k' : Nat) (qs' : List Part), k' ≤ ps.length ∧ (Value.int .i64 ((k : Int) + 1)) = .int .i64 k' ∧ Same qs' (ps.take k') ∧ w3.ownsRow w.heap.size 46 1 v1 k' (pv qs') ∧ Apart w3 w.heap.size v1 qs' ∧ Below w.heap.size w w3 :=
          ⟨k + 1, qs ++ [⟨ra, rc, p.bs⟩], by omega, by go_num, by rw [hst.out]; simp only [Same, List.map_append] at hS ⊢; rw [hS]; rfl, by simpa [pv, Part.val] using ho3, hap3, hB3⟩
        first | exact hR | ((repeat apply Exists.intro); exact ⟨hR, rfl⟩)
      case measure => simp [intOf]; omega
    · obtain rfl : k = ps.length := by omega
      rw [List.take_of_length_le (Nat.le_refl _)] at hS
      obtain ⟨ra, rc, hv, hl, hL, hfr⟩ := listAt_of_owns ho hap
      subst hv
      go_wp2_with fail
      go_ret
      exact ⟨ra, rc, qs, rfl, hS, hL (by omega), hb, hfr, fun sb so e => by subst e; exact (ho.lt sb rfl).2⟩
set_option maxRecDepth 100000 in
theorem infoIntC : (Tryd.prog.info? 3).map (fun i => (i.zero, i.size, i.bytes)) = some (some (.int .i64 0), 1, 8) := by kernel_rfl
set_option maxRecDepth 100000 in
set_option maxHeartbeats 400000 in
theorem cloneInts_any (vl : List Int) (va : Option Addr) (n cap : Nat) (w : World) (hn : n = vl.length) (hl : vl.length ≤ 1000) (hs : IntsAt w va vl) :
    Calls Tryd.prog 104 #[.slice va n cap] w fun e w' => ∃ ra rc, e = .returned (.slice ra vl.length rc) ∧ IntsAt w' ra vl ∧ (∀ sb so, ra = some ⟨sb, so, none⟩ → w.heap.size ≤ sb ∧ sb < w'.heap.size) ∧ Below w.heap.size w w' := by
  subst hn
  obtain ⟨i, hi, hz0, hz1, hz2⟩ := info_parts infoIntC
  cases va with
  | none =>
    have hb : vl = [] := by
      rcases hs.cells with h | ⟨_, _, h, _⟩
      · exact h
      · cases h
    subst hb
    have he : ∀ w : World, (binOp .eql 61 (.slice none 0 cap) (.slice none 0 0)).run Tryd.prog w = .ok (.bool true) w := fun _ => rfl
    go_enter Tryd.func104, Tryd.ntmps104
    go_wp2_with fail
    go_ret
    exact ⟨none, 0, rfl, ⟨.inl rfl⟩, (fun _ _ e => by cases e), Below.refl _ _⟩
  | some ad =>
    have he : ∀ w : World, (binOp .eql 61 (.slice (some ad) vl.length cap) (.slice none 0 0)).run Tryd.prog w = .ok (.bool false) w := fun _ => rfl
    have hA : Below w.heap.size w (w.alloc (.cells #[] 3)) := (Below.refl _ _).alloc (Nat.le_refl _) _
    have hcells : ∀ j u, (iv vl)[j]? = some u → (w.alloc (.cells #[] 3)).cell? (ad.add j) = some u := fun j u hu => by
      have hj : j < vl.length := by
        rcases Nat.lt_or_ge j vl.length with h | h
        · exact h
        · rw [List.getElem?_eq_none (by rw [iv_length]; exact h)] at hu; cases hu
      rcases (hs.below hA).cells with h | ⟨sb, so, e, hc⟩
      · rw [h] at hj; simp at hj
      · cases e
        have e2 := hc j hj
        simp only [iv, List.getElem?_map, List.getElem?_eq_getElem hj, Option.map_some, Option.some.injEq] at hu
        subst hu
        have e3 : (⟨sb, so, none⟩ : Addr).add j = ⟨sb, so + j, none⟩ := by
          simp only [Addr.add]
          split
          · rename_i h
            subst h
            rfl
          · rfl
        rw [e3, e2]
        simp [List.getD, hj]
    go_enter Tryd.func104, Tryd.ntmps104
    go_wp2_with (at_builtin; refine wpList_append_own_at _ rfl _ _ 61 rfl w.heap.size 3 i (.int .i64 0) 1 8 Tryd.underlying61 hi hz0 hz1 hz2 rfl (by decide) _ 0 [] rfl (World.ownsRow_made _ _ 0 (Nat.le_refl _) (by decide) rfl) ad vl.length cap (iv vl) rfl (by simp [iv]) hcells (iv_one vl) (by unfold maxLen; omega) (by omega) hA.size ?_; intro v1 w1 ho1 hg1 _ hat)
    rw [List.nil_append, Nat.zero_add] at ho1
    obtain ⟨ra, rc, hv, _, hI, hfr⟩ := intsAt_of_owns ho1
    have hlt := ho1.lt
    subst hv
    go_ret
    refine ⟨ra, rc, rfl, hI, (fun sb so e => hlt sb (by rw [e]; rfl)), ?_⟩
    exact Below.grown hA hg1 hA.size (fun q e => (World.ownsRow.lt (World.ownsRow_made (e := 3) (size := 1) w #[] 0 (Nat.le_refl _) (by decide) rfl) q e).1)
end Go.Proofs.YtbmodfegcmaieaaDoor

namespace Go.Proofs.YtbmodfegcmaieaaDoor
open Go.RowKit

set_option maxRecDepth 100000 in
set_option maxHeartbeats 1000000 in
theorem cloneCert_any (c : Ct) (w : World) (hc : CtAt w c) (h1 : c.bl.length ≤ 1000) (h2 : c.pl.length ≤ 1000) (h3 : c.vl.length ≤ 1000) (h4 : ∀ p ∈ c.bl, p.bs.length ≤ 140737488355328) (h5 : ∀ p ∈ c.pl, p.bs.length ≤ 140737488355328) :
    Calls Tryd.prog 80 #[.agg #[.int .i64 c.au, .int .i64 c.rd, .slice c.ba c.bl.length c.bc, .slice c.pa c.pl.length c.pc, .slice c.va c.vl.length c.vc]] w fun e w' => ∃ k : Ct, e = .returned (.agg #[.int .i64 k.au, .int .i64 k.rd, .slice k.ba k.bl.length k.bc, .slice k.pa k.pl.length k.pc, .slice k.va k.vl.length k.vc]) ∧ k.v = c.v ∧ CtAt w' k ∧ (∀ b, CtIn k b → w.heap.size ≤ b) ∧ Below w.heap.size w w' := by
  have HB : Hid (∀ p ∈ c.bl, p.bs.length ≤ 140737488355328) := h4
  have HP : Hid (∀ p ∈ c.pl, p.bs.length ≤ 140737488355328) := h5
  clear h4 h5
  have hA : Below w.heap.size w ((w.alloc (.cells #[.int .i64 c.au, .int .i64 c.rd, .slice c.ba c.bl.length c.bc, .slice c.pa c.pl.length c.pc, .slice c.va c.vl.length c.vc] 63)).alloc (.cells #[.int .i64 0, .int .i64 0, .slice none 0 0, .slice none 0 0, .slice none 0 0] 63)) := ((Below.refl _ _).alloc (Nat.le_refl _) _).alloc (by rw [size_alloc]; omega) _
  have q0 := heap_alloc2_old w (.cells #[.int .i64 c.au, .int .i64 c.rd, .slice c.ba c.bl.length c.bc, .slice c.pa c.pl.length c.pc, .slice c.va c.vl.length c.vc] 63) (.cells #[.int .i64 0, .int .i64 0, .slice none 0 0, .slice none 0 0, .slice none 0 0] 63)
  have q1 : ((w.alloc (.cells #[.int .i64 c.au, .int .i64 c.rd, .slice c.ba c.bl.length c.bc, .slice c.pa c.pl.length c.pc, .slice c.va c.vl.length c.vc] 63)).alloc (.cells #[.int .i64 0, .int .i64 0, .slice none 0 0, .slice none 0 0, .slice none 0 0] 63)).heap[w.heap.size + 1]? = some (.cells #[.int .i64 0, .int .i64 0, .slice none 0 0, .slice none 0 0, .slice none 0 0] 63 (0, 0)) := by
    have := heap_alloc_new (w.alloc (.cells #[.int .i64 c.au, .int .i64 c.rd, .slice c.ba c.bl.length c.bc, .slice c.pa c.pl.length c.pc, .slice c.va c.vl.length c.vc] 63)) (.cells #[.int .i64 0, .int .i64 0, .slice none 0 0, .slice none 0 0, .slice none 0 0] 63)
    rw [size_alloc] at this; exact this
  go_enter Tryd.func80, Tryd.ntmps80
  go_wp2_with fail
  generalize (w.alloc (.cells #[.int .i64 c.au, .int .i64 c.rd, .slice c.ba c.bl.length c.bc, .slice c.pa c.pl.length c.pc, .slice c.va c.vl.length c.vc] 63)).alloc (.cells #[.int .i64 0, .int .i64 0, .slice none 0 0, .slice none 0 0, .slice none 0 0] 63) = W0 at hA q0 q1 ⊢
  have l1 : w.heap.size + 1 < W0.heap.size := lt_of_heap q1
  have l0 : w.heap.size < W0.heap.size := lt_of_heap q0
  have c0 := hc.below hA
  refine (cloneDigests_any c.bl c.ba _ c.bc W0 rfl h1 HB.out c0.hat.lb.parts).mono ?_
  rintro e w1 ⟨xa, xc, xs, he, hS1, hL1, hb1, hF1, hU1⟩
  subst he
  dsimp only
  have r0 := (hb1.block _ l0).trans q0
  have r1 := (hb1.block _ l1).trans q1
  have e2 := cells_at r0 2 _ rfl
  have f2 := frozen_at r0 2
  have e3 := cells_at r0 3 _ rfl
  have hB1 := hA.trans (hb1.mono hA.size)
  have s0 := heap_setCell_same _ _ 2 _ _ (.slice xa c.bl.length xc) r0
  have s1 := heap_far (b := w.heap.size) (j := 2) (v := .slice xa c.bl.length xc) r1 (Nat.succ_ne_self _)
  have hX1 := hB1.setCell (p := ⟨w.heap.size, 2, none⟩) (Nat.le_refl _) (.slice xa c.bl.length xc)
  have hL1 := hL1.setCell hF1 w.heap.size 2 (.slice xa c.bl.length xc) l0
  have hz1 : W0.heap.size ≤ (w1.setCell ⟨w.heap.size, 2, none⟩ (.slice xa c.bl.length xc)).heap.size := by simpa using hb1.size
  have hU1' : ∀ sb so, xa = some ⟨sb, so, none⟩ → sb < (w1.setCell ⟨w.heap.size, 2, none⟩ (.slice xa c.bl.length xc)).heap.size := fun sb so e => by simpa using hU1 sb so e
  go_wp2_with fail
  generalize w1.setCell ⟨w.heap.size, 2, none⟩ (.slice xa c.bl.length xc) = X1 at s0 s1 hX1 hL1 hz1 hU1' ⊢
  have s0' : X1.heap[w.heap.size]? = some (.cells #[.int .i64 c.au, .int .i64 c.rd, .slice xa c.bl.length xc, .slice c.pa c.pl.length c.pc, .slice c.va c.vl.length c.vc] 63 (0, 0)) := by simpa using s0
  clear s0 e2 f2 e3 r0 r1
  have c1 := hc.below hX1
  refine (cloneDigests_any c.pl c.pa _ c.pc X1 rfl h2 HP.out c1.hat.lp.parts).mono ?_
  rintro e w2 ⟨ya, yc, ys, he, hS2, hL2, hb2, hF2, hU2⟩
  subst he
  dsimp only
  have t0 := (hb2.block _ (lt_of_heap s0')).trans s0'
  have t1 := (hb2.block _ (lt_of_heap s1)).trans s1
  have e3 := cells_at t0 3 _ rfl
  have f3 := frozen_at t0 3
  have e4 := cells_at t0 4 _ rfl
  have hB2 := hX1.trans (hb2.mono hX1.size)
  have u0 := heap_setCell_same _ _ 3 _ _ (.slice ya c.pl.length yc) t0
  have u1 := heap_far (b := w.heap.size) (j := 3) (v := .slice ya c.pl.length yc) t1 (Nat.succ_ne_self _)
  have hX2 := hB2.setCell (p := ⟨w.heap.size, 3, none⟩) (Nat.le_refl _) (.slice ya c.pl.length yc)
  have hF2' : Fresh W0.heap.size ya ys := ⟨fun sb so e => Nat.le_trans hz1 (hF2.row sb so e), fun p hp sb so e => Nat.le_trans hz1 (hF2.each p hp sb so e)⟩
  have hL1 := (hL1.below hb2).setCell hF1 w.heap.size 3 (.slice ya c.pl.length yc) l0
  have hL2 := hL2.setCell hF2' w.heap.size 3 (.slice ya c.pl.length yc) l0
  have hz2 : W0.heap.size ≤ (w2.setCell ⟨w.heap.size, 3, none⟩ (.slice ya c.pl.length yc)).heap.size := by have := hb2.size; simp; omega
  have hV1 : ∀ sb so, xa = some ⟨sb, so, none⟩ → sb < (w2.setCell ⟨w.heap.size, 3, none⟩ (.slice ya c.pl.length yc)).heap.size := fun sb so e => by have := hU1' sb so e; have := hb2.size; simp; omega
  have hV2 : ∀ sb so, ya = some ⟨sb, so, none⟩ → sb < (w2.setCell ⟨w.heap.size, 3, none⟩ (.slice ya c.pl.length yc)).heap.size := fun sb so e => by simpa using hU2 sb so e
  go_wp2_with fail
  generalize w2.setCell ⟨w.heap.size, 3, none⟩ (.slice ya c.pl.length yc) = X2 at u0 u1 hX2 hL1 hL2 hz2 hV1 hV2 ⊢
  have u0' : X2.heap[w.heap.size]? = some (.cells #[.int .i64 c.au, .int .i64 c.rd, .slice xa c.bl.length xc, .slice ya c.pl.length yc, .slice c.va c.vl.length c.vc] 63 (0, 0)) := by simpa using u0
  clear u0 e3 f3 e4 t0 t1 s0' s1
  have c2 := hc.below hX2
  refine (cloneInts_any c.vl c.va _ c.vc X2 rfl h3 c2.ints).mono ?_
  rintro e w3 ⟨za, zc, he, hZ, hF3, hb3⟩
  subst he
  dsimp only
  have v0 := (hb3.block _ (lt_of_heap u0')).trans u0'
  have v1 := (hb3.block _ (lt_of_heap u1)).trans u1
  have g0 := cells_at v0 0 _ rfl
  have g1 := cells_at v0 1 _ rfl
  have g2 := cells_at v0 2 _ rfl
  have g3 := cells_at v0 3 _ rfl
  have g4 := cells_at v0 4 _ rfl
  have gf4 := frozen_at v0 4
  have d0 := cells_at v1 0 _ rfl
  have d1 := cells_at v1 1 _ rfl
  have d2 := cells_at v1 2 _ rfl
  have d3 := cells_at v1 3 _ rfl
  have d4 := cells_at v1 4 _ rfl
  have f0 := frozen_at v1 0
  have f1 := frozen_at v1 1
  have f2 := frozen_at v1 2
  have f3 := frozen_at v1 3
  have f4 := frozen_at v1 4
  have hne : w.heap.size ≠ w.heap.size + 1 := by omega
  have hB3 := hX2.trans (hb3.mono hX2.size)
  have hLx := (hL1.below hb3).setCell hF1 w.heap.size 4 (.slice za c.vl.length zc) l0
  have hLy := (hL2.below hb3).setCell hF2' w.heap.size 4 (.slice za c.vl.length zc) l0
  have hzn0 : ∀ sb so, za = some ⟨sb, so, none⟩ → w.heap.size ≠ sb := fun sb so e => by have := (hF3 sb so e).1; omega
  have hzn1 : ∀ sb so, za = some ⟨sb, so, none⟩ → w.heap.size + 1 ≠ sb := fun sb so e => by have := (hF3 sb so e).1; omega
  have hZx := hZ.setCell w.heap.size 4 (.slice za c.vl.length zc) hzn0
  have hBx := hB3.setCell (p := ⟨w.heap.size, 4, none⟩) (Nat.le_refl _) (.slice za c.vl.length zc)
  have E1 : Hid (xs.length = c.bl.length) := hS1.length
  have E2 : Hid (ys.length = c.pl.length) := hS2.length
  have HV : Hid ((⟨c.au, c.rd, xa, xc, xs, ya, yc, ys, za, zc, c.vl⟩ : Ct).v = c.v) := by
    show Ct.v _ = _
    simp only [Ct.v]
    rw [bss_same hS1, bss_same hS2]
  go_wp2_with fail
  refine bodyPost_ret (v := .agg #[.int .i64 c.au, .int .i64 c.rd, .slice xa c.bl.length xc, .slice ya c.pl.length yc, .slice za c.vl.length zc]) (by simp [results, Tryd.results80, go_sem, d0, d1, d2, d3, d4]) rfl ⟨⟨c.au, c.rd, xa, xc, xs, ya, yc, ys, za, zc, c.vl⟩, by rw [E1.out, E2.out], HV.out, ⟨⟨?_, ?_, ?_, ?_⟩, ?_, hc.vle⟩, ?_, ?_⟩
  · exact ((((hLx.setCell hF1 _ _ _ l1).setCell hF1 _ _ _ l1).setCell hF1 _ _ _ l1).setCell hF1 _ _ _ l1).setCell hF1 _ _ _ l1
  · exact ((((hLy.setCell hF2' _ _ _ l1).setCell hF2' _ _ _ l1).setCell hF2' _ _ _ l1).setCell hF2' _ _ _ l1).setCell hF2' _ _ _ l1
  · intro sb so e
    have := hV1 sb so e
    have := hb3.size
    simp; omega
  · intro sb so e
    have := hV2 sb so e
    have := hb3.size
    simp; omega
  · exact ((((hZx.setCell _ _ _ hzn1).setCell _ _ _ hzn1).setCell _ _ _ hzn1).setCell _ _ _ hzn1).setCell _ _ _ hzn1
  · rintro b (⟨so, e⟩ | ⟨so, e⟩ | ⟨p, hp, _, so, e⟩ | ⟨_, so, e⟩)
    · have := hF1.row b so e; omega
    · have := hF2'.row b so e; omega
    · rcases List.mem_append.1 hp with hp | hp
      · have := hF1.each p hp b so e; omega
      · have := hF2'.each p hp b so e; omega
    · have := (hF3 b so e).1; omega
  · exact ((((hBx.setCell (Nat.le_succ _) _).setCell (Nat.le_succ _) _).setCell (Nat.le_succ _) _).setCell (Nat.le_succ _) _).setCell (Nat.le_succ _) _
end Go.Proofs.YtbmodfegcmaieaaDoor

namespace Go.Proofs.YtbmodfegcmaieaaDoor
open Go.RowKit

/-- What Insert does. -/
structure InsS (w w' : World) (e : Ending) (B s : Nat) (ls : List Ct) (c : CV) : Prop where
  told : e = .returned (.int .i64 (stkE (cvs ls) c))
  below : Below B w w'
  own : (stkE (cvs ls) c ≠ 0 ∧ StkOwn w' B s ls) ∨ (stkE (cvs ls) c = 0 ∧ ∃ x : Ct, x.v = c ∧ StkOwn w' B s (ls ++ [x]))
set_option maxRecDepth 100000 in
set_option maxHeartbeats 2000000 in
theorem insert_stk (ls : List Ct) (B s : Nat) (c : Ct) (w : World) (hs : StkOwn w B s ls) (hB : B ≤ w.heap.size) (hc : CtAt w c) (hT : Tabs w) :
    Calls Tryd.prog 78 #[.pointer (some ⟨s, 0, none⟩), .agg #[.int .i64 c.au, .int .i64 c.rd, .slice c.ba c.bl.length c.bc, .slice c.pa c.pl.length c.pc, .slice c.va c.vl.length c.vc]] w fun e w' => InsS w w' e B s ls c.v := by
  obtain ⟨vc, vd, ds, hk, hsame, hsm⟩ := hs.out
  obtain ⟨ca, cc, da, dc, e1, e2, hat⟩ := hk.at hsame hsm
  subst e1 e2
  obtain ⟨i, hi, hz0, hz1, hz2⟩ := info_parts infoCert
  obtain ⟨i', hi', hz0', hz1', hz2'⟩ := info_parts infoBs
  have HSM : Hid _ := hsame
  have HDL : Hid (ds.length = ls.length) := hat.at'.len
  have hA := (Below.refl w.heap.size w).alloc (Nat.le_refl _) (.cells #[.int .i64 c.au, .int .i64 c.rd, .slice c.ba c.bl.length c.bc, .slice c.pa c.pl.length c.pc, .slice c.va c.vl.length c.vc] 63)
  have r0 := heap_alloc_new w (.cells #[.int .i64 c.au, .int .i64 c.rd, .slice c.ba c.bl.length c.bc, .slice c.pa c.pl.length c.pc, .slice c.va c.vl.length c.vc] 63)
  go_enter Tryd.func78, Tryd.ntmps78
  go_wp2_with fail
  generalize w.alloc (.cells #[.int .i64 c.au, .int .i64 c.rd, .slice c.ba c.bl.length c.bc, .slice c.pa c.pl.length c.pc, .slice c.va c.vl.length c.vc] 63) = W0 at hA r0 ⊢
  refine (takes_any ls s ca cc da dc ds c W0 (hat.below hA) (hc.below hA)).mono ?_
  rintro e w1 ⟨he, hb1⟩
  subst he
  dsimp only
  have hB1 := hA.trans (hb1.mono hA.size)
  have r1 := (hb1.block _ (lt_of_heap r0)).trans r0
  have HOW : Hid (StkOwn w1 B s ls) := hs.below hB1
  by_cases hx : stkE (cvs ls) c.v = 0
  · have HX : Hid _ := hx
    obtain ⟨f1, f2, f3⟩ := stkE_ok hx
    rw [cvs_length] at f3
    have hHF := certF_head (vl := c.vl) (by rw [Ct.f_v]; exact f1)
    have HDG := headerDigest_hat (hc.below hB1).hat hHF (hT.below hB1)
    obtain ⟨m1, m2, m3, m4, m5⟩ := ct_small f1
    have HCC : Hid (∀ W : World, Below w.heap.size w W → _) := fun W hW => cloneCert_any c W (hc.below hW) m1 m2 (by omega) m4 m5
    rw [hx]
    clear hx f1 f2 hHF m1 m2 m3 m4 m5 hsame hs
    have d0 := cells_at r1 0 _ rfl
    have d1 := cells_at r1 1 _ rfl
    have d2 := cells_at r1 2 _ rfl
    have d3 := cells_at r1 3 _ rfl
    go_wp2_with fail
    refine HDG.mono ?_
    rintro e w2 ⟨b, he, hge, hb2, hsD⟩
    subst he
    dsimp only
    clear HDG d0 d1 d2 d3
    have hB2 := hB1.trans (hb2.mono hB1.size)
    have r2 := (hb2.block _ (lt_of_heap r1)).trans r1
    have hk2 := hk.below hB2
    have hB2B : B ≤ w2.heap.size := Nat.le_trans hB hB2.size
    have hblt : b < w2.heap.size := slice_block_lt hsD (by intro h; have h9 := hDig_length c.au c.rd c.bl c.pl; rw [h] at h9; simp at h9) b 0 rfl
    have hslt : s < w.heap.size := lt_of_heap hk.box
    have hbw : w.heap.size ≤ b := Nat.le_trans hB1.size hge
    have HD32 : Hid ((hDig c.au c.rd c.bl c.pl).length = 32) := hDig_length _ _ _ _
    have HDV : Hid (hDig c.au c.rd c.bl c.pl = c.v.d) := c.d_v
    have hb2s := hk2.box
    have k0 := cells_at hb2s 0 _ rfl
    have k0d : w2.drew.cell? ⟨s, 0, none⟩ = some (.slice ca ls.length cc) := k0
    have e0 := cells_at r2 0 _ rfl
    have e1 := cells_at r2 1 _ rfl
    have e2 := cells_at r2 2 _ rfl
    have e3 := cells_at r2 3 _ rfl
    have e4 := cells_at r2 4 _ rfl
    have hcS : (Value.slice ca ls.length cc).ownBlock ≠ some s := row_box hk2.rc hb2s (by decide)
    have Hent : Hid _ := enters_of Tryd.func80 (by kernel_rfl) rfl
    go_wp2_with fail
    go_region_law (first
      | (refine step_calls rfl 80 _ _ rfl [.agg #[.int .i64 c.au, .int .i64 c.rd, .slice c.ba c.bl.length c.bc, .slice c.pa c.pl.length c.pc, .slice c.va c.vl.length c.vc]] rfl Hent.out (fun u w9 => ∃ x : Ct, u = .agg #[.int .i64 x.au, .int .i64 x.rd, .slice x.ba x.bl.length x.bc, .slice x.pa x.pl.length x.pc, .slice x.va x.vl.length x.vc] ∧ x.v = c.v ∧ CtAt w9 x ∧ (∀ b, CtIn x b → w2.heap.size ≤ b) ∧ Below w2.heap.size w2 w9) ((HCC.out w2.drew hB2.drew).mono (fun e w9 ⟨x, he, h1, h2, h3, h4⟩ => ⟨_, he, x, rfl, h1, h2, h3, below_drew h4⟩)) ?_; rintro u w4 ⟨x, rfl, hxv, hxa, hxin, hb4⟩; have hk4 := hk2.below hb4; have b4 := hk4.box; have m0 := cells_at b4 0 _ rfl; have m0a : (w4.alloc (.cells #[.int .i64 x.au, .int .i64 x.rd, .slice x.ba x.bl.length x.bc, .slice x.pa x.pl.length x.pc, .slice x.va x.vl.length x.vc] 63)).cell? ⟨s, 0, none⟩ = some (.slice ca ls.length cc) := cells_at (heap_keep b4) 0 _ rfl; have hw4 : B ≤ w4.heap.size := Nat.le_trans hB2B hb4.size)
      | (refine step_append_at rfl _ _ 49 rfl B 63 i (.agg #[.int .i64 0, .int .i64 0, .slice none 0 0, .slice none 0 0, .slice none 0 0]) 5 88 Tryd.underlying49 hi hz0 hz1 hz2 rfl (by decide) (.slice ca ls.length cc) ls.length (ctv ls) rfl (World.ownsRow.alloc hk4.rc _) ⟨w4.heap.size, 0, none⟩ 1 1 [.int .i64 x.au, .int .i64 x.rd, .slice x.ba x.bl.length x.bc, .slice x.pa x.pl.length x.pc, .slice x.va x.vl.length x.vc] rfl rfl (cells_new _ _ _) (by intro u hu; simp at hu; rcases hu with rfl | rfl | rfl | rfl | rfl <;> rfl) (by unfold maxLen; omega) (by omega) (le_alloc hw4 _) ?_; intro v6 w6 ho6 G6; have x2 := G6.row (heap_keep b4) hcS; have xd0 := cells_at x2 0 _ rfl; have xf0 := frozen_at x2 0; obtain ⟨fa, fc, hvf⟩ := owns_shape ho6; subst hvf))
    all_goals
      obtain ⟨hk7, hb7, hK7, hF7⟩ := hk2.moreC hB2B hb4 hxa hxin G6 ho6
      have hsD7 : SliceAt (w6.setCell ⟨s, 0, none⟩ (.slice fa (ls.length + 1) fc)) (some ⟨b, 0, none⟩) 32 (hDig c.au c.rd c.bl c.pl) := slice_keep hsD (fun q so _ e => by
        cases e
        exact hK7 b hblt (by omega) (fun e2 => by have := (hk.rc.lt b e2).2; omega))
      have hIN : Hid (∀ sb so, some (⟨b, 0, none⟩ : Addr) = some ⟨sb, so, none⟩ → B ≤ sb ∧ sb < (w6.setCell ⟨s, 0, none⟩ (.slice fa (ls.length + 1) fc)).heap.size ∧ sb ≠ s ∧ (Value.slice fa (ls.length + 1) fc).ownBlock ≠ some sb ∧ (Value.slice da ls.length dc).ownBlock ≠ some sb) := by
        show ∀ sb, _
        intro sb so e
        cases e
        exact ⟨by omega, Nat.lt_of_lt_of_le hblt hb7.size, by omega, fun e2 => by have := (hk.rc.lt b (hF7 b hblt e2)).2; omega, fun e2 => by have := (hk.rd.lt b e2).2; omega⟩
      have HXV : Hid (x.v = c.v) := hxv
      clear xd0 xf0 x2 hK7 hF7 hxv hxin hxa m0 m0a b4 hk4 k0 k0d e0 e1 e2 e3 e4
      go_upto_region 8 with fail
      generalize w6.setCell ⟨s, 0, none⟩ (.slice fa (ls.length + 1) fc) = X7 at hk7 hb7 hsD7 hIN ⊢
      have hB7 : B ≤ X7.heap.size := Nat.le_trans hB2B hb7.size
      have b7 := hk7.box
      have n1 := cells_at b7 1 _ rfl
      have hdS : (Value.slice da ls.length dc).ownBlock ≠ some s := row_box hk7.rd b7 (by decide)
      have hdl := HDL.out
      go_wp2_with (at_builtin; refine wpList_append_own_at _ rfl _ _ 44 rfl B 46 i' (.slice none 0 0) 1 24 Tryd.underlying44 hi' hz0' hz1' hz2' rfl (by decide) _ ds.length (pv ds) rfl (World.ownsRow.alloc hk7.rd _) ⟨X7.heap.size, 0, none⟩ 1 1 [.slice (some ⟨b, 0, none⟩) 32 32] rfl rfl (cells_new _ _ _) (by intro u hu; simp at hu; subst hu; rfl) (by unfold maxLen; omega) (by omega) (le_alloc hB7 _) ?_; intro v8 w8 ho8 hg8 _ hat8; have G8 := Grew.of hg8 hat8; have x8 := G8.row (heap_keep b7) hdS; have xd1 := cells_at x8 1 _ rfl; have xf1 := frozen_at x8 1; obtain ⟨ga, gc, hvg⟩ := owns_shape ho8; subst hvg)
      obtain ⟨hk9, hb9⟩ := hk7.moreD (p := ⟨some ⟨b, 0, none⟩, 32, hDig c.au c.rd c.bl c.pl⟩) hB7 (Below.refl _ _) hsD7 hIN.out G8 (by simpa [Part.val, HD32.out] using ho8)
      have HS9 : Hid (bss (ds ++ [(⟨some ⟨b, 0, none⟩, 32, hDig c.au c.rd c.bl c.pl⟩ : Part)]) = (cvs (ls ++ [x])).map CV.d) := by
        show _ = _
        have h9 := HSM.out
        simp only [bss, cvs, List.map_append, List.map_cons, List.map_nil] at h9 ⊢
        rw [h9, HDV.out, HXV.out]
      have hBF : Below B w (w8.setCell ⟨s, 1, none⟩ (.slice ga (ds.length + 1) gc)) := ((hB2.mono hB).trans hb7).trans hb9
      clear hdl
      rw [HDL.out] at hk9 hBF
      go_wp2_with fail
      go_ret
      exact ⟨ret_int HX.out.symm, hBF, .inr ⟨HX.out, x, HXV.out, ⟨_, _, _, hk9, HS9.out, by simp; omega⟩⟩⟩
  · have HX : Hid _ := hx
    have hxn : (stkE (cvs ls) c.v != 0) = true := by simpa using hx
    have HS : Hid (stkE (cvs ls) c.v = stkE (cvs ls) c.v) := rfl
    generalize hE : stkE (cvs ls) c.v = x at *
    have HE : Hid _ := hE
    clear hE hx
    go_wp2_with fail
    go_ret
    exact ⟨ret_int HE.out.symm, hB1.mono hB, .inl ⟨by rw [HE.out]; exact HX.out, HOW.out⟩⟩
end Go.Proofs.YtbmodfegcmaieaaDoor
