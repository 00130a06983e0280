/- The law sheaveskeep.CastApart answers true for every argument, and each argument reads behind the call as it read before: the tied card. Its conditions: the three tables of package blake hold what the program's text lays (the card ties that); the form's own reach. -/
import Derived.Test.YtfnpkiaedbfekaaDoorCastApartM6
import Derived.Test.YtfnpkiaedbfekaaDoorRows
import Derived.Test.YtfnpkiaedbfekaaDoorK
import Derived.Test.YtfnpkiaedbfekaaDoorCastApartM0
import Derived.Lib.LaidTab
import Derived.OpenShut
import Derived.Stop.LaidErr
import Derived.Test.YtfnpkiaedbfekaaDoorLib
import Derived.ProofKit
import Derived.Test.YtfnpkiaedbfekaaDoorCards
import Derived.Test.YtfnpkiaedbfekaaDoorTie
import Derived.WalkKit
import Derived.Deep.DeepHandedRow
import Derived.SevenTiedAt
import Derived.Below
namespace Go.Proofs.YtfnpkiaedbfekaaDoor
open Go.RowKit

set_option maxRecDepth 100000 in
theorem tabR_okA (rs : List Rw) : tabF (tabR rs) = 0 := (tabTo_ok rs _).ok
set_option maxRecDepth 100000 in
theorem tabR_le (rs : List Rw) : (tabR rs).length ≤ 30 := Nat.le_trans (tabTo_ok rs _).le (Nat.min_le_right _ _)
set_option maxRecDepth 100000 in
theorem voted_none {au rd e : Int} {bs : List Int} (h : VotedIs [] au rd e bs) : e = 8 := by
  rcases h with ⟨h, _, _⟩ | ⟨_, _, he, _⟩ | ⟨m, _, hm, _, _, _, _⟩
  · exact absurd (tabF_nil.symm.trans h) (by decide)
  · exact he
  · exact absurd hm (by simp)
set_option maxRecDepth 100000 in
theorem voted_more {l : List SV} {s : SV} {au rd e f : Int} {bs cs : List Int} (h : VotedIs l au rd e bs) (h0 : tabF l = 0) (g : VotedIs (l ++ [s]) au rd f cs) (g0 : tabF (l ++ [s]) = 0) (hne : ¬ (s.1 = au ∧ s.2.1 = rd)) : e = f ∧ bs = cs := by
  refine VotedIs.one ?_ g
  rcases h with ⟨h, _, _⟩ | ⟨_, hn, he, hb⟩ | ⟨m, _, hm, h1, h2, he, hb⟩
  · rw [h0] at h; cases h
  · refine voted_not g0 (fun j hj => ?_) he hb
    rcases Nat.lt_or_ge j l.length with q | q
    · rw [hit_append l [s] au rd j q]; exact hn j q
    · obtain rfl : j = l.length := by simp at hj; omega
      have e1 : svAt (l ++ [s]) l.length = s := by simp [svAt, List.getD]
      rw [hit, e1]; exact decide_eq_false hne
  · exact voted_was g0 m (by simp; omega) (by rw [hit_append l [s] au rd m hm]; exact h1) (fun j hj => by rw [hit_append l [s] au rd j (by omega)]; exact h2 j hj) he (by rw [svAt_append l [s] m hm]; exact hb)
set_option maxRecDepth 100000 in
set_option maxHeartbeats 2000000 in
theorem castApart_walk (sa : Option Addr) (cap : Nat) (rs : List Rw) (ki ra rb rc : Int) (ta : Option Addr) (tc : Nat) (ss : List ByteArray) (ki' ra' rb' rc' : Int) (ta' : Option Addr) (tc' : Nat) (ss' : List ByteArray) (w : World) (hr : RawsAt w sa rs) (_hl : rs.length ≤ cap) (_i0 : I64 ki) (i1 : I64 ra) (i2 : I64 rb) (i3 : I64 rc) (_ht : TextsAt w ta tc ss) (_j0 : I64 ki') (j1 : I64 ra') (j2 : I64 rb') (j3 : I64 rc') (_jt : TextsAt w ta' tc' ss') (hT : Tabs w) :
    Calls Tryd.prog 4 #[.slice sa rs.length cap, .agg #[.int .i64 ki, .int .i64 ra, .int .i64 rb, .int .i64 rc, .slice ta ss.length tc], .agg #[.int .i64 ki', .int .i64 ra', .int .i64 rb', .int .i64 rc', .slice ta' ss'.length tc']] w fun e w' => e = .returned (.bool true) ∧ Below w.heap.size w w' := by
  have HH : Hid (∀ W : World, Calls Tryd.prog 14 #[.agg #[.int .i64 ki, .int .i64 ra, .int .i64 rb, .int .i64 rc, .slice ta ss.length tc]] W fun e w' => ∃ ba bc bl pa pc pl, e = .returned (.agg #[.int .i64 (pk ra 4), .int .i64 (1 + pk rb 9), .slice ba (List.length bl) bc, .slice pa (List.length pl) pc]) ∧ HAt w' ba bc bl pa pc pl ∧ (∀ l, tabF l = 0 → castAll l (pk ra 4) (1 + pk rb 9) bl pl = if (castF l (slotR ⟨ki, ra, rb, rc, ta, ss.length, tc⟩)).2 ≠ 0 then ([], (0, 0, []), (castF l (slotR ⟨ki, ra, rb, rc, ta, ss.length, tc⟩)).2) else ((castF l (slotR ⟨ki, ra, rb, rc, ta, ss.length, tc⟩)).1, slotR ⟨ki, ra, rb, rc, ta, ss.length, tc⟩, 0)) ∧ Below W.heap.size W w') := by
    show ∀ W, _
    intro W
    refine (header_hat ⟨ki, ra, rb, rc, ta, ss.length, tc⟩ W ⟨i1, i2, i3⟩).mono ?_
    rintro e w' ⟨ba, bc, bl, pa, pc, pl, he, h1, h2, h3, h4, _, _⟩
    exact ⟨ba, bc, bl, pa, pc, pl, he, h1, fun l hl => castAll_raw ⟨ki, ra, rb, rc, ta, ss.length, tc⟩ bl pl hl h2 h3, h4⟩
  have HH' : Hid (∀ W : World, Calls Tryd.prog 14 #[.agg #[.int .i64 ki', .int .i64 ra', .int .i64 rb', .int .i64 rc', .slice ta' ss'.length tc']] W fun e w' => ∃ ba bc bl pa pc pl, e = .returned (.agg #[.int .i64 (pk ra' 4), .int .i64 (1 + pk rb' 9), .slice ba (List.length bl) bc, .slice pa (List.length pl) pc]) ∧ HAt w' ba bc bl pa pc pl ∧ Below W.heap.size W w') := by
    show ∀ W, _
    intro W
    refine (header_hat ⟨ki', ra', rb', rc', ta', ss'.length, tc'⟩ W ⟨j1, j2, j3⟩).mono ?_
    rintro e w' ⟨ba, bc, bl, pa, pc, pl, he, h1, h2, h3, h4, _, _⟩
    exact ⟨ba, bc, bl, pa, pc, pl, he, h1, h4⟩
  have hS1 : (slotR ⟨ki, ra, rb, rc, ta, ss.length, tc⟩).1 = pk ra 4 := rfl
  have hS2 : (slotR ⟨ki, ra, rb, rc, ta, ss.length, tc⟩).2.1 = 1 + pk rb 9 := rfl
  have hSok := slotR_ok ⟨ki, ra, rb, rc, ta, ss.length, tc⟩
  generalize slotR ⟨ki, ra, rb, rc, ta, ss.length, tc⟩ = SR at *
  clear i1 i2 i3 j1 j2 j3
  generalize pk ra 4 = A at *
  generalize 1 + pk rb 9 = B at *
  generalize pk ra' 4 = A' at *
  generalize 1 + pk rb' 9 = B' at *
  have HS1 : Hid (SR.1 = A) := hS1
  have HS2 : Hid (SR.2.1 = B) := hS2
  have HSok : Hid (slotF SR.1 SR.2.1 SR.2.2.length = 0) := hSok
  clear hS1 hS2 hSok
  have hA0 : Below w.heap.size w ((w.alloc (.cells #[.int .i64 ki, .int .i64 ra, .int .i64 rb, .int .i64 rc, .slice ta ss.length tc] 40)).alloc (.cells #[.int .i64 ki', .int .i64 ra', .int .i64 rb', .int .i64 rc', .slice ta' ss'.length tc'] 40)) := ((Below.refl _ _).alloc (Nat.le_refl _) _).alloc (by simp) _
  have q0 := heap_alloc2_old w (.cells #[.int .i64 ki, .int .i64 ra, .int .i64 rb, .int .i64 rc, .slice ta ss.length tc] 40) (.cells #[.int .i64 ki', .int .i64 ra', .int .i64 rb', .int .i64 rc', .slice ta' ss'.length tc'] 40)
  have p0 := heap_alloc_new (w.alloc (.cells #[.int .i64 ki, .int .i64 ra, .int .i64 rb, .int .i64 rc, .slice ta ss.length tc] 40)) (.cells #[.int .i64 ki', .int .i64 ra', .int .i64 rb', .int .i64 rc', .slice ta' ss'.length tc'] 40)
  rw [size_alloc] at p0
  go_enter Tryd.func4, Tryd.ntmps4
  go_wp2_with fail
  generalize (w.alloc (.cells #[.int .i64 ki, .int .i64 ra, .int .i64 rb, .int .i64 rc, .slice ta ss.length tc] 40)).alloc (.cells #[.int .i64 ki', .int .i64 ra', .int .i64 rb', .int .i64 rc', .slice ta' ss'.length tc'] 40) = W0 at hA0 q0 p0 ⊢
  refine (table_any rs sa _ cap W0 rfl (hr.below hA0) (hT.below hA0)).mono ?_
  rintro e w1 ⟨xa, xc, ks, he, hv, ht, hb1⟩
  subst he
  dsimp only
  have H0 : Hid (tabF (vs ks) = 0) := by show _ = _; rw [hv]; exact tabR_okA rs
  have H30 : Hid ((vs ks).length ≤ 30) := by show _ ≤ _; rw [hv]; exact tabR_le rs
  clear hv
  have hB1 := hA0.trans (hb1.mono hA0.size)
  have q1 := (hb1.block _ (lt_of_heap q0)).trans q0
  have p1 := (hb1.block _ (lt_of_heap p0)).trans p0
  have c0 := cells_at q1 0 _ rfl
  have c1 := cells_at q1 1 _ rfl
  have c2 := cells_at q1 2 _ rfl
  have c3 := cells_at q1 3 _ rfl
  have c4 := cells_at q1 4 _ rfl
  go_wp2_with fail
  refine (HH.out w1).mono ?_
  rintro e w2 ⟨ba, bc, bl, pa, pc, pl, he, hH, hCA, hb2⟩
  subst he
  dsimp only
  have HCA : Hid _ := hCA
  clear hCA c0 c1 c2 c3 c4 HH
  have hB2 := hB1.trans (hb2.mono hB1.size)
  have hA2 : Below w2.heap.size w2 (w2.alloc (.cells #[.int .i64 A, .int .i64 B, .slice ba bl.length bc, .slice pa pl.length pc] 25)) := (Below.refl _ _).alloc (Nat.le_refl _) _
  have p2 := heap_keep (o := .cells #[.int .i64 A, .int .i64 B, .slice ba bl.length bc, .slice pa pl.length pc] 25) ((hb2.block _ (lt_of_heap p1)).trans p1)
  have u2 := heap_alloc_new w2 (.cells #[.int .i64 A, .int .i64 B, .slice ba bl.length bc, .slice pa pl.length pc] 25)
  have c0 := cells_at p2 0 _ rfl
  have c1 := cells_at p2 1 _ rfl
  have c2 := cells_at p2 2 _ rfl
  have c3 := cells_at p2 3 _ rfl
  have c4 := cells_at p2 4 _ rfl
  have hB3 := hB2.trans (hA2.mono hB2.size)
  have ht3 := (ht.below hb2).below hA2
  have hH3 := hH.below hA2
  go_wp2_with fail
  generalize w2.alloc (.cells #[.int .i64 A, .int .i64 B, .slice ba bl.length bc, .slice pa pl.length pc] 25) = w3 at hA2 u2 p2 c0 c1 c2 c3 c4 hB3 ht3 hH3 ⊢
  refine (HH'.out w3).mono ?_
  rintro e w4 ⟨ba', bc', bl', pa', pc', pl', he, _, hb4⟩
  subst he
  dsimp only
  clear c0 c1 c2 c3 c4 HH'
  have hB4 := hB3.trans (hb4.mono hB3.size)
  have hA4 : Below w4.heap.size w4 (w4.alloc (.cells #[.int .i64 A', .int .i64 B', .slice ba' bl'.length bc', .slice pa' pl'.length pc'] 25)) := (Below.refl _ _).alloc (Nat.le_refl _) _
  have u4 := heap_keep (o := .cells #[.int .i64 A', .int .i64 B', .slice ba' bl'.length bc', .slice pa' pl'.length pc'] 25) ((hb4.block _ (lt_of_heap u2)).trans u2)
  have v4 := heap_alloc_new w4 (.cells #[.int .i64 A', .int .i64 B', .slice ba' bl'.length bc', .slice pa' pl'.length pc'] 25)
  have hB5 := hB4.trans (hA4.mono hB4.size)
  have ht5 := (ht3.below hb4).below hA4
  have hH5 := (hH3.below hb4).below hA4
  have d0 := cells_at u4 0 _ rfl
  have d1 := cells_at u4 1 _ rfl
  have d2 := cells_at u4 2 _ rfl
  have d3 := cells_at u4 3 _ rfl
  have e0 := cells_at v4 0 _ rfl
  have e1 := cells_at v4 1 _ rfl
  by_cases hsame : A = A' ∧ B = B'
  · obtain ⟨rfl, rfl⟩ := hsame
    go_wp2_with fail
    refine (voted_any [] none 0 0 A B _ rfl (tab_nil _)).mono ?_
    rintro e w6 ⟨ya, yc, ys, er, he, hV, _, _, hb6⟩
    subst he
    dsimp only
    obtain rfl := voted_none hV
    clear hV
    go_wp2_with fail
    go_ret
    exact ⟨by first | rfl | simp, hB5.trans (hb6.mono hB5.size)⟩
  · have HNE : Hid (¬ (SR.1 = A' ∧ SR.2.1 = B')) := by
      show ¬ _
      rw [HS1.out, HS2.out]; exact hsame
    have hbool : ((A == A') = false) ∨ ((A == A') = true ∧ (B == B') = false) := by
      by_cases h1 : A = A'
      · by_cases h2 : B = B'
        · exact absurd ⟨h1, h2⟩ hsame
        · exact .inr ⟨by simp [h1], by simp [h2]⟩
      · exact .inl (by simp [h1])
    clear hsame
    have ht4 := ht3.below hb4
    have hH4 := hH3.below hb4
    have HV : Hid (∀ W : World, Below w4.heap.size w4 W → Calls Tryd.prog 15 #[.slice xa ks.length xc, .int .i64 A', .int .i64 B'] W fun e w' => ∃ ra rc bs er, e = .returned (.tuple #[.slice ra (List.length bs) rc, .int .i64 er]) ∧ VotedIs (vs ks) A' B' er bs ∧ SliceAt w' ra rc bs ∧ (∀ sb so, ra = some ⟨sb, so, none⟩ → W.heap.size ≤ sb ∧ sb < w'.heap.size) ∧ Below W.heap.size W w') := by
      show ∀ W, _
      intro W hW
      exact voted_any ks xa _ xc A' B' W rfl (ht4.below hW)
    have HC : Hid (∀ W : World, Below w4.heap.size w4 W → Calls Tryd.prog 8 #[.slice xa ks.length xc, .agg #[.int .i64 A, .int .i64 B, .slice ba bl.length bc, .slice pa pl.length pc]] W fun e w' => CastAt W w' e (if (castF (vs ks) SR).2 ≠ 0 then ([], (0, 0, []), (castF (vs ks) SR).2) else ((castF (vs ks) SR).1, SR, 0))) := by
      show ∀ W, _
      intro W hW
      rw [← HCA.out _ H0.out]
      exact cast_any ks xa xc A B ba bc bl pa pc pl W (ht4.below hW) (hH4.below hW) (hT.below (hB4.trans (hW.mono hB4.size)))
    rcases hbool with hx | ⟨hx, hy⟩
    all_goals
      go_wp2_with fail
      generalize w4.alloc (.cells #[.int .i64 A', .int .i64 B', .slice ba' bl'.length bc', .slice pa' pl'.length pc'] 25) = w5 at hA4 u4 v4 hB5 ht5 hH5 d0 d1 d2 d3 e0 e1 ⊢
      refine (HV.out w5 hA4).mono ?_
      rintro e w6 ⟨ya, yc, ys, er, he, hV, hys, hyr, hb6⟩
      subst he
      dsimp only
      have f0 := cells_at ((hb6.block _ (lt_of_heap u4)).trans u4) 0 _ rfl
      have f1 := cells_at ((hb6.block _ (lt_of_heap u4)).trans u4) 1 _ rfl
      have f2 := cells_at ((hb6.block _ (lt_of_heap u4)).trans u4) 2 _ rfl
      have f3 := cells_at ((hb6.block _ (lt_of_heap u4)).trans u4) 3 _ rfl
      have hB6 := hB5.trans (hb6.mono hB5.size)
      have v6 := (hb6.block _ (lt_of_heap v4)).trans v4
      have HVI : Hid (VotedIs (vs ks) A' B' er ys) := hV
      clear hV
      go_wp2_with fail
      refine (HC.out w6 (hA4.trans (hb6.mono hA4.size))).mono ?_
      rintro e w7 ⟨za, zc, zs, da, dc, au', rd', ds, er2, he, hR, hT7, _, _, _, hb7⟩
      subst he
      dsimp only
      have hB7 := hB6.trans (hb7.mono hB6.size)
      have hA7 : Below w7.heap.size w7 (w7.alloc (.cells #[.int .i64 au', .int .i64 rd', .slice da ds.length dc] 29)) := (Below.refl _ _).alloc (Nat.le_refl _) _
      have v7 := heap_keep (o := .cells #[.int .i64 au', .int .i64 rd', .slice da ds.length dc] 29) ((hb7.block _ (lt_of_heap v6)).trans v6)
      have g0 := cells_at v7 0 _ rfl
      have g1 := cells_at v7 1 _ rfl
      have hB8 := hB7.trans (hA7.mono hB7.size)
      have hT8 := hT7.below hA7
      have hys8 := (hys.below hb7).below hA7
      have hR2 : (er2 = 7) ∨ (er2 = 0 ∧ 0 < (vs zs).length ∧ ∀ f cs, VotedIs (vs zs) A' B' f cs → er = f ∧ ys = cs) := by
        rcases castF_vals (vs ks) SR with ⟨h, m, hm⟩ | h | h | ⟨h, h2, h3⟩
        · rw [h] at hR
          simp only [ne_eq, not_true_eq_false, if_false, Prod.mk.injEq] at hR
          obtain ⟨hz, _, rfl⟩ := hR
          refine .inr ⟨rfl, ?_, fun f cs hf => ?_⟩
          · rw [hz]
            rcases Nat.eq_zero_or_pos (vs ks).length with q | q
            · rw [q] at hm; cases hm
            · exact q
          · rw [hz] at hf; exact HVI.out.one hf
        · rw [h] at hR
          simp only [ne_eq, Int.reduceEq, not_false_eq_true, if_true, Prod.mk.injEq] at hR
          exact .inl hR.2.2
        · exfalso
          have := H30.out
          cases hfi : findTo (vs ks) SR.1 SR.2.1 (vs ks).length with
          | none => rw [castF_new hfi (by omega)] at h; simp at h
          | some m =>
            by_cases q : txL (svAt (vs ks) m).2.2 = txL SR.2.2
            · rw [castF_same hfi q] at h; simp at h
            · rw [castF_twice hfi q] at h; simp at h
        · rw [h] at hR
          simp only [ne_eq, not_true_eq_false, if_false, Prod.mk.injEq] at hR
          obtain ⟨hz, _, rfl⟩ := hR
          refine .inr ⟨rfl, by rw [hz]; simp, fun f cs hf => ?_⟩
          rw [hz] at hf
          exact voted_more HVI.out H0.out hf (tabF_snoc H0.out h3 HSok.out h2) HNE.out
      clear hR HC HV HVI H0 H30 HSok HCA HNE
      rcases hR2 with rfl | ⟨rfl, hpos, hsame⟩
      · go_wp2_with fail
        go_ret
        exact ⟨by first | rfl | simp, hB8⟩
      · have HSM : Hid _ := hsame
        clear hsame
        rw [vs_length] at hpos
        have hposI : (0 : Int) < zs.length := by omega
        go_wp2_with fail
        refine (voted_any zs za _ zc A' B' _ rfl hT8).mono ?_
        rintro e w9 ⟨ma, mc, ms, er3, he, hV3, hms, _, hb9⟩
        subst he
        dsimp only
        obtain ⟨rfl, rfl⟩ := HSM.out _ _ hV3
        clear hV3 HSM
        have hE := same_eq ys ya ma _ _ yc mc w9 rfl rfl (hys8.below hb9) hms
        have hB9 := hB8.trans (hb9.mono hB8.size)
        go_wp2_with (go_at_call 16; refine hE.mono ?_; rintro e w' ⟨rfl, rfl⟩)
        go_ret
        exact ⟨by first | rfl | simp, hB9⟩
end Go.Proofs.YtfnpkiaedbfekaaDoor

namespace Go.Proofs.YtfnpkiaedbfekaaDoor
open Go.RowKit

set_option maxRecDepth 100000 in
/-- An array of arrays of integers that reads as a table of rows holds the rows' numbers, cell for cell. -/
theorem cells_of_tab2 {H : Type} {enc : TypeId × Value → H} {P : Program} {w : World} {base : Nat} {sp : Nat → Bool} {held : Bool} {fuel : Nat} {t e i : TypeId} {n m : Nat} {k : IntKind} {cs : List Value} {rows : List (List Int)} {p : List MemPlace}
    (ht : P.underlying t = some (.array n e)) (he : P.underlying e = some (.array m i)) (hi : P.underlying i = some (.int k)) (hci : P.cellsOf i = 1) (hce : P.cellsOf e = m) (hm : 0 < m)
    (h : DataW.trod enc P w base sp held fuel t cs = some (.agg (rows.map (Lib.tabData k)), p)) (q : Nat) (hq : q < n * m) : cs[q]? = ((rows.getD (q / m) []).map (Value.int k))[q % m]? := by
  obtain ⟨xs, f, rfl, hx, hl, hn, hr⟩ := DataW.trod_array ht h
  have hin : q / m < n := Nat.div_lt_of_lt_mul (by rw [Nat.mul_comm]; exact hq)
  have hrow := hr (q / m) hin
  have hxs : xs.map (·.1) = rows.map (Lib.tabData k) := by
    have := congrArg Prod.fst hx
    simpa using this.symm
  have hg : (xs.map (·.1))[q / m]? = some (xs[q / m]'(by omega)).1 := by simp [hn, hin]
  rw [hxs] at hg
  simp only [List.getElem?_map, Option.map_eq_some_iff] at hg
  obtain ⟨r, hr1, hr2⟩ := hg
  rw [List.getElem?_eq_getElem (by omega), hce] at hrow
  have hrow' : DataW.trod enc P w base sp held f e ((cs.drop (q / m * m)).take m) = some (Lib.tabData k r, (xs[q / m]'(by omega)).2) := by
    rw [hrow, hr2]
  have hc := Lib.cells_of_tab he hi hci hce hrow'
  have hj : q % m < m := Nat.mod_lt _ hm
  have e1 : ((cs.drop (q / m * m)).take m)[q % m]? = cs[q]? := by
    rw [List.getElem?_take, if_pos hj, List.getElem?_drop, Nat.mul_comm, Nat.div_add_mod]
  rw [← e1, hc]
  simp [List.getD, hr1]

set_option maxRecDepth 100000 in
theorem tFirst : (Tryd.prog.globals[0]?).map (·.type) = some 83 := by kernel_rfl
set_option maxRecDepth 100000 in
theorem tOrders : (Tryd.prog.globals[1]?).map (·.type) = some 97 := by kernel_rfl
set_option maxRecDepth 100000 in
theorem tLanes : (Tryd.prog.globals[2]?).map (·.type) = some 99 := by kernel_rfl
set_option maxRecDepth 100000 in
theorem cU32 : Tryd.prog.cellsOf 82 = 1 := by kernel_rfl
set_option maxRecDepth 100000 in
theorem c8U32 : Tryd.prog.cellsOf 83 = 8 := by kernel_rfl
set_option maxRecDepth 100000 in
theorem c16U8 : Tryd.prog.cellsOf 96 = 16 := by kernel_rfl
set_option maxRecDepth 100000 in
theorem c4U8 : Tryd.prog.cellsOf 98 = 4 := by kernel_rfl
def ordRows : List (List Int) := [[0, 1, 2, 3, 4, 5, 6, 7, 8, 9, 10, 11, 12, 13, 14, 15], [14, 10, 4, 8, 9, 15, 13, 6, 1, 12, 0, 2, 11, 7, 5, 3], [11, 8, 12, 0, 5, 2, 15, 13, 10, 14, 3, 6, 7, 1, 9, 4], [7, 9, 3, 1, 13, 12, 11, 14, 2, 6, 5, 10, 4, 0, 15, 8], [9, 0, 5, 7, 2, 4, 10, 15, 14, 1, 11, 12, 6, 8, 3, 13], [2, 12, 6, 10, 0, 11, 8, 3, 4, 13, 7, 5, 15, 14, 1, 9], [12, 5, 1, 15, 14, 13, 4, 10, 0, 7, 6, 3, 9, 2, 8, 11], [13, 11, 7, 14, 12, 1, 3, 9, 5, 0, 15, 4, 8, 6, 2, 10], [6, 15, 14, 9, 11, 3, 0, 8, 12, 2, 13, 7, 1, 4, 10, 5], [10, 2, 8, 4, 7, 6, 1, 5, 15, 11, 9, 14, 3, 12, 13, 0]]
def laneRows : List (List Int) := [[0, 4, 8, 12], [1, 5, 9, 13], [2, 6, 10, 14], [3, 7, 11, 15], [0, 5, 10, 15], [1, 6, 11, 12], [2, 7, 8, 13], [3, 4, 9, 14]]
set_option maxRecDepth 100000 in
theorem ordRows_flat : ∀ q, q < 160 → (ordRows.getD (q / 16) [])[q % 16]? = some ((ordF.getD q 0 : Nat) : Int) := by decide +kernel
set_option maxRecDepth 100000 in
theorem laneRows_flat : ∀ q, q < 32 → (laneRows.getD (q / 4) [])[q % 4]? = some ((laneF.getD q 0 : Nat) : Int) := by decide +kernel
set_option maxRecDepth 100000 in
theorem dFirst : Rows.laid_sheaves_blake_firstWords (H := Unit) = Lib.tabData .u32 fw := rfl
set_option maxRecDepth 100000 in
theorem dOrders : Rows.laid_sheaves_blake_orders (H := Unit) = .agg (ordRows.map (Lib.tabData .u8)) := rfl
set_option maxRecDepth 100000 in
theorem dLanes : Rows.laid_sheaves_blake_lanes (H := Unit) = .agg (laneRows.map (Lib.tabData .u8)) := rfl

set_option maxRecDepth 100000 in
theorem tabs_of_laid {W : World} {n1 n2 n3 : String} (gFirst : Tryd.prog.globalNamed n1 = some 0) (gOrders : Tryd.prog.globalNamed n2 = some 1) (gLanes : Tryd.prog.globalNamed n3 = some 2)
    (h : laidMetH Tryd.prog [(n1, Rows.laid_sheaves_blake_firstWords), (n2, Rows.laid_sheaves_blake_orders), (n3, Rows.laid_sheaves_blake_lanes)] W) : Tabs W := by
  have h1 : laidMet Tryd.prog [(n1, Rows.laid_sheaves_blake_firstWords), (n2, Rows.laid_sheaves_blake_orders), (n3, Rows.laid_sheaves_blake_lanes)] W := h
  clear h
  have h2 := h1.tail
  have h3 := h2.tail
  rw [dFirst] at h1
  rw [dOrders] at h2
  rw [dLanes] at h3
  have t1 := Lib.tabIs_of_head gFirst tFirst Tryd.underlying83 Tryd.underlying82 cU32 c8U32 h1
  refine ⟨fun i hi => t1.cell gFirst i hi, fun i hi => ?_, fun i hi => ?_⟩
  · obtain ⟨ps, ⟨g', t', cs, fuel, p, q, hg', ht', hvar, hd, _, _⟩, _⟩ := h2
    obtain rfl := Option.some.inj (gOrders.symm.trans hg')
    obtain rfl := Option.some.inj (tOrders.symm.trans ht')
    have hc := World.var?_cell gOrders hvar i
    have he := cells_of_tab2 Tryd.underlying97 Tryd.underlying96 Tryd.underlying5 cU8 c16U8 (by decide) hd i hi
    rw [hc]
    have := ordRows_flat i hi
    simp only [List.getElem?_map, this, Option.map_some] at he
    simpa using he
  · obtain ⟨ps, ⟨g', t', cs, fuel, p, q, hg', ht', hvar, hd, _, _⟩, _⟩ := h3
    obtain rfl := Option.some.inj (gLanes.symm.trans hg')
    obtain rfl := Option.some.inj (tLanes.symm.trans ht')
    have hc := World.var?_cell gLanes hvar i
    have he := cells_of_tab2 Tryd.underlying99 Tryd.underlying98 Tryd.underlying5 cU8 c4U8 (by decide) hd i hi
    rw [hc]
    have := laneRows_flat i hi
    simp only [List.getElem?_map, this, Option.map_some] at he
    simpa using he
end Go.Proofs.YtfnpkiaedbfekaaDoor

namespace Go.Proofs.YtfnpkiaedbfekaaDoor
open Go.ChangeShapes Go.WideShapes Go.ChangeAt Go.RowKit

/-- What the initialisers of the three tables lay, in the first blocks. -/
def layBlock (c : Array Value) : Obj → Obj
  | .cells _ t frozen => .cells c t frozen
  | o => o
def layTabs (w : World) : World :=
  { w with heap := ((w.heap.modify 0 (layBlock (ua fw))).modify 1 (layBlock (ub (ordF.map Int.ofNat)).toArray)).modify 2 (layBlock (ub (laneF.map Int.ofNat)).toArray) }
end Go.Proofs.YtfnpkiaedbfekaaDoor

namespace Go.Proofs.YtfnpkiaedbfekaaDoor.castApart
open Go.ChangeShapes Go.WideShapes Go.ChangeAt Go.RowKit

set_option maxRecDepth 100000 in
/-- What the walk gives, for every argument and every world that holds the tables. -/
theorem contract (H : Type) (enc : TypeId × Value → H) (W : World) (base : Nat) (args : Array Value) (ds gs : List (DataW H)) (before : List MemPlace)
    (hval : ∀ (j : Nat) t v, Tryd.f4.params[j]? = some t → args[j]? = some v → Value.okWide Tryd.prog W .any base t v)
    (hW : DataW.Whole enc Tryd.prog Tryd.f4.params.toList Rows.castApartSpec.vars false W args.toList ds gs before) (hsz : (DataW.weightsEach Tryd.prog (Tryd.f4.params.toList ++ (OpenSpec.ofChange Rows.castApartSpec).bare.plain.varTypes Tryd.prog) (ds ++ gs)).all (· ≤ reachBytes) = true) (hL : laidMetH Tryd.prog Rows.castApartRow.laid W) :
    Calls Tryd.prog 4 args W fun e W' => ∃ v, e = .returned v ∧ Rows.castApartSpec.post enc Tryd.prog Tryd.f4 false true false false W args v W' := by
  have hW' := hW
  obtain ⟨p, q, hA0, hV, rfl, hfz, hnd⟩ := hW
  have hA : DataW.TrodAll enc Tryd.prog W 0 (fun _ => true) true Tryd.f4.params.toList args.toList ds p := hA0
  rw [Tryd.params4] at hA hval hsz
  obtain ⟨v0, vs0, d0, ds0, p0, q0, hargs, rfl, rfl, h0, r0⟩ := trodAll_cons hA
  obtain ⟨v1, vs1, d1, ds1, p1, q1, rfl, rfl, rfl, h1, r1⟩ := trodAll_cons r0
  obtain ⟨v2, vs2, d2, ds2, p2, q2, rfl, rfl, rfl, h2, r2⟩ := trodAll_cons r1
  obtain ⟨rfl, rfl, rfl⟩ := trodAll_nil r2
  obtain rfl : args = #[v0, v1, v2] := by cases args; simp_all
  obtain ⟨rfl, rfl⟩ := trodVars_none hV
  have k0 := h0
  have lt0 : ∀ x ∈ p0, x.block < W.heap.size := by obtain ⟨m, hm⟩ := k0; exact DataW.trod_lt m _ _ _ hm
  obtain ⟨sa0, cap0, rs0, rfl, q0_0, q0_1⟩ := open_raws (hval 0 37 v0 rfl rfl) h0 (fit_each hsz (j := 0) rfl rfl)
  have k1 := h1
  have lt1 : ∀ x ∈ p1, x.block < W.heap.size := by obtain ⟨m, hm⟩ := k1; exact DataW.trod_lt m _ _ _ hm
  obtain ⟨ki1, ra1, rb1, rc1, sa1, cap1, ss1, rfl, q1_0, q1_1, q1_2, q1_3, q1_4⟩ := open_raw (hval 1 40 v1 rfl rfl) h1 (fit_each hsz (j := 1) rfl rfl)
  have k2 := h2
  have lt2 : ∀ x ∈ p2, x.block < W.heap.size := by obtain ⟨m, hm⟩ := k2; exact DataW.trod_lt m _ _ _ hm
  obtain ⟨ki2, ra2, rb2, rc2, sa2, cap2, ss2, rfl, q2_0, q2_1, q2_2, q2_3, q2_4⟩ := open_raw (hval 2 40 v2 rfl rfl) h2 (fit_each hsz (j := 2) rfl rfl)
  clear hA0
  have hT : Tabs W := tabs_of_laid (by kernel_rfl) (by kernel_rfl) (by kernel_rfl) hL
  refine (castApart_walk sa0 cap0 rs0 ki1 ra1 rb1 rc1 sa1 cap1 ss1 ki2 ra2 rb2 rc2 sa2 cap2 ss2 W q0_0 q0_1 q1_0 q1_1 q1_2 q1_3 q1_4 q2_0 q2_1 q2_2 q2_3 q2_4 hT).mono fun e W' ⟨he, bel⟩ => ?_
  subst he
  exact ⟨_, rfl, _, _, _, [], _, [], hW', trodAll_mk1 (shut_bool Tryd.underlying4 _), (trodAll_cons_mk (Below.trod laidOut (by kernel_rfl) (of_decide_eq_true (by kernel_rfl)) k0 bel lt0) (trodAll_cons_mk (Below.trod laidOut (by kernel_rfl) (of_decide_eq_true (by kernel_rfl)) k1 bel lt1) (trodAll_cons_mk (Below.trod laidOut (by kernel_rfl) (of_decide_eq_true (by kernel_rfl)) k2 bel lt2) trodAll_mk0))), rfl, bel.frame _, fun h => by cases h⟩

set_option maxRecDepth 100000 in
theorem laid_met (os : Os) : laidMet Tryd.prog Rows.castApartRow.laid ((layTabs (World.holding Tryd.prog os ⟨#[], #[], []⟩)).forCall (fun _ _ => 0) ⟨#[], #[.slice none 0 0, .agg #[.int .i64 0, .int .i64 0, .int .i64 0, .int .i64 0, .slice none 0 0], .agg #[.int .i64 0, .int .i64 0, .int .i64 0, .int .i64 0, .slice none 0 0]], []⟩).memory :=
  laidMet_of_run' 8 (by kernel_rfl) (by kernel_rfl)
set_option maxRecDepth 100000 in
theorem reads (os : Os) {H : Type} (enc : TypeId × Value → H) : ∃ places, DataW.whole enc Tryd.prog ((layTabs (World.holding Tryd.prog os ⟨#[], #[], []⟩)).forCall (fun _ _ => 0) ⟨#[], #[.slice none 0 0, .agg #[.int .i64 0, .int .i64 0, .int .i64 0, .int .i64 0, .slice none 0 0], .agg #[.int .i64 0, .int .i64 0, .int .i64 0, .int .i64 0, .slice none 0 0]], []⟩).memory Tryd.f4.params.toList Rows.castApartSpec.vars false (#[.slice none 0 0, .agg #[.int .i64 0, .int .i64 0, .int .i64 0, .int .i64 0, .slice none 0 0], .agg #[.int .i64 0, .int .i64 0, .int .i64 0, .int .i64 0, .slice none 0 0]] : Array Value).toList 8 = some ([.nil, .agg [.lit (.int .i64 0), .lit (.int .i64 0), .lit (.int .i64 0), .lit (.int .i64 0), .nil], .agg [.lit (.int .i64 0), .lit (.int .i64 0), .lit (.int .i64 0), .lit (.int .i64 0), .nil]], [], places) :=
  ⟨[], by kernel_rfl⟩

set_option maxRecDepth 100000 in
theorem lifted (os : Os) (started : os.Started) (H : Type) (enc : TypeId × Value → H) (F : Stop.Interp) :
    ReturnsInHanded {} Tryd.checked os 4 .any ((OpenSpec.ofChange Rows.castApartSpec).preRow enc Tryd.prog Tryd.f4 Rows.castApartRow.domain false Rows.castApartRow.laid) (((OpenSpec.ofChange Rows.castApartSpec).at F).post enc Tryd.prog Tryd.f4 false true false false) := by
  obtain ⟨places, hx⟩ := reads os enc
  refine returnsInHanded_of_row (C := Tryd.checked) (s := OpenSpec.ofChange Rows.castApartSpec) own started (by kernel_rfl) Tryd.func4
    (witness_row_at (enc := enc) (C := Tryd.checked) false (layTabs (World.holding Tryd.prog os ⟨#[], #[], []⟩)) #[.slice none 0 0, .agg #[.int .i64 0, .int .i64 0, .int .i64 0, .int .i64 0, .slice none 0 0], .agg #[.int .i64 0, .int .i64 0, .int .i64 0, .int .i64 0, .slice none 0 0]] rfl (by kernel_rfl) (by kernel_rfl) (by kernel_rfl)
      (OpenSpec.preRow_of_cond 8 hx (by kernel_rfl) (fun k hk => by cases hk) (by kernel_rfl) (laid_met os))) ?_
  intro W base args ds gs before hval hW _ _ hsz hL _ _
  exact contract H enc W base args ds gs before hval hW hsz hL

set_option maxRecDepth 100000 in
theorem said : Rows.CastApartSaid :=
  OpenClaim.holds_of_cond 4 Tryd.f4 rfl rfl rfl rfl rfl rfl rfl ⟨rfl, rfl, rfl, rfl, rfl⟩ rfl rfl rfl rfl rfl (by kernel_rfl) Tryd.func4 (by kernel_rfl)
    (of_decide_eq_true (by kernel_rfl)) (by unfold Func.isWrapper; first | (rw [if_pos (by decide +kernel)]; kernel_rfl) | (rw [if_neg (by decide +kernel)]; exact ⟨rfl, rfl⟩))
    (fun os started H enc _ F => by rw [OpenClaim.pre_eq_preRow]; exact lifted os started H enc F)

set_option maxRecDepth 100000 in
theorem plain (f : FuncId) (fn : Func) (hf : Tryd.pinned.checked.prog.funcNamed Rows.castApartRow.func = some f) (hfn : Tryd.pinned.checked.prog.funcs[f]? = some fn) :
    false = Tryd.pinned.checked.prog.looks [] ∧ ∀ (j : Nat) t, fn.params[j]? = some t → Tryd.pinned.checked.prog.wantsStandIn t = false := by
  obtain rfl : f = 4 := Option.some.inj ((show Tryd.prog.funcNamed Rows.castApartRow.func = some 4 by kernel_rfl).symm.trans hf) |>.symm
  obtain rfl : fn = Tryd.f4 := (Option.some.inj (Tryd.func4.symm.trans hfn)).symm
  refine ⟨by kernel_rfl, fun j t ht => ?_⟩
  rw [Tryd.params4] at ht
  have hm : t = 37 ∨ t = 40 ∨ t = 40 := by simpa using Array.mem_of_getElem? ht
  rcases hm with rfl | rfl | rfl
  · exact (show Tryd.prog.wantsStandIn 37 = false by kernel_rfl)
  · exact (show Tryd.prog.wantsStandIn 40 = false by kernel_rfl)
  · exact (show Tryd.prog.wantsStandIn 40 = false by kernel_rfl)

set_option maxRecDepth 100000 in
/-- THE CARD. -/
theorem card : Rows.CastApartCardSaid :=
  Claim7.holds_tied_plain_at .later [] _ _ _ _ said (fun _ h => by cases h) (by kernel_rfl) (fun _ h => by cases h) castApart_row_tie rfl ⟨rfl, rfl⟩ (by kernel_rfl) rfl plain (by kernel_rfl)
end Go.Proofs.YtfnpkiaedbfekaaDoor.castApart
namespace Go.Proofs.YtfnpkiaedbfekaaDoor
set_option maxRecDepth 100000 in
theorem castApart_holds : Rows.CastApartCardSaid := castApart.card
#print axioms castApart_holds
end Go.Proofs.YtfnpkiaedbfekaaDoor
