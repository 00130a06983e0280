/- The law sheaveskeep.CastBad answers true for every argument, and each argument reads behind the call as it read before: the tied card. Its conditions: the three tables of package blake hold what the program's text lays (the card ties that); the form's own reach. -/
import Derived.Test.YtbkojincfmfpnaaDoorCastBadM6
import Derived.Test.YtbkojincfmfpnaaDoorRows
import Derived.Test.YtbkojincfmfpnaaDoorK
import Derived.Lib.LaidTab
import Derived.OpenShut
import Derived.Stop.LaidErr
import Derived.Test.YtbkojincfmfpnaaDoorLib
import Derived.ProofKit
import Derived.Test.YtbkojincfmfpnaaDoorCards
import Derived.Test.YtbkojincfmfpnaaDoorTie
import Derived.WalkKit
import Derived.Deep.DeepHandedRow
import Derived.SevenTiedAt
import Derived.Below
namespace Go.Proofs.YtbkojincfmfpnaaDoor
open Go.RowKit

set_option maxRecDepth 100000 in
theorem header_hat (r : Rw) (w : World) (h : I64 r.a ∧ I64 r.b ∧ I64 r.c) :
    Calls Tryd.prog 19 #[.agg #[.int .i64 r.ki, .int .i64 r.a, .int .i64 r.b, .int .i64 r.c, .slice r.sa r.n r.cap]] w fun e w' => ∃ ba bc bl pa pc pl, e = .returned (.agg #[.int .i64 (pk r.a 4), .int .i64 (1 + pk r.b 9), .slice ba (List.length bl) bc, .slice pa (List.length pl) pc]) ∧ HAt w' ba bc bl pa pc pl ∧ bl.map (·.bs) = hBats r.c ∧ pl.map (·.bs) = hPars r.a r.b r.c ∧ Below w.heap.size w w' ∧ Fresh w.heap.size ba bl ∧ Fresh w.heap.size pa pl := by
  refine (header_raw2 r.ki r.a r.b r.c r.sa r.n r.cap w h.1 h.2.1 h.2.2).mono ?_
  rintro e w' ⟨ba, bc, bl, pa, pc, pl, he, a1, a2, a3, a4, a5, a6, a7, a8, a9⟩
  exact ⟨ba, bc, bl, pa, pc, pl, he, ⟨a1, a2, fun sb so e => (a3.1 sb so e).1, fun sb so e => (a4.1 sb so e).1⟩, a5, a6, a7, a8, a9⟩
set_option maxRecDepth 100000 in
set_option maxHeartbeats 2000000 in
theorem table_any (rs : List Rw) (sa : Option Addr) (n cap : Nat) (w : World) (hn : n = rs.length) (hr : RawsAt w sa rs) (hT : Tabs w) :
    Calls Tryd.prog 32 #[.slice sa n cap] w fun e w' => ∃ ra rc ks, e = .returned (.slice ra (List.length ks) rc) ∧ vs ks = tabR rs ∧ TabAt w' ra rc ks ∧ Below w.heap.size w w' := by
  subst hn
  have hsm := hr.small
  go_enter Tryd.func32, Tryd.ntmps32
  go_wp2_with fail
  go_loopw [4, 3] (fun j v wr => ∃ (k : Nat) (ks : List Sl) (ra : Option Addr) (rc : Nat), k ≤ rs.length ∧ k ≤ 30 ∧ j = .int .i64 k ∧ v = .slice ra ks.length rc ∧ vs ks = tabTo rs k ∧ TabAt wr ra rc ks ∧ Below w.heap.size w wr) (fun j _ _ => rs.length - (intOf j).toNat)
  case atStart => exact ⟨0, [], none, 0, Nat.zero_le _, by omega, rfl, rfl, rfl, tab_nil _, Below.refl _ _⟩
  case round =>
    obtain ⟨k, ks, ra, rc, hk, hk30, rfl, rfl, hv, ht, hb⟩ := hrel
    by_cases hlt : k < rs.length
    · by_cases h30 : k < 30
      · have hpw := hr.below hb
        obtain ⟨sb, so, rfl, hc⟩ : ∃ sb so, sa = some ⟨sb, so, none⟩ ∧ ∀ j (h : j < rs.length), wr.cell? ⟨sb, so + j * 5, none⟩ = some (.int .i64 (rs[j]).ki) ∧ wr.cell? ⟨sb, so + j * 5 + 1, none⟩ = some (.int .i64 (rs[j]).a) ∧ wr.cell? ⟨sb, so + j * 5 + 2, none⟩ = some (.int .i64 (rs[j]).b) ∧ wr.cell? ⟨sb, so + j * 5 + 3, none⟩ = some (.int .i64 (rs[j]).c) ∧ wr.cell? ⟨sb, so + j * 5 + 4, none⟩ = some (.slice (rs[j]).sa (rs[j]).n (rs[j]).cap) := by
          rcases hpw.cells with h | h
          · rw [h] at hlt; simp at hlt
          · exact h
        obtain ⟨c0, c1, c2, c3, c4⟩ := hc k hlt
        have hi := hr.each (rs[k]) (List.getElem_mem hlt)
        have hltI : (k : Int) < rs.length := by omega
        have h30I : (k : Int) < 30 := by omega
        have HX : Hid (tabTo rs (k + 1) = stepT (tabTo rs k) (slotR (rs[k]))) := by
          show _ = _
          rw [tabTo, rwAt_get rs k hlt]
        have h0 : tabF (vs ks) = 0 := by rw [hv]; exact (tabTo_ok rs k).ok
        have H0 : Hid (tabF (vs ks) = 0) := h0
        clear hc hpw h0
        generalize rs[k] = r at *
        have HH : Hid (I64 r.a ∧ I64 r.b ∧ I64 r.c) := hi
        clear hi
        go_wp2_with fail
        refine (header_hat r wr HH.out).mono ?_
        rintro e w1 ⟨ba, bc, bl, pa, pc, pl, he, hH, hbl, hpl, hb1, _, _⟩
        subst he
        dsimp only
        have hB1 := hb.trans (hb1.mono hb.size)
        have hA := castAll_raw (l := vs ks) r bl pl H0.out hbl hpl
        have HC := cast_any ks ra rc (pk r.a 4) (1 + pk r.b 9) ba bc bl pa pc pl w1 (ht.below hb1) hH (hT.below hB1)
        rw [hA] at HC
        clear hA hbl hpl
        generalize pk r.a 4 = PA at *
        generalize 1 + pk r.b 9 = PB at *
        go_wp2_with fail
        refine HC.mono ?_
        rintro e w2 ⟨xa, xc, xs, da, dc, au', rd', ds, er, he, hR, hT2, _, _, _, hb2⟩
        subst he
        dsimp only
        have hB2 := hB1.trans (hb2.mono hB1.size)
        have hA2 : Below w2.heap.size w2 (w2.alloc (.cells #[.int .i64 au', .int .i64 rd', .slice da ds.length dc] 47)) := (Below.refl _ _).alloc (Nat.le_refl _) _
        have hB3 := hB2.trans (hA2.mono hB2.size)
        by_cases hz : (castF (vs ks) (slotR r)).2 = 0
        · rw [if_neg (by simp [hz])] at hR
          simp only [Prod.mk.injEq] at hR
          obtain ⟨hx, _, rfl⟩ := hR
          have hstep : Hid (vs xs = tabTo rs (k + 1)) := by
            show _ = _
            rw [HX.out, stepT, ← hv, if_pos hz, hx]
          clear hx hz HC
          go_wp2_with fail
          go_roundw
          case rel =>
            have hR : ∃ (k' : Nat) (ks' : List Sl) (ra' : Option Addr) (rc' : Nat), k' ≤ rs.length ∧ k' ≤ 30 ∧ (Value.int .i64 ((k : Int) + 1)) = .int .i64 k' ∧ Value.slice xa xs.length xc = .slice ra' ks'.length rc' ∧ vs ks' = tabTo rs k' ∧ TabAt (w2.alloc (.cells #[.int .i64 au', .int .i64 rd', .slice da ds.length dc] 47)) ra' rc' ks' ∧ Below w.heap.size w (w2.alloc (.cells #[.int .i64 au', .int .i64 rd', .slice da ds.length dc] 47)) :=
              ⟨k + 1, xs, xa, xc, by omega, by omega, by go_num, rfl, hstep.out, hT2.below hA2, hB3⟩
            first | exact hR | ((repeat apply Exists.intro); exact ⟨hR, rfl⟩)
          case measure => simp [intOf]; omega
        · rw [if_pos (by simp [hz])] at hR
          simp only [Prod.mk.injEq] at hR
          obtain ⟨hq1, hq2, rfl⟩ := hR
          clear hq1 hq2
          have hstep : Hid (vs ks = tabTo rs (k + 1)) := by
            show _ = _
            rw [HX.out, stepT, ← hv, if_neg hz]
          have hT3 := ((ht.below hb1).below hb2).below hA2
          generalize (castF (vs ks) (slotR r)).2 = er at *
          clear HC
          go_wp2_with fail
          go_roundw
          case rel =>
            have hR : ∃ (k' : Nat) (ks' : List Sl) (ra' : Option Addr) (rc' : Nat), k' ≤ rs.length ∧ k' ≤ 30 ∧ (Value.int .i64 ((k : Int) + 1)) = .int .i64 k' ∧ Value.slice ra ks.length rc = .slice ra' ks'.length rc' ∧ vs ks' = tabTo rs k' ∧ TabAt (w2.alloc (.cells #[.int .i64 au', .int .i64 rd', .slice da ds.length dc] 47)) ra' rc' ks' ∧ Below w.heap.size w (w2.alloc (.cells #[.int .i64 au', .int .i64 rd', .slice da ds.length dc] 47)) :=
              ⟨k + 1, ks, ra, rc, by omega, by omega, by go_num, rfl, hstep.out, hT3, hB3⟩
            first | exact hR | ((repeat apply Exists.intro); exact ⟨hR, rfl⟩)
          case measure => simp [intOf]; omega
      · obtain rfl : k = 30 := by omega
        have hltI : ((30 : Nat) : Int) < rs.length := by omega
        have hltJ : (30 : Int) < rs.length := by omega
        have hE : Hid (vs ks = tabR rs) := by
          show _ = _
          rw [hv, tabR, Nat.min_eq_right (by omega)]
        go_wp2_with fail
        go_ret
        exact ⟨ra, rc, ks, rfl, hE.out, ht, hb⟩
    · obtain rfl : k = rs.length := by omega
      have hE : Hid (vs ks = tabR rs) := by
        show _ = _
        rw [hv, tabR, Nat.min_eq_left hk30]
      go_wp2_with fail
      go_ret
      exact ⟨ra, rc, ks, rfl, hE.out, ht, hb⟩
end Go.Proofs.YtbkojincfmfpnaaDoor

namespace Go.Proofs.YtbkojincfmfpnaaDoor
open Go.RowKit

set_option maxRecDepth 100000 in
theorem tabR_okB (rs : List Rw) : tabF (tabR rs) = 0 := (tabTo_ok rs _).ok
set_option maxRecDepth 100000 in
theorem headerF_zero (au : Int) (bl pl : List Part) : headerF au 0 bl pl = 2 := by rw [headerF, if_pos (by omega)]
set_option maxRecDepth 100000 in
theorem hPars_len (ra rb rc : Int) : (hPars ra rb rc).length ≤ 4 := by
  obtain ⟨b0, b1⟩ := pk_bounds rc 2 (by decide)
  unfold hPars
  split
  · simp
  · simp; omega
set_option maxRecDepth 100000 in
theorem digF_one (sa : Option Addr) (cap : Nat) : digF [⟨sa, cap, [1]⟩] = 4 := by
  have h1 : digAt [⟨sa, cap, [1]⟩] 0 = 4 := by simp [digAt, partAt]
  rw [digF_at _ 0 (by simp) rfl (by rw [h1]; decide), h1]
set_option maxRecDepth 100000 in
theorem headerF_one (r : Rw) (sa : Option Addr) (cap : Nat) (pl : List Part) (hp : pl.map (·.bs) = hPars r.a r.b r.c) : headerF (pk r.a 4) (1 + pk r.b 9) [⟨sa, cap, [1]⟩] pl = 4 := by
  obtain ⟨a0, a1⟩ := pk_bounds r.a 4 (by decide)
  obtain ⟨b0, b1⟩ := pk_bounds r.b 9 (by decide)
  have hl : pl.length ≤ 4 := by have := congrArg List.length hp; rw [List.length_map] at this; rw [this]; exact hPars_len _ _ _
  rw [headerF, if_neg (by omega), if_neg (by simp; omega), if_pos (by rw [digF_one]; decide), digF_one]
set_option maxRecDepth 100000 in
theorem castAll_head {l : List SV} {au rd : Int} {bl pl : List Part} {ec : Int} (h : tabF l = 0) (he : headerF au rd bl pl = ec) (h0 : ec ≠ 0) : castAll l au rd bl pl = ([], (0, 0, []), ec) := by
  rw [castAll, if_neg (by rw [h]; decide), if_pos (by rw [he]; exact h0), he]
set_option maxRecDepth 100000 in
set_option maxHeartbeats 2000000 in
theorem castBad_walk (sa : Option Addr) (cap : Nat) (rs : List Rw) (ki ra rb rc : Int) (ta : Option Addr) (tc : Nat) (ss : List ByteArray) (w : World) (hr : RawsAt w sa rs) (_hl : rs.length ≤ cap) (_i0 : I64 ki) (i1 : I64 ra) (i2 : I64 rb) (i3 : I64 rc) (_ht : TextsAt w ta tc ss) (hT : Tabs w) :
    Calls Tryd.prog 13 #[.slice sa rs.length cap, .agg #[.int .i64 ki, .int .i64 ra, .int .i64 rb, .int .i64 rc, .slice ta ss.length tc]] w fun e w' => e = .returned (.bool true) ∧ Below w.heap.size w w' := by
  have HH : Hid (∀ W : World, Calls Tryd.prog 19 #[.agg #[.int .i64 ki, .int .i64 ra, .int .i64 rb, .int .i64 rc, .slice ta ss.length tc]] W fun e w' => ∃ ba bc bl pa pc pl, e = .returned (.agg #[.int .i64 (pk ra 4), .int .i64 (1 + pk rb 9), .slice ba (List.length bl) bc, .slice pa (List.length pl) pc]) ∧ HAt w' ba bc bl pa pc pl ∧ bl.map (·.bs) = hBats rc ∧ pl.map (·.bs) = hPars ra rb rc ∧ Below W.heap.size W w' ∧ Fresh W.heap.size ba bl ∧ Fresh W.heap.size pa pl) := by
    show ∀ W, _
    intro W
    exact header_hat ⟨ki, ra, rb, rc, ta, ss.length, tc⟩ W ⟨i1, i2, i3⟩
  have H1 : Hid (∀ sa cap pl, pl.map (·.bs) = hPars ra rb rc → headerF (pk ra 4) (1 + pk rb 9) [⟨sa, cap, [1]⟩] pl = 4) := by
    show ∀ sa cap pl, _
    intro sa cap pl hp
    exact headerF_one ⟨ki, ra, rb, rc, ta, ss.length, tc⟩ sa cap pl hp
  have hA := (Below.refl w.heap.size w).alloc (Nat.le_refl _) (.cells #[.int .i64 ki, .int .i64 ra, .int .i64 rb, .int .i64 rc, .slice ta ss.length tc] 36)
  have r0 := heap_alloc_new w (.cells #[.int .i64 ki, .int .i64 ra, .int .i64 rb, .int .i64 rc, .slice ta ss.length tc] 36)
  clear i1 i2 i3
  generalize pk ra 4 = A at *
  generalize 1 + pk rb 9 = B at *
  go_enter Tryd.func13, Tryd.ntmps13
  go_wp2_with fail
  generalize w.alloc (.cells #[.int .i64 ki, .int .i64 ra, .int .i64 rb, .int .i64 rc, .slice ta ss.length tc] 36) = W0 at hA r0 ⊢
  refine (table_any rs sa _ cap W0 rfl (hr.below hA) (hT.below hA)).mono ?_
  rintro e w1 ⟨xa, xc, ks, he, hv, ht, hb1⟩
  subst he
  dsimp only
  have h0 : tabF (vs ks) = 0 := by rw [hv]; exact tabR_okB rs
  have H0 : Hid (tabF (vs ks) = 0) := h0
  clear h0 hv
  have hB1 := hA.trans (hb1.mono hA.size)
  have r1 := (hb1.block _ (lt_of_heap r0)).trans r0
  have c0 : w1.cell? ⟨w.heap.size, 0, none⟩ = some (.int .i64 ki) := cells_at r1 0 _ rfl
  have c1 : w1.cell? ⟨w.heap.size, 1, none⟩ = some (.int .i64 ra) := cells_at r1 1 _ rfl
  have c2 : w1.cell? ⟨w.heap.size, 2, none⟩ = some (.int .i64 rb) := cells_at r1 2 _ rfl
  have c3 : w1.cell? ⟨w.heap.size, 3, none⟩ = some (.int .i64 rc) := cells_at r1 3 _ rfl
  have c4 : w1.cell? ⟨w.heap.size, 4, none⟩ = some (.slice ta ss.length tc) := cells_at r1 4 _ rfl
  go_wp2_with fail
  refine (HH.out w1).mono ?_
  rintro e w2 ⟨ba, bc, bl, pa, pc, pl, he, hH, hbl, hpl, hb2, hfb, hfp⟩
  subst he
  dsimp only
  clear hbl hpl c0 c1 c2 c3 c4
  have hB2 := hB1.trans (hb2.mono hB1.size)
  have r2 := (hb2.block _ (lt_of_heap r1)).trans r1
  have hA2 : Below w2.heap.size w2 (w2.alloc (.cells #[.int .i64 A, .int .i64 0, .slice ba bl.length bc, .slice pa pl.length pc] 25)) := (Below.refl _ _).alloc (Nat.le_refl _) _
  have r3 := heap_keep (o := .cells #[.int .i64 A, .int .i64 0, .slice ba bl.length bc, .slice pa pl.length pc] 25) r2
  have hB3 := hB2.trans (hA2.mono hB2.size)
  have ht3 := (ht.below hb2).below hA2
  have hC := cast_any ks xa xc A 0 ba bc bl pa pc pl _ ht3 (hH.below hA2) (hT.below hB3)
  rw [castAll_head H0.out (headerF_zero A bl pl) (by decide)] at hC
  go_wp2_with fail
  generalize w2.alloc (.cells #[.int .i64 A, .int .i64 0, .slice ba bl.length bc, .slice pa pl.length pc] 25) = w3 at hA2 r3 hB3 ht3 hC ⊢
  refine hC.mono ?_
  rintro e w4 ⟨ya, yc, ys, da, dc, au', rd', ds, er, he, hR, hT4, _, _, _, hb4⟩
  subst he
  dsimp only
  simp only [Prod.mk.injEq] at hR
  obtain ⟨hys, ⟨rfl, rfl, rfl⟩, rfl⟩ := hR
  obtain rfl : ys = [] := by cases ys with
    | nil => rfl
    | cons y ys => simp [vs] at hys
  clear hys hC
  have hB4 := hB3.trans (hb4.mono hB3.size)
  have hA4 : Below w4.heap.size w4 (w4.alloc (.cells #[.int .i64 0, .int .i64 0, .slice da 0 dc] 47)) := (Below.refl _ _).alloc (Nat.le_refl _) _
  have r4 := heap_keep (o := .cells #[.int .i64 0, .int .i64 0, .slice da 0 dc] 47) ((hb4.block _ (lt_of_heap r3)).trans r3)
  have s4 := heap_alloc_new w4 (.cells #[.int .i64 0, .int .i64 0, .slice da 0 dc] 47)
  have hB5 := hB4.trans (hA4.mono hB4.size)
  have ht5 := (ht3.below hb4).below hA4
  have c0 := cells_at r4 0 _ rfl
  have c1 := cells_at r4 1 _ rfl
  have c2 := cells_at r4 2 _ rfl
  have c3 := cells_at r4 3 _ rfl
  have c4 := cells_at r4 4 _ rfl
  go_wp2_with fail
  generalize w4.alloc (.cells #[.int .i64 0, .int .i64 0, .slice da 0 dc] 47) = w5 at hA4 r4 s4 hB5 ht5 c0 c1 c2 c3 c4 ⊢
  refine (HH.out w5).mono ?_
  rintro e w6 ⟨ba', bc', bl', pa', pc', pl', he, hH', _, hpl', hb6, _, _⟩
  subst he
  dsimp only
  have hB6 := hB5.trans (hb6.mono hB5.size)
  have s6 := (hb6.block _ (lt_of_heap s4)).trans s4
  have hF4 := H1.out (some ⟨w6.heap.size + 1, 0, none⟩) 1 pl' hpl'
  clear hpl' c0 c1 c2 c3 c4 H1 HH
  have hX1 := (Below.refl w6.heap.size w6).alloc (Nat.le_refl _) (.cells #[.int .i64 A, .int .i64 B, .slice (some ⟨w6.heap.size + 1 + 1, 0, none⟩) 1 1, .slice pa' pl'.length pc'] 25)
  have hX2 := hX1.alloc hX1.size (.cells #[.int .u8 1] 5)
  have hX3 := hX2.alloc hX2.size (.cells #[.slice (some ⟨w6.heap.size + 1, 0, none⟩) 1 1] 42)
  have y1 : ((((w6.alloc (.cells #[.int .i64 A, .int .i64 B, .slice (some ⟨w6.heap.size + 1 + 1, 0, none⟩) 1 1, .slice pa' pl'.length pc'] 25)).alloc (.cells #[.int .u8 1] 5)).alloc (.cells #[.slice (some ⟨w6.heap.size + 1, 0, none⟩) 1 1] 42))).heap[w6.heap.size + 1]? = some (.cells #[.int .u8 1] 5 (0, 0)) := by
    have := heap_keep (o := .cells #[.slice (some ⟨w6.heap.size + 1, 0, none⟩) 1 1] 42) (heap_alloc_new (w6.alloc (.cells #[.int .i64 A, .int .i64 B, .slice (some ⟨w6.heap.size + 1 + 1, 0, none⟩) 1 1, .slice pa' pl'.length pc'] 25)) (.cells #[.int .u8 1] 5))
    rw [size_alloc] at this; exact this
  have y2 : ((((w6.alloc (.cells #[.int .i64 A, .int .i64 B, .slice (some ⟨w6.heap.size + 1 + 1, 0, none⟩) 1 1, .slice pa' pl'.length pc'] 25)).alloc (.cells #[.int .u8 1] 5)).alloc (.cells #[.slice (some ⟨w6.heap.size + 1, 0, none⟩) 1 1] 42))).heap[w6.heap.size + 1 + 1]? = some (.cells #[.slice (some ⟨w6.heap.size + 1, 0, none⟩) 1 1] 42 (0, 0)) := by
    have := heap_alloc_new ((w6.alloc (.cells #[.int .i64 A, .int .i64 B, .slice (some ⟨w6.heap.size + 1 + 1, 0, none⟩) 1 1, .slice pa' pl'.length pc'] 25)).alloc (.cells #[.int .u8 1] 5)) (.cells #[.slice (some ⟨w6.heap.size + 1, 0, none⟩) 1 1] 42)
    rw [size_alloc, size_alloc] at this; exact this
  go_wp2_with fail
  generalize ((w6.alloc (.cells #[.int .i64 A, .int .i64 B, .slice (some ⟨w6.heap.size + 1 + 1, 0, none⟩) 1 1, .slice pa' pl'.length pc'] 25)).alloc (.cells #[.int .u8 1] 5)).alloc (.cells #[.slice (some ⟨w6.heap.size + 1, 0, none⟩) 1 1] 42) = w7 at hX3 y1 y2 ⊢
  have hB7 := hB6.trans (hX3.mono hB6.size)
  have s7 := (hX3.block _ (lt_of_heap s6)).trans s6
  have hone : SliceAt w7 (some ⟨w6.heap.size + 1, 0, none⟩) 1 [1] := ⟨Nat.le_refl _, by decide, .inr ⟨_, _, rfl⟩, (fun e => by cases e), .inr ⟨_, _, rfl, fun j hj => by
    obtain rfl : j = 0 := by simpa using hj
    exact cells_at y1 0 _ rfl⟩⟩
  have hLb : ListAt w7 (some ⟨w6.heap.size + 1 + 1, 0, none⟩) 1 [⟨some ⟨w6.heap.size + 1, 0, none⟩, 1, [1]⟩] := ⟨Nat.le_refl _, by decide, by simp, .inr ⟨_, _, rfl⟩, ⟨.inr ⟨_, _, rfl, fun j hj => by
    obtain rfl : j = 0 := by simpa using hj
    exact cells_at y2 0 _ rfl⟩, fun p hp => by
    obtain rfl : p = ⟨some ⟨w6.heap.size + 1, 0, none⟩, 1, [1]⟩ := by simpa using hp
    exact hone⟩⟩
  have hH7 : HAt w7 (some ⟨w6.heap.size + 1 + 1, 0, none⟩) 1 [⟨some ⟨w6.heap.size + 1, 0, none⟩, 1, [1]⟩] pa' pc' pl' := ⟨hLb, hH'.lp.below hX3, (fun sb so e => by cases e; exact lt_of_heap y2), (hH'.below hX3).rp⟩
  have hC := cast_any ks xa xc A B _ 1 [⟨some ⟨w6.heap.size + 1, 0, none⟩, 1, [1]⟩] pa' pc' pl' w7 ((ht5.below hb6).below hX3) hH7 (hT.below hB7)
  rw [castAll_head H0.out hF4 (by decide)] at hC
  refine hC.mono ?_
  rintro e w8 ⟨ya', yc', ys', da', dc', au', rd', ds', er', he, hR, _, _, _, _, hb8⟩
  subst he
  dsimp only
  simp only [Prod.mk.injEq] at hR
  obtain ⟨_, ⟨rfl, rfl, rfl⟩, rfl⟩ := hR
  clear hC hF4
  have hB8 := hB7.trans (hb8.mono hB7.size)
  have s8 := heap_keep (o := .cells #[.int .i64 0, .int .i64 0, .slice da' 0 dc'] 47) ((hb8.block _ (lt_of_heap s7)).trans s7)
  have d1 := cells_at s8 1 _ rfl
  have hB9 := hB8.alloc hB8.size (.cells #[.int .i64 0, .int .i64 0, .slice da' 0 dc'] 47)
  go_wp2_with fail
  go_ret
  exact ⟨by first | rfl | simp, hB9⟩
end Go.Proofs.YtbkojincfmfpnaaDoor

namespace Go.Proofs.YtbkojincfmfpnaaDoor
open Go.RowKit

set_option maxRecDepth 100000 in
/-- An array of arrays of integers that reads as a table of rows holds the rows' numbers, cell for cell. -/
theorem cells_of_tab2 {H : Type} {enc : TypeId × Value → H} {P : Program} {w : World} {base : Nat} {sp : Nat → Bool} {held : Bool} {fuel : Nat} {t e i : TypeId} {n m : Nat} {k : IntKind} {cs : List Value} {rows : List (List Int)} {p : List MemPlace}
    (ht : P.underlying t = some (.array n e)) (he : P.underlying e = some (.array m i)) (hi : P.underlying i = some (.int k)) (hci : P.cellsOf i = 1) (hce : P.cellsOf e = m) (hm : 0 < m)
    (h : DataW.trod enc P w base sp held fuel t cs = some (.agg (rows.map (Lib.tabData k)), p)) (q : Nat) (hq : q < n * m) : cs[q]? = ((rows.getD (q / m) []).map (Value.int k))[q % m]? := by
  obtain ⟨xs, f, rfl, hx, hl, hn, hr⟩ := DataW.trod_array ht h
  have hin : q / m < n := Nat.div_lt_of_lt_mul (by rw [Nat.mul_comm]; exact hq)
  have hrow := hr (q / m) hin
  have hxs : xs.map (·.1) = rows.map (Lib.tabData k) := by
    have := congrArg Prod.fst hx
    simpa using this.symm
  have hg : (xs.map (·.1))[q / m]? = some (xs[q / m]'(by omega)).1 := by simp [hn, hin]
  rw [hxs] at hg
  simp only [List.getElem?_map, Option.map_eq_some_iff] at hg
  obtain ⟨r, hr1, hr2⟩ := hg
  rw [List.getElem?_eq_getElem (by omega), hce] at hrow
  have hrow' : DataW.trod enc P w base sp held f e ((cs.drop (q / m * m)).take m) = some (Lib.tabData k r, (xs[q / m]'(by omega)).2) := by
    rw [hrow, hr2]
  have hc := Lib.cells_of_tab he hi hci hce hrow'
  have hj : q % m < m := Nat.mod_lt _ hm
  have e1 : ((cs.drop (q / m * m)).take m)[q % m]? = cs[q]? := by
    rw [List.getElem?_take, if_pos hj, List.getElem?_drop, Nat.mul_comm, Nat.div_add_mod]
  rw [← e1, hc]
  simp [List.getD, hr1]

set_option maxRecDepth 100000 in
theorem tFirst : (Tryd.prog.globals[0]?).map (·.type) = some 127 := by kernel_rfl
set_option maxRecDepth 100000 in
theorem tOrders : (Tryd.prog.globals[1]?).map (·.type) = some 141 := by kernel_rfl
set_option maxRecDepth 100000 in
theorem tLanes : (Tryd.prog.globals[2]?).map (·.type) = some 143 := by kernel_rfl
set_option maxRecDepth 100000 in
theorem cU32 : Tryd.prog.cellsOf 126 = 1 := by kernel_rfl
set_option maxRecDepth 100000 in
theorem c8U32 : Tryd.prog.cellsOf 127 = 8 := by kernel_rfl
set_option maxRecDepth 100000 in
theorem c16U8 : Tryd.prog.cellsOf 140 = 16 := by kernel_rfl
set_option maxRecDepth 100000 in
theorem c4U8 : Tryd.prog.cellsOf 142 = 4 := by kernel_rfl
def ordRows : List (List Int) := [[0, 1, 2, 3, 4, 5, 6, 7, 8, 9, 10, 11, 12, 13, 14, 15], [14, 10, 4, 8, 9, 15, 13, 6, 1, 12, 0, 2, 11, 7, 5, 3], [11, 8, 12, 0, 5, 2, 15, 13, 10, 14, 3, 6, 7, 1, 9, 4], [7, 9, 3, 1, 13, 12, 11, 14, 2, 6, 5, 10, 4, 0, 15, 8], [9, 0, 5, 7, 2, 4, 10, 15, 14, 1, 11, 12, 6, 8, 3, 13], [2, 12, 6, 10, 0, 11, 8, 3, 4, 13, 7, 5, 15, 14, 1, 9], [12, 5, 1, 15, 14, 13, 4, 10, 0, 7, 6, 3, 9, 2, 8, 11], [13, 11, 7, 14, 12, 1, 3, 9, 5, 0, 15, 4, 8, 6, 2, 10], [6, 15, 14, 9, 11, 3, 0, 8, 12, 2, 13, 7, 1, 4, 10, 5], [10, 2, 8, 4, 7, 6, 1, 5, 15, 11, 9, 14, 3, 12, 13, 0]]
def laneRows : List (List Int) := [[0, 4, 8, 12], [1, 5, 9, 13], [2, 6, 10, 14], [3, 7, 11, 15], [0, 5, 10, 15], [1, 6, 11, 12], [2, 7, 8, 13], [3, 4, 9, 14]]
set_option maxRecDepth 100000 in
theorem ordRows_flat : ∀ q, q < 160 → (ordRows.getD (q / 16) [])[q % 16]? = some ((ordF.getD q 0 : Nat) : Int) := by decide +kernel
set_option maxRecDepth 100000 in
theorem laneRows_flat : ∀ q, q < 32 → (laneRows.getD (q / 4) [])[q % 4]? = some ((laneF.getD q 0 : Nat) : Int) := by decide +kernel
set_option maxRecDepth 100000 in
theorem dFirst : Rows.laid_sheaves_blake_firstWords (H := Unit) = Lib.tabData .u32 fw := rfl
set_option maxRecDepth 100000 in
theorem dOrders : Rows.laid_sheaves_blake_orders (H := Unit) = .agg (ordRows.map (Lib.tabData .u8)) := rfl
set_option maxRecDepth 100000 in
theorem dLanes : Rows.laid_sheaves_blake_lanes (H := Unit) = .agg (laneRows.map (Lib.tabData .u8)) := rfl

set_option maxRecDepth 100000 in
theorem tabs_of_laid {W : World} {n1 n2 n3 : String} (gFirst : Tryd.prog.globalNamed n1 = some 0) (gOrders : Tryd.prog.globalNamed n2 = some 1) (gLanes : Tryd.prog.globalNamed n3 = some 2)
    (h : laidMetH Tryd.prog [(n1, Rows.laid_sheaves_blake_firstWords), (n2, Rows.laid_sheaves_blake_orders), (n3, Rows.laid_sheaves_blake_lanes)] W) : Tabs W := by
  have h1 : laidMet Tryd.prog [(n1, Rows.laid_sheaves_blake_firstWords), (n2, Rows.laid_sheaves_blake_orders), (n3, Rows.laid_sheaves_blake_lanes)] W := h
  clear h
  have h2 := h1.tail
  have h3 := h2.tail
  rw [dFirst] at h1
  rw [dOrders] at h2
  rw [dLanes] at h3
  have t1 := Lib.tabIs_of_head gFirst tFirst Tryd.underlying127 Tryd.underlying126 cU32 c8U32 h1
  refine ⟨fun i hi => t1.cell gFirst i hi, fun i hi => ?_, fun i hi => ?_⟩
  · obtain ⟨ps, ⟨g', t', cs, fuel, p, q, hg', ht', hvar, hd, _, _⟩, _⟩ := h2
    obtain rfl := Option.some.inj (gOrders.symm.trans hg')
    obtain rfl := Option.some.inj (tOrders.symm.trans ht')
    have hc := World.var?_cell gOrders hvar i
    have he := cells_of_tab2 Tryd.underlying141 Tryd.underlying140 Tryd.underlying5 cU8 c16U8 (by decide) hd i hi
    rw [hc]
    have := ordRows_flat i hi
    simp only [List.getElem?_map, this, Option.map_some] at he
    simpa using he
  · obtain ⟨ps, ⟨g', t', cs, fuel, p, q, hg', ht', hvar, hd, _, _⟩, _⟩ := h3
    obtain rfl := Option.some.inj (gLanes.symm.trans hg')
    obtain rfl := Option.some.inj (tLanes.symm.trans ht')
    have hc := World.var?_cell gLanes hvar i
    have he := cells_of_tab2 Tryd.underlying143 Tryd.underlying142 Tryd.underlying5 cU8 c4U8 (by decide) hd i hi
    rw [hc]
    have := laneRows_flat i hi
    simp only [List.getElem?_map, this, Option.map_some] at he
    simpa using he
end Go.Proofs.YtbkojincfmfpnaaDoor

namespace Go.Proofs.YtbkojincfmfpnaaDoor
open Go.ChangeShapes Go.WideShapes Go.ChangeAt Go.RowKit

/-- What the initialisers of the three tables lay, in the first blocks. -/
def layBlock (c : Array Value) : Obj → Obj
  | .cells _ t frozen => .cells c t frozen
  | o => o
def layTabs (w : World) : World :=
  { w with heap := ((w.heap.modify 0 (layBlock (ua fw))).modify 1 (layBlock (ub (ordF.map Int.ofNat)).toArray)).modify 2 (layBlock (ub (laneF.map Int.ofNat)).toArray) }
end Go.Proofs.YtbkojincfmfpnaaDoor

namespace Go.Proofs.YtbkojincfmfpnaaDoor.castBad
open Go.ChangeShapes Go.WideShapes Go.ChangeAt Go.RowKit

set_option maxRecDepth 100000 in
/-- What the walk gives, for every argument and every world that holds the tables. -/
theorem contract (H : Type) (enc : TypeId × Value → H) (W : World) (base : Nat) (args : Array Value) (ds gs : List (DataW H)) (before : List MemPlace)
    (hval : ∀ (j : Nat) t v, Tryd.f13.params[j]? = some t → args[j]? = some v → Value.okWide Tryd.prog W .any base t v)
    (hW : DataW.Whole enc Tryd.prog Tryd.f13.params.toList Rows.castBadSpec.vars false W args.toList ds gs before) (hsz : (DataW.weightsEach Tryd.prog (Tryd.f13.params.toList ++ (OpenSpec.ofChange Rows.castBadSpec).bare.plain.varTypes Tryd.prog) (ds ++ gs)).all (· ≤ reachBytes) = true) (hL : laidMetH Tryd.prog Rows.castBadRow.laid W) :
    Calls Tryd.prog 13 args W fun e W' => ∃ v, e = .returned v ∧ Rows.castBadSpec.post enc Tryd.prog Tryd.f13 false true false false W args v W' := by
  have hW' := hW
  obtain ⟨p, q, hA0, hV, rfl, hfz, hnd⟩ := hW
  have hA : DataW.TrodAll enc Tryd.prog W 0 (fun _ => true) true Tryd.f13.params.toList args.toList ds p := hA0
  rw [Tryd.params13] at hA hval hsz
  obtain ⟨v0, vs0, d0, ds0, p0, q0, hargs, rfl, rfl, h0, r0⟩ := trodAll_cons hA
  obtain ⟨v1, vs1, d1, ds1, p1, q1, rfl, rfl, rfl, h1, r1⟩ := trodAll_cons r0
  obtain ⟨rfl, rfl, rfl⟩ := trodAll_nil r1
  obtain rfl : args = #[v0, v1] := by cases args; simp_all
  obtain ⟨rfl, rfl⟩ := trodVars_none hV
  have k0 := h0
  have lt0 : ∀ x ∈ p0, x.block < W.heap.size := by obtain ⟨m, hm⟩ := k0; exact DataW.trod_lt m _ _ _ hm
  obtain ⟨sa0, cap0, rs0, rfl, q0_0, q0_1⟩ := open_raws (hval 0 54 v0 rfl rfl) h0 (fit_each hsz (j := 0) rfl rfl)
  have k1 := h1
  have lt1 : ∀ x ∈ p1, x.block < W.heap.size := by obtain ⟨m, hm⟩ := k1; exact DataW.trod_lt m _ _ _ hm
  obtain ⟨ki1, ra1, rb1, rc1, sa1, cap1, ss1, rfl, q1_0, q1_1, q1_2, q1_3, q1_4⟩ := open_raw (hval 1 36 v1 rfl rfl) h1 (fit_each hsz (j := 1) rfl rfl)
  clear hA0
  have hT : Tabs W := tabs_of_laid (by kernel_rfl) (by kernel_rfl) (by kernel_rfl) hL
  refine (castBad_walk sa0 cap0 rs0 ki1 ra1 rb1 rc1 sa1 cap1 ss1 W q0_0 q0_1 q1_0 q1_1 q1_2 q1_3 q1_4 hT).mono fun e W' ⟨he, bel⟩ => ?_
  subst he
  exact ⟨_, rfl, _, _, _, [], _, [], hW', trodAll_mk1 (shut_bool Tryd.underlying4 _), (trodAll_cons_mk (Below.trod laidOut (by kernel_rfl) (of_decide_eq_true (by kernel_rfl)) k0 bel lt0) (trodAll_cons_mk (Below.trod laidOut (by kernel_rfl) (of_decide_eq_true (by kernel_rfl)) k1 bel lt1) trodAll_mk0)), rfl, bel.frame _, fun h => by cases h⟩

set_option maxRecDepth 100000 in
theorem laid_met (os : Os) : laidMet Tryd.prog Rows.castBadRow.laid ((layTabs (World.holding Tryd.prog os ⟨#[], #[], []⟩)).forCall (fun _ _ => 0) ⟨#[], #[.slice none 0 0, .agg #[.int .i64 0, .int .i64 0, .int .i64 0, .int .i64 0, .slice none 0 0]], []⟩).memory :=
  laidMet_of_run' 8 (by kernel_rfl) (by kernel_rfl)
set_option maxRecDepth 100000 in
theorem reads (os : Os) {H : Type} (enc : TypeId × Value → H) : ∃ places, DataW.whole enc Tryd.prog ((layTabs (World.holding Tryd.prog os ⟨#[], #[], []⟩)).forCall (fun _ _ => 0) ⟨#[], #[.slice none 0 0, .agg #[.int .i64 0, .int .i64 0, .int .i64 0, .int .i64 0, .slice none 0 0]], []⟩).memory Tryd.f13.params.toList Rows.castBadSpec.vars false (#[.slice none 0 0, .agg #[.int .i64 0, .int .i64 0, .int .i64 0, .int .i64 0, .slice none 0 0]] : Array Value).toList 8 = some ([.nil, .agg [.lit (.int .i64 0), .lit (.int .i64 0), .lit (.int .i64 0), .lit (.int .i64 0), .nil]], [], places) :=
  ⟨[], by kernel_rfl⟩

set_option maxRecDepth 100000 in
theorem lifted (os : Os) (started : os.Started) (H : Type) (enc : TypeId × Value → H) (F : Stop.Interp) :
    ReturnsInHanded {} Tryd.checked os 13 .any ((OpenSpec.ofChange Rows.castBadSpec).preRow enc Tryd.prog Tryd.f13 Rows.castBadRow.domain false Rows.castBadRow.laid) (((OpenSpec.ofChange Rows.castBadSpec).at F).post enc Tryd.prog Tryd.f13 false true false false) := by
  obtain ⟨places, hx⟩ := reads os enc
  refine returnsInHanded_of_row (C := Tryd.checked) (s := OpenSpec.ofChange Rows.castBadSpec) own started (by kernel_rfl) Tryd.func13
    (witness_row_at (enc := enc) (C := Tryd.checked) false (layTabs (World.holding Tryd.prog os ⟨#[], #[], []⟩)) #[.slice none 0 0, .agg #[.int .i64 0, .int .i64 0, .int .i64 0, .int .i64 0, .slice none 0 0]] rfl (by kernel_rfl) (by kernel_rfl) (by kernel_rfl)
      (OpenSpec.preRow_of_cond 8 hx (by kernel_rfl) (fun k hk => by cases hk) (by kernel_rfl) (laid_met os))) ?_
  intro W base args ds gs before hval hW _ _ hsz hL _ _
  exact contract H enc W base args ds gs before hval hW hsz hL

set_option maxRecDepth 100000 in
theorem said : Rows.CastBadSaid :=
  OpenClaim.holds_of_cond 13 Tryd.f13 rfl rfl rfl rfl rfl rfl rfl ⟨rfl, rfl, rfl, rfl, rfl⟩ rfl rfl rfl rfl rfl (by kernel_rfl) Tryd.func13 (by kernel_rfl)
    (of_decide_eq_true (by kernel_rfl)) (by unfold Func.isWrapper; first | (rw [if_pos (by decide +kernel)]; kernel_rfl) | (rw [if_neg (by decide +kernel)]; exact ⟨rfl, rfl⟩))
    (fun os started H enc _ F => by rw [OpenClaim.pre_eq_preRow]; exact lifted os started H enc F)

set_option maxRecDepth 100000 in
theorem plain (f : FuncId) (fn : Func) (hf : Tryd.pinned.checked.prog.funcNamed Rows.castBadRow.func = some f) (hfn : Tryd.pinned.checked.prog.funcs[f]? = some fn) :
    false = Tryd.pinned.checked.prog.looks [] ∧ ∀ (j : Nat) t, fn.params[j]? = some t → Tryd.pinned.checked.prog.wantsStandIn t = false := by
  obtain rfl : f = 13 := Option.some.inj ((show Tryd.prog.funcNamed Rows.castBadRow.func = some 13 by kernel_rfl).symm.trans hf) |>.symm
  obtain rfl : fn = Tryd.f13 := (Option.some.inj (Tryd.func13.symm.trans hfn)).symm
  refine ⟨by kernel_rfl, fun j t ht => ?_⟩
  rw [Tryd.params13] at ht
  have hm : t = 54 ∨ t = 36 := by simpa using Array.mem_of_getElem? ht
  rcases hm with rfl | rfl
  · exact (show Tryd.prog.wantsStandIn 54 = false by kernel_rfl)
  · exact (show Tryd.prog.wantsStandIn 36 = false by kernel_rfl)

set_option maxRecDepth 100000 in
/-- THE CARD. -/
theorem card : Rows.CastBadCardSaid :=
  Claim7.holds_tied_plain_at .later [] _ _ _ _ said (fun _ h => by cases h) (by kernel_rfl) (fun _ h => by cases h) castBad_row_tie rfl ⟨rfl, rfl⟩ (by kernel_rfl) rfl plain (by kernel_rfl)
end Go.Proofs.YtbkojincfmfpnaaDoor.castBad
namespace Go.Proofs.YtbkojincfmfpnaaDoor
set_option maxRecDepth 100000 in
theorem castBad_holds : Rows.CastBadCardSaid := castBad.card
#print axioms castBad_holds
end Go.Proofs.YtbkojincfmfpnaaDoor
