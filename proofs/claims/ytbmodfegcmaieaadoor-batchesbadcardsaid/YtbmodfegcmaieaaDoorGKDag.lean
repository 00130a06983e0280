/- sheaveskeep.Dag, for every list of steps: by bin/mkkdag.py. -/
import Derived.Test.YtbmodfegcmaieaaDoorGKDag0
namespace Go.Proofs.YtbmodfegcmaieaaDoor
open Go.RowKit

set_option maxRecDepth 100000 in
set_option maxHeartbeats 8000000 in
theorem kdag_any (l : List Stp) (sa : Option Addr) (n cap : Nat) (w : World) (hn : n = l.length) (hl : StepsAt w sa l) (hT : Tabs w) :
    Calls Tryd.prog 54 #[.slice sa n cap] w fun e w' => GrownIs w w' e l (min l.length 24) := by
  subst hn
  have HT : Hid (∀ W : World, Below w.heap.size w W → Tabs W) := by
    show ∀ W, _
    exact fun W hW => hT.below hW
  clear hT
  have hA := (Below.refl w.heap.size w).alloc (Nat.le_refl _) (.cells #[.slice none 0 0] 51)
  have hA2 := hA.alloc hA.size (.cells #[.slice none 0 0] 51)
  have q0 := heap_alloc2_old w (.cells #[.slice none 0 0] 51) (.cells #[.slice none 0 0] 51)
  have q1 : ((w.alloc (.cells #[.slice none 0 0] 51)).alloc (.cells #[.slice none 0 0] 51)).heap[w.heap.size + 1]? = some (.cells #[.slice none 0 0] 51 (0, 0)) := by
    have := heap_alloc_new (w.alloc (.cells #[.slice none 0 0] 51)) (.cells #[.slice none 0 0] 51)
    rw [size_alloc] at this; exact this
  go_enter Tryd.func54, Tryd.ntmps54
  go_wp2_with fail
  generalize (w.alloc (.cells #[.slice none 0 0] 51)).alloc (.cells #[.slice none 0 0] 51) = W0 at hA2 q0 q1 ⊢
  generalize hD1 : w.heap.size + 1 = D1 at q1 ⊢
  have hDg : w.heap.size ≤ D1 := by omega
  go_loopw [6, 5] (fun j v wr => ∃ (k : Nat) (ka : Option Addr) (kc : Nat) (ks : List Ct) (bl : List Bt), k ≤ l.length ∧ k ≤ 24 ∧ j = .int .i64 k ∧ Hid (GrownTo l k (cvs ks)) ∧ wr.heap[w.heap.size]? = some (.cells #[.slice none 0 0] 51 (0, 0)) ∧ wr.heap[D1]? = some (.cells #[.slice ka ks.length kc] 51 (0, 0)) ∧ DagAt wr ka kc ks ∧ DagOff v ka ks ∧ DagNew (D1 + 1) ka ks ∧ (∀ sb so, ka = some ⟨sb, so, none⟩ → sb < wr.heap.size) ∧ BtsOwn wr w.heap.size v bl ∧ Hid (bl.map (·.v) = bvTo l k) ∧ Below w.heap.size w wr) (fun j _ _ => l.length - (intOf j).toNat)
  case atStart => exact ⟨0, none, 0, [], [], Nat.zero_le _, by omega, rfl, (show GrownTo l 0 (cvs []) from rfl), q0, q1, dag_none _, dagOff_none _, dagNew_none _, (fun _ _ e => by cases e), ⟨World.ownsRow_nil _ _ _ _, fun b hb => by cases hb⟩, (show _ = _ from rfl), hA2⟩
  case round =>
    obtain ⟨k, ka, kc, ks, bl, hk, hk24, rfl, HG, b0, b1, hdag, hoff, hnew, hkr, ho, HBV, hb⟩ := hrel
    clear q0 q1 hA2
    have hF : Hid (dagF (cvs ks) = 0) := HG.out.dag
    have hkl : ks.length ≤ k := by have := HG.out.len; rw [cvs_length] at this; exact this
    by_cases hlt : k < l.length
    · by_cases h24 : k < 24
      · have hltI : (k : Int) < l.length := by omega
        have h24I : (k : Int) < 24 := by omega
        have d0 := cells_at b1 0 _ rfl
        go_wp2_with fail
        refine (dagRound_any ks ka _ kc wr rfl hdag (HT.out wr hb)).mono ?_
        rintro e w2 ⟨hR, hb2⟩
        unfold RndAt at hR
        rcases hR with ⟨hz, _⟩ | ⟨_, rd, he, hN⟩
        · rw [hF.out] at hz; cases hz
        subst he
        dsimp only
        have HN : Hid _ := hN
        have hrd := next_bound hF.out hN
        obtain ⟨hr1, hr2⟩ := hrd
        clear hN d0
        have hB2 := hb.trans (hb2.mono hb.size)
        have b02 := (hb2.block _ (lt_of_heap b0)).trans b0
        have b12 := (hb2.block _ (lt_of_heap b1)).trans b1
        have hd2 := hdag.below hb2
        have ho2 := ho.below hb2
        have hwr2 := hb2.size
        clear b0 b1 hdag ho
        obtain ⟨sb, so, rfl, hc⟩ : ∃ sb so, sa = some ⟨sb, so, none⟩ ∧ ∀ j (h : j < l.length), w2.cell? ⟨sb, so + j * 3, none⟩ = some (.int .i64 (l[j]).x) ∧ w2.cell? ⟨sb, so + j * 3 + 1, none⟩ = some (.int .i64 (l[j]).y) ∧ w2.cell? ⟨sb, so + j * 3 + 2, none⟩ = some (.int .i64 (l[j]).z) := by
          rcases (hl.below hB2).cells with h | h
          · rw [h] at hlt; simp at hlt
          · exact h
        obtain ⟨c0, c1, c2⟩ := hc k hlt
        have hi3 := hl.each (l[k]) (List.getElem_mem hlt)
        have hsk : sAt l k = l[k] := sAt_get l k hlt
        clear hc
        generalize l[k] = s at c0 c1 c2 hi3 hsk
        have HSK : Hid (sAt l k = s) := hsk
        clear hsk
        have HI : Hid (I64 s.x ∧ I64 s.y ∧ I64 s.z) := hi3
        have hsb : sb < w2.heap.size := block_lt_of_cell c0
        clear hi3
        go_wp2_with fail
        refine (picked_any s.x 4 w2 HI.out.1.1 HI.out.1.2 (by decide) (by decide)).mono ?_
        rintro e wq ⟨he, hwq⟩
        subst he hwq
        dsimp only
        have hA3 := (Below.refl w2.heap.size w2).alloc (Nat.le_refl _) (.cells #[.int .i64 (pk s.x 4), .int .i64 rd, .slice none 0 0, .slice none 0 0] 60)
        have qH := heap_alloc_new w2 (.cells #[.int .i64 (pk s.x 4), .int .i64 rd, .slice none 0 0, .slice none 0 0] 60)
        have e0 := (hA3.cell (p := ⟨sb, so + k * 3, none⟩) hsb).trans c0
        have e1 := (hA3.cell (p := ⟨sb, so + k * 3 + 1, none⟩) hsb).trans c1
        have e2 := (hA3.cell (p := ⟨sb, so + k * 3 + 2, none⟩) hsb).trans c2
        go_upto_region 10 with fail
        have hB3 := hB2.trans (hA3.mono hB2.size)
        have b03 := (hA3.block _ (lt_of_heap b02)).trans b02
        have b13 := (hA3.block _ (lt_of_heap b12)).trans b12
        have hd3 := hd2.below hA3
        have ho3 := ho2.below hA3
        have hHg : w.heap.size ≤ w2.heap.size := hB2.size
        have hHD : D1 < w2.heap.size := lt_of_heap b12
        have hH0 : w.heap.size < w2.heap.size := lt_of_heap b02
        generalize w2.alloc (.cells #[.int .i64 (pk s.x 4), .int .i64 rd, .slice none 0 0, .slice none 0 0] 60) = W3 at hA3 qH e0 e1 e2 hB3 b03 b13 hd3 ho3 ⊢
        generalize hHB : w2.heap.size = HB at qH hHg hHD hH0 hsb ⊢
        clear b03 b13 hd3 ho3 e0 hb2
        have HPX : Hid (∃ PX, PX = pk s.x 4) := ⟨_, rfl⟩
        obtain ⟨PX, hPX⟩ := HPX.out
        rw [← hPX] at qH ⊢
        have HPX2 : Hid (PX = pk s.x 4) := hPX
        have hPXb : 0 ≤ PX ∧ PX < 4 := by rw [hPX]; exact pk_bounds _ _ (by decide)
        clear hPX HPX
        have h_c1 := cells_at qH 1 _ rfl
        have h_f1 := frozen_at qH 1
        go_cut [55] from 18 to 150 (fun v wx => ∃ B : Bool, v = .bool B ∧ Hid (B = decide (pk s.y 4 = 3 ∧ 1 < rd)) ∧ W3 = wx)
        case first =>
          have hp4 := pk_bounds s.y 4 (by decide)
          go_wp2_with fail
          refine (picked_any s.y 4 W3 HI.out.2.1.1 HI.out.2.1.2 (by decide) (by decide)).mono ?_
          rintro e wq ⟨he, hwq⟩
          subst he hwq
          dsimp only
          obtain ⟨PY, hPY⟩ : ∃ PY, PY = pk s.y 4 := ⟨_, rfl⟩
          rw [← hPY] at hp4 ⊢
          have HPY : Hid (PY = pk s.y 4) := hPY
          clear hPY
          by_cases h3 : PY = 3
          · subst h3
            by_cases h1 : 1 < rd
            · go_wp2_with fail
              go_meet
              case rel => exact ⟨true, rfl, (show true = decide _ by simp [h1, ← HPY.out]), rfl⟩
            · go_wp2_with fail
              go_meet
              case rel => exact ⟨false, rfl, (show false = decide _ by rw [← HPY.out]; simp; omega), rfl⟩
          · have h3b : (PY == 3) = false := by simp [h3]
            go_wp2_with fail
            go_meet
            case rel => exact ⟨false, rfl, (show false = decide _ by rw [← HPY.out]; simp [h3]), rfl⟩
        case rest =>
          obtain ⟨B, rfl, HBr, rfl⟩ := hcut
          have hBr : B = true → 1 < rd := fun h => by have h2 := HBr.out; rw [h] at h2; exact (of_decide_eq_true h2.symm).2
          have HSR : Hid (sRd s rd = if B = true then rd - 1 else rd) := by
            show _ = _
            rw [sRd, HBr.out]; simp
          clear HBr
          go_upto_if 55 with fail
          go_cut [9] from 18 to 150 (fun v wx => ∃ hr : Int, v = .pointer (some ⟨HB, 0, none⟩) ∧ 1 ≤ hr ∧ hr ≤ rd ∧ Hid (hr = sRd s rd) ∧ Below w2.heap.size w2 wx ∧ wx.heap[HB]? = some (.cells #[.int .i64 PX, .int .i64 hr, .slice none 0 0, .slice none 0 0] 60 (0, 0)))
          case first =>
            cases B with
            | true =>
              have h1 := hBr rfl
              go_wp2_with fail
              go_meet
              case rel => exact ⟨rd - 1, rfl, by omega, by omega, (show rd - 1 = _ by rw [HSR.out]; simp), hA3.setCell (p := ⟨HB, 1, none⟩) (by show w2.heap.size ≤ HB; omega) _, by simpa using heap_setCell_same _ _ 1 _ _ (.int .i64 (rd - 1)) qH⟩
            | false =>
              go_wp2_with fail
              go_meet
              case rel => exact ⟨rd, rfl, hr1, Int.le_refl _, (show rd = _ by rw [HSR.out]; simp), hA3, qH⟩
          case rest =>
            obtain ⟨hr, rfl, hh1, hh2, HHR, hb4, qH4⟩ := hcut
            clear HSR
            have b04 := (hb4.block _ (lt_of_heap b02)).trans b02
            have b14 := (hb4.block _ (lt_of_heap b12)).trans b12
            have hd4 := hd2.below hb4
            have ho4 := ho2.below hb4
            have h_d1 := cells_at qH4 1 _ rfl
            have hB4 := hB2.trans (hb4.mono hB2.size)
            have hw4 := hb4.size
            have x1 : wc.cell? ⟨sb, so + k * 3 + 1, none⟩ = some (.int .i64 s.y) := (hb4.cell (p := ⟨sb, so + k * 3 + 1, none⟩) (by rw [hHB]; exact hsb)).trans c1
            have x2 : wc.cell? ⟨sb, so + k * 3 + 2, none⟩ = some (.int .i64 s.z) := (hb4.cell (p := ⟨sb, so + k * 3 + 2, none⟩) (by rw [hHB]; exact hsb)).trans c2
            go_upto_if 61 with fail
            have hHlt : HB < wc.heap.size := lt_of_heap qH4
            go_cut [10, 11] from 18 to 150 (fun _ _ wx => ∃ (pa : Option Addr) (pc : Nat) (pl : List Part), Below w2.heap.size w2 wx ∧ wx.heap[HB]? = some (.cells #[.int .i64 PX, .int .i64 hr, .slice none 0 0, .slice pa pl.length pc] 60 (0, 0)) ∧ ListAt wx pa pc pl ∧ Fresh (HB + 1) pa pl ∧ pl.length ≤ 4 ∧ Hid (bss pl = sPl s (cvs ks) hr) ∧ ∀ sb so, pa = some ⟨sb, so, none⟩ → sb < wx.heap.size)
            case first =>
              by_cases h1 : 1 < hr
              · have d0 := cells_at b14 0 _ rfl
                go_wp2_with fail
                refine (dagDigests_own ks ka _ kc (hr - 1) wc rfl hd4 (HT.out wc hB4)).mono ?_
                intro e w5 hO
                have hb5 := hO.below
                rcases hO.out with ⟨hz, _⟩ | ⟨_, ma, mc, ms, he, hms, hL, hFr⟩
                · rw [hF.out] at hz; cases hz
                subst he
                dsimp only
                have qH5 := (hb5.block _ hHlt).trans qH4
                have y1 : w5.cell? ⟨sb, so + k * 3 + 1, none⟩ = some (.int .i64 s.y) := (hb5.cell (p := ⟨sb, so + k * 3 + 1, none⟩) (block_lt_of_cell x1)).trans x1
                have hm4 : ms.length ≤ 4 := by
                  have h9 := congrArg List.length hms
                  have h8 := dgTo_length (cvs ks) (hr - 1) 4
                  rw [← dgF, ← h9] at h8
                  simpa [bss] using h8
                have hm3 : 3 ≤ ms.length := by
                  have h9 := congrArg List.length hms
                  rw [bss_length] at h9
                  rw [h9]; exact HN.out.2.1 (hr - 1) (by omega) (by omega)
                have HMS : Hid _ := hms
                clear hms
                by_cases h3 : 3 < ms.length
                · have h3I : (3 : Int) < (ms.length : Int) := by omega
                  go_wp2_with fail
                  refine (picked_any s.y 3 w5 HI.out.2.1.1 HI.out.2.1.2 (by decide) (by decide)).mono ?_
                  rintro e wq ⟨he, hwq⟩
                  subst he hwq
                  dsimp only
                  have hp3 := pk_bounds s.y 3 (by decide)
                  obtain ⟨PY, hPY⟩ : ∃ PY, PY = pk s.y 3 := ⟨_, rfl⟩
                  rw [← hPY] at hp3 ⊢
                  have HPY : Hid (PY = pk s.y 3) := hPY
                  clear hPY
                  have z3 := cells_at qH5 3 _ rfl
                  have zf := frozen_at qH5 3
                  by_cases hp1 : PY = 1
                  · subst hp1
                    have HPY1 : Hid (pk s.y 3 = 1) := HPY.out.symm
                    obtain ⟨mb, mo, rfl⟩ : ∃ mb mo, ma = some ⟨mb, mo, none⟩ := by
                      rcases hL.some with g | g
                      · have := hL.le; omega
                      · exact g
                    cases ms with
                    | nil => simp at h3
                    | cons p0 ps =>
                      have hmc := hL.le
                      have hmx := hL.max
                      have hL1 := list_drop hL
                      have HPL : Hid (pk s.y 3 = 1 → bss ps = sPl s (cvs ks) hr) := by
                        show _ → _
                        intro hy
                        rw [sPl, if_pos h1, ← HMS.out, if_pos ⟨by rw [bss_length]; exact h3, hy⟩]
                        rfl
                      have hR1 : ∀ b so, (some (⟨mb, mo + 1, none⟩ : Addr)) = some ⟨b, so, none⟩ → wc.heap.size ≤ b := fun b so e => by cases e; exact hFr.row mb mo rfl
                      have hR2 : ∀ q ∈ ps, ∀ b so, q.sa = some ⟨b, so, none⟩ → wc.heap.size ≤ b := fun q hq b so e => hFr.each q (List.mem_cons_of_mem _ hq) b so e
                      simp only [List.length_cons] at h3 h3I hm4 hmc ⊢
                      go_wp2_with fail
                      go_meet
                      case rel =>
                        have hb6 := (hb4.trans (hb5.mono hb4.size)).setCell (p := ⟨HB, 3, none⟩) (by show w2.heap.size ≤ HB; omega) (.slice (some ⟨mb, mo + 1, none⟩) ps.length (mc - 1))
                        refine ⟨some ⟨mb, mo + 1, none⟩, mc - 1, ps, hb6, by simpa using heap_setCell_same _ _ 3 _ _ (.slice (some ⟨mb, mo + 1, none⟩) ps.length (mc - 1)) qH5, list_keep hL1 (fun b so e => heap_setCell_other _ ⟨HB, 3, none⟩ b _ (by have := hR1 b so e; show b ≠ HB; omega)) (fun p hp b so _ e => heap_setCell_other _ ⟨HB, 3, none⟩ b _ (by have := hR2 p hp b so e; show b ≠ HB; omega)), ⟨fun b so e => by have := hR1 b so e; omega, fun p hp b so e => by have := hR2 p hp b so e; omega⟩, by omega, HPL.out HPY1.out, fun b so e => by have := list_lt hL1 (by omega) b so e; simpa using this⟩
                  · have hp1b : (PY == 1) = false := by simp [hp1]
                    have HPL : Hid (bss ms = sPl s (cvs ks) hr) := by
                      show _ = _
                      rw [sPl, if_pos h1, ← HMS.out, if_neg (fun h => hp1 (HPY.out.trans h.2))]
                    go_wp2_with fail
                    go_meet
                    case rel =>
                      have hb6 := (hb4.trans (hb5.mono hb4.size)).setCell (p := ⟨HB, 3, none⟩) (by show w2.heap.size ≤ HB; omega) (.slice ma ms.length mc)
                      refine ⟨ma, mc, ms, hb6, by simpa using heap_setCell_same _ _ 3 _ _ (.slice ma ms.length mc) qH5, list_keep hL (fun b so e => heap_setCell_other _ ⟨HB, 3, none⟩ b _ (by have := hFr.row b so e; show b ≠ HB; omega)) (fun p hp b so _ e => heap_setCell_other _ ⟨HB, 3, none⟩ b _ (by have := hFr.each p hp b so e; show b ≠ HB; omega)), ⟨fun b so e => by have := hFr.row b so e; omega, fun p hp b so e => by have := hFr.each p hp b so e; omega⟩, hm4, HPL.out, fun b so e => by have := list_lt hL (by omega) b so e; simpa using this⟩
                · have h3I : ¬ (3 : Int) < (ms.length : Int) := by omega
                  have z3 := cells_at qH5 3 _ rfl
                  have zf := frozen_at qH5 3
                  have HPL : Hid (bss ms = sPl s (cvs ks) hr) := by
                    show _ = _
                    rw [sPl, if_pos h1, ← HMS.out, if_neg (fun h => h3 (by have := h.1; rw [bss_length] at this; exact this))]
                  go_wp2_with fail
                  go_meet
                  case rel =>
                    have hb6 := (hb4.trans (hb5.mono hb4.size)).setCell (p := ⟨HB, 3, none⟩) (by show w2.heap.size ≤ HB; omega) (.slice ma ms.length mc)
                    refine ⟨ma, mc, ms, hb6, by simpa using heap_setCell_same _ _ 3 _ _ (.slice ma ms.length mc) qH5, list_keep hL (fun b so e => heap_setCell_other _ ⟨HB, 3, none⟩ b _ (by have := hFr.row b so e; show b ≠ HB; omega)) (fun p hp b so _ e => heap_setCell_other _ ⟨HB, 3, none⟩ b _ (by have := hFr.each p hp b so e; show b ≠ HB; omega)), ⟨fun b so e => by have := hFr.row b so e; omega, fun p hp b so e => by have := hFr.each p hp b so e; omega⟩, hm4, HPL.out, fun b so e => by have := list_lt hL (by omega) b so e; simpa using this⟩
              · go_wp2_with fail
                go_meet
                case rel => exact ⟨none, 0, [], hb4, qH4, ⟨Nat.le_refl _, by decide, by decide, .inl rfl, ⟨.inl rfl, fun p hp => by cases hp⟩⟩, ⟨(fun _ _ e => by cases e), (fun p hp => by cases hp)⟩, by decide, (show bss [] = _ by rw [sPl, if_neg (by omega)]; rfl), (fun _ _ e => by cases e)⟩
            case rest =>
              obtain ⟨pa, pc, pl, hb6, qH6, hLp, hFp, hp4, HPL, hpr⟩ := hcut
              clear qH4 h_d1 x1 x2 b04 b14 hd4 ho4 hB4 hw4 hHlt hb4 c0 c1
              have hB6 := hB2.trans (hb6.mono hB2.size)
              have b06 := (hb6.block _ (lt_of_heap b02)).trans b02
              have b16 := (hb6.block _ (lt_of_heap b12)).trans b12
              have hd6 := hd2.below hb6
              have ho6 := ho2.below hb6
              have hHlt : HB < wc.heap.size := lt_of_heap qH6
              have hkr2 : ∀ sb so, ka = some ⟨sb, so, none⟩ → sb < HB := fun sb so e => by rw [← hHB]; exact Nat.lt_of_lt_of_le (hkr sb so e) hwr2
              have hown2 : ∀ q, u5.ownBlock = some q → q < HB := fun q e => by rw [← hHB]; exact (ho2.row.lt q e).2
              have hkad : ∀ b, DagIn ka ks b → b < HB := fun b hb => by
                rcases hb with ⟨so', e⟩ | ⟨c, hc, hq⟩
                · exact hkr2 b so' e
                · rw [← hHB]; exact (hd2.each c hc).block_lt b hq
              have hsbw : sb < w.heap.size := by
                rcases hl.cells with h | ⟨b', o', e, h⟩
                · rw [h] at hlt; simp at hlt
                · cases e; exact block_lt_of_cell (h k hlt).1
              have x6 : wc.cell? ⟨sb, so + k * 3 + 2, none⟩ = some (.int .i64 s.z) := (hb6.cell (p := ⟨sb, so + k * 3 + 2, none⟩) (by rw [hHB]; exact hsb)).trans c2
              have HZ : Hid (∀ W : World, Below w.heap.size w W → W.cell? ⟨sb, so + k * 3 + 2, none⟩ = some (.int .i64 s.z)) := by
                show ∀ W, _
                intro W hW
                refine (hW.cell (p := ⟨sb, so + k * 3 + 2, none⟩) hsbw).trans ?_
                exact ((hB6.cell (p := ⟨sb, so + k * 3 + 2, none⟩) hsbw).symm).trans x6
              have HPZ : Hid (pk s.z 3 = (sN s : Int)) := by
                show _ = _
                have := pk_bounds s.z 3 (by decide)
                unfold sN; omega
              have hsN := sN_le s
              have hp7 := pk_bounds s.z 7 (by decide)
              obtain ⟨P7, hP7⟩ : ∃ P7, P7 = pk s.z 7 := ⟨_, rfl⟩
              have HP7 : Hid (∀ V : World, Calls Tryd.prog 35 #[.int .i64 s.z, .int .i64 7] V fun e w' => e = .returned (.int .i64 P7) ∧ V = w') := by
                show ∀ V, _
                intro V
                rw [hP7]
                exact picked_any s.z 7 V HI.out.2.2.1 HI.out.2.2.2 (by decide) (by decide)
              rw [← hP7] at hp7
              have HP7e : Hid (P7 = pk s.z 7) := hP7
              clear hP7
              clear c2 x6
              obtain ⟨VV, hVV⟩ : ∃ VV, VV = u5 := ⟨_, rfl⟩
              subst hVV
              obtain ⟨W6, hW6⟩ : ∃ W6, W6 = wc := ⟨_, rfl⟩
              subst hW6
              clear hb e1 e2 hA3 qH h_c1 h_f1 hwr2 hsb
              go_wp2_with fail
              go_loopw [12, 5] (fun j v wr => ∃ (b : Nat) (bl2 : List Bt) (hv : Value) (ds : List Part), b ≤ sN s ∧ j = .int .i64 b ∧ Hid (bl2.map (·.v) = bvTo l k ++ sBs s k b) ∧ BtsOwn wr w.heap.size v bl2 ∧ Hid (bss ds = (sBs s k b).map BV.d) ∧ wr.heap[HB]? = some (.cells #[.int .i64 PX, .int .i64 hr, hv, .slice pa pl.length pc] 60 (0, 0)) ∧ wr.ownsRow W6.heap.size 46 1 hv b (pv ds) ∧ Apart wr W6.heap.size hv ds ∧ Apart wr W6.heap.size v ds ∧ Fr W6 wr VV v HB ∧ Below w.heap.size w wr) (fun j _ _ => sN s - (intOf j).toNat)
              case atStart => exact ⟨0, bl, .slice none 0 0, [], Nat.zero_le _, rfl, (show _ = _ by rw [HBV.out]; simp [sBs]), ho6, (show _ = _ from rfl), qH6, World.ownsRow_nil _ _ _ _, (fun p hp => by cases hp), (fun p hp => by cases hp), Fr.refl _ _ _, hB6⟩
              case round =>
                obtain ⟨b, bl2, hv, ds, hb', rfl, HV2, ho7, HDS, qH7, hoh, hap, hapv, hfr, hB7⟩ := hrel
                have hbl2 : bl2.length ≤ 50 := by
                  have h9 := congrArg List.length HV2.out
                  rw [List.length_map, List.length_append, sBs_length] at h9
                  have := bvTo_length l k
                  omega
                by_cases hbl : b < sN s
                · have hbI : (b : Int) < (sN s : Int) := by omega
                  have xz := HZ.out wr hB7
                  go_wp2_with fail
                  refine (picked_any s.z 3 wr HI.out.2.2.1 HI.out.2.2.2 (by decide) (by decide)).mono ?_
                  rintro e wq ⟨he, hwq⟩
                  rw [HPZ.out] at he
                  subst he hwq
                  dsimp only
                  go_upto_region 20 with fail
                  have hHR : HB < wr.heap.size := lt_of_heap qH7
                  have hsbR : sb < wr.heap.size := Nat.lt_of_lt_of_le hsbw hB7.size
                  have hb2' : b < 2 := by omega
                  obtain ⟨VR, hVR⟩ : ∃ VR, VR = wr := ⟨_, rfl⟩
                  subst hVR
                  go_cut [13] from 86 to 139 (fun v wx => ∃ X tb, v = .pointer (some ⟨X, 0, none⟩) ∧ VR.heap.size ≤ X ∧ VR.heap.size ≤ tb ∧ wx.heap[X]? = some (.cells #[.int .i64 PX, .int .i64 (1 + 3 * (k : Int) + b), .slice (some ⟨tb, 0, none⟩) 2 2] 42 (0, 0)) ∧ wx.heap[tb]? = some (.cells #[.string (bstr [97 + (k : Int)]), .string (bstr [65 + P7, 48 + (b : Int)])] 9 (0, 0)) ∧ Below VR.heap.size VR wx)
                  case first =>
                    have qHr := qH7
                    have xr2 := xz
                    have hwi1 : IntKind.i64.wrap (3 * (k : Int)) = 3 * k := by rw [IntKind.wrap_i64]; omega
                    have hwi2 : IntKind.i64.wrap (1 + 3 * (k : Int)) = 1 + 3 * k := by rw [IntKind.wrap_i64]; omega
                    have hwi3 : IntKind.i64.wrap (1 + 3 * (k : Int) + b) = 1 + 3 * k + b := by rw [IntKind.wrap_i64]; omega
                    have hwi4 : IntKind.i64.wrap (97 + (k : Int)) = 97 + k := by rw [IntKind.wrap_i64]; omega
                    have hwi5 : IntKind.i64.wrap (48 + (b : Int)) = 48 + b := by rw [IntKind.wrap_i64]; omega
                    have hwi6 : IntKind.i64.wrap (65 + P7) = 65 + P7 := by rw [IntKind.wrap_i64]; omega
                    have hwu1 : IntKind.u8.wrap (97 + (k : Int)) = 97 + k := by rw [IntKind.wrap_u8]; omega
                    have hwu2 : IntKind.u8.wrap (65 + P7) = 65 + P7 := by rw [IntKind.wrap_u8]; omega
                    have hwu3 : IntKind.u8.wrap (48 + (b : Int)) = 48 + b := by rw [IntKind.wrap_u8]; omega
                    have hV0 : Below VR.heap.size VR VR.drew := (Below.refl _ _).drew
                    have H0 := (hV0.block _ hHR).trans qHr
                    have z0 := (hV0.cell (p := ⟨sb, so + k * 3 + 2, none⟩) hsbR).trans xr2
                    refine wp_region_held_drew (S := fun w' => w'.cell? ⟨HB, 0, none⟩ = some (.int .i64 PX) ∧ w'.cell? ⟨sb, so + k * 3 + 2, none⟩ = some (.int .i64 s.z)) (by kernel_rfl) ⟨cells_at H0 0 _ rfl, z0⟩ (fun hHeld => ?_)
                    generalize VR.drew = V0 at hV0 H0 z0 hHeld ⊢
                    refine take_dst (i := 0) (d := 96) (v := .pointer (some ⟨HB, 0, none⟩)) rfl rfl (by kernel_rfl) (by kernel_rfl) (by kernel_rfl) (fun _ _ _ h => h) (Or.inl ⟨by rfl, ?_⟩) hHeld ?_
                    · (intro w0 hSw; (try dsimp only at hSw); go_simp)
                    simp only [Act.put, List.setIfInBounds_toArray, List.set_cons_zero, List.set_cons_succ]
                    refine take_dst (i := 1) (d := 97) (v := .int .i64 PX) rfl rfl (by kernel_rfl) (by kernel_rfl) (by kernel_rfl) (fun _ _ _ h => h) (Or.inl ⟨by rfl, ?_⟩) hHeld ?_
                    · (intro w0 hSw; (try dsimp only at hSw); go_simp)
                    simp only [Act.put, List.setIfInBounds_toArray, List.set_cons_zero, List.set_cons_succ]
                    refine take_dst (i := 2) (d := 98) (v := .int .i64 (k : Int)) rfl rfl (by kernel_rfl) (by kernel_rfl) (by kernel_rfl) (fun _ _ _ h => h) (Or.inl ⟨by rfl, ?_⟩) hHeld ?_
                    · (intro w0 hSw; (try dsimp only at hSw); go_simp)
                    simp only [Act.put, List.setIfInBounds_toArray, List.set_cons_zero, List.set_cons_succ]
                    refine take_dst (i := 3) (d := 99) (v := .int .i64 (3 * (k : Int))) rfl rfl (by kernel_rfl) (by kernel_rfl) (by kernel_rfl) (fun _ _ _ h => h) (Or.inl ⟨by rfl, ?_⟩) hHeld ?_
                    · (intro w0 hSw; (try dsimp only at hSw); go_simp)
                    simp only [Act.put, List.setIfInBounds_toArray, List.set_cons_zero, List.set_cons_succ]
                    refine take_dst (i := 4) (d := 100) (v := .int .i64 (1 + 3 * (k : Int))) rfl rfl (by kernel_rfl) (by kernel_rfl) (by kernel_rfl) (fun _ _ _ h => h) (Or.inl ⟨by rfl, ?_⟩) hHeld ?_
                    · (intro w0 hSw; (try dsimp only at hSw); go_simp)
                    simp only [Act.put, List.setIfInBounds_toArray, List.set_cons_zero, List.set_cons_succ]
                    refine take_dst (i := 5) (d := 101) (v := .int .i64 (b : Int)) rfl rfl (by kernel_rfl) (by kernel_rfl) (by kernel_rfl) (fun _ _ _ h => h) (Or.inl ⟨by rfl, ?_⟩) hHeld ?_
                    · (intro w0 hSw; (try dsimp only at hSw); go_simp)
                    simp only [Act.put, List.setIfInBounds_toArray, List.set_cons_zero, List.set_cons_succ]
                    refine take_dst (i := 6) (d := 102) (v := .int .i64 (1 + 3 * (k : Int) + b)) rfl rfl (by kernel_rfl) (by kernel_rfl) (by kernel_rfl) (fun _ _ _ h => h) (Or.inl ⟨by rfl, ?_⟩) hHeld ?_
                    · (intro w0 hSw; (try dsimp only at hSw); go_simp)
                    simp only [Act.put, List.setIfInBounds_toArray, List.set_cons_zero, List.set_cons_succ]
                    refine take_dst (i := 7) (d := 103) (v := .int .i64 (k : Int)) rfl rfl (by kernel_rfl) (by kernel_rfl) (by kernel_rfl) (fun _ _ _ h => h) (Or.inl ⟨by rfl, ?_⟩) hHeld ?_
                    · (intro w0 hSw; (try dsimp only at hSw); go_simp)
                    simp only [Act.put, List.setIfInBounds_toArray, List.set_cons_zero, List.set_cons_succ]
                    refine take_dst (i := 8) (d := 104) (v := .int .i64 (97 + (k : Int))) rfl rfl (by kernel_rfl) (by kernel_rfl) (by kernel_rfl) (fun _ _ _ h => h) (Or.inl ⟨by rfl, ?_⟩) hHeld ?_
                    · (intro w0 hSw; (try dsimp only at hSw); go_simp)
                    simp only [Act.put, List.setIfInBounds_toArray, List.set_cons_zero, List.set_cons_succ]
                    refine take_dst (i := 9) (d := 105) (v := .int .u8 (97 + (k : Int))) rfl rfl (by kernel_rfl) (by kernel_rfl) (by kernel_rfl) (fun _ _ _ h => h) (Or.inl ⟨by rfl, ?_⟩) hHeld ?_
                    · (intro w0 hSw; (try dsimp only at hSw); go_simp)
                    simp only [Act.put, List.setIfInBounds_toArray, List.set_cons_zero, List.set_cons_succ]
                    refine take_dst (i := 12) (d := 108) (v := .slice (some ⟨sb, so, none⟩) l.length cap) rfl rfl (by kernel_rfl) (by kernel_rfl) (by kernel_rfl) (fun _ _ _ h => h) (Or.inl ⟨by rfl, ?_⟩) hHeld ?_
                    · (intro w0 hSw; (try dsimp only at hSw); go_simp)
                    simp only [Act.put, List.setIfInBounds_toArray, List.set_cons_zero, List.set_cons_succ]
                    refine take_dst (i := 13) (d := 109) (v := .int .i64 (k : Int)) rfl rfl (by kernel_rfl) (by kernel_rfl) (by kernel_rfl) (fun _ _ _ h => h) (Or.inl ⟨by rfl, ?_⟩) hHeld ?_
                    · (intro w0 hSw; (try dsimp only at hSw); go_simp)
                    simp only [Act.put, List.setIfInBounds_toArray, List.set_cons_zero, List.set_cons_succ]
                    refine take_dst (i := 14) (d := 110) (v := .pointer (some ⟨sb, so + k * 3, none⟩)) rfl rfl (by kernel_rfl) (by kernel_rfl) (by kernel_rfl) (fun _ _ _ h => h) (Or.inl ⟨by rfl, ?_⟩) hHeld ?_
                    · (intro w0 hSw; (try dsimp only at hSw); go_simp)
                    simp only [Act.put, List.setIfInBounds_toArray, List.set_cons_zero, List.set_cons_succ]
                    refine take_dst (i := 15) (d := 111) (v := .pointer (some ⟨sb, so + k * 3 + 2, none⟩)) rfl rfl (by kernel_rfl) (by kernel_rfl) (by kernel_rfl) (fun _ _ _ h => h) (Or.inl ⟨by rfl, ?_⟩) hHeld ?_
                    · (intro w0 hSw; (try dsimp only at hSw); go_simp)
                    simp only [Act.put, List.setIfInBounds_toArray, List.set_cons_zero, List.set_cons_succ]
                    refine take_dst (i := 16) (d := 112) (v := .int .i64 s.z) rfl rfl (by kernel_rfl) (by kernel_rfl) (by kernel_rfl) (fun _ _ _ h => h) (Or.inl ⟨by rfl, ?_⟩) hHeld ?_
                    · (intro w0 hSw; (try dsimp only at hSw); go_simp)
                    simp only [Act.put, List.setIfInBounds_toArray, List.set_cons_zero, List.set_cons_succ]
                    refine take_dst (i := 20) (d := 116) (v := .int .i64 (b : Int)) rfl rfl (by kernel_rfl) (by kernel_rfl) (by kernel_rfl) (fun _ _ _ h => h) (Or.inl ⟨by rfl, ?_⟩) hHeld ?_
                    · (intro w0 hSw; (try dsimp only at hSw); go_simp)
                    simp only [Act.put, List.setIfInBounds_toArray, List.set_cons_zero, List.set_cons_succ]
                    refine take_dst (i := 21) (d := 117) (v := .int .i64 (48 + (b : Int))) rfl rfl (by kernel_rfl) (by kernel_rfl) (by kernel_rfl) (fun _ _ _ h => h) (Or.inl ⟨by rfl, ?_⟩) hHeld ?_
                    · (intro w0 hSw; (try dsimp only at hSw); go_simp)
                    simp only [Act.put, List.setIfInBounds_toArray, List.set_cons_zero, List.set_cons_succ]
                    refine take_dst (i := 22) (d := 118) (v := .int .u8 (48 + (b : Int))) rfl rfl (by kernel_rfl) (by kernel_rfl) (by kernel_rfl) (fun _ _ _ h => h) (Or.inl ⟨by rfl, ?_⟩) hHeld ?_
                    · (intro w0 hSw; (try dsimp only at hSw); go_simp)
                    simp only [Act.put, List.setIfInBounds_toArray, List.set_cons_zero, List.set_cons_succ]
                    clear hHeld
                    refine any_named (fun GO hGo hGi => ?_)
                    refine act_named (fun A0 hA0 => ?_)
                    have st_A1A2B1B2B3MX : Hid (∀ (V : World) (bA : Nat) (bB : Nat) (bM : Nat) (bX : Nat), Below VR.heap.size VR V → VR.heap.size ≤ bM → V.heap[bM]? = some (.cells #[.string (bstr [97 + (k : Int)]), .string (bstr [65 + P7, 48 + (b : Int)])] 9 (0, 0)) → VR.heap.size ≤ bX → V.heap[bX]? = some (.cells #[.int .i64 0, .int .i64 0, .slice none 0 0] 42 (0, 0)) → GO 1 #[true, true, true, true, true, true, true, true, true, true, true, true, true, true, true, true, true, true, true, true, true, true, true, true, true, true, true, true, false] ((((((((((A0.put (some 106) (.slice (some ⟨bA, 0, none⟩) 1 1)).put (some 107) (.string (bstr [97 + (k : Int)]))).put (some 113) (.int .i64 P7)).put (some 114) (.int .i64 (65 + P7))).put (some 115) (.int .u8 (65 + P7))).put (some 119) (.slice (some ⟨bB, 0, none⟩) 2 2)).put (some 120) (.string (bstr [65 + P7, 48 + (b : Int)]))).put (some 121) (.slice (some ⟨bM, 0, none⟩) 2 2)).put (some 122) (.agg #[.int .i64 PX, .int .i64 (1 + 3 * (k : Int) + b), .slice (some ⟨bM, 0, none⟩) 2 2])).put (some 13) (.pointer (some ⟨bX, 0, none⟩))) V) := by
                      show ∀ V, _
                      intro V bA bB bM bX hB gM qM gX qX
                      refine hGo.out _ _ _ _ ?_
                      rw [← hA0.out]
                      try simp only [Act.put, List.setIfInBounds_toArray, List.set_cons_zero, List.set_cons_succ]
                      have H := (hB.block _ hHR).trans qHr
                      have z := (hB.cell (p := ⟨sb, so + k * 3 + 2, none⟩) hsbR).trans xr2
                      have hne : bM ≠ bX := fun e => by rw [e, qX] at qM; simp at qM
                      have hHX : HB ≠ bX := by omega
                      have hsX : bX ≠ sb := by omega
                      have c0 := cells_at qX 0 _ rfl
                      have f0 := frozen_at qX 0
                      have c1 := cells_at qX 1 _ rfl
                      have f1 := frozen_at qX 1
                      have c2 := cells_at qX 2 _ rfl
                      have f2 := frozen_at qX 2
                      refine wpAnyH_ready (rs := [28]) (by kernel_rfl) (by simp) (AllReadyH.cons rfl (fun K hK => ?_) AllReadyH.nil)
                      refine step_store rfl rfl (((V.setCell ⟨bX, 0, none⟩ (.int .i64 PX)).setCell ⟨bX, 1, none⟩ (.int .i64 (1 + 3 * (k : Int) + b))).setCell ⟨bX, 2, none⟩ (.slice (some ⟨bM, 0, none⟩) 2 2)) (by go_simp) ?_
                      have X1 : (((V.setCell ⟨bX, 0, none⟩ (.int .i64 PX)).setCell ⟨bX, 1, none⟩ (.int .i64 (1 + 3 * (k : Int) + b))).setCell ⟨bX, 2, none⟩ (.slice (some ⟨bM, 0, none⟩) 2 2)).heap[bX]? = some (.cells #[.int .i64 PX, .int .i64 (1 + 3 * (k : Int) + b), .slice (some ⟨bM, 0, none⟩) 2 2] 42 (0, 0)) := by simpa using (heap_setCell_same _ _ 2 _ _ (.slice (some ⟨bM, 0, none⟩) 2 2) (heap_setCell_same _ _ 1 _ _ (.int .i64 (1 + 3 * (k : Int) + b)) (heap_setCell_same _ _ 0 _ _ (.int .i64 PX) qX)))
                      have H1 := (heap_far (j := 2) (v := .slice (some ⟨bM, 0, none⟩) 2 2) (heap_far (j := 1) (v := .int .i64 (1 + 3 * (k : Int) + b)) (heap_far (j := 0) (v := .int .i64 PX) H hHX) hHX) hHX)
                      have M1 := (heap_far (j := 2) (v := .slice (some ⟨bM, 0, none⟩) 2 2) (heap_far (j := 1) (v := .int .i64 (1 + 3 * (k : Int) + b)) (heap_far (j := 0) (v := .int .i64 PX) qM hne) hne) hne)
                      have hB1 := (((hB.setCell (p := ⟨bX, 0, none⟩) gX (.int .i64 PX)).setCell (p := ⟨bX, 1, none⟩) gX (.int .i64 (1 + 3 * (k : Int) + b))).setCell (p := ⟨bX, 2, none⟩) gX (.slice (some ⟨bM, 0, none⟩) 2 2))
                      have z1 : (((V.setCell ⟨bX, 0, none⟩ (.int .i64 PX)).setCell ⟨bX, 1, none⟩ (.int .i64 (1 + 3 * (k : Int) + b))).setCell ⟨bX, 2, none⟩ (.slice (some ⟨bM, 0, none⟩) 2 2)).cell? ⟨sb, so + k * 3 + 2, none⟩ = some (.int .i64 s.z) := by rw [World.cell?_setCell_far _ _ _ _ hsX, World.cell?_setCell_far _ _ _ _ hsX, World.cell?_setCell_far _ _ _ _ hsX]; exact z
                      refine hK.out _ _ ⟨cells_at H1 0 _ rfl, z1⟩ (fun hHeld => ?_)
                      clear hHeld
                      generalize (((V.setCell ⟨bX, 0, none⟩ (.int .i64 PX)).setCell ⟨bX, 1, none⟩ (.int .i64 (1 + 3 * (k : Int) + b))).setCell ⟨bX, 2, none⟩ (.slice (some ⟨bM, 0, none⟩) 2 2)) = VE at X1 H1 M1 hB1 z1 ⊢
                      refine wpAnyH_done (by kernel_rfl) ?_ _
                      go_wp2_with fail
                      go_meet
                      case rel => exact ⟨bX, bM, rfl, gX, gM, X1, M1, hB1⟩
                    have st_A1A2B1B2B3M : Hid (∀ (V : World) (bA : Nat) (bB : Nat) (bM : Nat), Below VR.heap.size VR V → VR.heap.size ≤ bM → V.heap[bM]? = some (.cells #[.string (bstr [97 + (k : Int)]), .string (bstr [65 + P7, 48 + (b : Int)])] 9 (0, 0)) → GO 2 #[true, true, true, true, true, true, true, true, true, true, true, true, true, true, true, true, true, true, true, true, true, true, true, true, true, true, true, false, false] (((((((((A0.put (some 106) (.slice (some ⟨bA, 0, none⟩) 1 1)).put (some 107) (.string (bstr [97 + (k : Int)]))).put (some 113) (.int .i64 P7)).put (some 114) (.int .i64 (65 + P7))).put (some 115) (.int .u8 (65 + P7))).put (some 119) (.slice (some ⟨bB, 0, none⟩) 2 2)).put (some 120) (.string (bstr [65 + P7, 48 + (b : Int)]))).put (some 121) (.slice (some ⟨bM, 0, none⟩) 2 2)).put (some 122) (.agg #[.int .i64 PX, .int .i64 (1 + 3 * (k : Int) + b), .slice (some ⟨bM, 0, none⟩) 2 2])) V) := by
                      show ∀ V, _
                      intro V bA bB bM hB gM qM
                      refine hGo.out _ _ _ _ ?_
                      rw [← hA0.out]
                      try simp only [Act.put, List.setIfInBounds_toArray, List.set_cons_zero, List.set_cons_succ]
                      have H := (hB.block _ hHR).trans qHr
                      have z := (hB.cell (p := ⟨sb, so + k * 3 + 2, none⟩) hsbR).trans xr2
                      refine wpAnyH_ready (rs := [27]) (by kernel_rfl) (by simp) (AllReadyH.cons rfl (fun K hK => ?_) AllReadyH.nil)
                      refine step_run rfl 13 rfl (.pointer (some ⟨V.heap.size, 0, none⟩)) (V.alloc (.cells #[.int .i64 0, .int .i64 0, .slice none 0 0] 42)) (by go_simp) ?_
                      have hA : Below V.heap.size V (V.alloc (.cells #[.int .i64 0, .int .i64 0, .slice none 0 0] 42)) := (Below.refl _ _).alloc (Nat.le_refl _) _
                      have qN := heap_alloc_new V (.cells #[.int .i64 0, .int .i64 0, .slice none 0 0] 42)
                      have hBn := hB.trans (hA.mono hB.size)
                      have gN := hB.size
                      have H2 := (hA.block _ (lt_of_heap H)).trans H
                      have z2 := (hA.cell (p := ⟨sb, so + k * 3 + 2, none⟩) (block_lt_of_cell z)).trans z
                      refine hK.out _ _ ⟨cells_at H2 0 _ rfl, z2⟩ (fun hHeld => ?_)
                      clear hHeld
                      have h := st_A1A2B1B2B3MX.out (V.alloc (.cells #[.int .i64 0, .int .i64 0, .slice none 0 0] 42)) bA bB bM V.heap.size hBn gM ((hA.block _ (lt_of_heap qM)).trans qM) gN qN
                      rw [← hA0.out] at h
                      simp only [Act.put, List.setIfInBounds_toArray, List.set_cons_zero, List.set_cons_succ] at h ⊢
                      exact hGi.out _ _ _ _ h
                    have st_A1A2B1B2B3X : Hid (∀ (V : World) (bA : Nat) (bB : Nat) (bX : Nat), Below VR.heap.size VR V → VR.heap.size ≤ bX → V.heap[bX]? = some (.cells #[.int .i64 0, .int .i64 0, .slice none 0 0] 42 (0, 0)) → GO 3 #[true, true, true, true, true, true, true, true, true, true, true, true, true, true, true, true, true, true, true, true, true, true, true, true, true, false, false, true, false] ((((((((A0.put (some 106) (.slice (some ⟨bA, 0, none⟩) 1 1)).put (some 107) (.string (bstr [97 + (k : Int)]))).put (some 113) (.int .i64 P7)).put (some 114) (.int .i64 (65 + P7))).put (some 115) (.int .u8 (65 + P7))).put (some 119) (.slice (some ⟨bB, 0, none⟩) 2 2)).put (some 120) (.string (bstr [65 + P7, 48 + (b : Int)]))).put (some 13) (.pointer (some ⟨bX, 0, none⟩))) V) := by
                      show ∀ V, _
                      intro V bA bB bX hB gX qX
                      refine hGo.out _ _ _ _ ?_
                      rw [← hA0.out]
                      try simp only [Act.put, List.setIfInBounds_toArray, List.set_cons_zero, List.set_cons_succ]
                      have H := (hB.block _ hHR).trans qHr
                      have z := (hB.cell (p := ⟨sb, so + k * 3 + 2, none⟩) hsbR).trans xr2
                      refine wpAnyH_ready (rs := [25]) (by kernel_rfl) (by simp) (AllReadyH.cons rfl (fun K hK => ?_) AllReadyH.nil)
                      refine step_run rfl 121 rfl (.slice (some ⟨V.heap.size, 0, none⟩) 2 2) (V.alloc (.cells #[.string (bstr [97 + (k : Int)]), .string (bstr [65 + P7, 48 + (b : Int)])] 9)) (by go_simp) ?_
                      have hA : Below V.heap.size V (V.alloc (.cells #[.string (bstr [97 + (k : Int)]), .string (bstr [65 + P7, 48 + (b : Int)])] 9)) := (Below.refl _ _).alloc (Nat.le_refl _) _
                      have qN := heap_alloc_new V (.cells #[.string (bstr [97 + (k : Int)]), .string (bstr [65 + P7, 48 + (b : Int)])] 9)
                      have hBn := hB.trans (hA.mono hB.size)
                      have gN := hB.size
                      have H2 := (hA.block _ (lt_of_heap H)).trans H
                      have z2 := (hA.cell (p := ⟨sb, so + k * 3 + 2, none⟩) (block_lt_of_cell z)).trans z
                      refine hK.out _ _ ⟨cells_at H2 0 _ rfl, z2⟩ (fun hHeld => ?_)
                      clear hHeld
                      simp only [Act.put, List.setIfInBounds_toArray, List.set_cons_zero, List.set_cons_succ]
                      refine take_dst (i := 26) (d := 122) (v := .agg #[.int .i64 PX, .int .i64 (1 + 3 * (k : Int) + b), .slice (some ⟨V.heap.size, 0, none⟩) 2 2]) rfl rfl (by kernel_rfl) (by kernel_rfl) (by kernel_rfl) (fun _ _ _ h => h) (Or.inl ⟨by rfl, ?_⟩) ⟨cells_at H2 0 _ rfl, z2⟩ ?_
                      · (intro w0 hSw; (try dsimp only at hSw); go_simp)
                      have h := st_A1A2B1B2B3MX.out (V.alloc (.cells #[.string (bstr [97 + (k : Int)]), .string (bstr [65 + P7, 48 + (b : Int)])] 9)) bA bB V.heap.size bX hBn gN qN gX ((hA.block _ (lt_of_heap qX)).trans qX)
                      rw [← hA0.out] at h
                      simp only [Act.put, List.setIfInBounds_toArray, List.set_cons_zero, List.set_cons_succ] at h ⊢
                      exact hGi.out _ _ _ _ h
                    have st_A1A2B1B2B3 : Hid (∀ (V : World) (bA : Nat) (bB : Nat), Below VR.heap.size VR V → GO 4 #[true, true, true, true, true, true, true, true, true, true, true, true, true, true, true, true, true, true, true, true, true, true, true, true, true, false, false, false, false] (((((((A0.put (some 106) (.slice (some ⟨bA, 0, none⟩) 1 1)).put (some 107) (.string (bstr [97 + (k : Int)]))).put (some 113) (.int .i64 P7)).put (some 114) (.int .i64 (65 + P7))).put (some 115) (.int .u8 (65 + P7))).put (some 119) (.slice (some ⟨bB, 0, none⟩) 2 2)).put (some 120) (.string (bstr [65 + P7, 48 + (b : Int)]))) V) := by
                      show ∀ V, _
                      intro V bA bB hB 
                      refine hGo.out _ _ _ _ ?_
                      rw [← hA0.out]
                      try simp only [Act.put, List.setIfInBounds_toArray, List.set_cons_zero, List.set_cons_succ]
                      have H := (hB.block _ hHR).trans qHr
                      have z := (hB.cell (p := ⟨sb, so + k * 3 + 2, none⟩) hsbR).trans xr2
                      refine wpAnyH_ready (rs := [25, 27]) (by kernel_rfl) (by simp) (AllReadyH.cons rfl (fun K hK => ?_) (AllReadyH.cons rfl (fun K hK => ?_) AllReadyH.nil))
                      · skip
                        refine step_run rfl 121 rfl (.slice (some ⟨V.heap.size, 0, none⟩) 2 2) (V.alloc (.cells #[.string (bstr [97 + (k : Int)]), .string (bstr [65 + P7, 48 + (b : Int)])] 9)) (by go_simp) ?_
                        have hA : Below V.heap.size V (V.alloc (.cells #[.string (bstr [97 + (k : Int)]), .string (bstr [65 + P7, 48 + (b : Int)])] 9)) := (Below.refl _ _).alloc (Nat.le_refl _) _
                        have qN := heap_alloc_new V (.cells #[.string (bstr [97 + (k : Int)]), .string (bstr [65 + P7, 48 + (b : Int)])] 9)
                        have hBn := hB.trans (hA.mono hB.size)
                        have gN := hB.size
                        have H2 := (hA.block _ (lt_of_heap H)).trans H
                        have z2 := (hA.cell (p := ⟨sb, so + k * 3 + 2, none⟩) (block_lt_of_cell z)).trans z
                        refine hK.out _ _ ⟨cells_at H2 0 _ rfl, z2⟩ (fun hHeld => ?_)
                        clear hHeld
                        simp only [Act.put, List.setIfInBounds_toArray, List.set_cons_zero, List.set_cons_succ]
                        refine take_dst (i := 26) (d := 122) (v := .agg #[.int .i64 PX, .int .i64 (1 + 3 * (k : Int) + b), .slice (some ⟨V.heap.size, 0, none⟩) 2 2]) rfl rfl (by kernel_rfl) (by kernel_rfl) (by kernel_rfl) (fun _ _ _ h => h) (Or.inl ⟨by rfl, ?_⟩) ⟨cells_at H2 0 _ rfl, z2⟩ ?_
                        · (intro w0 hSw; (try dsimp only at hSw); go_simp)
                        have h := st_A1A2B1B2B3M.out (V.alloc (.cells #[.string (bstr [97 + (k : Int)]), .string (bstr [65 + P7, 48 + (b : Int)])] 9)) bA bB V.heap.size hBn gN qN
                        rw [← hA0.out] at h
                        simp only [Act.put, List.setIfInBounds_toArray, List.set_cons_zero, List.set_cons_succ] at h ⊢
                        exact hGi.out _ _ _ _ h
                      · skip
                        refine step_run rfl 13 rfl (.pointer (some ⟨V.heap.size, 0, none⟩)) (V.alloc (.cells #[.int .i64 0, .int .i64 0, .slice none 0 0] 42)) (by go_simp) ?_
                        have hA : Below V.heap.size V (V.alloc (.cells #[.int .i64 0, .int .i64 0, .slice none 0 0] 42)) := (Below.refl _ _).alloc (Nat.le_refl _) _
                        have qN := heap_alloc_new V (.cells #[.int .i64 0, .int .i64 0, .slice none 0 0] 42)
                        have hBn := hB.trans (hA.mono hB.size)
                        have gN := hB.size
                        have H2 := (hA.block _ (lt_of_heap H)).trans H
                        have z2 := (hA.cell (p := ⟨sb, so + k * 3 + 2, none⟩) (block_lt_of_cell z)).trans z
                        refine hK.out _ _ ⟨cells_at H2 0 _ rfl, z2⟩ (fun hHeld => ?_)
                        clear hHeld
                        have h := st_A1A2B1B2B3X.out (V.alloc (.cells #[.int .i64 0, .int .i64 0, .slice none 0 0] 42)) bA bB V.heap.size hBn gN qN
                        rw [← hA0.out] at h
                        simp only [Act.put, List.setIfInBounds_toArray, List.set_cons_zero, List.set_cons_succ] at h ⊢
                        exact hGi.out _ _ _ _ h
                    have st_A1A2B1B2X : Hid (∀ (V : World) (bA : Nat) (bB : Nat) (bX : Nat), Below VR.heap.size VR V → V.heap[bB]? = some (.cells #[.int .u8 (65 + P7), .int .u8 (48 + (b : Int))] 5 (0, 0)) → VR.heap.size ≤ bX → V.heap[bX]? = some (.cells #[.int .i64 0, .int .i64 0, .slice none 0 0] 42 (0, 0)) → GO 4 #[true, true, true, true, true, true, true, true, true, true, true, true, true, true, true, true, true, true, true, true, true, true, true, true, false, false, false, true, false] (((((((A0.put (some 106) (.slice (some ⟨bA, 0, none⟩) 1 1)).put (some 107) (.string (bstr [97 + (k : Int)]))).put (some 113) (.int .i64 P7)).put (some 114) (.int .i64 (65 + P7))).put (some 115) (.int .u8 (65 + P7))).put (some 119) (.slice (some ⟨bB, 0, none⟩) 2 2)).put (some 13) (.pointer (some ⟨bX, 0, none⟩))) V) := by
                      show ∀ V, _
                      intro V bA bB bX hB qB gX qX
                      refine hGo.out _ _ _ _ ?_
                      rw [← hA0.out]
                      try simp only [Act.put, List.setIfInBounds_toArray, List.set_cons_zero, List.set_cons_succ]
                      have H := (hB.block _ hHR).trans qHr
                      have z := (hB.cell (p := ⟨sb, so + k * 3 + 2, none⟩) hsbR).trans xr2
                      refine wpAnyH_ready (rs := [24]) (by kernel_rfl) (by simp) (AllReadyH.cons rfl (fun K hK => ?_) AllReadyH.nil)
                      have cv := conv_two qB
                      refine step_run rfl 120 rfl (.string (bstr [65 + P7, 48 + (b : Int)])) V (by go_simp) ?_
                      clear cv
                      refine hK.out _ _ ⟨cells_at H 0 _ rfl, z⟩ (fun hHeld => ?_)
                      clear hHeld
                      have h := st_A1A2B1B2B3X.out V bA bB bX hB gX qX
                      rw [← hA0.out] at h
                      simp only [Act.put, List.setIfInBounds_toArray, List.set_cons_zero, List.set_cons_succ] at h ⊢
                      exact hGi.out _ _ _ _ h
                    have st_A1A2B1B2 : Hid (∀ (V : World) (bA : Nat) (bB : Nat), Below VR.heap.size VR V → V.heap[bB]? = some (.cells #[.int .u8 (65 + P7), .int .u8 (48 + (b : Int))] 5 (0, 0)) → GO 5 #[true, true, true, true, true, true, true, true, true, true, true, true, true, true, true, true, true, true, true, true, true, true, true, true, false, false, false, false, false] ((((((A0.put (some 106) (.slice (some ⟨bA, 0, none⟩) 1 1)).put (some 107) (.string (bstr [97 + (k : Int)]))).put (some 113) (.int .i64 P7)).put (some 114) (.int .i64 (65 + P7))).put (some 115) (.int .u8 (65 + P7))).put (some 119) (.slice (some ⟨bB, 0, none⟩) 2 2)) V) := by
                      show ∀ V, _
                      intro V bA bB hB qB
                      refine hGo.out _ _ _ _ ?_
                      rw [← hA0.out]
                      try simp only [Act.put, List.setIfInBounds_toArray, List.set_cons_zero, List.set_cons_succ]
                      have H := (hB.block _ hHR).trans qHr
                      have z := (hB.cell (p := ⟨sb, so + k * 3 + 2, none⟩) hsbR).trans xr2
                      refine wpAnyH_ready (rs := [24, 27]) (by kernel_rfl) (by simp) (AllReadyH.cons rfl (fun K hK => ?_) (AllReadyH.cons rfl (fun K hK => ?_) AllReadyH.nil))
                      · skip
                        have cv := conv_two qB
                        refine step_run rfl 120 rfl (.string (bstr [65 + P7, 48 + (b : Int)])) V (by go_simp) ?_
                        clear cv
                        refine hK.out _ _ ⟨cells_at H 0 _ rfl, z⟩ (fun hHeld => ?_)
                        clear hHeld
                        have h := st_A1A2B1B2B3.out V bA bB hB
                        rw [← hA0.out] at h
                        simp only [Act.put, List.setIfInBounds_toArray, List.set_cons_zero, List.set_cons_succ] at h ⊢
                        exact hGi.out _ _ _ _ h
                      · skip
                        refine step_run rfl 13 rfl (.pointer (some ⟨V.heap.size, 0, none⟩)) (V.alloc (.cells #[.int .i64 0, .int .i64 0, .slice none 0 0] 42)) (by go_simp) ?_
                        have hA : Below V.heap.size V (V.alloc (.cells #[.int .i64 0, .int .i64 0, .slice none 0 0] 42)) := (Below.refl _ _).alloc (Nat.le_refl _) _
                        have qN := heap_alloc_new V (.cells #[.int .i64 0, .int .i64 0, .slice none 0 0] 42)
                        have hBn := hB.trans (hA.mono hB.size)
                        have gN := hB.size
                        have H2 := (hA.block _ (lt_of_heap H)).trans H
                        have z2 := (hA.cell (p := ⟨sb, so + k * 3 + 2, none⟩) (block_lt_of_cell z)).trans z
                        refine hK.out _ _ ⟨cells_at H2 0 _ rfl, z2⟩ (fun hHeld => ?_)
                        clear hHeld
                        have h := st_A1A2B1B2X.out (V.alloc (.cells #[.int .i64 0, .int .i64 0, .slice none 0 0] 42)) bA bB V.heap.size hBn ((hA.block _ (lt_of_heap qB)).trans qB) gN qN
                        rw [← hA0.out] at h
                        simp only [Act.put, List.setIfInBounds_toArray, List.set_cons_zero, List.set_cons_succ] at h ⊢
                        exact hGi.out _ _ _ _ h
                    have st_A1A2B1X : Hid (∀ (V : World) (bA : Nat) (bX : Nat), Below VR.heap.size VR V → VR.heap.size ≤ bX → V.heap[bX]? = some (.cells #[.int .i64 0, .int .i64 0, .slice none 0 0] 42 (0, 0)) → GO 5 #[true, true, true, true, true, true, true, true, true, true, true, true, true, true, true, true, true, true, true, true, true, true, true, false, false, false, false, true, false] ((((((A0.put (some 106) (.slice (some ⟨bA, 0, none⟩) 1 1)).put (some 107) (.string (bstr [97 + (k : Int)]))).put (some 113) (.int .i64 P7)).put (some 114) (.int .i64 (65 + P7))).put (some 115) (.int .u8 (65 + P7))).put (some 13) (.pointer (some ⟨bX, 0, none⟩))) V) := by
                      show ∀ V, _
                      intro V bA bX hB gX qX
                      refine hGo.out _ _ _ _ ?_
                      rw [← hA0.out]
                      try simp only [Act.put, List.setIfInBounds_toArray, List.set_cons_zero, List.set_cons_succ]
                      have H := (hB.block _ hHR).trans qHr
                      have z := (hB.cell (p := ⟨sb, so + k * 3 + 2, none⟩) hsbR).trans xr2
                      refine wpAnyH_ready (rs := [23]) (by kernel_rfl) (by simp) (AllReadyH.cons rfl (fun K hK => ?_) AllReadyH.nil)
                      refine step_run rfl 119 rfl (.slice (some ⟨V.heap.size, 0, none⟩) 2 2) (V.alloc (.cells #[.int .u8 (65 + P7), .int .u8 (48 + (b : Int))] 5)) (by go_simp) ?_
                      have hA : Below V.heap.size V (V.alloc (.cells #[.int .u8 (65 + P7), .int .u8 (48 + (b : Int))] 5)) := (Below.refl _ _).alloc (Nat.le_refl _) _
                      have qN := heap_alloc_new V (.cells #[.int .u8 (65 + P7), .int .u8 (48 + (b : Int))] 5)
                      have hBn := hB.trans (hA.mono hB.size)
                      have gN := hB.size
                      have H2 := (hA.block _ (lt_of_heap H)).trans H
                      have z2 := (hA.cell (p := ⟨sb, so + k * 3 + 2, none⟩) (block_lt_of_cell z)).trans z
                      refine hK.out _ _ ⟨cells_at H2 0 _ rfl, z2⟩ (fun hHeld => ?_)
                      clear hHeld
                      have h := st_A1A2B1B2X.out (V.alloc (.cells #[.int .u8 (65 + P7), .int .u8 (48 + (b : Int))] 5)) bA V.heap.size bX hBn qN gX ((hA.block _ (lt_of_heap qX)).trans qX)
                      rw [← hA0.out] at h
                      simp only [Act.put, List.setIfInBounds_toArray, List.set_cons_zero, List.set_cons_succ] at h ⊢
                      exact hGi.out _ _ _ _ h
                    have st_A1A2B1 : Hid (∀ (V : World) (bA : Nat), Below VR.heap.size VR V → GO 6 #[true, true, true, true, true, true, true, true, true, true, true, true, true, true, true, true, true, true, true, true, true, true, true, false, false, false, false, false, false] (((((A0.put (some 106) (.slice (some ⟨bA, 0, none⟩) 1 1)).put (some 107) (.string (bstr [97 + (k : Int)]))).put (some 113) (.int .i64 P7)).put (some 114) (.int .i64 (65 + P7))).put (some 115) (.int .u8 (65 + P7))) V) := by
                      show ∀ V, _
                      intro V bA hB 
                      refine hGo.out _ _ _ _ ?_
                      rw [← hA0.out]
                      try simp only [Act.put, List.setIfInBounds_toArray, List.set_cons_zero, List.set_cons_succ]
                      have H := (hB.block _ hHR).trans qHr
                      have z := (hB.cell (p := ⟨sb, so + k * 3 + 2, none⟩) hsbR).trans xr2
                      refine wpAnyH_ready (rs := [23, 27]) (by kernel_rfl) (by simp) (AllReadyH.cons rfl (fun K hK => ?_) (AllReadyH.cons rfl (fun K hK => ?_) AllReadyH.nil))
                      · skip
                        refine step_run rfl 119 rfl (.slice (some ⟨V.heap.size, 0, none⟩) 2 2) (V.alloc (.cells #[.int .u8 (65 + P7), .int .u8 (48 + (b : Int))] 5)) (by go_simp) ?_
                        have hA : Below V.heap.size V (V.alloc (.cells #[.int .u8 (65 + P7), .int .u8 (48 + (b : Int))] 5)) := (Below.refl _ _).alloc (Nat.le_refl _) _
                        have qN := heap_alloc_new V (.cells #[.int .u8 (65 + P7), .int .u8 (48 + (b : Int))] 5)
                        have hBn := hB.trans (hA.mono hB.size)
                        have gN := hB.size
                        have H2 := (hA.block _ (lt_of_heap H)).trans H
                        have z2 := (hA.cell (p := ⟨sb, so + k * 3 + 2, none⟩) (block_lt_of_cell z)).trans z
                        refine hK.out _ _ ⟨cells_at H2 0 _ rfl, z2⟩ (fun hHeld => ?_)
                        clear hHeld
                        have h := st_A1A2B1B2.out (V.alloc (.cells #[.int .u8 (65 + P7), .int .u8 (48 + (b : Int))] 5)) bA V.heap.size hBn qN
                        rw [← hA0.out] at h
                        simp only [Act.put, List.setIfInBounds_toArray, List.set_cons_zero, List.set_cons_succ] at h ⊢
                        exact hGi.out _ _ _ _ h
                      · skip
                        refine step_run rfl 13 rfl (.pointer (some ⟨V.heap.size, 0, none⟩)) (V.alloc (.cells #[.int .i64 0, .int .i64 0, .slice none 0 0] 42)) (by go_simp) ?_
                        have hA : Below V.heap.size V (V.alloc (.cells #[.int .i64 0, .int .i64 0, .slice none 0 0] 42)) := (Below.refl _ _).alloc (Nat.le_refl _) _
                        have qN := heap_alloc_new V (.cells #[.int .i64 0, .int .i64 0, .slice none 0 0] 42)
                        have hBn := hB.trans (hA.mono hB.size)
                        have gN := hB.size
                        have H2 := (hA.block _ (lt_of_heap H)).trans H
                        have z2 := (hA.cell (p := ⟨sb, so + k * 3 + 2, none⟩) (block_lt_of_cell z)).trans z
                        refine hK.out _ _ ⟨cells_at H2 0 _ rfl, z2⟩ (fun hHeld => ?_)
                        clear hHeld
                        have h := st_A1A2B1X.out (V.alloc (.cells #[.int .i64 0, .int .i64 0, .slice none 0 0] 42)) bA V.heap.size hBn gN qN
                        rw [← hA0.out] at h
                        simp only [Act.put, List.setIfInBounds_toArray, List.set_cons_zero, List.set_cons_succ] at h ⊢
                        exact hGi.out _ _ _ _ h
                    have st_A1A2X : Hid (∀ (V : World) (bA : Nat) (bX : Nat), Below VR.heap.size VR V → VR.heap.size ≤ bX → V.heap[bX]? = some (.cells #[.int .i64 0, .int .i64 0, .slice none 0 0] 42 (0, 0)) → GO 8 #[true, true, true, true, true, true, true, true, true, true, true, true, true, true, true, true, true, false, false, false, true, true, true, false, false, false, false, true, false] (((A0.put (some 106) (.slice (some ⟨bA, 0, none⟩) 1 1)).put (some 107) (.string (bstr [97 + (k : Int)]))).put (some 13) (.pointer (some ⟨bX, 0, none⟩))) V) := by
                      show ∀ V, _
                      intro V bA bX hB gX qX
                      refine hGo.out _ _ _ _ ?_
                      rw [← hA0.out]
                      try simp only [Act.put, List.setIfInBounds_toArray, List.set_cons_zero, List.set_cons_succ]
                      have H := (hB.block _ hHR).trans qHr
                      have z := (hB.cell (p := ⟨sb, so + k * 3 + 2, none⟩) hsbR).trans xr2
                      refine wpAnyH_ready (rs := [17]) (by kernel_rfl) (by simp) (AllReadyH.cons rfl (fun K hK => ?_) AllReadyH.nil)
                      refine step_calls_dst rfl 113 rfl 35 [.tmp 112, .const (.int .i64 7)] #[3, 3] rfl [.int .i64 s.z, .int .i64 7] rfl (enters_of Tryd.func35 (by kernel_rfl) rfl) (fun v w' => v = .int .i64 P7 ∧ V = w') ((HP7.out V).mono (fun e w2 h => ⟨_, h.1, rfl, h.2⟩)) ?_
                      rintro v wq ⟨rfl, hwq⟩
                      subst hwq
                      refine hK.out _ _ ⟨cells_at H 0 _ rfl, z⟩ (fun hHeld => ?_)
                      simp only [Act.put, List.setIfInBounds_toArray, List.set_cons_zero, List.set_cons_succ]
                      refine take_dst (i := 18) (d := 114) (v := .int .i64 (65 + P7)) rfl rfl (by kernel_rfl) (by kernel_rfl) (by kernel_rfl) (fun _ _ _ h => h) (Or.inl ⟨by rfl, ?_⟩) hHeld ?_
                      · (intro w0 hSw; (try dsimp only at hSw); go_simp)
                      simp only [Act.put, List.setIfInBounds_toArray, List.set_cons_zero, List.set_cons_succ]
                      refine take_dst (i := 19) (d := 115) (v := .int .u8 (65 + P7)) rfl rfl (by kernel_rfl) (by kernel_rfl) (by kernel_rfl) (fun _ _ _ h => h) (Or.inl ⟨by rfl, ?_⟩) hHeld ?_
                      · (intro w0 hSw; (try dsimp only at hSw); go_simp)
                      simp only [Act.put, List.setIfInBounds_toArray, List.set_cons_zero, List.set_cons_succ]
                      have h := st_A1A2B1X.out V bA bX hB gX qX
                      rw [← hA0.out] at h
                      simp only [Act.put, List.setIfInBounds_toArray, List.set_cons_zero, List.set_cons_succ] at h ⊢
                      exact hGi.out _ _ _ _ h
                    have st_A1A2 : Hid (∀ (V : World) (bA : Nat), Below VR.heap.size VR V → GO 9 #[true, true, true, true, true, true, true, true, true, true, true, true, true, true, true, true, true, false, false, false, true, true, true, false, false, false, false, false, false] ((A0.put (some 106) (.slice (some ⟨bA, 0, none⟩) 1 1)).put (some 107) (.string (bstr [97 + (k : Int)]))) V) := by
                      show ∀ V, _
                      intro V bA hB 
                      refine hGo.out _ _ _ _ ?_
                      rw [← hA0.out]
                      try simp only [Act.put, List.setIfInBounds_toArray, List.set_cons_zero, List.set_cons_succ]
                      have H := (hB.block _ hHR).trans qHr
                      have z := (hB.cell (p := ⟨sb, so + k * 3 + 2, none⟩) hsbR).trans xr2
                      refine wpAnyH_ready (rs := [17, 27]) (by kernel_rfl) (by simp) (AllReadyH.cons rfl (fun K hK => ?_) (AllReadyH.cons rfl (fun K hK => ?_) AllReadyH.nil))
                      · skip
                        refine step_calls_dst rfl 113 rfl 35 [.tmp 112, .const (.int .i64 7)] #[3, 3] rfl [.int .i64 s.z, .int .i64 7] rfl (enters_of Tryd.func35 (by kernel_rfl) rfl) (fun v w' => v = .int .i64 P7 ∧ V = w') ((HP7.out V).mono (fun e w2 h => ⟨_, h.1, rfl, h.2⟩)) ?_
                        rintro v wq ⟨rfl, hwq⟩
                        subst hwq
                        refine hK.out _ _ ⟨cells_at H 0 _ rfl, z⟩ (fun hHeld => ?_)
                        simp only [Act.put, List.setIfInBounds_toArray, List.set_cons_zero, List.set_cons_succ]
                        refine take_dst (i := 18) (d := 114) (v := .int .i64 (65 + P7)) rfl rfl (by kernel_rfl) (by kernel_rfl) (by kernel_rfl) (fun _ _ _ h => h) (Or.inl ⟨by rfl, ?_⟩) hHeld ?_
                        · (intro w0 hSw; (try dsimp only at hSw); go_simp)
                        simp only [Act.put, List.setIfInBounds_toArray, List.set_cons_zero, List.set_cons_succ]
                        refine take_dst (i := 19) (d := 115) (v := .int .u8 (65 + P7)) rfl rfl (by kernel_rfl) (by kernel_rfl) (by kernel_rfl) (fun _ _ _ h => h) (Or.inl ⟨by rfl, ?_⟩) hHeld ?_
                        · (intro w0 hSw; (try dsimp only at hSw); go_simp)
                        simp only [Act.put, List.setIfInBounds_toArray, List.set_cons_zero, List.set_cons_succ]
                        have h := st_A1A2B1.out V bA hB
                        rw [← hA0.out] at h
                        simp only [Act.put, List.setIfInBounds_toArray, List.set_cons_zero, List.set_cons_succ] at h ⊢
                        exact hGi.out _ _ _ _ h
                      · skip
                        refine step_run rfl 13 rfl (.pointer (some ⟨V.heap.size, 0, none⟩)) (V.alloc (.cells #[.int .i64 0, .int .i64 0, .slice none 0 0] 42)) (by go_simp) ?_
                        have hA : Below V.heap.size V (V.alloc (.cells #[.int .i64 0, .int .i64 0, .slice none 0 0] 42)) := (Below.refl _ _).alloc (Nat.le_refl _) _
                        have qN := heap_alloc_new V (.cells #[.int .i64 0, .int .i64 0, .slice none 0 0] 42)
                        have hBn := hB.trans (hA.mono hB.size)
                        have gN := hB.size
                        have H2 := (hA.block _ (lt_of_heap H)).trans H
                        have z2 := (hA.cell (p := ⟨sb, so + k * 3 + 2, none⟩) (block_lt_of_cell z)).trans z
                        refine hK.out _ _ ⟨cells_at H2 0 _ rfl, z2⟩ (fun hHeld => ?_)
                        clear hHeld
                        have h := st_A1A2X.out (V.alloc (.cells #[.int .i64 0, .int .i64 0, .slice none 0 0] 42)) bA V.heap.size hBn gN qN
                        rw [← hA0.out] at h
                        simp only [Act.put, List.setIfInBounds_toArray, List.set_cons_zero, List.set_cons_succ] at h ⊢
                        exact hGi.out _ _ _ _ h
                    have st_A1B1B2B3X : Hid (∀ (V : World) (bA : Nat) (bB : Nat) (bX : Nat), Below VR.heap.size VR V → V.heap[bA]? = some (.cells #[.int .u8 (97 + (k : Int))] 5 (0, 0)) → VR.heap.size ≤ bX → V.heap[bX]? = some (.cells #[.int .i64 0, .int .i64 0, .slice none 0 0] 42 (0, 0)) → GO 4 #[true, true, true, true, true, true, true, true, true, true, true, false, true, true, true, true, true, true, true, true, true, true, true, true, true, false, false, true, false] (((((((A0.put (some 106) (.slice (some ⟨bA, 0, none⟩) 1 1)).put (some 113) (.int .i64 P7)).put (some 114) (.int .i64 (65 + P7))).put (some 115) (.int .u8 (65 + P7))).put (some 119) (.slice (some ⟨bB, 0, none⟩) 2 2)).put (some 120) (.string (bstr [65 + P7, 48 + (b : Int)]))).put (some 13) (.pointer (some ⟨bX, 0, none⟩))) V) := by
                      show ∀ V, _
                      intro V bA bB bX hB qA gX qX
                      refine hGo.out _ _ _ _ ?_
                      rw [← hA0.out]
                      try simp only [Act.put, List.setIfInBounds_toArray, List.set_cons_zero, List.set_cons_succ]
                      have H := (hB.block _ hHR).trans qHr
                      have z := (hB.cell (p := ⟨sb, so + k * 3 + 2, none⟩) hsbR).trans xr2
                      refine wpAnyH_ready (rs := [11]) (by kernel_rfl) (by simp) (AllReadyH.cons rfl (fun K hK => ?_) AllReadyH.nil)
                      have cv := conv_one qA
                      refine step_run rfl 107 rfl (.string (bstr [97 + (k : Int)])) V (by go_simp) ?_
                      clear cv
                      refine hK.out _ _ ⟨cells_at H 0 _ rfl, z⟩ (fun hHeld => ?_)
                      clear hHeld
                      have h := st_A1A2B1B2B3X.out V bA bB bX hB gX qX
                      rw [← hA0.out] at h
                      simp only [Act.put, List.setIfInBounds_toArray, List.set_cons_zero, List.set_cons_succ] at h ⊢
                      exact hGi.out _ _ _ _ h
                    have st_A1B1B2B3 : Hid (∀ (V : World) (bA : Nat) (bB : Nat), Below VR.heap.size VR V → V.heap[bA]? = some (.cells #[.int .u8 (97 + (k : Int))] 5 (0, 0)) → GO 5 #[true, true, true, true, true, true, true, true, true, true, true, false, true, true, true, true, true, true, true, true, true, true, true, true, true, false, false, false, false] ((((((A0.put (some 106) (.slice (some ⟨bA, 0, none⟩) 1 1)).put (some 113) (.int .i64 P7)).put (some 114) (.int .i64 (65 + P7))).put (some 115) (.int .u8 (65 + P7))).put (some 119) (.slice (some ⟨bB, 0, none⟩) 2 2)).put (some 120) (.string (bstr [65 + P7, 48 + (b : Int)]))) V) := by
                      show ∀ V, _
                      intro V bA bB hB qA
                      refine hGo.out _ _ _ _ ?_
                      rw [← hA0.out]
                      try simp only [Act.put, List.setIfInBounds_toArray, List.set_cons_zero, List.set_cons_succ]
                      have H := (hB.block _ hHR).trans qHr
                      have z := (hB.cell (p := ⟨sb, so + k * 3 + 2, none⟩) hsbR).trans xr2
                      refine wpAnyH_ready (rs := [11, 27]) (by kernel_rfl) (by simp) (AllReadyH.cons rfl (fun K hK => ?_) (AllReadyH.cons rfl (fun K hK => ?_) AllReadyH.nil))
                      · skip
                        have cv := conv_one qA
                        refine step_run rfl 107 rfl (.string (bstr [97 + (k : Int)])) V (by go_simp) ?_
                        clear cv
                        refine hK.out _ _ ⟨cells_at H 0 _ rfl, z⟩ (fun hHeld => ?_)
                        clear hHeld
                        have h := st_A1A2B1B2B3.out V bA bB hB
                        rw [← hA0.out] at h
                        simp only [Act.put, List.setIfInBounds_toArray, List.set_cons_zero, List.set_cons_succ] at h ⊢
                        exact hGi.out _ _ _ _ h
                      · skip
                        refine step_run rfl 13 rfl (.pointer (some ⟨V.heap.size, 0, none⟩)) (V.alloc (.cells #[.int .i64 0, .int .i64 0, .slice none 0 0] 42)) (by go_simp) ?_
                        have hA : Below V.heap.size V (V.alloc (.cells #[.int .i64 0, .int .i64 0, .slice none 0 0] 42)) := (Below.refl _ _).alloc (Nat.le_refl _) _
                        have qN := heap_alloc_new V (.cells #[.int .i64 0, .int .i64 0, .slice none 0 0] 42)
                        have hBn := hB.trans (hA.mono hB.size)
                        have gN := hB.size
                        have H2 := (hA.block _ (lt_of_heap H)).trans H
                        have z2 := (hA.cell (p := ⟨sb, so + k * 3 + 2, none⟩) (block_lt_of_cell z)).trans z
                        refine hK.out _ _ ⟨cells_at H2 0 _ rfl, z2⟩ (fun hHeld => ?_)
                        clear hHeld
                        have h := st_A1B1B2B3X.out (V.alloc (.cells #[.int .i64 0, .int .i64 0, .slice none 0 0] 42)) bA bB V.heap.size hBn ((hA.block _ (lt_of_heap qA)).trans qA) gN qN
                        rw [← hA0.out] at h
                        simp only [Act.put, List.setIfInBounds_toArray, List.set_cons_zero, List.set_cons_succ] at h ⊢
                        exact hGi.out _ _ _ _ h
                    have st_A1B1B2X : Hid (∀ (V : World) (bA : Nat) (bB : Nat) (bX : Nat), Below VR.heap.size VR V → V.heap[bA]? = some (.cells #[.int .u8 (97 + (k : Int))] 5 (0, 0)) → V.heap[bB]? = some (.cells #[.int .u8 (65 + P7), .int .u8 (48 + (b : Int))] 5 (0, 0)) → VR.heap.size ≤ bX → V.heap[bX]? = some (.cells #[.int .i64 0, .int .i64 0, .slice none 0 0] 42 (0, 0)) → GO 5 #[true, true, true, true, true, true, true, true, true, true, true, false, true, true, true, true, true, true, true, true, true, true, true, true, false, false, false, true, false] ((((((A0.put (some 106) (.slice (some ⟨bA, 0, none⟩) 1 1)).put (some 113) (.int .i64 P7)).put (some 114) (.int .i64 (65 + P7))).put (some 115) (.int .u8 (65 + P7))).put (some 119) (.slice (some ⟨bB, 0, none⟩) 2 2)).put (some 13) (.pointer (some ⟨bX, 0, none⟩))) V) := by
                      show ∀ V, _
                      intro V bA bB bX hB qA qB gX qX
                      refine hGo.out _ _ _ _ ?_
                      rw [← hA0.out]
                      try simp only [Act.put, List.setIfInBounds_toArray, List.set_cons_zero, List.set_cons_succ]
                      have H := (hB.block _ hHR).trans qHr
                      have z := (hB.cell (p := ⟨sb, so + k * 3 + 2, none⟩) hsbR).trans xr2
                      refine wpAnyH_ready (rs := [11, 24]) (by kernel_rfl) (by simp) (AllReadyH.cons rfl (fun K hK => ?_) (AllReadyH.cons rfl (fun K hK => ?_) AllReadyH.nil))
                      · skip
                        have cv := conv_one qA
                        refine step_run rfl 107 rfl (.string (bstr [97 + (k : Int)])) V (by go_simp) ?_
                        clear cv
                        refine hK.out _ _ ⟨cells_at H 0 _ rfl, z⟩ (fun hHeld => ?_)
                        clear hHeld
                        have h := st_A1A2B1B2X.out V bA bB bX hB qB gX qX
                        rw [← hA0.out] at h
                        simp only [Act.put, List.setIfInBounds_toArray, List.set_cons_zero, List.set_cons_succ] at h ⊢
                        exact hGi.out _ _ _ _ h
                      · skip
                        have cv := conv_two qB
                        refine step_run rfl 120 rfl (.string (bstr [65 + P7, 48 + (b : Int)])) V (by go_simp) ?_
                        clear cv
                        refine hK.out _ _ ⟨cells_at H 0 _ rfl, z⟩ (fun hHeld => ?_)
                        clear hHeld
                        have h := st_A1B1B2B3X.out V bA bB bX hB qA gX qX
                        rw [← hA0.out] at h
                        simp only [Act.put, List.setIfInBounds_toArray, List.set_cons_zero, List.set_cons_succ] at h ⊢
                        exact hGi.out _ _ _ _ h
                    have st_A1B1B2 : Hid (∀ (V : World) (bA : Nat) (bB : Nat), Below VR.heap.size VR V → V.heap[bA]? = some (.cells #[.int .u8 (97 + (k : Int))] 5 (0, 0)) → V.heap[bB]? = some (.cells #[.int .u8 (65 + P7), .int .u8 (48 + (b : Int))] 5 (0, 0)) → GO 6 #[true, true, true, true, true, true, true, true, true, true, true, false, true, true, true, true, true, true, true, true, true, true, true, true, false, false, false, false, false] (((((A0.put (some 106) (.slice (some ⟨bA, 0, none⟩) 1 1)).put (some 113) (.int .i64 P7)).put (some 114) (.int .i64 (65 + P7))).put (some 115) (.int .u8 (65 + P7))).put (some 119) (.slice (some ⟨bB, 0, none⟩) 2 2)) V) := by
                      show ∀ V, _
                      intro V bA bB hB qA qB
                      refine hGo.out _ _ _ _ ?_
                      rw [← hA0.out]
                      try simp only [Act.put, List.setIfInBounds_toArray, List.set_cons_zero, List.set_cons_succ]
                      have H := (hB.block _ hHR).trans qHr
                      have z := (hB.cell (p := ⟨sb, so + k * 3 + 2, none⟩) hsbR).trans xr2
                      refine wpAnyH_ready (rs := [11, 24, 27]) (by kernel_rfl) (by simp) (AllReadyH.cons rfl (fun K hK => ?_) (AllReadyH.cons rfl (fun K hK => ?_) (AllReadyH.cons rfl (fun K hK => ?_) AllReadyH.nil)))
                      · skip
                        have cv := conv_one qA
                        refine step_run rfl 107 rfl (.string (bstr [97 + (k : Int)])) V (by go_simp) ?_
                        clear cv
                        refine hK.out _ _ ⟨cells_at H 0 _ rfl, z⟩ (fun hHeld => ?_)
                        clear hHeld
                        have h := st_A1A2B1B2.out V bA bB hB qB
                        rw [← hA0.out] at h
                        simp only [Act.put, List.setIfInBounds_toArray, List.set_cons_zero, List.set_cons_succ] at h ⊢
                        exact hGi.out _ _ _ _ h
                      · skip
                        have cv := conv_two qB
                        refine step_run rfl 120 rfl (.string (bstr [65 + P7, 48 + (b : Int)])) V (by go_simp) ?_
                        clear cv
                        refine hK.out _ _ ⟨cells_at H 0 _ rfl, z⟩ (fun hHeld => ?_)
                        clear hHeld
                        have h := st_A1B1B2B3.out V bA bB hB qA
                        rw [← hA0.out] at h
                        simp only [Act.put, List.setIfInBounds_toArray, List.set_cons_zero, List.set_cons_succ] at h ⊢
                        exact hGi.out _ _ _ _ h
                      · skip
                        refine step_run rfl 13 rfl (.pointer (some ⟨V.heap.size, 0, none⟩)) (V.alloc (.cells #[.int .i64 0, .int .i64 0, .slice none 0 0] 42)) (by go_simp) ?_
                        have hA : Below V.heap.size V (V.alloc (.cells #[.int .i64 0, .int .i64 0, .slice none 0 0] 42)) := (Below.refl _ _).alloc (Nat.le_refl _) _
                        have qN := heap_alloc_new V (.cells #[.int .i64 0, .int .i64 0, .slice none 0 0] 42)
                        have hBn := hB.trans (hA.mono hB.size)
                        have gN := hB.size
                        have H2 := (hA.block _ (lt_of_heap H)).trans H
                        have z2 := (hA.cell (p := ⟨sb, so + k * 3 + 2, none⟩) (block_lt_of_cell z)).trans z
                        refine hK.out _ _ ⟨cells_at H2 0 _ rfl, z2⟩ (fun hHeld => ?_)
                        clear hHeld
                        have h := st_A1B1B2X.out (V.alloc (.cells #[.int .i64 0, .int .i64 0, .slice none 0 0] 42)) bA bB V.heap.size hBn ((hA.block _ (lt_of_heap qA)).trans qA) ((hA.block _ (lt_of_heap qB)).trans qB) gN qN
                        rw [← hA0.out] at h
                        simp only [Act.put, List.setIfInBounds_toArray, List.set_cons_zero, List.set_cons_succ] at h ⊢
                        exact hGi.out _ _ _ _ h
                    have st_A1B1X : Hid (∀ (V : World) (bA : Nat) (bX : Nat), Below VR.heap.size VR V → V.heap[bA]? = some (.cells #[.int .u8 (97 + (k : Int))] 5 (0, 0)) → VR.heap.size ≤ bX → V.heap[bX]? = some (.cells #[.int .i64 0, .int .i64 0, .slice none 0 0] 42 (0, 0)) → GO 6 #[true, true, true, true, true, true, true, true, true, true, true, false, true, true, true, true, true, true, true, true, true, true, true, false, false, false, false, true, false] (((((A0.put (some 106) (.slice (some ⟨bA, 0, none⟩) 1 1)).put (some 113) (.int .i64 P7)).put (some 114) (.int .i64 (65 + P7))).put (some 115) (.int .u8 (65 + P7))).put (some 13) (.pointer (some ⟨bX, 0, none⟩))) V) := by
                      show ∀ V, _
                      intro V bA bX hB qA gX qX
                      refine hGo.out _ _ _ _ ?_
                      rw [← hA0.out]
                      try simp only [Act.put, List.setIfInBounds_toArray, List.set_cons_zero, List.set_cons_succ]
                      have H := (hB.block _ hHR).trans qHr
                      have z := (hB.cell (p := ⟨sb, so + k * 3 + 2, none⟩) hsbR).trans xr2
                      refine wpAnyH_ready (rs := [11, 23]) (by kernel_rfl) (by simp) (AllReadyH.cons rfl (fun K hK => ?_) (AllReadyH.cons rfl (fun K hK => ?_) AllReadyH.nil))
                      · skip
                        have cv := conv_one qA
                        refine step_run rfl 107 rfl (.string (bstr [97 + (k : Int)])) V (by go_simp) ?_
                        clear cv
                        refine hK.out _ _ ⟨cells_at H 0 _ rfl, z⟩ (fun hHeld => ?_)
                        clear hHeld
                        have h := st_A1A2B1X.out V bA bX hB gX qX
                        rw [← hA0.out] at h
                        simp only [Act.put, List.setIfInBounds_toArray, List.set_cons_zero, List.set_cons_succ] at h ⊢
                        exact hGi.out _ _ _ _ h
                      · skip
                        refine step_run rfl 119 rfl (.slice (some ⟨V.heap.size, 0, none⟩) 2 2) (V.alloc (.cells #[.int .u8 (65 + P7), .int .u8 (48 + (b : Int))] 5)) (by go_simp) ?_
                        have hA : Below V.heap.size V (V.alloc (.cells #[.int .u8 (65 + P7), .int .u8 (48 + (b : Int))] 5)) := (Below.refl _ _).alloc (Nat.le_refl _) _
                        have qN := heap_alloc_new V (.cells #[.int .u8 (65 + P7), .int .u8 (48 + (b : Int))] 5)
                        have hBn := hB.trans (hA.mono hB.size)
                        have gN := hB.size
                        have H2 := (hA.block _ (lt_of_heap H)).trans H
                        have z2 := (hA.cell (p := ⟨sb, so + k * 3 + 2, none⟩) (block_lt_of_cell z)).trans z
                        refine hK.out _ _ ⟨cells_at H2 0 _ rfl, z2⟩ (fun hHeld => ?_)
                        clear hHeld
                        have h := st_A1B1B2X.out (V.alloc (.cells #[.int .u8 (65 + P7), .int .u8 (48 + (b : Int))] 5)) bA V.heap.size bX hBn ((hA.block _ (lt_of_heap qA)).trans qA) qN gX ((hA.block _ (lt_of_heap qX)).trans qX)
                        rw [← hA0.out] at h
                        simp only [Act.put, List.setIfInBounds_toArray, List.set_cons_zero, List.set_cons_succ] at h ⊢
                        exact hGi.out _ _ _ _ h
                    have st_A1B1 : Hid (∀ (V : World) (bA : Nat), Below VR.heap.size VR V → V.heap[bA]? = some (.cells #[.int .u8 (97 + (k : Int))] 5 (0, 0)) → GO 7 #[true, true, true, true, true, true, true, true, true, true, true, false, true, true, true, true, true, true, true, true, true, true, true, false, false, false, false, false, false] ((((A0.put (some 106) (.slice (some ⟨bA, 0, none⟩) 1 1)).put (some 113) (.int .i64 P7)).put (some 114) (.int .i64 (65 + P7))).put (some 115) (.int .u8 (65 + P7))) V) := by
                      show ∀ V, _
                      intro V bA hB qA
                      refine hGo.out _ _ _ _ ?_
                      rw [← hA0.out]
                      try simp only [Act.put, List.setIfInBounds_toArray, List.set_cons_zero, List.set_cons_succ]
                      have H := (hB.block _ hHR).trans qHr
                      have z := (hB.cell (p := ⟨sb, so + k * 3 + 2, none⟩) hsbR).trans xr2
                      refine wpAnyH_ready (rs := [11, 23, 27]) (by kernel_rfl) (by simp) (AllReadyH.cons rfl (fun K hK => ?_) (AllReadyH.cons rfl (fun K hK => ?_) (AllReadyH.cons rfl (fun K hK => ?_) AllReadyH.nil)))
                      · skip
                        have cv := conv_one qA
                        refine step_run rfl 107 rfl (.string (bstr [97 + (k : Int)])) V (by go_simp) ?_
                        clear cv
                        refine hK.out _ _ ⟨cells_at H 0 _ rfl, z⟩ (fun hHeld => ?_)
                        clear hHeld
                        have h := st_A1A2B1.out V bA hB
                        rw [← hA0.out] at h
                        simp only [Act.put, List.setIfInBounds_toArray, List.set_cons_zero, List.set_cons_succ] at h ⊢
                        exact hGi.out _ _ _ _ h
                      · skip
                        refine step_run rfl 119 rfl (.slice (some ⟨V.heap.size, 0, none⟩) 2 2) (V.alloc (.cells #[.int .u8 (65 + P7), .int .u8 (48 + (b : Int))] 5)) (by go_simp) ?_
                        have hA : Below V.heap.size V (V.alloc (.cells #[.int .u8 (65 + P7), .int .u8 (48 + (b : Int))] 5)) := (Below.refl _ _).alloc (Nat.le_refl _) _
                        have qN := heap_alloc_new V (.cells #[.int .u8 (65 + P7), .int .u8 (48 + (b : Int))] 5)
                        have hBn := hB.trans (hA.mono hB.size)
                        have gN := hB.size
                        have H2 := (hA.block _ (lt_of_heap H)).trans H
                        have z2 := (hA.cell (p := ⟨sb, so + k * 3 + 2, none⟩) (block_lt_of_cell z)).trans z
                        refine hK.out _ _ ⟨cells_at H2 0 _ rfl, z2⟩ (fun hHeld => ?_)
                        clear hHeld
                        have h := st_A1B1B2.out (V.alloc (.cells #[.int .u8 (65 + P7), .int .u8 (48 + (b : Int))] 5)) bA V.heap.size hBn ((hA.block _ (lt_of_heap qA)).trans qA) qN
                        rw [← hA0.out] at h
                        simp only [Act.put, List.setIfInBounds_toArray, List.set_cons_zero, List.set_cons_succ] at h ⊢
                        exact hGi.out _ _ _ _ h
                      · skip
                        refine step_run rfl 13 rfl (.pointer (some ⟨V.heap.size, 0, none⟩)) (V.alloc (.cells #[.int .i64 0, .int .i64 0, .slice none 0 0] 42)) (by go_simp) ?_
                        have hA : Below V.heap.size V (V.alloc (.cells #[.int .i64 0, .int .i64 0, .slice none 0 0] 42)) := (Below.refl _ _).alloc (Nat.le_refl _) _
                        have qN := heap_alloc_new V (.cells #[.int .i64 0, .int .i64 0, .slice none 0 0] 42)
                        have hBn := hB.trans (hA.mono hB.size)
                        have gN := hB.size
                        have H2 := (hA.block _ (lt_of_heap H)).trans H
                        have z2 := (hA.cell (p := ⟨sb, so + k * 3 + 2, none⟩) (block_lt_of_cell z)).trans z
                        refine hK.out _ _ ⟨cells_at H2 0 _ rfl, z2⟩ (fun hHeld => ?_)
                        clear hHeld
                        have h := st_A1B1X.out (V.alloc (.cells #[.int .i64 0, .int .i64 0, .slice none 0 0] 42)) bA V.heap.size hBn ((hA.block _ (lt_of_heap qA)).trans qA) gN qN
                        rw [← hA0.out] at h
                        simp only [Act.put, List.setIfInBounds_toArray, List.set_cons_zero, List.set_cons_succ] at h ⊢
                        exact hGi.out _ _ _ _ h
                    have st_A1X : Hid (∀ (V : World) (bA : Nat) (bX : Nat), Below VR.heap.size VR V → V.heap[bA]? = some (.cells #[.int .u8 (97 + (k : Int))] 5 (0, 0)) → VR.heap.size ≤ bX → V.heap[bX]? = some (.cells #[.int .i64 0, .int .i64 0, .slice none 0 0] 42 (0, 0)) → GO 9 #[true, true, true, true, true, true, true, true, true, true, true, false, true, true, true, true, true, false, false, false, true, true, true, false, false, false, false, true, false] ((A0.put (some 106) (.slice (some ⟨bA, 0, none⟩) 1 1)).put (some 13) (.pointer (some ⟨bX, 0, none⟩))) V) := by
                      show ∀ V, _
                      intro V bA bX hB qA gX qX
                      refine hGo.out _ _ _ _ ?_
                      rw [← hA0.out]
                      try simp only [Act.put, List.setIfInBounds_toArray, List.set_cons_zero, List.set_cons_succ]
                      have H := (hB.block _ hHR).trans qHr
                      have z := (hB.cell (p := ⟨sb, so + k * 3 + 2, none⟩) hsbR).trans xr2
                      refine wpAnyH_ready (rs := [11, 17]) (by kernel_rfl) (by simp) (AllReadyH.cons rfl (fun K hK => ?_) (AllReadyH.cons rfl (fun K hK => ?_) AllReadyH.nil))
                      · skip
                        have cv := conv_one qA
                        refine step_run rfl 107 rfl (.string (bstr [97 + (k : Int)])) V (by go_simp) ?_
                        clear cv
                        refine hK.out _ _ ⟨cells_at H 0 _ rfl, z⟩ (fun hHeld => ?_)
                        clear hHeld
                        have h := st_A1A2X.out V bA bX hB gX qX
                        rw [← hA0.out] at h
                        simp only [Act.put, List.setIfInBounds_toArray, List.set_cons_zero, List.set_cons_succ] at h ⊢
                        exact hGi.out _ _ _ _ h
                      · skip
                        refine step_calls_dst rfl 113 rfl 35 [.tmp 112, .const (.int .i64 7)] #[3, 3] rfl [.int .i64 s.z, .int .i64 7] rfl (enters_of Tryd.func35 (by kernel_rfl) rfl) (fun v w' => v = .int .i64 P7 ∧ V = w') ((HP7.out V).mono (fun e w2 h => ⟨_, h.1, rfl, h.2⟩)) ?_
                        rintro v wq ⟨rfl, hwq⟩
                        subst hwq
                        refine hK.out _ _ ⟨cells_at H 0 _ rfl, z⟩ (fun hHeld => ?_)
                        simp only [Act.put, List.setIfInBounds_toArray, List.set_cons_zero, List.set_cons_succ]
                        refine take_dst (i := 18) (d := 114) (v := .int .i64 (65 + P7)) rfl rfl (by kernel_rfl) (by kernel_rfl) (by kernel_rfl) (fun _ _ _ h => h) (Or.inl ⟨by rfl, ?_⟩) hHeld ?_
                        · (intro w0 hSw; (try dsimp only at hSw); go_simp)
                        simp only [Act.put, List.setIfInBounds_toArray, List.set_cons_zero, List.set_cons_succ]
                        refine take_dst (i := 19) (d := 115) (v := .int .u8 (65 + P7)) rfl rfl (by kernel_rfl) (by kernel_rfl) (by kernel_rfl) (fun _ _ _ h => h) (Or.inl ⟨by rfl, ?_⟩) hHeld ?_
                        · (intro w0 hSw; (try dsimp only at hSw); go_simp)
                        simp only [Act.put, List.setIfInBounds_toArray, List.set_cons_zero, List.set_cons_succ]
                        have h := st_A1B1X.out V bA bX hB qA gX qX
                        rw [← hA0.out] at h
                        simp only [Act.put, List.setIfInBounds_toArray, List.set_cons_zero, List.set_cons_succ] at h ⊢
                        exact hGi.out _ _ _ _ h
                    have st_A1 : Hid (∀ (V : World) (bA : Nat), Below VR.heap.size VR V → V.heap[bA]? = some (.cells #[.int .u8 (97 + (k : Int))] 5 (0, 0)) → GO 10 #[true, true, true, true, true, true, true, true, true, true, true, false, true, true, true, true, true, false, false, false, true, true, true, false, false, false, false, false, false] (A0.put (some 106) (.slice (some ⟨bA, 0, none⟩) 1 1)) V) := by
                      show ∀ V, _
                      intro V bA hB qA
                      refine hGo.out _ _ _ _ ?_
                      rw [← hA0.out]
                      try simp only [Act.put, List.setIfInBounds_toArray, List.set_cons_zero, List.set_cons_succ]
                      have H := (hB.block _ hHR).trans qHr
                      have z := (hB.cell (p := ⟨sb, so + k * 3 + 2, none⟩) hsbR).trans xr2
                      refine wpAnyH_ready (rs := [11, 17, 27]) (by kernel_rfl) (by simp) (AllReadyH.cons rfl (fun K hK => ?_) (AllReadyH.cons rfl (fun K hK => ?_) (AllReadyH.cons rfl (fun K hK => ?_) AllReadyH.nil)))
                      · skip
                        have cv := conv_one qA
                        refine step_run rfl 107 rfl (.string (bstr [97 + (k : Int)])) V (by go_simp) ?_
                        clear cv
                        refine hK.out _ _ ⟨cells_at H 0 _ rfl, z⟩ (fun hHeld => ?_)
                        clear hHeld
                        have h := st_A1A2.out V bA hB
                        rw [← hA0.out] at h
                        simp only [Act.put, List.setIfInBounds_toArray, List.set_cons_zero, List.set_cons_succ] at h ⊢
                        exact hGi.out _ _ _ _ h
                      · skip
                        refine step_calls_dst rfl 113 rfl 35 [.tmp 112, .const (.int .i64 7)] #[3, 3] rfl [.int .i64 s.z, .int .i64 7] rfl (enters_of Tryd.func35 (by kernel_rfl) rfl) (fun v w' => v = .int .i64 P7 ∧ V = w') ((HP7.out V).mono (fun e w2 h => ⟨_, h.1, rfl, h.2⟩)) ?_
                        rintro v wq ⟨rfl, hwq⟩
                        subst hwq
                        refine hK.out _ _ ⟨cells_at H 0 _ rfl, z⟩ (fun hHeld => ?_)
                        simp only [Act.put, List.setIfInBounds_toArray, List.set_cons_zero, List.set_cons_succ]
                        refine take_dst (i := 18) (d := 114) (v := .int .i64 (65 + P7)) rfl rfl (by kernel_rfl) (by kernel_rfl) (by kernel_rfl) (fun _ _ _ h => h) (Or.inl ⟨by rfl, ?_⟩) hHeld ?_
                        · (intro w0 hSw; (try dsimp only at hSw); go_simp)
                        simp only [Act.put, List.setIfInBounds_toArray, List.set_cons_zero, List.set_cons_succ]
                        refine take_dst (i := 19) (d := 115) (v := .int .u8 (65 + P7)) rfl rfl (by kernel_rfl) (by kernel_rfl) (by kernel_rfl) (fun _ _ _ h => h) (Or.inl ⟨by rfl, ?_⟩) hHeld ?_
                        · (intro w0 hSw; (try dsimp only at hSw); go_simp)
                        simp only [Act.put, List.setIfInBounds_toArray, List.set_cons_zero, List.set_cons_succ]
                        have h := st_A1B1.out V bA hB qA
                        rw [← hA0.out] at h
                        simp only [Act.put, List.setIfInBounds_toArray, List.set_cons_zero, List.set_cons_succ] at h ⊢
                        exact hGi.out _ _ _ _ h
                      · skip
                        refine step_run rfl 13 rfl (.pointer (some ⟨V.heap.size, 0, none⟩)) (V.alloc (.cells #[.int .i64 0, .int .i64 0, .slice none 0 0] 42)) (by go_simp) ?_
                        have hA : Below V.heap.size V (V.alloc (.cells #[.int .i64 0, .int .i64 0, .slice none 0 0] 42)) := (Below.refl _ _).alloc (Nat.le_refl _) _
                        have qN := heap_alloc_new V (.cells #[.int .i64 0, .int .i64 0, .slice none 0 0] 42)
                        have hBn := hB.trans (hA.mono hB.size)
                        have gN := hB.size
                        have H2 := (hA.block _ (lt_of_heap H)).trans H
                        have z2 := (hA.cell (p := ⟨sb, so + k * 3 + 2, none⟩) (block_lt_of_cell z)).trans z
                        refine hK.out _ _ ⟨cells_at H2 0 _ rfl, z2⟩ (fun hHeld => ?_)
                        clear hHeld
                        have h := st_A1X.out (V.alloc (.cells #[.int .i64 0, .int .i64 0, .slice none 0 0] 42)) bA V.heap.size hBn ((hA.block _ (lt_of_heap qA)).trans qA) gN qN
                        rw [← hA0.out] at h
                        simp only [Act.put, List.setIfInBounds_toArray, List.set_cons_zero, List.set_cons_succ] at h ⊢
                        exact hGi.out _ _ _ _ h
                    have st_B1B2B3X : Hid (∀ (V : World) (bB : Nat) (bX : Nat), Below VR.heap.size VR V → VR.heap.size ≤ bX → V.heap[bX]? = some (.cells #[.int .i64 0, .int .i64 0, .slice none 0 0] 42 (0, 0)) → GO 5 #[true, true, true, true, true, true, true, true, true, true, false, false, true, true, true, true, true, true, true, true, true, true, true, true, true, false, false, true, false] ((((((A0.put (some 113) (.int .i64 P7)).put (some 114) (.int .i64 (65 + P7))).put (some 115) (.int .u8 (65 + P7))).put (some 119) (.slice (some ⟨bB, 0, none⟩) 2 2)).put (some 120) (.string (bstr [65 + P7, 48 + (b : Int)]))).put (some 13) (.pointer (some ⟨bX, 0, none⟩))) V) := by
                      show ∀ V, _
                      intro V bB bX hB gX qX
                      refine hGo.out _ _ _ _ ?_
                      rw [← hA0.out]
                      try simp only [Act.put, List.setIfInBounds_toArray, List.set_cons_zero, List.set_cons_succ]
                      have H := (hB.block _ hHR).trans qHr
                      have z := (hB.cell (p := ⟨sb, so + k * 3 + 2, none⟩) hsbR).trans xr2
                      refine wpAnyH_ready (rs := [10]) (by kernel_rfl) (by simp) (AllReadyH.cons rfl (fun K hK => ?_) AllReadyH.nil)
                      refine step_run rfl 106 rfl (.slice (some ⟨V.heap.size, 0, none⟩) 1 1) (V.alloc (.cells #[.int .u8 (97 + (k : Int))] 5)) (by go_simp) ?_
                      have hA : Below V.heap.size V (V.alloc (.cells #[.int .u8 (97 + (k : Int))] 5)) := (Below.refl _ _).alloc (Nat.le_refl _) _
                      have qN := heap_alloc_new V (.cells #[.int .u8 (97 + (k : Int))] 5)
                      have hBn := hB.trans (hA.mono hB.size)
                      have gN := hB.size
                      have H2 := (hA.block _ (lt_of_heap H)).trans H
                      have z2 := (hA.cell (p := ⟨sb, so + k * 3 + 2, none⟩) (block_lt_of_cell z)).trans z
                      refine hK.out _ _ ⟨cells_at H2 0 _ rfl, z2⟩ (fun hHeld => ?_)
                      clear hHeld
                      have h := st_A1B1B2B3X.out (V.alloc (.cells #[.int .u8 (97 + (k : Int))] 5)) V.heap.size bB bX hBn qN gX ((hA.block _ (lt_of_heap qX)).trans qX)
                      rw [← hA0.out] at h
                      simp only [Act.put, List.setIfInBounds_toArray, List.set_cons_zero, List.set_cons_succ] at h ⊢
                      exact hGi.out _ _ _ _ h
                    have st_B1B2B3 : Hid (∀ (V : World) (bB : Nat), Below VR.heap.size VR V → GO 6 #[true, true, true, true, true, true, true, true, true, true, false, false, true, true, true, true, true, true, true, true, true, true, true, true, true, false, false, false, false] (((((A0.put (some 113) (.int .i64 P7)).put (some 114) (.int .i64 (65 + P7))).put (some 115) (.int .u8 (65 + P7))).put (some 119) (.slice (some ⟨bB, 0, none⟩) 2 2)).put (some 120) (.string (bstr [65 + P7, 48 + (b : Int)]))) V) := by
                      show ∀ V, _
                      intro V bB hB 
                      refine hGo.out _ _ _ _ ?_
                      rw [← hA0.out]
                      try simp only [Act.put, List.setIfInBounds_toArray, List.set_cons_zero, List.set_cons_succ]
                      have H := (hB.block _ hHR).trans qHr
                      have z := (hB.cell (p := ⟨sb, so + k * 3 + 2, none⟩) hsbR).trans xr2
                      refine wpAnyH_ready (rs := [10, 27]) (by kernel_rfl) (by simp) (AllReadyH.cons rfl (fun K hK => ?_) (AllReadyH.cons rfl (fun K hK => ?_) AllReadyH.nil))
                      · skip
                        refine step_run rfl 106 rfl (.slice (some ⟨V.heap.size, 0, none⟩) 1 1) (V.alloc (.cells #[.int .u8 (97 + (k : Int))] 5)) (by go_simp) ?_
                        have hA : Below V.heap.size V (V.alloc (.cells #[.int .u8 (97 + (k : Int))] 5)) := (Below.refl _ _).alloc (Nat.le_refl _) _
                        have qN := heap_alloc_new V (.cells #[.int .u8 (97 + (k : Int))] 5)
                        have hBn := hB.trans (hA.mono hB.size)
                        have gN := hB.size
                        have H2 := (hA.block _ (lt_of_heap H)).trans H
                        have z2 := (hA.cell (p := ⟨sb, so + k * 3 + 2, none⟩) (block_lt_of_cell z)).trans z
                        refine hK.out _ _ ⟨cells_at H2 0 _ rfl, z2⟩ (fun hHeld => ?_)
                        clear hHeld
                        have h := st_A1B1B2B3.out (V.alloc (.cells #[.int .u8 (97 + (k : Int))] 5)) V.heap.size bB hBn qN
                        rw [← hA0.out] at h
                        simp only [Act.put, List.setIfInBounds_toArray, List.set_cons_zero, List.set_cons_succ] at h ⊢
                        exact hGi.out _ _ _ _ h
                      · skip
                        refine step_run rfl 13 rfl (.pointer (some ⟨V.heap.size, 0, none⟩)) (V.alloc (.cells #[.int .i64 0, .int .i64 0, .slice none 0 0] 42)) (by go_simp) ?_
                        have hA : Below V.heap.size V (V.alloc (.cells #[.int .i64 0, .int .i64 0, .slice none 0 0] 42)) := (Below.refl _ _).alloc (Nat.le_refl _) _
                        have qN := heap_alloc_new V (.cells #[.int .i64 0, .int .i64 0, .slice none 0 0] 42)
                        have hBn := hB.trans (hA.mono hB.size)
                        have gN := hB.size
                        have H2 := (hA.block _ (lt_of_heap H)).trans H
                        have z2 := (hA.cell (p := ⟨sb, so + k * 3 + 2, none⟩) (block_lt_of_cell z)).trans z
                        refine hK.out _ _ ⟨cells_at H2 0 _ rfl, z2⟩ (fun hHeld => ?_)
                        clear hHeld
                        have h := st_B1B2B3X.out (V.alloc (.cells #[.int .i64 0, .int .i64 0, .slice none 0 0] 42)) bB V.heap.size hBn gN qN
                        rw [← hA0.out] at h
                        simp only [Act.put, List.setIfInBounds_toArray, List.set_cons_zero, List.set_cons_succ] at h ⊢
                        exact hGi.out _ _ _ _ h
                    have st_B1B2X : Hid (∀ (V : World) (bB : Nat) (bX : Nat), Below VR.heap.size VR V → V.heap[bB]? = some (.cells #[.int .u8 (65 + P7), .int .u8 (48 + (b : Int))] 5 (0, 0)) → VR.heap.size ≤ bX → V.heap[bX]? = some (.cells #[.int .i64 0, .int .i64 0, .slice none 0 0] 42 (0, 0)) → GO 6 #[true, true, true, true, true, true, true, true, true, true, false, false, true, true, true, true, true, true, true, true, true, true, true, true, false, false, false, true, false] (((((A0.put (some 113) (.int .i64 P7)).put (some 114) (.int .i64 (65 + P7))).put (some 115) (.int .u8 (65 + P7))).put (some 119) (.slice (some ⟨bB, 0, none⟩) 2 2)).put (some 13) (.pointer (some ⟨bX, 0, none⟩))) V) := by
                      show ∀ V, _
                      intro V bB bX hB qB gX qX
                      refine hGo.out _ _ _ _ ?_
                      rw [← hA0.out]
                      try simp only [Act.put, List.setIfInBounds_toArray, List.set_cons_zero, List.set_cons_succ]
                      have H := (hB.block _ hHR).trans qHr
                      have z := (hB.cell (p := ⟨sb, so + k * 3 + 2, none⟩) hsbR).trans xr2
                      refine wpAnyH_ready (rs := [10, 24]) (by kernel_rfl) (by simp) (AllReadyH.cons rfl (fun K hK => ?_) (AllReadyH.cons rfl (fun K hK => ?_) AllReadyH.nil))
                      · skip
                        refine step_run rfl 106 rfl (.slice (some ⟨V.heap.size, 0, none⟩) 1 1) (V.alloc (.cells #[.int .u8 (97 + (k : Int))] 5)) (by go_simp) ?_
                        have hA : Below V.heap.size V (V.alloc (.cells #[.int .u8 (97 + (k : Int))] 5)) := (Below.refl _ _).alloc (Nat.le_refl _) _
                        have qN := heap_alloc_new V (.cells #[.int .u8 (97 + (k : Int))] 5)
                        have hBn := hB.trans (hA.mono hB.size)
                        have gN := hB.size
                        have H2 := (hA.block _ (lt_of_heap H)).trans H
                        have z2 := (hA.cell (p := ⟨sb, so + k * 3 + 2, none⟩) (block_lt_of_cell z)).trans z
                        refine hK.out _ _ ⟨cells_at H2 0 _ rfl, z2⟩ (fun hHeld => ?_)
                        clear hHeld
                        have h := st_A1B1B2X.out (V.alloc (.cells #[.int .u8 (97 + (k : Int))] 5)) V.heap.size bB bX hBn qN ((hA.block _ (lt_of_heap qB)).trans qB) gX ((hA.block _ (lt_of_heap qX)).trans qX)
                        rw [← hA0.out] at h
                        simp only [Act.put, List.setIfInBounds_toArray, List.set_cons_zero, List.set_cons_succ] at h ⊢
                        exact hGi.out _ _ _ _ h
                      · skip
                        have cv := conv_two qB
                        refine step_run rfl 120 rfl (.string (bstr [65 + P7, 48 + (b : Int)])) V (by go_simp) ?_
                        clear cv
                        refine hK.out _ _ ⟨cells_at H 0 _ rfl, z⟩ (fun hHeld => ?_)
                        clear hHeld
                        have h := st_B1B2B3X.out V bB bX hB gX qX
                        rw [← hA0.out] at h
                        simp only [Act.put, List.setIfInBounds_toArray, List.set_cons_zero, List.set_cons_succ] at h ⊢
                        exact hGi.out _ _ _ _ h
                    have st_B1B2 : Hid (∀ (V : World) (bB : Nat), Below VR.heap.size VR V → V.heap[bB]? = some (.cells #[.int .u8 (65 + P7), .int .u8 (48 + (b : Int))] 5 (0, 0)) → GO 7 #[true, true, true, true, true, true, true, true, true, true, false, false, true, true, true, true, true, true, true, true, true, true, true, true, false, false, false, false, false] ((((A0.put (some 113) (.int .i64 P7)).put (some 114) (.int .i64 (65 + P7))).put (some 115) (.int .u8 (65 + P7))).put (some 119) (.slice (some ⟨bB, 0, none⟩) 2 2)) V) := by
                      show ∀ V, _
                      intro V bB hB qB
                      refine hGo.out _ _ _ _ ?_
                      rw [← hA0.out]
                      try simp only [Act.put, List.setIfInBounds_toArray, List.set_cons_zero, List.set_cons_succ]
                      have H := (hB.block _ hHR).trans qHr
                      have z := (hB.cell (p := ⟨sb, so + k * 3 + 2, none⟩) hsbR).trans xr2
                      refine wpAnyH_ready (rs := [10, 24, 27]) (by kernel_rfl) (by simp) (AllReadyH.cons rfl (fun K hK => ?_) (AllReadyH.cons rfl (fun K hK => ?_) (AllReadyH.cons rfl (fun K hK => ?_) AllReadyH.nil)))
                      · skip
                        refine step_run rfl 106 rfl (.slice (some ⟨V.heap.size, 0, none⟩) 1 1) (V.alloc (.cells #[.int .u8 (97 + (k : Int))] 5)) (by go_simp) ?_
                        have hA : Below V.heap.size V (V.alloc (.cells #[.int .u8 (97 + (k : Int))] 5)) := (Below.refl _ _).alloc (Nat.le_refl _) _
                        have qN := heap_alloc_new V (.cells #[.int .u8 (97 + (k : Int))] 5)
                        have hBn := hB.trans (hA.mono hB.size)
                        have gN := hB.size
                        have H2 := (hA.block _ (lt_of_heap H)).trans H
                        have z2 := (hA.cell (p := ⟨sb, so + k * 3 + 2, none⟩) (block_lt_of_cell z)).trans z
                        refine hK.out _ _ ⟨cells_at H2 0 _ rfl, z2⟩ (fun hHeld => ?_)
                        clear hHeld
                        have h := st_A1B1B2.out (V.alloc (.cells #[.int .u8 (97 + (k : Int))] 5)) V.heap.size bB hBn qN ((hA.block _ (lt_of_heap qB)).trans qB)
                        rw [← hA0.out] at h
                        simp only [Act.put, List.setIfInBounds_toArray, List.set_cons_zero, List.set_cons_succ] at h ⊢
                        exact hGi.out _ _ _ _ h
                      · skip
                        have cv := conv_two qB
                        refine step_run rfl 120 rfl (.string (bstr [65 + P7, 48 + (b : Int)])) V (by go_simp) ?_
                        clear cv
                        refine hK.out _ _ ⟨cells_at H 0 _ rfl, z⟩ (fun hHeld => ?_)
                        clear hHeld
                        have h := st_B1B2B3.out V bB hB
                        rw [← hA0.out] at h
                        simp only [Act.put, List.setIfInBounds_toArray, List.set_cons_zero, List.set_cons_succ] at h ⊢
                        exact hGi.out _ _ _ _ h
                      · skip
                        refine step_run rfl 13 rfl (.pointer (some ⟨V.heap.size, 0, none⟩)) (V.alloc (.cells #[.int .i64 0, .int .i64 0, .slice none 0 0] 42)) (by go_simp) ?_
                        have hA : Below V.heap.size V (V.alloc (.cells #[.int .i64 0, .int .i64 0, .slice none 0 0] 42)) := (Below.refl _ _).alloc (Nat.le_refl _) _
                        have qN := heap_alloc_new V (.cells #[.int .i64 0, .int .i64 0, .slice none 0 0] 42)
                        have hBn := hB.trans (hA.mono hB.size)
                        have gN := hB.size
                        have H2 := (hA.block _ (lt_of_heap H)).trans H
                        have z2 := (hA.cell (p := ⟨sb, so + k * 3 + 2, none⟩) (block_lt_of_cell z)).trans z
                        refine hK.out _ _ ⟨cells_at H2 0 _ rfl, z2⟩ (fun hHeld => ?_)
                        clear hHeld
                        have h := st_B1B2X.out (V.alloc (.cells #[.int .i64 0, .int .i64 0, .slice none 0 0] 42)) bB V.heap.size hBn ((hA.block _ (lt_of_heap qB)).trans qB) gN qN
                        rw [← hA0.out] at h
                        simp only [Act.put, List.setIfInBounds_toArray, List.set_cons_zero, List.set_cons_succ] at h ⊢
                        exact hGi.out _ _ _ _ h
                    have st_B1X : Hid (∀ (V : World) (bX : Nat), Below VR.heap.size VR V → VR.heap.size ≤ bX → V.heap[bX]? = some (.cells #[.int .i64 0, .int .i64 0, .slice none 0 0] 42 (0, 0)) → GO 7 #[true, true, true, true, true, true, true, true, true, true, false, false, true, true, true, true, true, true, true, true, true, true, true, false, false, false, false, true, false] ((((A0.put (some 113) (.int .i64 P7)).put (some 114) (.int .i64 (65 + P7))).put (some 115) (.int .u8 (65 + P7))).put (some 13) (.pointer (some ⟨bX, 0, none⟩))) V) := by
                      show ∀ V, _
                      intro V bX hB gX qX
                      refine hGo.out _ _ _ _ ?_
                      rw [← hA0.out]
                      try simp only [Act.put, List.setIfInBounds_toArray, List.set_cons_zero, List.set_cons_succ]
                      have H := (hB.block _ hHR).trans qHr
                      have z := (hB.cell (p := ⟨sb, so + k * 3 + 2, none⟩) hsbR).trans xr2
                      refine wpAnyH_ready (rs := [10, 23]) (by kernel_rfl) (by simp) (AllReadyH.cons rfl (fun K hK => ?_) (AllReadyH.cons rfl (fun K hK => ?_) AllReadyH.nil))
                      · skip
                        refine step_run rfl 106 rfl (.slice (some ⟨V.heap.size, 0, none⟩) 1 1) (V.alloc (.cells #[.int .u8 (97 + (k : Int))] 5)) (by go_simp) ?_
                        have hA : Below V.heap.size V (V.alloc (.cells #[.int .u8 (97 + (k : Int))] 5)) := (Below.refl _ _).alloc (Nat.le_refl _) _
                        have qN := heap_alloc_new V (.cells #[.int .u8 (97 + (k : Int))] 5)
                        have hBn := hB.trans (hA.mono hB.size)
                        have gN := hB.size
                        have H2 := (hA.block _ (lt_of_heap H)).trans H
                        have z2 := (hA.cell (p := ⟨sb, so + k * 3 + 2, none⟩) (block_lt_of_cell z)).trans z
                        refine hK.out _ _ ⟨cells_at H2 0 _ rfl, z2⟩ (fun hHeld => ?_)
                        clear hHeld
                        have h := st_A1B1X.out (V.alloc (.cells #[.int .u8 (97 + (k : Int))] 5)) V.heap.size bX hBn qN gX ((hA.block _ (lt_of_heap qX)).trans qX)
                        rw [← hA0.out] at h
                        simp only [Act.put, List.setIfInBounds_toArray, List.set_cons_zero, List.set_cons_succ] at h ⊢
                        exact hGi.out _ _ _ _ h
                      · skip
                        refine step_run rfl 119 rfl (.slice (some ⟨V.heap.size, 0, none⟩) 2 2) (V.alloc (.cells #[.int .u8 (65 + P7), .int .u8 (48 + (b : Int))] 5)) (by go_simp) ?_
                        have hA : Below V.heap.size V (V.alloc (.cells #[.int .u8 (65 + P7), .int .u8 (48 + (b : Int))] 5)) := (Below.refl _ _).alloc (Nat.le_refl _) _
                        have qN := heap_alloc_new V (.cells #[.int .u8 (65 + P7), .int .u8 (48 + (b : Int))] 5)
                        have hBn := hB.trans (hA.mono hB.size)
                        have gN := hB.size
                        have H2 := (hA.block _ (lt_of_heap H)).trans H
                        have z2 := (hA.cell (p := ⟨sb, so + k * 3 + 2, none⟩) (block_lt_of_cell z)).trans z
                        refine hK.out _ _ ⟨cells_at H2 0 _ rfl, z2⟩ (fun hHeld => ?_)
                        clear hHeld
                        have h := st_B1B2X.out (V.alloc (.cells #[.int .u8 (65 + P7), .int .u8 (48 + (b : Int))] 5)) V.heap.size bX hBn qN gX ((hA.block _ (lt_of_heap qX)).trans qX)
                        rw [← hA0.out] at h
                        simp only [Act.put, List.setIfInBounds_toArray, List.set_cons_zero, List.set_cons_succ] at h ⊢
                        exact hGi.out _ _ _ _ h
                    have st_B1 : Hid (∀ (V : World), Below VR.heap.size VR V → GO 8 #[true, true, true, true, true, true, true, true, true, true, false, false, true, true, true, true, true, true, true, true, true, true, true, false, false, false, false, false, false] (((A0.put (some 113) (.int .i64 P7)).put (some 114) (.int .i64 (65 + P7))).put (some 115) (.int .u8 (65 + P7))) V) := by
                      show ∀ V, _
                      intro V  hB 
                      refine hGo.out _ _ _ _ ?_
                      rw [← hA0.out]
                      try simp only [Act.put, List.setIfInBounds_toArray, List.set_cons_zero, List.set_cons_succ]
                      have H := (hB.block _ hHR).trans qHr
                      have z := (hB.cell (p := ⟨sb, so + k * 3 + 2, none⟩) hsbR).trans xr2
                      refine wpAnyH_ready (rs := [10, 23, 27]) (by kernel_rfl) (by simp) (AllReadyH.cons rfl (fun K hK => ?_) (AllReadyH.cons rfl (fun K hK => ?_) (AllReadyH.cons rfl (fun K hK => ?_) AllReadyH.nil)))
                      · skip
                        refine step_run rfl 106 rfl (.slice (some ⟨V.heap.size, 0, none⟩) 1 1) (V.alloc (.cells #[.int .u8 (97 + (k : Int))] 5)) (by go_simp) ?_
                        have hA : Below V.heap.size V (V.alloc (.cells #[.int .u8 (97 + (k : Int))] 5)) := (Below.refl _ _).alloc (Nat.le_refl _) _
                        have qN := heap_alloc_new V (.cells #[.int .u8 (97 + (k : Int))] 5)
                        have hBn := hB.trans (hA.mono hB.size)
                        have gN := hB.size
                        have H2 := (hA.block _ (lt_of_heap H)).trans H
                        have z2 := (hA.cell (p := ⟨sb, so + k * 3 + 2, none⟩) (block_lt_of_cell z)).trans z
                        refine hK.out _ _ ⟨cells_at H2 0 _ rfl, z2⟩ (fun hHeld => ?_)
                        clear hHeld
                        have h := st_A1B1.out (V.alloc (.cells #[.int .u8 (97 + (k : Int))] 5)) V.heap.size hBn qN
                        rw [← hA0.out] at h
                        simp only [Act.put, List.setIfInBounds_toArray, List.set_cons_zero, List.set_cons_succ] at h ⊢
                        exact hGi.out _ _ _ _ h
                      · skip
                        refine step_run rfl 119 rfl (.slice (some ⟨V.heap.size, 0, none⟩) 2 2) (V.alloc (.cells #[.int .u8 (65 + P7), .int .u8 (48 + (b : Int))] 5)) (by go_simp) ?_
                        have hA : Below V.heap.size V (V.alloc (.cells #[.int .u8 (65 + P7), .int .u8 (48 + (b : Int))] 5)) := (Below.refl _ _).alloc (Nat.le_refl _) _
                        have qN := heap_alloc_new V (.cells #[.int .u8 (65 + P7), .int .u8 (48 + (b : Int))] 5)
                        have hBn := hB.trans (hA.mono hB.size)
                        have gN := hB.size
                        have H2 := (hA.block _ (lt_of_heap H)).trans H
                        have z2 := (hA.cell (p := ⟨sb, so + k * 3 + 2, none⟩) (block_lt_of_cell z)).trans z
                        refine hK.out _ _ ⟨cells_at H2 0 _ rfl, z2⟩ (fun hHeld => ?_)
                        clear hHeld
                        have h := st_B1B2.out (V.alloc (.cells #[.int .u8 (65 + P7), .int .u8 (48 + (b : Int))] 5)) V.heap.size hBn qN
                        rw [← hA0.out] at h
                        simp only [Act.put, List.setIfInBounds_toArray, List.set_cons_zero, List.set_cons_succ] at h ⊢
                        exact hGi.out _ _ _ _ h
                      · skip
                        refine step_run rfl 13 rfl (.pointer (some ⟨V.heap.size, 0, none⟩)) (V.alloc (.cells #[.int .i64 0, .int .i64 0, .slice none 0 0] 42)) (by go_simp) ?_
                        have hA : Below V.heap.size V (V.alloc (.cells #[.int .i64 0, .int .i64 0, .slice none 0 0] 42)) := (Below.refl _ _).alloc (Nat.le_refl _) _
                        have qN := heap_alloc_new V (.cells #[.int .i64 0, .int .i64 0, .slice none 0 0] 42)
                        have hBn := hB.trans (hA.mono hB.size)
                        have gN := hB.size
                        have H2 := (hA.block _ (lt_of_heap H)).trans H
                        have z2 := (hA.cell (p := ⟨sb, so + k * 3 + 2, none⟩) (block_lt_of_cell z)).trans z
                        refine hK.out _ _ ⟨cells_at H2 0 _ rfl, z2⟩ (fun hHeld => ?_)
                        clear hHeld
                        have h := st_B1X.out (V.alloc (.cells #[.int .i64 0, .int .i64 0, .slice none 0 0] 42)) V.heap.size hBn gN qN
                        rw [← hA0.out] at h
                        simp only [Act.put, List.setIfInBounds_toArray, List.set_cons_zero, List.set_cons_succ] at h ⊢
                        exact hGi.out _ _ _ _ h
                    have st_X : Hid (∀ (V : World) (bX : Nat), Below VR.heap.size VR V → VR.heap.size ≤ bX → V.heap[bX]? = some (.cells #[.int .i64 0, .int .i64 0, .slice none 0 0] 42 (0, 0)) → GO 10 #[true, true, true, true, true, true, true, true, true, true, false, false, true, true, true, true, true, false, false, false, true, true, true, false, false, false, false, true, false] (A0.put (some 13) (.pointer (some ⟨bX, 0, none⟩))) V) := by
                      show ∀ V, _
                      intro V bX hB gX qX
                      refine hGo.out _ _ _ _ ?_
                      rw [← hA0.out]
                      try simp only [Act.put, List.setIfInBounds_toArray, List.set_cons_zero, List.set_cons_succ]
                      have H := (hB.block _ hHR).trans qHr
                      have z := (hB.cell (p := ⟨sb, so + k * 3 + 2, none⟩) hsbR).trans xr2
                      refine wpAnyH_ready (rs := [10, 17]) (by kernel_rfl) (by simp) (AllReadyH.cons rfl (fun K hK => ?_) (AllReadyH.cons rfl (fun K hK => ?_) AllReadyH.nil))
                      · skip
                        refine step_run rfl 106 rfl (.slice (some ⟨V.heap.size, 0, none⟩) 1 1) (V.alloc (.cells #[.int .u8 (97 + (k : Int))] 5)) (by go_simp) ?_
                        have hA : Below V.heap.size V (V.alloc (.cells #[.int .u8 (97 + (k : Int))] 5)) := (Below.refl _ _).alloc (Nat.le_refl _) _
                        have qN := heap_alloc_new V (.cells #[.int .u8 (97 + (k : Int))] 5)
                        have hBn := hB.trans (hA.mono hB.size)
                        have gN := hB.size
                        have H2 := (hA.block _ (lt_of_heap H)).trans H
                        have z2 := (hA.cell (p := ⟨sb, so + k * 3 + 2, none⟩) (block_lt_of_cell z)).trans z
                        refine hK.out _ _ ⟨cells_at H2 0 _ rfl, z2⟩ (fun hHeld => ?_)
                        clear hHeld
                        have h := st_A1X.out (V.alloc (.cells #[.int .u8 (97 + (k : Int))] 5)) V.heap.size bX hBn qN gX ((hA.block _ (lt_of_heap qX)).trans qX)
                        rw [← hA0.out] at h
                        simp only [Act.put, List.setIfInBounds_toArray, List.set_cons_zero, List.set_cons_succ] at h ⊢
                        exact hGi.out _ _ _ _ h
                      · skip
                        refine step_calls_dst rfl 113 rfl 35 [.tmp 112, .const (.int .i64 7)] #[3, 3] rfl [.int .i64 s.z, .int .i64 7] rfl (enters_of Tryd.func35 (by kernel_rfl) rfl) (fun v w' => v = .int .i64 P7 ∧ V = w') ((HP7.out V).mono (fun e w2 h => ⟨_, h.1, rfl, h.2⟩)) ?_
                        rintro v wq ⟨rfl, hwq⟩
                        subst hwq
                        refine hK.out _ _ ⟨cells_at H 0 _ rfl, z⟩ (fun hHeld => ?_)
                        simp only [Act.put, List.setIfInBounds_toArray, List.set_cons_zero, List.set_cons_succ]
                        refine take_dst (i := 18) (d := 114) (v := .int .i64 (65 + P7)) rfl rfl (by kernel_rfl) (by kernel_rfl) (by kernel_rfl) (fun _ _ _ h => h) (Or.inl ⟨by rfl, ?_⟩) hHeld ?_
                        · (intro w0 hSw; (try dsimp only at hSw); go_simp)
                        simp only [Act.put, List.setIfInBounds_toArray, List.set_cons_zero, List.set_cons_succ]
                        refine take_dst (i := 19) (d := 115) (v := .int .u8 (65 + P7)) rfl rfl (by kernel_rfl) (by kernel_rfl) (by kernel_rfl) (fun _ _ _ h => h) (Or.inl ⟨by rfl, ?_⟩) hHeld ?_
                        · (intro w0 hSw; (try dsimp only at hSw); go_simp)
                        simp only [Act.put, List.setIfInBounds_toArray, List.set_cons_zero, List.set_cons_succ]
                        have h := st_B1X.out V bX hB gX qX
                        rw [← hA0.out] at h
                        simp only [Act.put, List.setIfInBounds_toArray, List.set_cons_zero, List.set_cons_succ] at h ⊢
                        exact hGi.out _ _ _ _ h
                    have st_0 : Hid (∀ (V : World), Below VR.heap.size VR V → GO 11 #[true, true, true, true, true, true, true, true, true, true, false, false, true, true, true, true, true, false, false, false, true, true, true, false, false, false, false, false, false] A0 V) := by
                      show ∀ V, _
                      intro V  hB 
                      refine hGo.out _ _ _ _ ?_
                      rw [← hA0.out]
                      try simp only [Act.put, List.setIfInBounds_toArray, List.set_cons_zero, List.set_cons_succ]
                      have H := (hB.block _ hHR).trans qHr
                      have z := (hB.cell (p := ⟨sb, so + k * 3 + 2, none⟩) hsbR).trans xr2
                      refine wpAnyH_ready (rs := [10, 17, 27]) (by kernel_rfl) (by simp) (AllReadyH.cons rfl (fun K hK => ?_) (AllReadyH.cons rfl (fun K hK => ?_) (AllReadyH.cons rfl (fun K hK => ?_) AllReadyH.nil)))
                      · skip
                        refine step_run rfl 106 rfl (.slice (some ⟨V.heap.size, 0, none⟩) 1 1) (V.alloc (.cells #[.int .u8 (97 + (k : Int))] 5)) (by go_simp) ?_
                        have hA : Below V.heap.size V (V.alloc (.cells #[.int .u8 (97 + (k : Int))] 5)) := (Below.refl _ _).alloc (Nat.le_refl _) _
                        have qN := heap_alloc_new V (.cells #[.int .u8 (97 + (k : Int))] 5)
                        have hBn := hB.trans (hA.mono hB.size)
                        have gN := hB.size
                        have H2 := (hA.block _ (lt_of_heap H)).trans H
                        have z2 := (hA.cell (p := ⟨sb, so + k * 3 + 2, none⟩) (block_lt_of_cell z)).trans z
                        refine hK.out _ _ ⟨cells_at H2 0 _ rfl, z2⟩ (fun hHeld => ?_)
                        clear hHeld
                        have h := st_A1.out (V.alloc (.cells #[.int .u8 (97 + (k : Int))] 5)) V.heap.size hBn qN
                        rw [← hA0.out] at h
                        simp only [Act.put, List.setIfInBounds_toArray, List.set_cons_zero, List.set_cons_succ] at h ⊢
                        exact hGi.out _ _ _ _ h
                      · skip
                        refine step_calls_dst rfl 113 rfl 35 [.tmp 112, .const (.int .i64 7)] #[3, 3] rfl [.int .i64 s.z, .int .i64 7] rfl (enters_of Tryd.func35 (by kernel_rfl) rfl) (fun v w' => v = .int .i64 P7 ∧ V = w') ((HP7.out V).mono (fun e w2 h => ⟨_, h.1, rfl, h.2⟩)) ?_
                        rintro v wq ⟨rfl, hwq⟩
                        subst hwq
                        refine hK.out _ _ ⟨cells_at H 0 _ rfl, z⟩ (fun hHeld => ?_)
                        simp only [Act.put, List.setIfInBounds_toArray, List.set_cons_zero, List.set_cons_succ]
                        refine take_dst (i := 18) (d := 114) (v := .int .i64 (65 + P7)) rfl rfl (by kernel_rfl) (by kernel_rfl) (by kernel_rfl) (fun _ _ _ h => h) (Or.inl ⟨by rfl, ?_⟩) hHeld ?_
                        · (intro w0 hSw; (try dsimp only at hSw); go_simp)
                        simp only [Act.put, List.setIfInBounds_toArray, List.set_cons_zero, List.set_cons_succ]
                        refine take_dst (i := 19) (d := 115) (v := .int .u8 (65 + P7)) rfl rfl (by kernel_rfl) (by kernel_rfl) (by kernel_rfl) (fun _ _ _ h => h) (Or.inl ⟨by rfl, ?_⟩) hHeld ?_
                        · (intro w0 hSw; (try dsimp only at hSw); go_simp)
                        simp only [Act.put, List.setIfInBounds_toArray, List.set_cons_zero, List.set_cons_succ]
                        have h := st_B1.out V hB
                        rw [← hA0.out] at h
                        simp only [Act.put, List.setIfInBounds_toArray, List.set_cons_zero, List.set_cons_succ] at h ⊢
                        exact hGi.out _ _ _ _ h
                      · skip
                        refine step_run rfl 13 rfl (.pointer (some ⟨V.heap.size, 0, none⟩)) (V.alloc (.cells #[.int .i64 0, .int .i64 0, .slice none 0 0] 42)) (by go_simp) ?_
                        have hA : Below V.heap.size V (V.alloc (.cells #[.int .i64 0, .int .i64 0, .slice none 0 0] 42)) := (Below.refl _ _).alloc (Nat.le_refl _) _
                        have qN := heap_alloc_new V (.cells #[.int .i64 0, .int .i64 0, .slice none 0 0] 42)
                        have hBn := hB.trans (hA.mono hB.size)
                        have gN := hB.size
                        have H2 := (hA.block _ (lt_of_heap H)).trans H
                        have z2 := (hA.cell (p := ⟨sb, so + k * 3 + 2, none⟩) (block_lt_of_cell z)).trans z
                        refine hK.out _ _ ⟨cells_at H2 0 _ rfl, z2⟩ (fun hHeld => ?_)
                        clear hHeld
                        have h := st_X.out (V.alloc (.cells #[.int .i64 0, .int .i64 0, .slice none 0 0] 42)) V.heap.size hBn gN qN
                        rw [← hA0.out] at h
                        simp only [Act.put, List.setIfInBounds_toArray, List.set_cons_zero, List.set_cons_succ] at h ⊢
                        exact hGi.out _ _ _ _ h
                    exact st_0.out V0 hV0
                  case rest =>
                    obtain ⟨X, tb, rfl, gX, gT, qX, qT, hb8⟩ := hcut
                    have hB8 := hB7.trans (hb8.mono hB7.size)
                    have ho8 := ho7.below hb8
                    have qH8 := (hb8.block _ (lt_of_heap qH7)).trans qH7
                    have hoh8 := owns_keep hoh hb8
                    have hap8 := hap.same hb8.size (fun p hp b so e => hb8.block b ((hap p hp).2 b so e).2.1)
                    have hapv8 := hapv.same hb8.size (fun p hp b so e => hb8.block b ((hapv p hp).2 b so e).2.1)
                    have hfr8 := hfr.below hb8
                    clear ho7 qH7 hoh hap hapv hfr hB7 xz
                    have c0 := cells_at qX 0 _ rfl
                    have c1 := cells_at qX 1 _ rfl
                    have c2 := cells_at qX 2 _ rfl
                    have HBF : Hid (batchF PX (1 + 3 * (k : Int) + b) [bstr [97 + (k : Int)], bstr [65 + P7, 48 + (b : Int)]] = 0) := by
                      show _ = _
                      rw [batchF, if_neg (by omega), if_neg (by simp), if_pos]
                      simp [txOk, size1, size2]
                    have HSZ : Hid (∀ s ∈ [bstr [97 + (k : Int)], bstr [65 + P7, 48 + (b : Int)]], s.size ≤ 20) := by
                      show ∀ s, _
                      intro s hs
                      simp at hs
                      rcases hs with rfl | rfl
                      · rw [size1]; decide
                      · rw [size2]; decide
                    have HDG : Hid (BV.d (sBv s k b) = tagD 1 (batchB PX (1 + 3 * (k : Int) + b) [bstr [97 + (k : Int)], bstr [65 + P7, 48 + (b : Int)]])) := by
                      show _ = _
                      rw [BV.d, sBv, HPX2.out, HP7e.out]
                    have HBT : Hid (sBv s k b = ⟨PX, 1 + 3 * (k : Int) + b, bstr [97 + (k : Int)], bstr [65 + P7, 48 + (b : Int)]⟩) := by
                      show _ = _
                      rw [sBv, HPX2.out, HP7e.out]
                    have hXH : X ≠ HB := by omega
                    generalize bstr [97 + (k : Int)] = S1 at *
                    generalize bstr [65 + P7, 48 + (b : Int)] = S2 at *
                    obtain ⟨NU, hNU⟩ : ∃ NU, NU = 1 + 3 * (k : Int) + b := ⟨_, rfl⟩
                    rw [← hNU] at qX HBF HDG HBT c1
                    have hnu : 0 ≤ NU ∧ NU ≤ 1048576 := by omega
                    clear hNU
                    go_wp2_with fail
                    refine (batchDigest_ok PX NU (some ⟨tb, 0, none⟩) 2 2 [S1, S2] wc rfl (strs_of2 qT (HSZ.out S1 (by simp)) (HSZ.out S2 (by simp))) HBF.out hPXb hnu (by simp) HSZ.out (fun sb so e => by cases e; exact lt_of_heap qT) (HT.out wc hB8)).mono ?_
                    rintro e w9 ⟨bx, he, hgx, hb9, hsx⟩
                    subst he
                    dsimp only
                    have hB9 := hB8.trans (hb9.mono hB8.size)
                    have ho9 := ho8.below hb9
                    have qX9 := (hb9.block _ (lt_of_heap qX)).trans qX
                    have qT9 := (hb9.block _ (lt_of_heap qT)).trans qT
                    have qH9 := (hb9.block _ (lt_of_heap qH8)).trans qH8
                    have hoh9 := owns_keep hoh8 hb9
                    have hap9 := hap8.same hb9.size (fun p hp b so e => hb9.block b ((hap8 p hp).2 b so e).2.1)
                    have hapv9 := hapv8.same hb9.size (fun p hp b so e => hb9.block b ((hapv8 p hp).2 b so e).2.1)
                    have hfr9 := hfr8.below hb9
                    have hsz9 := hb9.size
                    have hbx9 : bx < w9.heap.size := slice_block_lt hsx (by rw [← HDG.out]; intro h; have := congrArg List.length h; rw [BV.d, tagD_length] at this; cases this) bx 0 rfl
                    have hv9 : ∀ q, u5.ownBlock = some q → q < wc.heap.size := fun q e => (ho8.row.lt q e).2
                    have hh9 : ∀ q, hv.ownBlock = some q → q < wc.heap.size := fun q e => (hoh8.lt q e).2
                    have hW69 : W6.heap.size ≤ w9.heap.size := hfr9.size
                    have hW68 := hfr8.size
                    clear c0 c1 c2 ho8 qX qT qH8 hoh8 hap8 hapv8 hfr8 hb8
                    have d0 := cells_at qX9 0 _ rfl
                    have d1 := cells_at qX9 1 _ rfl
                    have d2 := cells_at qX9 2 _ rfl
                    obtain ⟨ib, hib, hi0, hi1, hi2⟩ := info_parts infoBatch
                    obtain ⟨ix, hix, hx0, hx1, hx2⟩ := info_parts infoBs
                    go_upto_region 24 with (at_builtin; refine wpList_append_own_at _ rfl _ _ 22 rfl w.heap.size 42 ib (.agg #[.int .i64 0, .int .i64 0, .slice none 0 0]) 3 40 Tryd.underlying22 hib hi0 hi1 hi2 rfl (by decide) _ bl2.length _ rfl (World.ownsRow.alloc ho9.row _) ⟨w9.heap.size, 0, none⟩ 1 1 (Bt.cs ⟨⟨PX, NU, S1, S2⟩, tb⟩) rfl rfl (cells_new _ _ _) (bt_one _) (by unfold maxLen; omega) (by omega) (le_alloc hB9.size _) ?_; intro v1 w10 ho10 hg10 _ hat10)
                    have G10 := (Grew.of hg10 hat10).alloc
                    have ho10' := ho9.more (b := ⟨⟨PX, NU, S1, S2⟩, tb⟩) qT9 ho10 G10
                    have qH10 := G10.row qH9 (row_box ho9.row qH9 (by decide))
                    have hoh10 := owns_grew hoh9 ho9.row (by decide) G10
                    have hap10 := hap9.far hapv9 G10
                    have hapv10 := hapv9.own G10
                    have hfr10 := hfr9.grew G10
                    have hB10 := hB9.trans (G10.below hB9.size (fun q e => (ho9.row.lt q e).1))
                    have hsx10 := G10.slice hsx (fun sb so e => by cases e; intro h; have := hv9 bx h; omega)
                    have hsz10 := G10.grown.size
                    have hv10 : v1.ownBlock ≠ some bx := fun h => by
                      rcases G10.fresh bx h with g | g
                      · have := hv9 bx g; omega
                      · omega
                    have hW610 := hfr10.size
                    clear ho10 hg10 hat10 ho9 qH9 hap9 hapv9 hfr9 hB9 hsx d0 d1 d2 qX9 qT9
                    obtain ⟨za, zc, hze⟩ := owns_shape hoh9
                    subst hze
                    have f2 := cells_at qH10 2 _ rfl
                    have g2 := frozen_at qH10 2
                    go_wp2_with (at_builtin; refine wpList_append_own_at _ rfl _ _ 44 rfl W6.heap.size 46 ix (.slice none 0 0) 1 24 Tryd.underlying44 hix hx0 hx1 hx2 rfl (by decide) _ b _ rfl (World.ownsRow.alloc hoh10 _) ⟨w10.heap.size, 0, none⟩ 1 1 [.slice (some ⟨bx, 0, none⟩) 32 32] rfl rfl (cells_new _ _ _) (by intro u hu; simp at hu; subst hu; rfl) (by unfold maxLen; omega) (by omega) (le_alloc hW610 _) ?_; intro v2 w11 ho11 hg11 _ hat11; have G11 := (Grew.of hg11 hat11).alloc; have qH11 := G11.row qH10 (row_box hoh10 qH10 (by decide)); have k2 := cells_at qH11 2 _ rfl; have k3 := frozen_at qH11 2; obtain ⟨xa, xc, hxe⟩ := owns_shape ho11; subst hxe)
                    have hz10 : ∀ q, (Value.slice za b zc).ownBlock = some q → W6.heap.size ≤ q ∧ q < w10.heap.size := fun q e => hoh10.lt q e
                    have ho11' := owns_grew ho10'.row hoh10 (by decide) G11
                    have hsz11 := G11.grown.size
                    have ht11 : ∀ c ∈ bl2 ++ [⟨⟨PX, NU, S1, S2⟩, tb⟩], BtOk w11 c := fun c hc => G11.row (ho10'.each c hc) (row_box hoh10 (ho10'.each c hc) (by decide))
                    have hapn : Apart w10 W6.heap.size (.slice za b zc) (ds ++ [⟨some ⟨bx, 0, none⟩, 32, tagD 1 (batchB PX NU [S1, S2])⟩]) := fun p hp => by
                      rcases List.mem_append.1 hp with hp | hp
                      · exact hap10 p hp
                      · obtain rfl : p = _ := by simpa using hp
                        refine ⟨hsx10, fun sb so e => ?_⟩
                        cases e
                        exact ⟨by omega, by omega, fun h => by have := hh9 bx h; omega⟩
                    have hapvn : Apart w10 W6.heap.size v1 (ds ++ [⟨some ⟨bx, 0, none⟩, 32, tagD 1 (batchB PX NU [S1, S2])⟩]) := fun p hp => by
                      rcases List.mem_append.1 hp with hp | hp
                      · exact hapv10 p hp
                      · obtain rfl : p = _ := by simpa using hp
                        refine ⟨hsx10, fun sb so e => ?_⟩
                        cases e
                        exact ⟨by omega, by omega, hv10⟩
                    have hap11 := hapn.own G11
                    have hapv11 := hapvn.far hapn G11
                    have hfr11 := (hfr10.other G11 (fun q e => (hz10 q e).1)).box 2 (.slice xa (b + 1) xc)
                    have hB11 := (hB10.trans (G11.below hB10.size (fun q e => Nat.le_trans (by omega) (hz10 q e).1))).setCell (p := ⟨HB, 2, none⟩) (by show w.heap.size ≤ HB; omega) (.slice xa (b + 1) xc)
                    have hbo : BtsOwn w11 w.heap.size v1 (bl2 ++ [⟨⟨PX, NU, S1, S2⟩, tb⟩]) := ⟨ho11', ht11⟩
                    have hboS := hbo.setCell HB 2 (.slice xa (b + 1) xc) _ _ qH11 (by decide) (by decide)
                    have hh11 : ∀ q, (Value.slice xa (b + 1) xc).ownBlock = some q → W6.heap.size ≤ q := fun q e => (ho11.lt q e).1
                    go_roundw
                    case rel =>
                      refine ⟨b + 1, bl2 ++ [⟨⟨PX, NU, S1, S2⟩, tb⟩], .slice xa (b + 1) xc, ds ++ [⟨some ⟨bx, 0, none⟩, 32, tagD 1 (batchB PX NU [S1, S2])⟩], by omega, by go_num, ?_, hboS, ?_, ?_, ?_, ?_, ?_, hfr11, hB11⟩
                      · show _ = _
                        rw [List.map_append, HV2.out, sBs_succ, HBT.out, List.append_assoc]; rfl
                      · show _ = _
                        rw [bss, List.map_append, sBs_succ, List.map_append]
                        rw [show List.map (·.bs) ds = _ from HDS.out]
                        simp [HDG.out]
                      · simpa using heap_setCell_same _ _ 2 _ _ (.slice xa (b + 1) xc) qH11
                      · refine owns_far (by simpa [pv, Part.val, tagD_length] using ho11) HB 2 _ hHlt
                      · exact hap11.same (by simp) (fun p hp b so e => heap_setCell_other _ ⟨HB, 2, none⟩ b _ (by have := ((hap11 p hp).2 b so e).1; show b ≠ HB; omega))
                      · exact hapv11.same (by simp) (fun p hp b so e => heap_setCell_other _ ⟨HB, 2, none⟩ b _ (by have := ((hapv11 p hp).2 b so e).1; show b ≠ HB; omega))
                    case measure => simp [intOf]; omega
                · have HBE : Hid (b = sN s) := by show _ = _; omega
                  have xz := HZ.out wr hB7
                  have hpz := picked_any s.z 3 wr HI.out.2.2.1 HI.out.2.2.2 (by decide) (by decide)
                  rw [HPZ.out, ← HBE.out] at hpz
                  obtain ⟨ra, rc, hve, hdl, hLd, hFd⟩ := listAt_of_owns hoh hap
                  have hrlt : ∀ sb so, ra = some ⟨sb, so, none⟩ → sb < wr.heap.size := fun sb so e => (hoh.lt sb (by rw [hve, e]; rfl)).2
                  subst hve
                  subst hdl
                  have hd3 : ds.length ≤ 2 := by have := HBE.out; omega
                  have hLd2 := hLd (by omega)
                  have hd7 := hfr.dag hd6 hoff (fun b hb => Nat.ne_of_lt (hkad b hb))
                  have hoff7 := hfr.off hd6 (fun sb so e => Nat.lt_trans (hkr2 sb so e) hHlt) hoff
                  have hLp7 : ListAt wr pa pc pl := list_keep hLp (fun b so e => hfr.block b (hpr b so e) (fun h => by have := hown2 b h; have := hFp.row b so e; omega) (by have := hFp.row b so e; omega)) (fun p hp b so hn e => hfr.block b (slice_block_lt (hLp.parts.each p hp) hn b so e) (fun h => by have := hown2 b h; have := hFp.each p hp b so e; omega) (by have := hFp.each p hp b so e; omega))
                  have b17 := (hfr.block D1 (lt_of_heap b16) (row_box ho6.row b16 (by decide)) (by omega)).trans b16
                  have b07 := (hfr.block _ (lt_of_heap b06) (row_box ho6.row b06 (by decide)) (by omega)).trans b06
                  have hsz7 := hfr.size
                  have HCV : Hid ((⟨PX, hr, bss ds, bss pl, [0, 1, 2]⟩ : CV) = sC s k (cvs ks) rd) := by
                    show _ = _
                    rw [sC, ← HHR.out, ← HPX2.out, ← HPL.out, HDS.out, HBE.out]
                  have HV3 : Hid (bl2.map (·.v) = bvTo l (k + 1)) := by
                    show _ = _
                    rw [HV2.out, bvTo, HSK.out, HBE.out]
                  have HNE : Hid (GrownTo l k (cvs ks) ∧ NextR (cvs ks) rd ∧ sAt l k = s) := ⟨HG.out, HN.out, HSK.out⟩
                  have hA7 := (Below.refl wr.heap.size wr).alloc (Nat.le_refl _) (.cells #[.int .i64 0, .int .i64 1, .int .i64 2] 3)
                  have qV := heap_alloc_new wr (.cells #[.int .i64 0, .int .i64 1, .int .i64 2] 3)
                  have h0 := cells_at qH7 0 _ rfl
                  have h1 := cells_at qH7 1 _ rfl
                  have h2 := cells_at qH7 2 _ rfl
                  have h3 := cells_at qH7 3 _ rfl
                  have m0 := cells_at b17 0 _ rfl
                  clear HV2 HDS HPL HHR HPX2 hap hapv hLd HG HN HSK HBE hoh hFd
                  go_wp2_with fail
                  refine hpz.mono ?_
                  rintro e wq ⟨he, hwq⟩
                  subst he hwq
                  dsimp only
                  go_wp2_with fail
                  have hC : CtAt (wr.alloc (.cells #[.int .i64 0, .int .i64 1, .int .i64 2] 3)) ⟨PX, hr, ra, rc, ds, pa, pc, pl, some ⟨wr.heap.size, 0, none⟩, 3, [0, 1, 2]⟩ := by
                    have hb := bare_at PX hr qV
                    refine ⟨⟨hLd2.below hA7, hLp7.below hA7, fun sb so e => Nat.lt_of_lt_of_le (hrlt sb so e) hA7.size, fun sb so e => Nat.lt_of_lt_of_le (Nat.lt_of_lt_of_le (hpr sb so e) hsz7) hA7.size⟩, hb.ints, hb.vle⟩
                  have hd8 := hd7.below hA7
                  have hB8 := hB7.trans (hA7.mono hB7.size)
                  have ho8 := ho7.below hA7
                  have b08 := (hA7.block _ (lt_of_heap b07)).trans b07
                  have b18 := (hA7.block _ (lt_of_heap b17)).trans b17
                  have hkr8 : ∀ sb so, ka = some ⟨sb, so, none⟩ → sb < (wr.alloc (.cells #[.int .i64 0, .int .i64 1, .int .i64 2] 3)).heap.size := fun sb so e => Nat.lt_of_lt_of_le (Nat.lt_of_lt_of_le (Nat.lt_trans (hkr2 sb so e) hHlt) hsz7) hA7.size
                  clear hd7 ho7 b07 b17 hLd2 hLp7 hLp hFp hpr hrlt qV h0 h1 h2 h3 m0 qH7 xz hfr
                  generalize wr.alloc (.cells #[.int .i64 0, .int .i64 1, .int .i64 2] 3) = W8 at hC hd8 hB8 ho8 b08 b18 hkr8 hA7 ⊢
                  refine (dagInsert_any ks ka _ kc ⟨PX, hr, ra, rc, ds, pa, pc, pl, some ⟨wr.heap.size, 0, none⟩, 3, [0, 1, 2]⟩ W8 rfl hd8 hC (HT.out W8 hB8)).mono ?_
                  rintro e w9 ⟨hI, hb9⟩
                  have hcv : (⟨PX, hr, ra, rc, ds, pa, pc, pl, some ⟨wr.heap.size, 0, none⟩, 3, [0, 1, 2]⟩ : Ct).v = sC s k (cvs ks) rd := HCV.out
                  rw [hcv] at hI
                  have hB9 := hB8.trans (hb9.mono hB8.size)
                  have ho9 := ho8.below hb9
                  have b09 := (hb9.block _ (lt_of_heap b08)).trans b08
                  have b19 := (hb9.block _ (lt_of_heap b18)).trans b18
                  have hd9 := hd8.below hb9
                  have hsz9 := hb9.size
                  have hv8 : ∀ q, u5.ownBlock = some q → q < W8.heap.size := fun q e => (ho8.row.lt q e).2
                  clear hcv hC HCV ho8 b08 b18 hd8
                  rcases hI with ⟨hne, he⟩ | ⟨hz, na, nc, ns, he, hcs, hdn, hnr, hnb⟩
                  · have HGN : Hid (GrownTo l (k + 1) (cvs ks)) := by
                      obtain ⟨g1, g2, g3⟩ := HNE.out
                      exact ⟨cvs ks, g1, rd, g2, by rw [g3, if_neg hne]⟩
                    have hx : ∃ x : Int, x ≠ 0 ∧ insE (cvs ks) (sC s k (cvs ks) rd) = x := ⟨_, hne, rfl⟩
                    obtain ⟨x, hx0, hxe⟩ := hx
                    rw [hxe] at he
                    subst he
                    dsimp only
                    have hxb : (x == 0) = false := by simpa using hx0
                    clear hne hxe hx0 HNE
                    have hA9 := (Below.refl w9.heap.size w9).alloc (Nat.le_refl _) (.cells #[.slice none 0 0] 51)
                    go_wp2_with fail
                    go_roundw
                    case rel =>
                      exact ⟨k + 1, ka, kc, ks, bl2, by omega, by omega, by go_num, HGN, (hA9.block _ (lt_of_heap b09)).trans b09, (hA9.block _ (lt_of_heap b19)).trans b19, hd9.below hA9, hoff7, hnew, fun sb so e => Nat.lt_of_lt_of_le (Nat.lt_of_lt_of_le (hkr8 sb so e) hsz9) hA9.size, ho9.below hA9, HV3, hB9.trans (hA9.mono hB9.size)⟩
                    case measure => simp [intOf]; omega
                  · have HGN : Hid (GrownTo l (k + 1) (cvs ns)) := by
                      obtain ⟨g1, g2, g3⟩ := HNE.out
                      exact ⟨cvs ks, g1, rd, g2, by rw [g3, if_pos hz, hcs]⟩
                    have hnp : 0 < ns.length := by
                      have := congrArg List.length hcs
                      rw [cvs_length, List.length_append] at this
                      simp at this; omega
                    subst he
                    dsimp only
                    clear hz hcs HNE
                    have hA9 := (Below.refl w9.heap.size w9).alloc (Nat.le_refl _) (.cells #[.slice na ns.length nc] 51)
                    have b1A := (hA9.block _ (lt_of_heap b19)).trans b19
                    have b0A := (hA9.block _ (lt_of_heap b09)).trans b09
                    have p0 := cells_at b1A 0 _ rfl
                    have p1 := frozen_at b1A 0
                    have hdA := hdn.below hA9
                    have hoA := ho9.below hA9
                    have hBA := hB9.trans (hA9.mono hB9.size)
                    have hD8 : D1 < W8.heap.size := by have := hA7.size; have := lt_of_heap b16; omega
                    have hnD : ∀ q, W8.heap.size ≤ q → D1 ≠ q := fun q h => by omega
                    go_wp2_with fail
                    generalize w9.alloc (.cells #[.slice na ns.length nc] 51) = WA at b1A b0A p0 p1 hdA hoA hBA ⊢
                    have hdB := dag_setCell hdA D1 0 (.slice na ns.length nc) (fun sb so e => hnD sb (hnr sb so e)) (fun c hc q hq => (hnD q (hnb c hc q hq)).symm)
                    have hoB := hoA.setCell D1 0 (.slice na ns.length nc) _ _ b1A (by decide) (by decide)
                    go_roundw
                    case rel =>
                      refine ⟨k + 1, na, nc, ns, bl2, by omega, by omega, by go_num, HGN, heap_far b0A (by omega), by simpa using heap_setCell_same _ _ 0 _ _ (.slice na ns.length nc) b1A, hdB, ?_, ?_, ?_, hoB, HV3, hBA.setCell (p := ⟨D1, 0, none⟩) (by show w.heap.size ≤ D1; omega) _⟩
                      · exact ⟨fun sb so e h => by have := hv8 sb h; have := hnr sb so e; omega, fun c hc q hq h => by have := hv8 q h; have := hnb c hc q hq; omega⟩
                      · exact ⟨fun sb so e => by have := hnr sb so e; omega, fun c hc q hq => by have := hnb c hc q hq; omega⟩
                      · exact fun sb so e => by have := dag_row_lt hdB hnp sb so e; exact this
                    case measure => simp [intOf]; omega
      · obtain rfl : k = 24 := by omega
        have HE : Hid (min l.length 24 = 24) := by show _ = _; omega
        have hltI : (24 : Int) < l.length := by omega
        have d0 := cells_at b1 0 _ rfl
        have r0 := cells_at b0 0 _ rfl
        have r1 := frozen_at b0 0
        obtain ⟨za, zc, hze⟩ := owns_shape ho.row
        subst hze
        go_wp2_with fail
        refine bodyPost_ret (v := .tuple #[.agg #[.slice ka ks.length kc], .slice za bl.length zc]) (by simp [results, Tryd.results54, go_sem, r0]) rfl ?_
        rw [HE.out]
        exact kdag_end HG.out HBV.out hdag hoff hnew ho b0 hb hDg
    · obtain rfl : k = l.length := by omega
      have HE : Hid (min l.length 24 = l.length) := by show _ = _; omega
      have d0 := cells_at b1 0 _ rfl
      have r0 := cells_at b0 0 _ rfl
      have r1 := frozen_at b0 0
      obtain ⟨za, zc, hze⟩ := owns_shape ho.row
      subst hze
      go_wp2_with fail
      refine bodyPost_ret (v := .tuple #[.agg #[.slice ka ks.length kc], .slice za bl.length zc]) (by simp [results, Tryd.results54, go_sem, r0]) rfl ?_
      rw [HE.out]
      exact kdag_end HG.out HBV.out hdag hoff hnew ho b0 hb hDg
end Go.Proofs.YtbmodfegcmaieaaDoor
