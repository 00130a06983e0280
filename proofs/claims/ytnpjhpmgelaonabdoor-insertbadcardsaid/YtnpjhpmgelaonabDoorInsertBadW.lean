/- InsertBad: the walk: by bin/mkib.py. -/
import Derived.Test.YtnpjhpmgelaonabDoorGKGrown
import Derived.Test.YtnpjhpmgelaonabDoorInsF
import Derived.Test.YtnpjhpmgelaonabDoorHdCt
import Derived.Test.YtnpjhpmgelaonabDoorDMisC
import Derived.Test.YtnpjhpmgelaonabDoorOpenR
namespace Go.Proofs.YtnpjhpmgelaonabDoor
open Go.RowKit

set_option maxRecDepth 100000 in
theorem ints_first {w : World} {b m : Nat} {v : Value} {x : Int} {r : List Int} (h : w.ownsRow b 3 1 v m (iv (x :: r))) : ∃ g vc, v = .slice (some ⟨g, 0, none⟩) (r.length + 1) vc ∧ r.length + 1 ≤ vc ∧ vc ≤ maxLen ∧ w.cell? ⟨g, 0, none⟩ = some (.int .i64 x) := by
  have hm : m = r.length + 1 := by have := h.1; simp [iv] at this; omega
  subst hm
  rcases h.2 with ⟨_, hn⟩ | ⟨g, cap, cur, rfl, hg, hc, h1, h2, h3⟩
  · omega
  · refine ⟨g, cap, rfl, h1, h2, ?_⟩
    rw [World.ownsRow.cellAt h 0 (by omega)]
    simp [iv]
set_option maxRecDepth 100000 in
set_option maxHeartbeats 4000000 in
theorem insertBad_walk (sa : Option Addr) (cap : Nat) (l : List Stp) (ki ra rb rc : Int) (ta : Option Addr) (tc : Nat) (ss : List ByteArray) (w : World) (hl : StepsAt w sa l) (hcl : l.length ≤ cap) (hc0 : sa = none → cap = 0) (hc1 : l.length * 24 ≤ 140737488351232) (_i0 : I64 ki) (i1 : I64 ra) (i2 : I64 rb) (i3 : I64 rc) (_ht : TextsAt w ta tc ss) (hT : Tabs w) :
    Calls Tryd.prog 4 #[.slice sa l.length cap, .agg #[.int .i64 ki, .int .i64 ra, .int .i64 rb, .int .i64 rc, .slice ta ss.length tc]] w fun e w' => e = .returned (.bool true) ∧ Below w.heap.size w w' := by
  have hA0 := (Below.refl w.heap.size w).alloc (Nat.le_refl _) (.cells #[.int .i64 ki, .int .i64 ra, .int .i64 rb, .int .i64 rc, .slice ta ss.length tc] 39)
  have qR := heap_alloc_new w (.cells #[.int .i64 ki, .int .i64 ra, .int .i64 rb, .int .i64 rc, .slice ta ss.length tc] 39)
  have hnil : sa = none → l.length = 0 ∧ cap = 0 := fun h => by have := hc0 h; omega
  have H := grown_any l sa _ cap _ rfl (hl.below hA0) hnil hc1 (hT.below hA0)
  have HT : Hid (∀ W : World, Below w.heap.size w W → Tabs W) := by
    show ∀ W, _
    exact fun W hW => hT.below hW
  clear hT hnil hc0 hc1 hcl
  go_enter Tryd.func4, Tryd.ntmps4
  go_wp2_with fail
  refine H.mono ?_
  rintro e w1 ⟨ka, kc, ks, ba, bc, bl, he, hG, hd, hnew, ho, hoff, hV, hb1⟩
  subst he
  dsimp only
  have hpos : 0 < ks.length := by have := grown_some (by omega) hG; rw [cvs_length] at this; exact this
  have HD : Hid (dagF (cvs ks) = 0) := hG.dag
  have hA1 := (Below.refl w1.heap.size w1).alloc (Nat.le_refl _) (.cells #[.slice ka ks.length kc] 25)
  have qD := heap_alloc_new w1 (.cells #[.slice ka ks.length kc] 25)
  have hd2 := hd.below hA1
  have hBw := hA0.trans (hb1.mono hA0.size)
  have hB2 := hBw.trans (hA1.mono hBw.size)
  have qR2 := (hA1.block _ (Nat.lt_of_lt_of_le (lt_of_heap qR) hb1.size)).trans ((hb1.block _ (lt_of_heap qR)).trans qR)
  clear hG hV ho hoff hnew hd H hl qR hb1 hA0
  go_upto_region 2 with fail
  generalize w1.alloc (.cells #[.slice ka ks.length kc] 25) = W2 at hA1 qD hd2 hB2 qR2 ⊢
  clear hA1
  have hgD : w.heap.size ≤ w1.heap.size := hBw.size
  generalize w1.heap.size = D at qD hgD ⊢
  obtain ⟨RB, hRB⟩ : ∃ RB, RB = w.heap.size := ⟨_, rfl⟩
  rw [← hRB] at qR2 ⊢
  have hRB2 : w.heap.size ≤ RB := Nat.le_of_eq hRB.symm
  clear hRB
  have r0 := cells_at qR2 0 _ rfl
  have r1 := cells_at qR2 1 _ rfl
  have r2 := cells_at qR2 2 _ rfl
  have r3 := cells_at qR2 3 _ rfl
  have r4 := cells_at qR2 4 _ rfl
  obtain ⟨x, r, hvl, hvf, hrl⟩ := votersL_one rc
  have HV : Hid (∀ V : World, Calls Tryd.prog 12 #[.int .i64 rc] V fun e w' => ∃ v, e = .returned v ∧ w'.ownsRow V.heap.size 3 1 v (x :: r).length (iv (x :: r)) ∧ Below V.heap.size V w') := by
    show ∀ V, _
    intro V
    rw [← hvl]
    exact voters_any rc V i3
  have HVF : Hid (votersF [x] = 10) := hvf
  have HHD : Hid (∀ V : World, Calls Tryd.prog 11 #[.agg #[.int .i64 ki, .int .i64 ra, .int .i64 rb, .int .i64 rc, .slice ta ss.length tc]] V fun e w' => ∃ h : Ct, e = .returned (.agg #[.int .i64 (pk ra 4), .int .i64 (1 + pk rb 9), .slice h.ba h.bl.length h.bc, .slice h.pa h.pl.length h.pc]) ∧ CtAt w' h ∧ headerF (pk ra 4) (1 + pk rb 9) h.bl h.pl = 0 ∧ (∀ b, CtIn h b → V.heap.size ≤ b) ∧ Below V.heap.size V w') := by
    show ∀ V, _
    exact fun V => header_ct ki ra rb rc ta _ tc V i1 i2 i3
  have hpa := pk_bounds ra 4 (by decide)
  have hpb := pk_bounds rb 9 (by decide)
  clear hvl hvf
  generalize pk ra 4 = PA at HHD hpa
  generalize pk rb 9 = PB at HHD hpb
  obtain ⟨VR, hVR⟩ : ∃ VR, VR = W2 := ⟨_, rfl⟩
  subst hVR
  go_cut [7] (fun v wx => ∃ (X g vc : Nat) (h : Ct), v = .pointer (some ⟨X, 0, none⟩) ∧ VR.heap.size ≤ X ∧ wx.heap[X]? = some (.cells #[.int .i64 PA, .int .i64 (1 + PB), .slice h.ba h.bl.length h.bc, .slice h.pa h.pl.length h.pc, .slice (some ⟨g, 0, none⟩) (r.length + 1) vc] 46 (0, 0)) ∧ CtAt wx h ∧ Hid (headerF PA (1 + PB) h.bl h.pl = 0) ∧ (∀ b, CtIn h b → b ≠ X) ∧ g ≠ X ∧ r.length + 1 ≤ vc ∧ vc ≤ maxLen ∧ wx.cell? ⟨g, 0, none⟩ = some (.int .i64 x) ∧ Below VR.heap.size VR wx)
  case first =>
    have hV0 : Below VR.heap.size VR VR.drew := (Below.refl _ _).drew
    refine wp_region_held_drew (S := fun w' => w'.cell? ⟨RB, 0, none⟩ = some (.int .i64 ki) ∧ w'.cell? ⟨RB, 1, none⟩ = some (.int .i64 ra) ∧ w'.cell? ⟨RB, 2, none⟩ = some (.int .i64 rb) ∧ w'.cell? ⟨RB, 3, none⟩ = some (.int .i64 rc) ∧ w'.cell? ⟨RB, 4, none⟩ = some (.slice ta ss.length tc)) (by kernel_rfl) ⟨(hV0.cell (p := ⟨RB, 0, none⟩) (block_lt_of_cell r0)).trans r0, (hV0.cell (p := ⟨RB, 1, none⟩) (block_lt_of_cell r1)).trans r1, (hV0.cell (p := ⟨RB, 2, none⟩) (block_lt_of_cell r2)).trans r2, (hV0.cell (p := ⟨RB, 3, none⟩) (block_lt_of_cell r3)).trans r3, (hV0.cell (p := ⟨RB, 4, none⟩) (block_lt_of_cell r4)).trans r4⟩ (fun hHeld => ?_)
    generalize VR.drew = V0 at hV0 hHeld ⊢
    refine take_dst (i := 0) (d := 18) (v := .agg #[.int .i64 ki, .int .i64 ra, .int .i64 rb, .int .i64 rc, .slice ta ss.length tc]) rfl rfl (by kernel_rfl) (by kernel_rfl) (by kernel_rfl) (fun _ _ _ h => h) (Or.inl ⟨by rfl, ?_⟩) hHeld ?_
    · (intro w0 hSw; (try dsimp only at hSw); go_simp)
    simp only [Act.put, List.setIfInBounds_toArray, List.set_cons_zero, List.set_cons_succ]
    refine take_dst (i := 2) (d := 20) (v := .pointer (some ⟨RB, 3, none⟩)) rfl rfl (by kernel_rfl) (by kernel_rfl) (by kernel_rfl) (fun _ _ _ h => h) (Or.inl ⟨by rfl, ?_⟩) hHeld ?_
    · (intro w0 hSw; (try dsimp only at hSw); go_simp)
    simp only [Act.put, List.setIfInBounds_toArray, List.set_cons_zero, List.set_cons_succ]
    refine take_dst (i := 3) (d := 21) (v := .int .i64 rc) rfl rfl (by kernel_rfl) (by kernel_rfl) (by kernel_rfl) (fun _ _ _ h => h) (Or.inl ⟨by rfl, ?_⟩) hHeld ?_
    · (intro w0 hSw; (try dsimp only at hSw); go_simp)
    simp only [Act.put, List.setIfInBounds_toArray, List.set_cons_zero, List.set_cons_succ]
    clear hHeld
    refine any_named (fun GO hGo hGi => ?_)
    refine act_named (fun A0 hA0 => ?_)
    have st_HVXS : Hid (∀ (V : World) (h : Ct) (g : Nat) (vc : Nat) (bX : Nat), Below VR.heap.size VR V → (CtAt V h) → (Hid (headerF PA (1 + PB) h.bl h.pl = 0)) → (V.ownsRow VR.heap.size 3 1 (.slice (some ⟨g, 0, none⟩) (r.length + 1) vc) (x :: r).length (iv (x :: r))) → (VR.heap.size ≤ bX) → (V.heap[bX]? = some (.cells #[.int .i64 PA, .int .i64 (1 + PB), .slice h.ba h.bl.length h.bc, .slice h.pa h.pl.length h.pc, .slice (some ⟨g, 0, none⟩) (r.length + 1) vc] 46 (0, 0))) → (∀ b, CtIn h b → b ≠ bX) → GO 0 #[true, true, true, true, true, true, true, true] ((((A0.put (some 19) (.agg #[.int .i64 PA, .int .i64 (1 + PB), .slice h.ba h.bl.length h.bc, .slice h.pa h.pl.length h.pc])).put (some 22) (.slice (some ⟨g, 0, none⟩) (r.length + 1) vc)).put (some 23) (.agg #[.int .i64 PA, .int .i64 (1 + PB), .slice h.ba h.bl.length h.bc, .slice h.pa h.pl.length h.pc, .slice (some ⟨g, 0, none⟩) (r.length + 1) vc])).put (some 7) (.pointer (some ⟨bX, 0, none⟩))) V) := by
      show ∀ V, _
      intro V h g vc bX hB hH hF hv gX qS hHX
      refine hGo.out _ _ _ _ ?_
      rw [← hA0.out]
      try simp only [Act.put, List.setIfInBounds_toArray, List.set_cons_zero, List.set_cons_succ]
      refine wpAnyH_done (by kernel_rfl) ?_ _
      obtain ⟨g', vc', e', h1, h2, h3⟩ := ints_first hv
      cases e'
      have hgX : g ≠ bX := fun e => (row_box hv qS (by decide)) (by rw [← e]; rfl)
      go_wp2_with fail
      go_meet
      case rel => exact ⟨bX, g, vc, h, rfl, gX, qS, hH, hF, hHX, hgX, h1, h2, h3, hB⟩
    have st_HVX : Hid (∀ (V : World) (h : Ct) (g : Nat) (vc : Nat) (bX : Nat), Below VR.heap.size VR V → (CtAt V h) → (Hid (headerF PA (1 + PB) h.bl h.pl = 0)) → (V.ownsRow VR.heap.size 3 1 (.slice (some ⟨g, 0, none⟩) (r.length + 1) vc) (x :: r).length (iv (x :: r))) → (V.heap[bX]? = some (.cells #[.int .i64 0, .int .i64 0, .slice none 0 0, .slice none 0 0, .slice none 0 0] 46 (0, 0))) → (VR.heap.size ≤ bX) → (∀ b, CtIn h b → b ≠ bX) → GO 1 #[true, true, true, true, true, true, true, false] ((((A0.put (some 19) (.agg #[.int .i64 PA, .int .i64 (1 + PB), .slice h.ba h.bl.length h.bc, .slice h.pa h.pl.length h.pc])).put (some 22) (.slice (some ⟨g, 0, none⟩) (r.length + 1) vc)).put (some 23) (.agg #[.int .i64 PA, .int .i64 (1 + PB), .slice h.ba h.bl.length h.bc, .slice h.pa h.pl.length h.pc, .slice (some ⟨g, 0, none⟩) (r.length + 1) vc])).put (some 7) (.pointer (some ⟨bX, 0, none⟩))) V) := by
      show ∀ V, _
      intro V h g vc bX hB hH hF hv qX gX hHX
      refine hGo.out _ _ _ _ ?_
      rw [← hA0.out]
      try simp only [Act.put, List.setIfInBounds_toArray, List.set_cons_zero, List.set_cons_succ]
      refine wpAnyH_ready (rs := [7]) (by kernel_rfl) (by simp) (AllReadyH.cons rfl (fun K hK => ?_) AllReadyH.nil)
      have hVX := row_box hv qX (by decide)
      have c0_ := cells_at qX 0 _ rfl
      have f0_ := frozen_at qX 0
      have c1_ := cells_at qX 1 _ rfl
      have f1_ := frozen_at qX 1
      have c2_ := cells_at qX 2 _ rfl
      have f2_ := frozen_at qX 2
      have c3_ := cells_at qX 3 _ rfl
      have f3_ := frozen_at qX 3
      have c4_ := cells_at qX 4 _ rfl
      have f4_ := frozen_at qX 4
      refine step_store rfl rfl (((((V.setCell ⟨bX, 0, none⟩ (.int .i64 PA)).setCell ⟨bX, 1, none⟩ (.int .i64 (1 + PB))).setCell ⟨bX, 2, none⟩ (.slice h.ba h.bl.length h.bc)).setCell ⟨bX, 3, none⟩ (.slice h.pa h.pl.length h.pc)).setCell ⟨bX, 4, none⟩ (.slice (some ⟨g, 0, none⟩) (r.length + 1) vc)) (by go_simp) ?_
      have hBn := (((((hB.setCell (p := ⟨bX, 0, none⟩) gX (.int .i64 PA)).setCell (p := ⟨bX, 1, none⟩) gX (.int .i64 (1 + PB))).setCell (p := ⟨bX, 2, none⟩) gX (.slice h.ba h.bl.length h.bc)).setCell (p := ⟨bX, 3, none⟩) gX (.slice h.pa h.pl.length h.pc)).setCell (p := ⟨bX, 4, none⟩) gX (.slice (some ⟨g, 0, none⟩) (r.length + 1) vc))
      have qS_n : (((((V.setCell ⟨bX, 0, none⟩ (.int .i64 PA)).setCell ⟨bX, 1, none⟩ (.int .i64 (1 + PB))).setCell ⟨bX, 2, none⟩ (.slice h.ba h.bl.length h.bc)).setCell ⟨bX, 3, none⟩ (.slice h.pa h.pl.length h.pc)).setCell ⟨bX, 4, none⟩ (.slice (some ⟨g, 0, none⟩) (r.length + 1) vc)).heap[bX]? = some (.cells #[.int .i64 PA, .int .i64 (1 + PB), .slice h.ba h.bl.length h.bc, .slice h.pa h.pl.length h.pc, .slice (some ⟨g, 0, none⟩) (r.length + 1) vc] 46 (0, 0)) := by simpa using (heap_setCell_same _ _ 4 _ _ (.slice (some ⟨g, 0, none⟩) (r.length + 1) vc) (heap_setCell_same _ _ 3 _ _ (.slice h.pa h.pl.length h.pc) (heap_setCell_same _ _ 2 _ _ (.slice h.ba h.bl.length h.bc) (heap_setCell_same _ _ 1 _ _ (.int .i64 (1 + PB)) (heap_setCell_same _ _ 0 _ _ (.int .i64 PA) qX)))))
      have hH_n := (ct_put (ct_put (ct_put (ct_put (ct_put hH bX 0 (.int .i64 PA) hHX) bX 1 (.int .i64 (1 + PB)) hHX) bX 2 (.slice h.ba h.bl.length h.bc) hHX) bX 3 (.slice h.pa h.pl.length h.pc) hHX) bX 4 (.slice (some ⟨g, 0, none⟩) (r.length + 1) vc) hHX)
      have hv_n := (ownsRow_setCell_other (ownsRow_setCell_other (ownsRow_setCell_other (ownsRow_setCell_other (ownsRow_setCell_other hv (a := ⟨bX, 0, none⟩) hVX (.int .i64 PA)) (a := ⟨bX, 1, none⟩) hVX (.int .i64 (1 + PB))) (a := ⟨bX, 2, none⟩) hVX (.slice h.ba h.bl.length h.bc)) (a := ⟨bX, 3, none⟩) hVX (.slice h.pa h.pl.length h.pc)) (a := ⟨bX, 4, none⟩) hVX (.slice (some ⟨g, 0, none⟩) (r.length + 1) vc))
      generalize (((((V.setCell ⟨bX, 0, none⟩ (.int .i64 PA)).setCell ⟨bX, 1, none⟩ (.int .i64 (1 + PB))).setCell ⟨bX, 2, none⟩ (.slice h.ba h.bl.length h.bc)).setCell ⟨bX, 3, none⟩ (.slice h.pa h.pl.length h.pc)).setCell ⟨bX, 4, none⟩ (.slice (some ⟨g, 0, none⟩) (r.length + 1) vc)) = W' at hBn qS_n hH_n hv_n ⊢
      refine hK.out _ _ ⟨(hBn.cell (p := ⟨RB, 0, none⟩) (block_lt_of_cell r0)).trans r0, (hBn.cell (p := ⟨RB, 1, none⟩) (block_lt_of_cell r1)).trans r1, (hBn.cell (p := ⟨RB, 2, none⟩) (block_lt_of_cell r2)).trans r2, (hBn.cell (p := ⟨RB, 3, none⟩) (block_lt_of_cell r3)).trans r3, (hBn.cell (p := ⟨RB, 4, none⟩) (block_lt_of_cell r4)).trans r4⟩ (fun hHeld => ?_)
      clear hHeld
      have h := st_HVXS.out W' h g vc bX hBn hH_n hF hv_n gX qS_n hHX
      rw [← hA0.out] at h
      (try simp only [Act.put, List.setIfInBounds_toArray, List.set_cons_zero, List.set_cons_succ] at h)
      (try simp only [List.setIfInBounds_toArray, List.set_cons_zero, List.set_cons_succ])
      exact hGi.out _ _ _ _ h
    have st_HV : Hid (∀ (V : World) (h : Ct) (g : Nat) (vc : Nat), Below VR.heap.size VR V → (CtAt V h) → (Hid (headerF PA (1 + PB) h.bl h.pl = 0)) → (V.ownsRow VR.heap.size 3 1 (.slice (some ⟨g, 0, none⟩) (r.length + 1) vc) (x :: r).length (iv (x :: r))) → GO 2 #[true, true, true, true, true, true, false, false] (((A0.put (some 19) (.agg #[.int .i64 PA, .int .i64 (1 + PB), .slice h.ba h.bl.length h.bc, .slice h.pa h.pl.length h.pc])).put (some 22) (.slice (some ⟨g, 0, none⟩) (r.length + 1) vc)).put (some 23) (.agg #[.int .i64 PA, .int .i64 (1 + PB), .slice h.ba h.bl.length h.bc, .slice h.pa h.pl.length h.pc, .slice (some ⟨g, 0, none⟩) (r.length + 1) vc])) V) := by
      show ∀ V, _
      intro V h g vc hB hH hF hv
      refine hGo.out _ _ _ _ ?_
      rw [← hA0.out]
      try simp only [Act.put, List.setIfInBounds_toArray, List.set_cons_zero, List.set_cons_succ]
      refine wpAnyH_ready (rs := [6]) (by kernel_rfl) (by simp) (AllReadyH.cons rfl (fun K hK => ?_) AllReadyH.nil)
      refine step_run rfl 7 rfl (.pointer (some ⟨V.heap.size, 0, none⟩)) (V.alloc (.cells #[.int .i64 0, .int .i64 0, .slice none 0 0, .slice none 0 0, .slice none 0 0] 46)) (by go_simp) ?_
      have hA : Below V.heap.size V (V.alloc (.cells #[.int .i64 0, .int .i64 0, .slice none 0 0, .slice none 0 0, .slice none 0 0] 46)) := (Below.refl _ _).alloc (Nat.le_refl _) _
      have hBn := hB.trans (hA.mono hB.size)
      have qX_n := heap_alloc_new V (.cells #[.int .i64 0, .int .i64 0, .slice none 0 0, .slice none 0 0, .slice none 0 0] 46)
      have gX_n := hB.size
      generalize hW' : V.alloc (.cells #[.int .i64 0, .int .i64 0, .slice none 0 0, .slice none 0 0, .slice none 0 0] 46) = W' at hA hBn qX_n ⊢
      clear hW'
      obtain ⟨bX, hx_e⟩ : ∃ bX, bX = V.heap.size := ⟨_, rfl⟩
      rw [← hx_e] at qX_n gX_n ⊢
      have hHX_n : ∀ b, CtIn h b → b ≠ bX := fun b hb' => by have := hH.block_lt b hb'; omega
      have hA' := hA
      clear hx_e
      refine hK.out _ _ ⟨(hBn.cell (p := ⟨RB, 0, none⟩) (block_lt_of_cell r0)).trans r0, (hBn.cell (p := ⟨RB, 1, none⟩) (block_lt_of_cell r1)).trans r1, (hBn.cell (p := ⟨RB, 2, none⟩) (block_lt_of_cell r2)).trans r2, (hBn.cell (p := ⟨RB, 3, none⟩) (block_lt_of_cell r3)).trans r3, (hBn.cell (p := ⟨RB, 4, none⟩) (block_lt_of_cell r4)).trans r4⟩ (fun hHeld => ?_)
      clear hHeld
      have h := st_HVX.out W' h g vc bX hBn (hH.below hA') hF (owns_keep hv hA') qX_n gX_n hHX_n
      rw [← hA0.out] at h
      (try simp only [Act.put, List.setIfInBounds_toArray, List.set_cons_zero, List.set_cons_succ] at h)
      (try simp only [Act.put, List.setIfInBounds_toArray, List.set_cons_zero, List.set_cons_succ])
      exact hGi.out _ _ _ _ h
    have st_HX : Hid (∀ (V : World) (h : Ct) (bX : Nat), Below VR.heap.size VR V → (CtAt V h) → (Hid (headerF PA (1 + PB) h.bl h.pl = 0)) → (V.heap[bX]? = some (.cells #[.int .i64 0, .int .i64 0, .slice none 0 0, .slice none 0 0, .slice none 0 0] 46 (0, 0))) → (VR.heap.size ≤ bX) → (∀ b, CtIn h b → b ≠ bX) → GO 3 #[true, true, true, true, false, false, true, false] ((A0.put (some 19) (.agg #[.int .i64 PA, .int .i64 (1 + PB), .slice h.ba h.bl.length h.bc, .slice h.pa h.pl.length h.pc])).put (some 7) (.pointer (some ⟨bX, 0, none⟩))) V) := by
      show ∀ V, _
      intro V h bX hB hH hF qX gX hHX
      refine hGo.out _ _ _ _ ?_
      rw [← hA0.out]
      try simp only [Act.put, List.setIfInBounds_toArray, List.set_cons_zero, List.set_cons_succ]
      refine wpAnyH_ready (rs := [4]) (by kernel_rfl) (by simp) (AllReadyH.cons rfl (fun K hK => ?_) AllReadyH.nil)
      refine step_calls_dst rfl 22 rfl 12 [.tmp 21] #[3] rfl [.int .i64 rc] rfl (enters_of Tryd.func12 (by kernel_rfl) rfl) (fun v w' => (∃ g vc, v = .slice (some ⟨g, 0, none⟩) (r.length + 1) vc ∧ w'.ownsRow V.heap.size 3 1 (.slice (some ⟨g, 0, none⟩) (r.length + 1) vc) (x :: r).length (iv (x :: r))) ∧ Below V.heap.size V w') ((HV.out V).mono (fun e w2 ⟨v, he, h1, h2⟩ => by obtain ⟨g, vc, rfl, _⟩ := ints_first h1; exact ⟨_, he, ⟨g, vc, rfl, h1⟩, h2⟩)) ?_
      rintro v W' ⟨⟨g, vc, rfl, hv_0⟩, hb⟩
      have hBn := hB.trans (hb.mono hB.size)
      have hv_n : W'.ownsRow VR.heap.size 3 1 (.slice (some ⟨g, 0, none⟩) (r.length + 1) vc) (x :: r).length (iv (x :: r)) := ⟨hv_0.1, hv_0.2.imp id (fun ⟨g, c, cur, e1, e2, r⟩ => ⟨g, c, cur, e1, Nat.le_trans hB.size e2, r⟩)⟩
      refine hK.out _ _ ⟨(hBn.cell (p := ⟨RB, 0, none⟩) (block_lt_of_cell r0)).trans r0, (hBn.cell (p := ⟨RB, 1, none⟩) (block_lt_of_cell r1)).trans r1, (hBn.cell (p := ⟨RB, 2, none⟩) (block_lt_of_cell r2)).trans r2, (hBn.cell (p := ⟨RB, 3, none⟩) (block_lt_of_cell r3)).trans r3, (hBn.cell (p := ⟨RB, 4, none⟩) (block_lt_of_cell r4)).trans r4⟩ (fun hHeld => ?_)
      simp only [Act.put, List.setIfInBounds_toArray, List.set_cons_zero, List.set_cons_succ]
      refine take_dst (i := 5) (d := 23) (v := .agg #[.int .i64 PA, .int .i64 (1 + PB), .slice h.ba h.bl.length h.bc, .slice h.pa h.pl.length h.pc, .slice (some ⟨g, 0, none⟩) (r.length + 1) vc]) rfl rfl (by kernel_rfl) (by kernel_rfl) (by kernel_rfl) (fun _ _ _ h => h) (Or.inl ⟨by rfl, ?_⟩) hHeld ?_
      · (intro w0 hSw; (try dsimp only at hSw); go_simp)
      simp only [Act.put, List.setIfInBounds_toArray, List.set_cons_zero, List.set_cons_succ]
      clear hHeld
      have h := st_HVX.out W' h g vc bX hBn (hH.below hb) hF hv_n ((hb.block _ (lt_of_heap qX)).trans qX) gX hHX
      rw [← hA0.out] at h
      (try simp only [Act.put, List.setIfInBounds_toArray, List.set_cons_zero, List.set_cons_succ] at h)
      (try simp only [Act.put, List.setIfInBounds_toArray, List.set_cons_zero, List.set_cons_succ])
      exact hGi.out _ _ _ _ h
    have st_H : Hid (∀ (V : World) (h : Ct), Below VR.heap.size VR V → (CtAt V h) → (Hid (headerF PA (1 + PB) h.bl h.pl = 0)) → GO 4 #[true, true, true, true, false, false, false, false] (A0.put (some 19) (.agg #[.int .i64 PA, .int .i64 (1 + PB), .slice h.ba h.bl.length h.bc, .slice h.pa h.pl.length h.pc])) V) := by
      show ∀ V, _
      intro V h hB hH hF
      refine hGo.out _ _ _ _ ?_
      rw [← hA0.out]
      try simp only [Act.put, List.setIfInBounds_toArray, List.set_cons_zero, List.set_cons_succ]
      refine wpAnyH_ready (rs := [4, 6]) (by kernel_rfl) (by simp) (AllReadyH.cons rfl (fun K hK => ?_) (AllReadyH.cons rfl (fun K hK => ?_) AllReadyH.nil))
      · skip
        refine step_calls_dst rfl 22 rfl 12 [.tmp 21] #[3] rfl [.int .i64 rc] rfl (enters_of Tryd.func12 (by kernel_rfl) rfl) (fun v w' => (∃ g vc, v = .slice (some ⟨g, 0, none⟩) (r.length + 1) vc ∧ w'.ownsRow V.heap.size 3 1 (.slice (some ⟨g, 0, none⟩) (r.length + 1) vc) (x :: r).length (iv (x :: r))) ∧ Below V.heap.size V w') ((HV.out V).mono (fun e w2 ⟨v, he, h1, h2⟩ => by obtain ⟨g, vc, rfl, _⟩ := ints_first h1; exact ⟨_, he, ⟨g, vc, rfl, h1⟩, h2⟩)) ?_
        rintro v W' ⟨⟨g, vc, rfl, hv_0⟩, hb⟩
        have hBn := hB.trans (hb.mono hB.size)
        have hv_n : W'.ownsRow VR.heap.size 3 1 (.slice (some ⟨g, 0, none⟩) (r.length + 1) vc) (x :: r).length (iv (x :: r)) := ⟨hv_0.1, hv_0.2.imp id (fun ⟨g, c, cur, e1, e2, r⟩ => ⟨g, c, cur, e1, Nat.le_trans hB.size e2, r⟩)⟩
        refine hK.out _ _ ⟨(hBn.cell (p := ⟨RB, 0, none⟩) (block_lt_of_cell r0)).trans r0, (hBn.cell (p := ⟨RB, 1, none⟩) (block_lt_of_cell r1)).trans r1, (hBn.cell (p := ⟨RB, 2, none⟩) (block_lt_of_cell r2)).trans r2, (hBn.cell (p := ⟨RB, 3, none⟩) (block_lt_of_cell r3)).trans r3, (hBn.cell (p := ⟨RB, 4, none⟩) (block_lt_of_cell r4)).trans r4⟩ (fun hHeld => ?_)
        simp only [Act.put, List.setIfInBounds_toArray, List.set_cons_zero, List.set_cons_succ]
        refine take_dst (i := 5) (d := 23) (v := .agg #[.int .i64 PA, .int .i64 (1 + PB), .slice h.ba h.bl.length h.bc, .slice h.pa h.pl.length h.pc, .slice (some ⟨g, 0, none⟩) (r.length + 1) vc]) rfl rfl (by kernel_rfl) (by kernel_rfl) (by kernel_rfl) (fun _ _ _ h => h) (Or.inl ⟨by rfl, ?_⟩) hHeld ?_
        · (intro w0 hSw; (try dsimp only at hSw); go_simp)
        simp only [Act.put, List.setIfInBounds_toArray, List.set_cons_zero, List.set_cons_succ]
        clear hHeld
        have h := st_HV.out W' h g vc hBn (hH.below hb) hF hv_n
        rw [← hA0.out] at h
        (try simp only [Act.put, List.setIfInBounds_toArray, List.set_cons_zero, List.set_cons_succ] at h)
        (try simp only [Act.put, List.setIfInBounds_toArray, List.set_cons_zero, List.set_cons_succ])
        exact hGi.out _ _ _ _ h
      · skip
        refine step_run rfl 7 rfl (.pointer (some ⟨V.heap.size, 0, none⟩)) (V.alloc (.cells #[.int .i64 0, .int .i64 0, .slice none 0 0, .slice none 0 0, .slice none 0 0] 46)) (by go_simp) ?_
        have hA : Below V.heap.size V (V.alloc (.cells #[.int .i64 0, .int .i64 0, .slice none 0 0, .slice none 0 0, .slice none 0 0] 46)) := (Below.refl _ _).alloc (Nat.le_refl _) _
        have hBn := hB.trans (hA.mono hB.size)
        have qX_n := heap_alloc_new V (.cells #[.int .i64 0, .int .i64 0, .slice none 0 0, .slice none 0 0, .slice none 0 0] 46)
        have gX_n := hB.size
        generalize hW' : V.alloc (.cells #[.int .i64 0, .int .i64 0, .slice none 0 0, .slice none 0 0, .slice none 0 0] 46) = W' at hA hBn qX_n ⊢
        clear hW'
        obtain ⟨bX, hx_e⟩ : ∃ bX, bX = V.heap.size := ⟨_, rfl⟩
        rw [← hx_e] at qX_n gX_n ⊢
        have hHX_n : ∀ b, CtIn h b → b ≠ bX := fun b hb' => by have := hH.block_lt b hb'; omega
        have hA' := hA
        clear hx_e
        refine hK.out _ _ ⟨(hBn.cell (p := ⟨RB, 0, none⟩) (block_lt_of_cell r0)).trans r0, (hBn.cell (p := ⟨RB, 1, none⟩) (block_lt_of_cell r1)).trans r1, (hBn.cell (p := ⟨RB, 2, none⟩) (block_lt_of_cell r2)).trans r2, (hBn.cell (p := ⟨RB, 3, none⟩) (block_lt_of_cell r3)).trans r3, (hBn.cell (p := ⟨RB, 4, none⟩) (block_lt_of_cell r4)).trans r4⟩ (fun hHeld => ?_)
        clear hHeld
        have h := st_HX.out W' h bX hBn (hH.below hA') hF qX_n gX_n hHX_n
        rw [← hA0.out] at h
        (try simp only [Act.put, List.setIfInBounds_toArray, List.set_cons_zero, List.set_cons_succ] at h)
        (try simp only [Act.put, List.setIfInBounds_toArray, List.set_cons_zero, List.set_cons_succ])
        exact hGi.out _ _ _ _ h
    have st_X : Hid (∀ (V : World) (bX : Nat), Below VR.heap.size VR V → (V.heap[bX]? = some (.cells #[.int .i64 0, .int .i64 0, .slice none 0 0, .slice none 0 0, .slice none 0 0] 46 (0, 0))) → (VR.heap.size ≤ bX) → GO 4 #[true, false, true, true, false, false, true, false] (A0.put (some 7) (.pointer (some ⟨bX, 0, none⟩))) V) := by
      show ∀ V, _
      intro V bX hB qX gX
      refine hGo.out _ _ _ _ ?_
      rw [← hA0.out]
      try simp only [Act.put, List.setIfInBounds_toArray, List.set_cons_zero, List.set_cons_succ]
      refine wpAnyH_ready (rs := [1]) (by kernel_rfl) (by simp) (AllReadyH.cons rfl (fun K hK => ?_) AllReadyH.nil)
      refine step_calls_dst rfl 19 rfl 11 [.tmp 18] #[39] rfl [.agg #[.int .i64 ki, .int .i64 ra, .int .i64 rb, .int .i64 rc, .slice ta ss.length tc]] rfl (enters_of Tryd.func11 (by kernel_rfl) rfl) (fun v w' => (∃ h : Ct, v = .agg #[.int .i64 PA, .int .i64 (1 + PB), .slice h.ba h.bl.length h.bc, .slice h.pa h.pl.length h.pc] ∧ CtAt w' h ∧ Hid (headerF PA (1 + PB) h.bl h.pl = 0) ∧ (∀ b, CtIn h b → V.heap.size ≤ b)) ∧ Below V.heap.size V w') ((HHD.out V).mono (fun e w2 ⟨h, he, h1, h2, h3, h4⟩ => ⟨_, he, ⟨h, rfl, h1, h2, h3⟩, h4⟩)) ?_
      rintro v W' ⟨⟨h, rfl, hH_n, hF_n, hfr⟩, hb⟩
      have hBn := hB.trans (hb.mono hB.size)
      have hHX_n : ∀ b, CtIn h b → b ≠ bX := fun b hb' => by have := hfr b hb'; have := lt_of_heap qX; omega
      refine hK.out _ _ ⟨(hBn.cell (p := ⟨RB, 0, none⟩) (block_lt_of_cell r0)).trans r0, (hBn.cell (p := ⟨RB, 1, none⟩) (block_lt_of_cell r1)).trans r1, (hBn.cell (p := ⟨RB, 2, none⟩) (block_lt_of_cell r2)).trans r2, (hBn.cell (p := ⟨RB, 3, none⟩) (block_lt_of_cell r3)).trans r3, (hBn.cell (p := ⟨RB, 4, none⟩) (block_lt_of_cell r4)).trans r4⟩ (fun hHeld => ?_)
      clear hHeld
      have h := st_HX.out W' h bX hBn hH_n hF_n ((hb.block _ (lt_of_heap qX)).trans qX) gX hHX_n
      rw [← hA0.out] at h
      (try simp only [Act.put, List.setIfInBounds_toArray, List.set_cons_zero, List.set_cons_succ] at h)
      (try simp only [Act.put, List.setIfInBounds_toArray, List.set_cons_zero, List.set_cons_succ])
      exact hGi.out _ _ _ _ h
    have st_0 : Hid (∀ (V : World), Below VR.heap.size VR V → GO 5 #[true, false, true, true, false, false, false, false] A0 V) := by
      show ∀ V, _
      intro V  hB 
      refine hGo.out _ _ _ _ ?_
      rw [← hA0.out]
      try simp only [Act.put, List.setIfInBounds_toArray, List.set_cons_zero, List.set_cons_succ]
      refine wpAnyH_ready (rs := [1, 6]) (by kernel_rfl) (by simp) (AllReadyH.cons rfl (fun K hK => ?_) (AllReadyH.cons rfl (fun K hK => ?_) AllReadyH.nil))
      · skip
        refine step_calls_dst rfl 19 rfl 11 [.tmp 18] #[39] rfl [.agg #[.int .i64 ki, .int .i64 ra, .int .i64 rb, .int .i64 rc, .slice ta ss.length tc]] rfl (enters_of Tryd.func11 (by kernel_rfl) rfl) (fun v w' => (∃ h : Ct, v = .agg #[.int .i64 PA, .int .i64 (1 + PB), .slice h.ba h.bl.length h.bc, .slice h.pa h.pl.length h.pc] ∧ CtAt w' h ∧ Hid (headerF PA (1 + PB) h.bl h.pl = 0) ∧ (∀ b, CtIn h b → V.heap.size ≤ b)) ∧ Below V.heap.size V w') ((HHD.out V).mono (fun e w2 ⟨h, he, h1, h2, h3, h4⟩ => ⟨_, he, ⟨h, rfl, h1, h2, h3⟩, h4⟩)) ?_
        rintro v W' ⟨⟨h, rfl, hH_n, hF_n, hfr⟩, hb⟩
        have hBn := hB.trans (hb.mono hB.size)
        refine hK.out _ _ ⟨(hBn.cell (p := ⟨RB, 0, none⟩) (block_lt_of_cell r0)).trans r0, (hBn.cell (p := ⟨RB, 1, none⟩) (block_lt_of_cell r1)).trans r1, (hBn.cell (p := ⟨RB, 2, none⟩) (block_lt_of_cell r2)).trans r2, (hBn.cell (p := ⟨RB, 3, none⟩) (block_lt_of_cell r3)).trans r3, (hBn.cell (p := ⟨RB, 4, none⟩) (block_lt_of_cell r4)).trans r4⟩ (fun hHeld => ?_)
        clear hHeld
        have h := st_H.out W' h hBn hH_n hF_n
        rw [← hA0.out] at h
        (try simp only [Act.put, List.setIfInBounds_toArray, List.set_cons_zero, List.set_cons_succ] at h)
        (try simp only [Act.put, List.setIfInBounds_toArray, List.set_cons_zero, List.set_cons_succ])
        exact hGi.out _ _ _ _ h
      · skip
        refine step_run rfl 7 rfl (.pointer (some ⟨V.heap.size, 0, none⟩)) (V.alloc (.cells #[.int .i64 0, .int .i64 0, .slice none 0 0, .slice none 0 0, .slice none 0 0] 46)) (by go_simp) ?_
        have hA : Below V.heap.size V (V.alloc (.cells #[.int .i64 0, .int .i64 0, .slice none 0 0, .slice none 0 0, .slice none 0 0] 46)) := (Below.refl _ _).alloc (Nat.le_refl _) _
        have hBn := hB.trans (hA.mono hB.size)
        have qX_n := heap_alloc_new V (.cells #[.int .i64 0, .int .i64 0, .slice none 0 0, .slice none 0 0, .slice none 0 0] 46)
        have gX_n := hB.size
        generalize hW' : V.alloc (.cells #[.int .i64 0, .int .i64 0, .slice none 0 0, .slice none 0 0, .slice none 0 0] 46) = W' at hA hBn qX_n ⊢
        clear hW'
        obtain ⟨bX, hx_e⟩ : ∃ bX, bX = V.heap.size := ⟨_, rfl⟩
        rw [← hx_e] at qX_n gX_n ⊢
        have hA' := hA
        clear hx_e
        refine hK.out _ _ ⟨(hBn.cell (p := ⟨RB, 0, none⟩) (block_lt_of_cell r0)).trans r0, (hBn.cell (p := ⟨RB, 1, none⟩) (block_lt_of_cell r1)).trans r1, (hBn.cell (p := ⟨RB, 2, none⟩) (block_lt_of_cell r2)).trans r2, (hBn.cell (p := ⟨RB, 3, none⟩) (block_lt_of_cell r3)).trans r3, (hBn.cell (p := ⟨RB, 4, none⟩) (block_lt_of_cell r4)).trans r4⟩ (fun hHeld => ?_)
        clear hHeld
        have h := st_X.out W' bX hBn qX_n gX_n
        rw [← hA0.out] at h
        (try simp only [Act.put, List.setIfInBounds_toArray, List.set_cons_zero, List.set_cons_succ] at h)
        (try simp only [Act.put, List.setIfInBounds_toArray, List.set_cons_zero, List.set_cons_succ])
        exact hGi.out _ _ _ _ h
    exact st_0.out V0 hV0
  case rest =>
    obtain ⟨X, g, vc, h, rfl, gX, qX, hH, HF, hHX, hgX, hv1, hv2, cg, hb3⟩ := hcut
    have hB3 := hB2.trans (hb3.mono hB2.size)
    have qD3 := (hb3.block _ (lt_of_heap qD)).trans qD
    have qR3 := (hb3.block _ (lt_of_heap qR2)).trans qR2
    have hd3 := hd2.below hb3
    have hDX : D ≠ X := by have := lt_of_heap qD; omega
    have hRX : RB ≠ X := by have := lt_of_heap qR2; omega
    have hXw : w.heap.size ≤ X := by have := hB2.size; omega
    have hdlt : ∀ b, DagIn ka ks b → b ≠ X := fun b hb => by
      rcases hb with ⟨so, e⟩ | ⟨c', hc', hq⟩
      · have := dag_row_lt hd2 hpos b so e; omega
      · have := (hd2.each c' hc').block_lt b hq; omega
    have x4 := cells_at qX 4 _ rfl
    have f4 := frozen_at qX 4
    clear hd2 qD qR2 r0 r1 r2 r3 r4
    have hvI : (1 : Int) ≤ vc := by omega
    go_upto_region 4 with fail
    have qX3 : (wc.setCell ⟨X, 4, none⟩ (.slice (some ⟨g, 0, none⟩) 1 vc)).heap[X]? = some (.cells #[.int .i64 PA, .int .i64 (1 + PB), .slice h.ba h.bl.length h.bc, .slice h.pa h.pl.length h.pc, .slice (some ⟨g, 0, none⟩) 1 vc] 46 (0, 0)) := by simpa using heap_setCell_same _ _ 4 _ _ (.slice (some ⟨g, 0, none⟩) 1 vc) qX
    have qD4 := heap_far (j := 4) (v := .slice (some ⟨g, 0, none⟩) 1 vc) qD3 hDX
    have qR4 := heap_far (j := 4) (v := .slice (some ⟨g, 0, none⟩) 1 vc) qR3 hRX
    have hd4 := dag_setCell hd3 X 4 (.slice (some ⟨g, 0, none⟩) 1 vc) (fun sb so e => (hdlt sb (.inl ⟨so, e⟩)).symm) (fun c' hc' q hq => hdlt q (.inr ⟨c', hc', hq⟩))
    have hH4 := ct_put hH X 4 (.slice (some ⟨g, 0, none⟩) 1 vc) hHX
    have cg4 := (World.cell?_setCell_far wc ⟨X, 4, none⟩ ⟨g, 0, none⟩ (.slice (some ⟨g, 0, none⟩) 1 vc) (Ne.symm hgX)).trans cg
    have hB4 := hB3.setCell (p := ⟨X, 4, none⟩) hXw (.slice (some ⟨g, 0, none⟩) 1 vc)
    clear qX qD3 qR3 hd3 hH cg x4 f4 hb3
    generalize wc.setCell ⟨X, 4, none⟩ (.slice (some ⟨g, 0, none⟩) 1 vc) = W4 at qX3 qD4 qR4 hd4 hH4 cg4 hB4 ⊢
    have hC4 : CtAt W4 ⟨PA, 1 + PB, h.ba, h.bc, h.bl, h.pa, h.pc, h.pl, some ⟨g, 0, none⟩, vc, [x]⟩ := by
      refine ⟨hH4.hat, ⟨.inr ⟨g, 0, rfl, fun j hj => ?_⟩⟩, by show (1 : Nat) ≤ _; decide⟩
      have hj1 : j < 1 := hj
      obtain rfl : j = 0 := by omega
      simpa using cg4
    have HIe : Hid (insE (cvs ks) (⟨PA, 1 + PB, h.ba, h.bc, h.bl, h.pa, h.pc, h.pl, some ⟨g, 0, none⟩, vc, [x]⟩ : Ct).v = 10) := by
      show _ = _
      have e : (⟨PA, 1 + PB, h.ba, h.bc, h.bl, h.pa, h.pc, h.pl, some ⟨g, 0, none⟩, vc, [x]⟩ : Ct).v.f = 10 := by
        rw [← Ct.f_v]
        exact certF_few HF.out HVF.out
      rw [insE_f HD.out (by rw [e]; decide), e]
    have HIn := dagInsert_any ks ka _ kc _ W4 rfl hd4 hC4 (HT.out W4 hB4)
    have d0 := cells_at qD4 0 _ rfl
    have y0 := cells_at qX3 0 _ rfl
    have y1 := cells_at qX3 1 _ rfl
    have y2 := cells_at qX3 2 _ rfl
    have y3 := cells_at qX3 3 _ rfl
    have y4 := cells_at qX3 4 _ rfl
    clear hC4 cg4
    go_wp2_with fail
    refine HIn.mono ?_
    rintro e w5 ⟨hI5, hb5⟩
    have he := in_err hI5 HIe.out (by decide)
    subst he
    dsimp only
    have hB5 := hB4.trans (hb5.mono hB4.size)
    have qR5 := (hb5.block _ (lt_of_heap qR4)).trans qR4
    have qD5 := (hb5.block _ (lt_of_heap qD4)).trans qD4
    have hd5 := hd4.below hb5
    have hA5 := (Below.refl w5.heap.size w5).alloc (Nat.le_refl _) (.cells #[.slice none 0 0] 25)
    have qN := heap_alloc_new w5 (.cells #[.slice none 0 0] 25)
    have qR6 := (hA5.block _ (lt_of_heap qR5)).trans qR5
    have qD6 := (hA5.block _ (lt_of_heap qD5)).trans qD5
    have hd6 := hd5.below hA5
    have hB6 := hB5.trans (hA5.mono hB5.size)
    have r0 := cells_at qR6 0 _ rfl
    have r1 := cells_at qR6 1 _ rfl
    have r2 := cells_at qR6 2 _ rfl
    have r3 := cells_at qR6 3 _ rfl
    have r4 := cells_at qR6 4 _ rfl
    clear HIn hI5 d0 y0 y1 y2 y3 y4 HIe qX3 hH4 hd4 qD4 qR4 hb5 hd5 qD5 qR5 hHX hgX hv1 hv2 hvI
    go_wp2_with fail
    generalize w5.alloc (.cells #[.slice none 0 0] 25) = W6 at hA5 qN qR6 qD6 hd6 hB6 r0 r1 r2 r3 r4 ⊢
    clear hA5
    generalize w5.heap.size = NB at qN ⊢
    refine (HHD.out W6).mono ?_
    rintro e w7 ⟨h2, he, hH7, hF7, hfr7, hb7⟩
    subst he
    dsimp only
    have HF7 : Hid _ := hF7
    have hB7 := hB6.trans (hb7.mono hB6.size)
    have qN7 := (hb7.block _ (lt_of_heap qN)).trans qN
    have qD7 := (hb7.block _ (lt_of_heap qD6)).trans qD6
    have hd7 := hd6.below hb7
    have hA7 := (Below.refl w7.heap.size w7).alloc (Nat.le_refl _) (.cells #[.int .i64 (-1), .int .i64 (1 + PB), .slice h2.ba h2.bl.length h2.bc, .slice h2.pa h2.pl.length h2.pc] 41)
    have qG := heap_alloc_new w7 (.cells #[.int .i64 (-1), .int .i64 (1 + PB), .slice h2.ba h2.bl.length h2.bc, .slice h2.pa h2.pl.length h2.pc] 41)
    have qN8 := (hA7.block _ (lt_of_heap qN7)).trans qN7
    have qD8 := (hA7.block _ (lt_of_heap qD7)).trans qD7
    have hd8 := hd7.below hA7
    have hH8 := hH7.below hA7
    have hB8 := hB7.trans (hA7.mono hB7.size)
    have d0 := cells_at qD8 0 _ rfl
    clear r0 r1 r2 r3 r4 hF7 hfr7 hb7 hd6 qD6 qN
    go_upto_region 7 with fail
    generalize w7.alloc (.cells #[.int .i64 (-1), .int .i64 (1 + PB), .slice h2.ba h2.bl.length h2.bc, .slice h2.pa h2.pl.length h2.pc] 41) = W8 at hA7 qG qN8 qD8 hd8 hH8 hB8 d0 ⊢
    clear hA7
    have HM : Hid (missE (cvs ks) (-1) (1 + PB) h2.bl h2.pl = 2) := by
      show _ = _
      have e : headerF (-1) (1 + PB) h2.bl h2.pl = 2 := by rw [headerF, if_pos (.inl (by omega))]
      rw [missE, if_neg (fun g => g HD.out), if_pos (by rw [e]; decide), e]
    have HMi := dagMissing_any ks ka _ kc (-1) (1 + PB) h2.ba _ h2.bc h2.bl h2.pa _ h2.pc h2.pl W8 rfl rfl rfl hd8 hH8.hat.lb hH8.hat.lp (HT.out W8 hB8)
    have g0 := cells_at qG 0 _ rfl
    have g1 := cells_at qG 1 _ rfl
    have g2 := cells_at qG 2 _ rfl
    have g3 := cells_at qG 3 _ rfl
    go_wp2_with fail
    refine HMi.mono ?_
    rintro e w9 ⟨hM9, hb9⟩
    have he : e = .returned (.tuple #[.slice none 0 0, .int .i64 2]) := by
      rcases hM9 with ⟨_, he⟩ | ⟨h0, _⟩
      · rw [← HM.out]; exact he
      · rw [HM.out] at h0; cases h0
    subst he
    dsimp only
    have hB9 := hB8.trans (hb9.mono hB8.size)
    have qN9 := (hb9.block _ (lt_of_heap qN8)).trans qN8
    have n0 := cells_at qN9 0 _ rfl
    clear hM9 HMi
    go_wp2_with fail
    go_ret
    exact ⟨rfl, hB9⟩
end Go.Proofs.YtnpjhpmgelaonabDoor
