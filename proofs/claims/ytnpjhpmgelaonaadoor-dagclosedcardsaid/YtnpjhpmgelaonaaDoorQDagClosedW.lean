/- DagClosed: the walk. -/
import Derived.Test.YtnpjhpmgelaonaaDoorGKGrown
import Derived.Test.YtnpjhpmgelaonaaDoorQDagP
import Derived.Test.YtnpjhpmgelaonaaDoorQDFndC
import Derived.Test.YtnpjhpmgelaonaaDoorQDMisC
import Derived.Test.YtnpjhpmgelaonaaDoorQDChkC
import Derived.Test.YtnpjhpmgelaonaaDoorQKCert
namespace Go.Proofs.YtnpjhpmgelaonaaDoor
open Go.RowKit

set_option maxRecDepth 100000 in
set_option maxHeartbeats 4000000 in
theorem dagClosed_any (sa : Option Addr) (cap : Nat) (l : List Stp) (w : World) (hl : StepsAt w sa l) (hcl : l.length ≤ cap) (hc0 : sa = none → cap = 0) (hc1 : l.length * 24 ≤ 140737488351232) (hT : Tabs w) :
    Calls Tryd.prog 9 #[.slice sa l.length cap] w fun e w' => ∃ cc, GrownTo (s0 :: l) (min (l.length + 1) 24) cc ∧ (e = .returned (.bool true) ∨ (e = .returned (.bool false) ∧ Coll cc)) ∧ Below w.heap.size w w' := by
  have hnil : sa = none → l.length = 0 ∧ cap = 0 := fun h => by have := hc0 h; omega
  have H := grown_any l sa _ cap w rfl hl hnil hc1 hT
  have HT : Hid (∀ W : World, Below w.heap.size w W → Tabs W) := by
    show ∀ W, _
    exact fun W hW => hT.below hW
  clear hT hnil hc0 hc1 hcl
  go_enter Tryd.func9, Tryd.ntmps9
  go_wp2_with fail
  refine H.mono ?_
  rintro e w1 ⟨ka, kc, ks, ba, bc, bl, he, hG, hd, hnew, ho, hoff, hV, hb1⟩
  subst he
  dsimp only
  have hpos : 0 < ks.length := by have := grown_some (by omega) hG; rw [cvs_length] at this; exact this
  have HD : Hid (dagF (cvs ks) = 0) := hG.dag
  have HG : Hid (GrownTo (s0 :: l) (min (l.length + 1) 24) (cvs ks)) := hG
  have hle : ks.length ≤ 24 := by have := hG.len; rw [cvs_length] at this; omega
  have hA1 := (Below.refl w1.heap.size w1).alloc (Nat.le_refl _) (.cells #[.slice ka ks.length kc] 27)
  have qD := heap_alloc_new w1 (.cells #[.slice ka ks.length kc] 27)
  have hd2 := hd.below hA1
  have hB2 := hb1.trans (hA1.mono hb1.size)
  have hgD : w.heap.size ≤ w1.heap.size := hb1.size
  have hdlt : ∀ b, DagIn ka ks b → b < w1.heap.size := fun b hb => by
    rcases hb with ⟨so, e⟩ | ⟨c', hc', hq⟩
    · exact dag_row_lt hd hpos b so e
    · exact (hd.each c' hc').block_lt b hq
  clear hG hV ho hoff hnew hd H hl
  have e0 := cells_at qD 0 _ rfl
  have HHF : Hid (∀ c ∈ ks, headerF c.au c.rd c.bl c.pl = 0) := by
    show ∀ c, _
    intro c hc
    obtain ⟨j, hj, rfl⟩ := List.getElem_of_mem hc
    have h2 := dagF_f HD.out j (by rw [cvs_length]; exact hj)
    rw [cvAt_get ks j hj] at h2
    rw [Ct.hf_v]; exact certF_head (vl := (ks[j]).vl) h2
  go_wp2_with fail
  generalize w1.alloc (.cells #[.slice ka ks.length kc] 27) = W2 at hA1 qD hd2 hB2 e0 ⊢
  clear hA1
  generalize w1.heap.size = D at qD e0 hgD hdlt ⊢
  refine (digestsOf_any ks ka _ kc W2 rfl (by omega) hd2 HHF.out (HT.out W2 hB2)).mono ?_
  intro e w3 hDg
  have hb3 := hDg.below
  obtain ⟨da, dc, ds, he, hds, hLd, hfd⟩ := hDg.out
  subst he
  dsimp only
  have HDS : Hid _ := hds
  have hdsl : ds.length = ks.length := by have := congrArg List.length hds; simpa [bss, cvs] using this
  have HDL : Hid (ds.length = ks.length) := hdsl
  rw [hdsl]
  have hB3 := hB2.trans (hb3.mono hB2.size)
  have qD3 := (hb3.block _ (lt_of_heap qD)).trans qD
  have hd3 := hd2.below hb3
  clear hDg hds hfd hdsl hd2 qD e0 hb3 hdlt
  have HV : Hid (∀ x ∈ cvs ks, x.vl = [0, 1, 2]) := HG.out.voters
  have HU : Hid (∀ x ∈ cvs ks, U8C x) := HG.out.u8
  obtain ⟨kb, ko, hkae, hcc⟩ : ∃ kb ko, ka = some ⟨kb, ko, none⟩ ∧ ∀ j (h : j < ks.length), w3.cell? ⟨kb, ko + j * 5, none⟩ = some (.int .i64 (ks[j]).au) ∧ w3.cell? ⟨kb, ko + j * 5 + 1, none⟩ = some (.int .i64 (ks[j]).rd) ∧ w3.cell? ⟨kb, ko + j * 5 + 2, none⟩ = some (.slice (ks[j]).ba (ks[j]).bl.length (ks[j]).bc) ∧ w3.cell? ⟨kb, ko + j * 5 + 3, none⟩ = some (.slice (ks[j]).pa (ks[j]).pl.length (ks[j]).pc) ∧ w3.cell? ⟨kb, ko + j * 5 + 4, none⟩ = some (.slice (ks[j]).va (ks[j]).vl.length (ks[j]).vc) := by
    rcases hd3.certs.cells with h | h
    · rw [h] at hpos; simp at hpos
    · exact h
  subst hkae
  have HCC : Hid _ := hcc
  obtain ⟨sb, so, hdae, hlc⟩ : ∃ sb so, da = some ⟨sb, so, none⟩ ∧ ∀ j (h : j < ds.length), w3.cell? ⟨sb, so + j, none⟩ = some (.slice (ds[j]).sa (ds[j]).bs.length (ds[j]).cap) := by
    rcases hLd.parts.cells with h | h
    · have := HDL.out; rw [h] at this; simp at this; omega
    · exact h
  subst hdae
  have HLC : Hid _ := hlc
  have hdcl : ks.length ≤ dc := by have := hLd.le; have := HDL.out; omega
  have hdmx := hLd.max
  clear hcc hlc
  go_upto_region 3 with fail
  go_wp2_with fail
  go_loopw [6] (fun j wr => ∃ i : Nat, i ≤ ks.length ∧ j = .int .i64 i ∧ Below w3.heap.size w3 wr) (fun j _ => ks.length - (intOf j).toNat)
  case atStart => exact ⟨0, Nat.zero_le _, rfl, Below.refl _ _⟩
  case round =>
    obtain ⟨i, hi, rfl, hbr⟩ := hrel
    have hBr := hB3.trans (hbr.mono hB3.size)
    have qDr := (hbr.block _ (lt_of_heap qD3)).trans qD3
    have d0 := cells_at qDr 0 _ rfl
    by_cases hlt : i < ks.length
    · have hltI : (i : Int) < ks.length := by omega
      have hid : i < ds.length := by have := HDL.out; omega
      obtain ⟨c0, c1, c2, c3, c4⟩ := HCC.out i hlt
      have hCt := hd3.each (ks[i]) (List.getElem_mem hlt)
      have l0 := HLC.out i hid
      have hSl := hLd.parts.each (ds[i]) (List.getElem_mem hid)
      have HVI : Hid (cvAt (cvs ks) i = (ks[i]).v) := cvAt_get ks i hlt
      have HDI : Hid ((ds[i]).bs = (cvAt (cvs ks) i).d) := by
        show _ = _
        have h1 : (bss ds).getD i [] = ((cvs ks).map CV.d).getD i [] := by rw [HDS.out]
        rw [bss_get ds i hid] at h1
        rw [h1]
        simp [cvAt, cvs, hlt]
      have h32 : (ds[i]).bs.length = 32 := by rw [HDI.out, CV.d_length]
      have hkbl : kb < w3.heap.size := block_lt_of_cell c0
      have hsbl : sb < w3.heap.size := block_lt_of_cell l0
      generalize ks[i] = h at c0 c1 c2 c3 c4 hCt HVI
      generalize ds[i] = p at l0 hSl HDI h32
      rw [h32] at l0
      have g0 := (hbr.cell (p := ⟨kb, ko + i * 5, none⟩) hkbl).trans c0
      have g1 := (hbr.cell (p := ⟨kb, ko + i * 5 + 1, none⟩) hkbl).trans c1
      have g2 := (hbr.cell (p := ⟨kb, ko + i * 5 + 2, none⟩) hkbl).trans c2
      have g3 := (hbr.cell (p := ⟨kb, ko + i * 5 + 3, none⟩) hkbl).trans c3
      have hA4 := (Below.refl wr.heap.size wr).alloc (Nat.le_refl _) (.cells #[.int .i64 h.au, .int .i64 h.rd, .slice h.ba h.bl.length h.bc, .slice h.pa h.pl.length h.pc] 33)
      have qH := heap_alloc_new wr (.cells #[.int .i64 h.au, .int .i64 h.rd, .slice h.ba h.bl.length h.bc, .slice h.pa h.pl.length h.pc] 33)
      go_upto_region 7 with fail
      have hb4 := hbr.trans (hA4.mono hbr.size)
      have hgH : w3.heap.size ≤ wr.heap.size := hbr.size
      generalize wr.alloc (.cells #[.int .i64 h.au, .int .i64 h.rd, .slice h.ba h.bl.length h.bc, .slice h.pa h.pl.length h.pc] 33) = VR at hA4 qH hb4 ⊢
      generalize wr.heap.size = HB at qH hgH ⊢
      clear hA4 g0 g1 g2 g3 d0 qDr
      have hB4 := hB3.trans (hb4.mono hB3.size)
      have qD4 := (hb4.block _ (lt_of_heap qD3)).trans qD3
      have hd4 := hd3.below hb4
      have e0 := cells_at qD4 0 _ rfl
      have e1 := (hb4.cell (p := ⟨sb, so + i, none⟩) hsbl).trans l0
      have hS4 := hSl.below hb4
      have HFD : Hid (∀ V : World, Below VR.heap.size VR V → Calls Tryd.prog 21 #[.agg #[.slice (some ⟨kb, ko, none⟩) ks.length kc], .slice p.sa 32 p.cap] V fun e w' => (∃ c : Ct, e = .returned (.tuple #[.agg #[.int .i64 c.au, .int .i64 c.rd, .slice c.ba c.bl.length c.bc, .slice c.pa c.pl.length c.pc, .slice c.va c.vl.length c.vc], .int .i64 0]) ∧ CtAt w' c ∧ Hid ((c.v = cvAt (cvs ks) i ∨ (unlikeC (cvAt (cvs ks) i) c.v ∧ Coll (cvs ks))) ∧ c.v ∈ cvs ks) ∧ ∀ b, CtIn c b → V.heap.size ≤ b) ∧ Below V.heap.size V w') := by
        show ∀ V, _
        intro V hV
        exact find_at ks _ kc i p V HD.out HV.out hlt (hd4.below hV) (hS4.below hV) HDI.out h32 (HT.out V (hB4.trans (hV.mono hB4.size)))
      go_cut [8, 9] from 23 to 100 (fun u v wx => ∃ (X : Nat) (c : Ct), u = .pointer (some ⟨X, 0, none⟩) ∧ v = .int .i64 0 ∧ wx.heap[X]? = some (.cells #[.int .i64 c.au, .int .i64 c.rd, .slice c.ba c.bl.length c.bc, .slice c.pa c.pl.length c.pc, .slice c.va c.vl.length c.vc] 36 (0, 0)) ∧ CtAt wx c ∧ Hid ((c.v = cvAt (cvs ks) i ∨ (unlikeC (cvAt (cvs ks) i) c.v ∧ Coll (cvs ks))) ∧ c.v ∈ cvs ks) ∧ Below VR.heap.size VR wx)
      case first =>
        have hV0 : Below VR.heap.size VR VR.drew := (Below.refl _ _).drew
        refine wp_region_held_drew (S := fun w' => w'.cell? ⟨D, 0, none⟩ = some (.slice (some ⟨kb, ko, none⟩) ks.length kc) ∧ w'.cell? ⟨sb, so + i, none⟩ = some (.slice p.sa 32 p.cap)) (by kernel_rfl) ⟨(hV0.cell (p := ⟨D, 0, none⟩) (block_lt_of_cell e0)).trans e0, (hV0.cell (p := ⟨sb, so + i, none⟩) (block_lt_of_cell e1)).trans e1⟩ (fun hHeld => ?_)
        generalize VR.drew = V0 at hV0 hHeld ⊢
        refine take_dst (i := 0) (d := 37) (v := .agg #[.slice (some ⟨kb, ko, none⟩) ks.length kc]) rfl rfl (by kernel_rfl) (by kernel_rfl) (by kernel_rfl) (fun _ _ _ h => h) (Or.inl ⟨by rfl, ?_⟩) hHeld ?_
        · (intro w0 hSw; (try dsimp only at hSw); go_simp)
        simp only [Act.put, List.setIfInBounds_toArray, List.set_cons_zero, List.set_cons_succ]
        refine take_dst (i := 1) (d := 38) (v := .slice (some ⟨sb, so, none⟩) ks.length dc) rfl rfl (by kernel_rfl) (by kernel_rfl) (by kernel_rfl) (fun _ _ _ h => h) (Or.inl ⟨by rfl, ?_⟩) hHeld ?_
        · (intro w0 hSw; (try dsimp only at hSw); go_simp)
        simp only [Act.put, List.setIfInBounds_toArray, List.set_cons_zero, List.set_cons_succ]
        refine take_dst (i := 2) (d := 39) (v := .int .i64 (i : Int)) rfl rfl (by kernel_rfl) (by kernel_rfl) (by kernel_rfl) (fun _ _ _ h => h) (Or.inl ⟨by rfl, ?_⟩) hHeld ?_
        · (intro w0 hSw; (try dsimp only at hSw); go_simp)
        simp only [Act.put, List.setIfInBounds_toArray, List.set_cons_zero, List.set_cons_succ]
        refine take_dst (i := 3) (d := 40) (v := .pointer (some ⟨sb, so + i, none⟩)) rfl rfl (by kernel_rfl) (by kernel_rfl) (by kernel_rfl) (fun _ _ _ h => h) (Or.inl ⟨by rfl, ?_⟩) hHeld ?_
        · (intro w0 hSw; (try dsimp only at hSw); go_simp)
        simp only [Act.put, List.setIfInBounds_toArray, List.set_cons_zero, List.set_cons_succ]
        refine take_dst (i := 4) (d := 41) (v := .slice p.sa 32 p.cap) rfl rfl (by kernel_rfl) (by kernel_rfl) (by kernel_rfl) (fun _ _ _ h => h) (Or.inl ⟨by rfl, ?_⟩) hHeld ?_
        · (intro w0 hSw; (try dsimp only at hSw); go_simp)
        simp only [Act.put, List.setIfInBounds_toArray, List.set_cons_zero, List.set_cons_succ]
        clear hHeld
        refine any_named (fun GO hGo hGi => ?_)
        refine act_named (fun A0 hA0 => ?_)
        have st_FXS : Hid (∀ (V : World) (c : Ct) (bX : Nat), Below VR.heap.size VR V → (CtAt V c) → (Hid ((c.v = cvAt (cvs ks) i ∨ (unlikeC (cvAt (cvs ks) i) c.v ∧ Coll (cvs ks))) ∧ c.v ∈ cvs ks)) → (VR.heap.size ≤ bX) → (V.heap[bX]? = some (.cells #[.int .i64 c.au, .int .i64 c.rd, .slice c.ba c.bl.length c.bc, .slice c.pa c.pl.length c.pc, .slice c.va c.vl.length c.vc] 36 (0, 0))) → (∀ b, CtIn c b → b ≠ bX) → GO 0 #[true, true, true, true, true, true, true, true, true, true, true, true] ((((((A0.put (some 42) (.tuple #[.agg #[.int .i64 c.au, .int .i64 c.rd, .slice c.ba c.bl.length c.bc, .slice c.pa c.pl.length c.pc, .slice c.va c.vl.length c.vc], .int .i64 0])).put (some 36) (.tuple #[.agg #[.int .i64 c.au, .int .i64 c.rd, .slice c.ba c.bl.length c.bc, .slice c.pa c.pl.length c.pc, .slice c.va c.vl.length c.vc], .int .i64 0])).put (some 43) (.agg #[.int .i64 c.au, .int .i64 c.rd, .slice c.ba c.bl.length c.bc, .slice c.pa c.pl.length c.pc, .slice c.va c.vl.length c.vc])).put (some 44) (.int .i64 0)).put (some 8) (.pointer (some ⟨bX, 0, none⟩))).put (some 9) (.int .i64 0)) V) := by
          show ∀ V, _
          intro V c bX hB hC HC gX qS hCX
          refine hGo.out _ _ _ _ ?_
          rw [← hA0.out]
          try simp only [Act.put, List.setIfInBounds_toArray, List.set_cons_zero, List.set_cons_succ]
          refine wpAnyH_done (by kernel_rfl) ?_ _
          go_wp2_with fail
          go_meet
          case rel => exact ⟨bX, c, rfl, rfl, qS, hC, HC, hB⟩
        have st_FX : Hid (∀ (V : World) (c : Ct) (bX : Nat), Below VR.heap.size VR V → (CtAt V c) → (Hid ((c.v = cvAt (cvs ks) i ∨ (unlikeC (cvAt (cvs ks) i) c.v ∧ Coll (cvs ks))) ∧ c.v ∈ cvs ks)) → (V.heap[bX]? = some (.cells #[.int .i64 0, .int .i64 0, .slice none 0 0, .slice none 0 0, .slice none 0 0] 36 (0, 0))) → (VR.heap.size ≤ bX) → (∀ b, CtIn c b → b ≠ bX) → GO 2 #[true, true, true, true, true, true, true, true, true, true, false, false] (((((A0.put (some 42) (.tuple #[.agg #[.int .i64 c.au, .int .i64 c.rd, .slice c.ba c.bl.length c.bc, .slice c.pa c.pl.length c.pc, .slice c.va c.vl.length c.vc], .int .i64 0])).put (some 36) (.tuple #[.agg #[.int .i64 c.au, .int .i64 c.rd, .slice c.ba c.bl.length c.bc, .slice c.pa c.pl.length c.pc, .slice c.va c.vl.length c.vc], .int .i64 0])).put (some 43) (.agg #[.int .i64 c.au, .int .i64 c.rd, .slice c.ba c.bl.length c.bc, .slice c.pa c.pl.length c.pc, .slice c.va c.vl.length c.vc])).put (some 44) (.int .i64 0)).put (some 8) (.pointer (some ⟨bX, 0, none⟩))) V) := by
          show ∀ V, _
          intro V c bX hB hC HC qX gX hCX
          refine hGo.out _ _ _ _ ?_
          rw [← hA0.out]
          try simp only [Act.put, List.setIfInBounds_toArray, List.set_cons_zero, List.set_cons_succ]
          refine wpAnyH_ready (rs := [10]) (by kernel_rfl) (by simp) (AllReadyH.cons rfl (fun K hK => ?_) AllReadyH.nil)
          have c0_ := cells_at qX 0 _ rfl
          have f0_ := frozen_at qX 0
          have c1_ := cells_at qX 1 _ rfl
          have f1_ := frozen_at qX 1
          have c2_ := cells_at qX 2 _ rfl
          have f2_ := frozen_at qX 2
          have c3_ := cells_at qX 3 _ rfl
          have f3_ := frozen_at qX 3
          have c4_ := cells_at qX 4 _ rfl
          have f4_ := frozen_at qX 4
          refine step_store rfl rfl (((((V.setCell ⟨bX, 0, none⟩ (.int .i64 c.au)).setCell ⟨bX, 1, none⟩ (.int .i64 c.rd)).setCell ⟨bX, 2, none⟩ (.slice c.ba c.bl.length c.bc)).setCell ⟨bX, 3, none⟩ (.slice c.pa c.pl.length c.pc)).setCell ⟨bX, 4, none⟩ (.slice c.va c.vl.length c.vc)) (by go_simp) ?_
          have hBn := (((((hB.setCell (p := ⟨bX, 0, none⟩) gX (.int .i64 c.au)).setCell (p := ⟨bX, 1, none⟩) gX (.int .i64 c.rd)).setCell (p := ⟨bX, 2, none⟩) gX (.slice c.ba c.bl.length c.bc)).setCell (p := ⟨bX, 3, none⟩) gX (.slice c.pa c.pl.length c.pc)).setCell (p := ⟨bX, 4, none⟩) gX (.slice c.va c.vl.length c.vc))
          have qS_n : (((((V.setCell ⟨bX, 0, none⟩ (.int .i64 c.au)).setCell ⟨bX, 1, none⟩ (.int .i64 c.rd)).setCell ⟨bX, 2, none⟩ (.slice c.ba c.bl.length c.bc)).setCell ⟨bX, 3, none⟩ (.slice c.pa c.pl.length c.pc)).setCell ⟨bX, 4, none⟩ (.slice c.va c.vl.length c.vc)).heap[bX]? = some (.cells #[.int .i64 c.au, .int .i64 c.rd, .slice c.ba c.bl.length c.bc, .slice c.pa c.pl.length c.pc, .slice c.va c.vl.length c.vc] 36 (0, 0)) := by simpa using (heap_setCell_same _ _ 4 _ _ (.slice c.va c.vl.length c.vc) (heap_setCell_same _ _ 3 _ _ (.slice c.pa c.pl.length c.pc) (heap_setCell_same _ _ 2 _ _ (.slice c.ba c.bl.length c.bc) (heap_setCell_same _ _ 1 _ _ (.int .i64 c.rd) (heap_setCell_same _ _ 0 _ _ (.int .i64 c.au) qX)))))
          have hC_n := (ct_put (ct_put (ct_put (ct_put (ct_put hC bX 0 (.int .i64 c.au) hCX) bX 1 (.int .i64 c.rd) hCX) bX 2 (.slice c.ba c.bl.length c.bc) hCX) bX 3 (.slice c.pa c.pl.length c.pc) hCX) bX 4 (.slice c.va c.vl.length c.vc) hCX)
          generalize (((((V.setCell ⟨bX, 0, none⟩ (.int .i64 c.au)).setCell ⟨bX, 1, none⟩ (.int .i64 c.rd)).setCell ⟨bX, 2, none⟩ (.slice c.ba c.bl.length c.bc)).setCell ⟨bX, 3, none⟩ (.slice c.pa c.pl.length c.pc)).setCell ⟨bX, 4, none⟩ (.slice c.va c.vl.length c.vc)) = W' at hBn qS_n hC_n ⊢
          refine hK.out _ _ ⟨(hBn.cell (p := ⟨D, 0, none⟩) (block_lt_of_cell e0)).trans e0, (hBn.cell (p := ⟨sb, so + i, none⟩) (block_lt_of_cell e1)).trans e1⟩ (fun hHeld => ?_)
          simp only [List.setIfInBounds_toArray, List.set_cons_zero, List.set_cons_succ]
          refine take_dst (i := 11) (d := 9) (v := .int .i64 0) rfl rfl (by kernel_rfl) (by kernel_rfl) (by kernel_rfl) (fun _ _ _ h => h) (Or.inl ⟨by rfl, ?_⟩) hHeld ?_
          · (intro w0 hSw; (try dsimp only at hSw); go_simp)
          simp only [Act.put, List.setIfInBounds_toArray, List.set_cons_zero, List.set_cons_succ]
          clear hHeld
          have h := st_FXS.out W' c bX hBn hC_n HC gX qS_n hCX
          rw [← hA0.out] at h
          (try simp only [Act.put, List.setIfInBounds_toArray, List.set_cons_zero, List.set_cons_succ] at h)
          (try simp only [Act.put, List.setIfInBounds_toArray, List.set_cons_zero, List.set_cons_succ])
          exact hGi.out _ _ _ _ h
        have st_F : Hid (∀ (V : World) (c : Ct), Below VR.heap.size VR V → (CtAt V c) → (Hid ((c.v = cvAt (cvs ks) i ∨ (unlikeC (cvAt (cvs ks) i) c.v ∧ Coll (cvs ks))) ∧ c.v ∈ cvs ks)) → GO 3 #[true, true, true, true, true, true, true, true, true, false, false, false] ((((A0.put (some 42) (.tuple #[.agg #[.int .i64 c.au, .int .i64 c.rd, .slice c.ba c.bl.length c.bc, .slice c.pa c.pl.length c.pc, .slice c.va c.vl.length c.vc], .int .i64 0])).put (some 36) (.tuple #[.agg #[.int .i64 c.au, .int .i64 c.rd, .slice c.ba c.bl.length c.bc, .slice c.pa c.pl.length c.pc, .slice c.va c.vl.length c.vc], .int .i64 0])).put (some 43) (.agg #[.int .i64 c.au, .int .i64 c.rd, .slice c.ba c.bl.length c.bc, .slice c.pa c.pl.length c.pc, .slice c.va c.vl.length c.vc])).put (some 44) (.int .i64 0)) V) := by
          show ∀ V, _
          intro V c hB hC HC
          refine hGo.out _ _ _ _ ?_
          rw [← hA0.out]
          try simp only [Act.put, List.setIfInBounds_toArray, List.set_cons_zero, List.set_cons_succ]
          refine wpAnyH_ready (rs := [9]) (by kernel_rfl) (by simp) (AllReadyH.cons rfl (fun K hK => ?_) AllReadyH.nil)
          refine step_run rfl 8 rfl (.pointer (some ⟨V.heap.size, 0, none⟩)) (V.alloc (.cells #[.int .i64 0, .int .i64 0, .slice none 0 0, .slice none 0 0, .slice none 0 0] 36)) (by go_simp) ?_
          have hA : Below V.heap.size V (V.alloc (.cells #[.int .i64 0, .int .i64 0, .slice none 0 0, .slice none 0 0, .slice none 0 0] 36)) := (Below.refl _ _).alloc (Nat.le_refl _) _
          have hBn := hB.trans (hA.mono hB.size)
          have qX_n := heap_alloc_new V (.cells #[.int .i64 0, .int .i64 0, .slice none 0 0, .slice none 0 0, .slice none 0 0] 36)
          have gX_n := hB.size
          generalize hW' : V.alloc (.cells #[.int .i64 0, .int .i64 0, .slice none 0 0, .slice none 0 0, .slice none 0 0] 36) = W' at hA hBn qX_n ⊢
          clear hW'
          obtain ⟨bX, hx_e⟩ : ∃ bX, bX = V.heap.size := ⟨_, rfl⟩
          rw [← hx_e] at qX_n gX_n ⊢
          have hCX_n : ∀ b, CtIn c b → b ≠ bX := fun b hb' => by have := hC.block_lt b hb'; omega
          have hA' := hA
          clear hx_e
          refine hK.out _ _ ⟨(hBn.cell (p := ⟨D, 0, none⟩) (block_lt_of_cell e0)).trans e0, (hBn.cell (p := ⟨sb, so + i, none⟩) (block_lt_of_cell e1)).trans e1⟩ (fun hHeld => ?_)
          clear hHeld
          have h := st_FX.out W' c bX hBn (hC.below hA') HC qX_n gX_n hCX_n
          rw [← hA0.out] at h
          (try simp only [Act.put, List.setIfInBounds_toArray, List.set_cons_zero, List.set_cons_succ] at h)
          (try simp only [Act.put, List.setIfInBounds_toArray, List.set_cons_zero, List.set_cons_succ])
          exact hGi.out _ _ _ _ h
        have st_X : Hid (∀ (V : World) (bX : Nat), Below VR.heap.size VR V → (V.heap[bX]? = some (.cells #[.int .i64 0, .int .i64 0, .slice none 0 0, .slice none 0 0, .slice none 0 0] 36 (0, 0))) → (VR.heap.size ≤ bX) → GO 6 #[true, true, true, true, true, false, false, false, false, true, false, false] (A0.put (some 8) (.pointer (some ⟨bX, 0, none⟩))) V) := by
          show ∀ V, _
          intro V bX hB qX gX
          refine hGo.out _ _ _ _ ?_
          rw [← hA0.out]
          try simp only [Act.put, List.setIfInBounds_toArray, List.set_cons_zero, List.set_cons_succ]
          refine wpAnyH_ready (rs := [5]) (by kernel_rfl) (by simp) (AllReadyH.cons rfl (fun K hK => ?_) AllReadyH.nil)
          refine step_calls_dst rfl 42 rfl 21 [.tmp 37, .tmp 41] #[27, 41] rfl [.agg #[.slice (some ⟨kb, ko, none⟩) ks.length kc], .slice p.sa 32 p.cap] rfl (enters_of Tryd.func21 (by kernel_rfl) rfl) (fun v w' => (∃ c : Ct, v = .tuple #[.agg #[.int .i64 c.au, .int .i64 c.rd, .slice c.ba c.bl.length c.bc, .slice c.pa c.pl.length c.pc, .slice c.va c.vl.length c.vc], .int .i64 0] ∧ CtAt w' c ∧ Hid ((c.v = cvAt (cvs ks) i ∨ (unlikeC (cvAt (cvs ks) i) c.v ∧ Coll (cvs ks))) ∧ c.v ∈ cvs ks) ∧ ∀ b, CtIn c b → V.heap.size ≤ b) ∧ Below V.heap.size V w') ((HFD.out V hB).mono (fun e w2 h => ⟨_, h.1.choose_spec.1, ⟨_, rfl, h.1.choose_spec.2⟩, h.2⟩)) ?_
          rintro v W' ⟨⟨c, rfl, hC_n, HC_n, hfr⟩, hb⟩
          have hBn := hB.trans (hb.mono hB.size)
          have hCX_n : ∀ b, CtIn c b → b ≠ bX := fun b hb' => by have := hfr b hb'; have := lt_of_heap qX; omega
          refine hK.out _ _ ⟨(hBn.cell (p := ⟨D, 0, none⟩) (block_lt_of_cell e0)).trans e0, (hBn.cell (p := ⟨sb, so + i, none⟩) (block_lt_of_cell e1)).trans e1⟩ (fun hHeld => ?_)
          simp only [Act.put, List.setIfInBounds_toArray, List.set_cons_zero, List.set_cons_succ]
          refine take_dst (i := 6) (d := 36) (v := .tuple #[.agg #[.int .i64 c.au, .int .i64 c.rd, .slice c.ba c.bl.length c.bc, .slice c.pa c.pl.length c.pc, .slice c.va c.vl.length c.vc], .int .i64 0]) rfl rfl (by kernel_rfl) (by kernel_rfl) (by kernel_rfl) (fun _ _ _ h => h) (Or.inl ⟨by rfl, ?_⟩) hHeld ?_
          · (intro w0 hSw; (try dsimp only at hSw); go_simp)
          simp only [Act.put, List.setIfInBounds_toArray, List.set_cons_zero, List.set_cons_succ]
          refine take_dst (i := 7) (d := 43) (v := .agg #[.int .i64 c.au, .int .i64 c.rd, .slice c.ba c.bl.length c.bc, .slice c.pa c.pl.length c.pc, .slice c.va c.vl.length c.vc]) rfl rfl (by kernel_rfl) (by kernel_rfl) (by kernel_rfl) (fun _ _ _ h => h) (Or.inl ⟨by rfl, ?_⟩) hHeld ?_
          · (intro w0 hSw; (try dsimp only at hSw); go_simp)
          simp only [Act.put, List.setIfInBounds_toArray, List.set_cons_zero, List.set_cons_succ]
          refine take_dst (i := 8) (d := 44) (v := .int .i64 0) rfl rfl (by kernel_rfl) (by kernel_rfl) (by kernel_rfl) (fun _ _ _ h => h) (Or.inl ⟨by rfl, ?_⟩) hHeld ?_
          · (intro w0 hSw; (try dsimp only at hSw); go_simp)
          simp only [Act.put, List.setIfInBounds_toArray, List.set_cons_zero, List.set_cons_succ]
          clear hHeld
          have h := st_FX.out W' c bX hBn hC_n HC_n ((hb.block _ (lt_of_heap qX)).trans qX) gX hCX_n
          rw [← hA0.out] at h
          (try simp only [Act.put, List.setIfInBounds_toArray, List.set_cons_zero, List.set_cons_succ] at h)
          (try simp only [Act.put, List.setIfInBounds_toArray, List.set_cons_zero, List.set_cons_succ])
          exact hGi.out _ _ _ _ h
        have st_0 : Hid (∀ (V : World), Below VR.heap.size VR V → GO 7 #[true, true, true, true, true, false, false, false, false, false, false, false] A0 V) := by
          show ∀ V, _
          intro V  hB 
          refine hGo.out _ _ _ _ ?_
          rw [← hA0.out]
          try simp only [Act.put, List.setIfInBounds_toArray, List.set_cons_zero, List.set_cons_succ]
          refine wpAnyH_ready (rs := [5, 9]) (by kernel_rfl) (by simp) (AllReadyH.cons rfl (fun K hK => ?_) (AllReadyH.cons rfl (fun K hK => ?_) AllReadyH.nil))
          · skip
            refine step_calls_dst rfl 42 rfl 21 [.tmp 37, .tmp 41] #[27, 41] rfl [.agg #[.slice (some ⟨kb, ko, none⟩) ks.length kc], .slice p.sa 32 p.cap] rfl (enters_of Tryd.func21 (by kernel_rfl) rfl) (fun v w' => (∃ c : Ct, v = .tuple #[.agg #[.int .i64 c.au, .int .i64 c.rd, .slice c.ba c.bl.length c.bc, .slice c.pa c.pl.length c.pc, .slice c.va c.vl.length c.vc], .int .i64 0] ∧ CtAt w' c ∧ Hid ((c.v = cvAt (cvs ks) i ∨ (unlikeC (cvAt (cvs ks) i) c.v ∧ Coll (cvs ks))) ∧ c.v ∈ cvs ks) ∧ ∀ b, CtIn c b → V.heap.size ≤ b) ∧ Below V.heap.size V w') ((HFD.out V hB).mono (fun e w2 h => ⟨_, h.1.choose_spec.1, ⟨_, rfl, h.1.choose_spec.2⟩, h.2⟩)) ?_
            rintro v W' ⟨⟨c, rfl, hC_n, HC_n, hfr⟩, hb⟩
            have hBn := hB.trans (hb.mono hB.size)
            refine hK.out _ _ ⟨(hBn.cell (p := ⟨D, 0, none⟩) (block_lt_of_cell e0)).trans e0, (hBn.cell (p := ⟨sb, so + i, none⟩) (block_lt_of_cell e1)).trans e1⟩ (fun hHeld => ?_)
            simp only [Act.put, List.setIfInBounds_toArray, List.set_cons_zero, List.set_cons_succ]
            refine take_dst (i := 6) (d := 36) (v := .tuple #[.agg #[.int .i64 c.au, .int .i64 c.rd, .slice c.ba c.bl.length c.bc, .slice c.pa c.pl.length c.pc, .slice c.va c.vl.length c.vc], .int .i64 0]) rfl rfl (by kernel_rfl) (by kernel_rfl) (by kernel_rfl) (fun _ _ _ h => h) (Or.inl ⟨by rfl, ?_⟩) hHeld ?_
            · (intro w0 hSw; (try dsimp only at hSw); go_simp)
            simp only [Act.put, List.setIfInBounds_toArray, List.set_cons_zero, List.set_cons_succ]
            refine take_dst (i := 7) (d := 43) (v := .agg #[.int .i64 c.au, .int .i64 c.rd, .slice c.ba c.bl.length c.bc, .slice c.pa c.pl.length c.pc, .slice c.va c.vl.length c.vc]) rfl rfl (by kernel_rfl) (by kernel_rfl) (by kernel_rfl) (fun _ _ _ h => h) (Or.inl ⟨by rfl, ?_⟩) hHeld ?_
            · (intro w0 hSw; (try dsimp only at hSw); go_simp)
            simp only [Act.put, List.setIfInBounds_toArray, List.set_cons_zero, List.set_cons_succ]
            refine take_dst (i := 8) (d := 44) (v := .int .i64 0) rfl rfl (by kernel_rfl) (by kernel_rfl) (by kernel_rfl) (fun _ _ _ h => h) (Or.inl ⟨by rfl, ?_⟩) hHeld ?_
            · (intro w0 hSw; (try dsimp only at hSw); go_simp)
            simp only [Act.put, List.setIfInBounds_toArray, List.set_cons_zero, List.set_cons_succ]
            clear hHeld
            have h := st_F.out W' c hBn hC_n HC_n
            rw [← hA0.out] at h
            (try simp only [Act.put, List.setIfInBounds_toArray, List.set_cons_zero, List.set_cons_succ] at h)
            (try simp only [Act.put, List.setIfInBounds_toArray, List.set_cons_zero, List.set_cons_succ])
            exact hGi.out _ _ _ _ h
          · skip
            refine step_run rfl 8 rfl (.pointer (some ⟨V.heap.size, 0, none⟩)) (V.alloc (.cells #[.int .i64 0, .int .i64 0, .slice none 0 0, .slice none 0 0, .slice none 0 0] 36)) (by go_simp) ?_
            have hA : Below V.heap.size V (V.alloc (.cells #[.int .i64 0, .int .i64 0, .slice none 0 0, .slice none 0 0, .slice none 0 0] 36)) := (Below.refl _ _).alloc (Nat.le_refl _) _
            have hBn := hB.trans (hA.mono hB.size)
            have qX_n := heap_alloc_new V (.cells #[.int .i64 0, .int .i64 0, .slice none 0 0, .slice none 0 0, .slice none 0 0] 36)
            have gX_n := hB.size
            generalize hW' : V.alloc (.cells #[.int .i64 0, .int .i64 0, .slice none 0 0, .slice none 0 0, .slice none 0 0] 36) = W' at hA hBn qX_n ⊢
            clear hW'
            obtain ⟨bX, hx_e⟩ : ∃ bX, bX = V.heap.size := ⟨_, rfl⟩
            rw [← hx_e] at qX_n gX_n ⊢
            have hA' := hA
            clear hx_e
            refine hK.out _ _ ⟨(hBn.cell (p := ⟨D, 0, none⟩) (block_lt_of_cell e0)).trans e0, (hBn.cell (p := ⟨sb, so + i, none⟩) (block_lt_of_cell e1)).trans e1⟩ (fun hHeld => ?_)
            clear hHeld
            have h := st_X.out W' bX hBn qX_n gX_n
            rw [← hA0.out] at h
            (try simp only [Act.put, List.setIfInBounds_toArray, List.set_cons_zero, List.set_cons_succ] at h)
            (try simp only [Act.put, List.setIfInBounds_toArray, List.set_cons_zero, List.set_cons_succ])
            exact hGi.out _ _ _ _ h
        exact st_0.out V0 hV0
      case rest =>
        obtain ⟨X, c, rfl, rfl, qX, hC, HCI, hb5⟩ := hcut
        have hb45 := hb4.trans (hb5.mono hb4.size)
        have hB5 := hB3.trans (hb45.mono hB3.size)
        have qD5 := (hb45.block _ (lt_of_heap qD3)).trans qD3
        have qH5 := (hb5.block _ (lt_of_heap qH)).trans qH
        have HFU : Hid (∀ x ∈ cvs ks, x.f = 0 ∧ U8C x ∧ x.vl.length ≤ 1000) := by
          show ∀ x, _
          intro x hx
          refine ⟨?_, HU.out x hx, by rw [HV.out x hx]; decide⟩
          obtain ⟨j, hj, rfl⟩ := List.getElem_of_mem hx
          have h2 := dagF_f HD.out j hj
          have e : cvAt (cvs ks) j = (cvs ks)[j] := by simp [cvAt, hj]
          rw [e] at h2; exact h2
        have HHF2 : Hid (headerF h.au h.rd h.bl h.pl = 0) := by
          show _ = _
          have h2 := dagF_f HD.out i (by rw [cvs_length]; exact hlt)
          rw [HVI.out] at h2
          rw [Ct.hf_v]; exact certF_head (vl := h.vl) h2
        have HHM : Hid (h.v ∈ cvs ks) := by
          show _ ∈ _
          rw [← HVI.out]
          exact cvAt_mem (by rw [cvs_length]; exact hlt)
        have f0 := cells_at qD5 0 _ rfl
        have k0 := (hb45.cell (p := ⟨kb, ko + i * 5, none⟩) hkbl).trans c0
        have k1 := (hb45.cell (p := ⟨kb, ko + i * 5 + 1, none⟩) hkbl).trans c1
        have k2 := (hb45.cell (p := ⟨kb, ko + i * 5 + 2, none⟩) hkbl).trans c2
        have k3 := (hb45.cell (p := ⟨kb, ko + i * 5 + 3, none⟩) hkbl).trans c3
        have k4 := (hb45.cell (p := ⟨kb, ko + i * 5 + 4, none⟩) hkbl).trans c4
        have x0 := cells_at qX 0 _ rfl
        have x1 := cells_at qX 1 _ rfl
        have x2 := cells_at qX 2 _ rfl
        have x3 := cells_at qX 3 _ rfl
        have x4 := cells_at qX 4 _ rfl
        have hCt5 := hCt.below hb45
        have HSC : Hid (∀ V : World, Below wc.heap.size wc V → Calls Tryd.prog 22 #[.agg #[.int .i64 c.au, .int .i64 c.rd, .slice c.ba c.bl.length c.bc, .slice c.pa c.pl.length c.pc, .slice c.va c.vl.length c.vc], .agg #[.int .i64 h.au, .int .i64 h.rd, .slice h.ba h.bl.length h.bc, .slice h.pa h.pl.length h.pc, .slice h.va h.vl.length h.vc]] V fun e w' => (∃ B : Bool, e = .returned (.bool B) ∧ Hid (B = true ∨ (B = false ∧ Coll (cvs ks)))) ∧ Below V.heap.size V w') := by
          show ∀ V, _
          intro V hV
          obtain ⟨hor, hm⟩ := HCI.out
          obtain ⟨p1, p2, _⟩ := HFU.out _ hm
          obtain ⟨q1, q2, q3⟩ := HFU.out _ HHM.out
          rw [HVI.out] at hor
          refine (sameCert_or c h V (hC.below hV) (hCt5.below hV) p1 q1 p2 q2 q3 (hor.imp id (·.1))).mono (fun e w' g => ⟨?_, g.2⟩)
          rcases g.1 with ⟨_, g⟩ | ⟨gu, g⟩
          · exact ⟨true, g, .inl rfl⟩
          · refine ⟨false, g, .inr ⟨rfl, ?_⟩⟩
            rcases hor with o | o
            · exact absurd (by rw [o]; exact ⟨rfl, rfl, rfl, rfl⟩) gu
            · exact o.2
        obtain ⟨VR, hVR⟩ : ∃ VR, VR = wc := ⟨_, rfl⟩
        subst hVR
        go_upto_region 8 with fail
        go_cut [56] from 23 to 100 (fun v wx => ∃ B : Bool, v = .bool (!B) ∧ Hid (B = true ∨ (B = false ∧ Coll (cvs ks))) ∧ Below VR.heap.size VR wx)
        case first =>
          have hV0 : Below VR.heap.size VR VR.drew := (Below.refl _ _).drew
          refine wp_region_held_drew (S := fun w' => w'.cell? ⟨X, 0, none⟩ = some (.int .i64 c.au) ∧ w'.cell? ⟨X, 1, none⟩ = some (.int .i64 c.rd) ∧ w'.cell? ⟨X, 2, none⟩ = some (.slice c.ba c.bl.length c.bc) ∧ w'.cell? ⟨X, 3, none⟩ = some (.slice c.pa c.pl.length c.pc) ∧ w'.cell? ⟨X, 4, none⟩ = some (.slice c.va c.vl.length c.vc) ∧ w'.cell? ⟨D, 0, none⟩ = some (.slice (some ⟨kb, ko, none⟩) ks.length kc) ∧ w'.cell? ⟨kb, ko + i * 5, none⟩ = some (.int .i64 h.au) ∧ w'.cell? ⟨kb, ko + i * 5 + 1, none⟩ = some (.int .i64 h.rd) ∧ w'.cell? ⟨kb, ko + i * 5 + 2, none⟩ = some (.slice h.ba h.bl.length h.bc) ∧ w'.cell? ⟨kb, ko + i * 5 + 3, none⟩ = some (.slice h.pa h.pl.length h.pc) ∧ w'.cell? ⟨kb, ko + i * 5 + 4, none⟩ = some (.slice h.va h.vl.length h.vc)) (by kernel_rfl) ⟨(hV0.cell (p := ⟨X, 0, none⟩) (block_lt_of_cell x0)).trans x0, (hV0.cell (p := ⟨X, 1, none⟩) (block_lt_of_cell x1)).trans x1, (hV0.cell (p := ⟨X, 2, none⟩) (block_lt_of_cell x2)).trans x2, (hV0.cell (p := ⟨X, 3, none⟩) (block_lt_of_cell x3)).trans x3, (hV0.cell (p := ⟨X, 4, none⟩) (block_lt_of_cell x4)).trans x4, (hV0.cell (p := ⟨D, 0, none⟩) (block_lt_of_cell f0)).trans f0, (hV0.cell (p := ⟨kb, ko + i * 5, none⟩) (block_lt_of_cell k0)).trans k0, (hV0.cell (p := ⟨kb, ko + i * 5 + 1, none⟩) (block_lt_of_cell k1)).trans k1, (hV0.cell (p := ⟨kb, ko + i * 5 + 2, none⟩) (block_lt_of_cell k2)).trans k2, (hV0.cell (p := ⟨kb, ko + i * 5 + 3, none⟩) (block_lt_of_cell k3)).trans k3, (hV0.cell (p := ⟨kb, ko + i * 5 + 4, none⟩) (block_lt_of_cell k4)).trans k4⟩ (fun hHeld => ?_)
          generalize VR.drew = V0 at hV0 hHeld ⊢
          refine take_dst (i := 0) (d := 45) (v := .int .i64 0) rfl rfl (by kernel_rfl) (by kernel_rfl) (by kernel_rfl) (fun _ _ _ h => h) (Or.inl ⟨by rfl, ?_⟩) hHeld ?_
          · (intro w0 hSw; (try dsimp only at hSw); go_simp)
          simp only [Act.put, List.setIfInBounds_toArray, List.set_cons_zero, List.set_cons_succ]
          refine take_dst (i := 1) (d := 46) (v := .bool false) rfl rfl (by kernel_rfl) (by kernel_rfl) (by kernel_rfl) (fun _ _ _ h => h) (Or.inl ⟨by rfl, ?_⟩) hHeld ?_
          · (intro w0 hSw; (try dsimp only at hSw); go_simp)
          simp only [Act.put, List.setIfInBounds_toArray, List.set_cons_zero, List.set_cons_succ]
          refine take_dst (i := 2) (d := 47) (v := .bool false) rfl rfl (by kernel_rfl) (by kernel_rfl) (by kernel_rfl) (fun _ _ _ h => h) (Or.inl ⟨by rfl, ?_⟩) hHeld ?_
          · (intro w0 hSw; (try dsimp only at hSw); go_simp)
          simp only [Act.put, List.setIfInBounds_toArray, List.set_cons_zero, List.set_cons_succ]
          refine take_dst (i := 3) (d := 48) (v := .agg #[.int .i64 c.au, .int .i64 c.rd, .slice c.ba c.bl.length c.bc, .slice c.pa c.pl.length c.pc, .slice c.va c.vl.length c.vc]) rfl rfl (by kernel_rfl) (by kernel_rfl) (by kernel_rfl) (fun _ _ _ h => h) (Or.inl ⟨by rfl, ?_⟩) hHeld ?_
          · (intro w0 hSw; (try dsimp only at hSw); go_simp)
          simp only [Act.put, List.setIfInBounds_toArray, List.set_cons_zero, List.set_cons_succ]
          refine take_dst (i := 4) (d := 49) (v := .pointer (some ⟨D, 0, none⟩)) rfl rfl (by kernel_rfl) (by kernel_rfl) (by kernel_rfl) (fun _ _ _ h => h) (Or.inl ⟨by rfl, ?_⟩) hHeld ?_
          · (intro w0 hSw; (try dsimp only at hSw); go_simp)
          simp only [Act.put, List.setIfInBounds_toArray, List.set_cons_zero, List.set_cons_succ]
          refine take_dst (i := 5) (d := 50) (v := .slice (some ⟨kb, ko, none⟩) ks.length kc) rfl rfl (by kernel_rfl) (by kernel_rfl) (by kernel_rfl) (fun _ _ _ h => h) (Or.inl ⟨by rfl, ?_⟩) hHeld ?_
          · (intro w0 hSw; (try dsimp only at hSw); go_simp)
          simp only [Act.put, List.setIfInBounds_toArray, List.set_cons_zero, List.set_cons_succ]
          refine take_dst (i := 6) (d := 51) (v := .int .i64 (i : Int)) rfl rfl (by kernel_rfl) (by kernel_rfl) (by kernel_rfl) (fun _ _ _ h => h) (Or.inl ⟨by rfl, ?_⟩) hHeld ?_
          · (intro w0 hSw; (try dsimp only at hSw); go_simp)
          simp only [Act.put, List.setIfInBounds_toArray, List.set_cons_zero, List.set_cons_succ]
          refine take_dst (i := 7) (d := 52) (v := .pointer (some ⟨kb, ko + i * 5, none⟩)) rfl rfl (by kernel_rfl) (by kernel_rfl) (by kernel_rfl) (fun _ _ _ h => h) (Or.inl ⟨by rfl, ?_⟩) hHeld ?_
          · (intro w0 hSw; (try dsimp only at hSw); go_simp)
          simp only [Act.put, List.setIfInBounds_toArray, List.set_cons_zero, List.set_cons_succ]
          refine take_dst (i := 8) (d := 53) (v := .agg #[.int .i64 h.au, .int .i64 h.rd, .slice h.ba h.bl.length h.bc, .slice h.pa h.pl.length h.pc, .slice h.va h.vl.length h.vc]) rfl rfl (by kernel_rfl) (by kernel_rfl) (by kernel_rfl) (fun _ _ _ h => h) (Or.inl ⟨by rfl, ?_⟩) hHeld ?_
          · (intro w0 hSw; (try dsimp only at hSw); go_simp)
          simp only [Act.put, List.setIfInBounds_toArray, List.set_cons_zero, List.set_cons_succ]
          clear hHeld
          refine any_named (fun GO hGo hGi => ?_)
          refine act_named (fun A0 hA0 => ?_)
          have st_C : Hid (∀ (V : World) (B : Bool), Below VR.heap.size VR V → (Hid (B = true ∨ (B = false ∧ Coll (cvs ks)))) → GO 0 #[true, true, true, true, true, true, true, true, true, true, true, true] (((A0.put (some 54) (.bool B)).put (some 55) (.bool (!B))).put (some 56) (.bool (!B))) V) := by
            show ∀ V, _
            intro V B hB HB
            refine hGo.out _ _ _ _ ?_
            rw [← hA0.out]
            try simp only [Act.put, List.setIfInBounds_toArray, List.set_cons_zero, List.set_cons_succ]
            refine wpAnyH_done (by kernel_rfl) ?_ _
            go_wp2_with fail
            go_meet
            case rel => exact ⟨B, rfl, HB, hB⟩
          have st_0 : Hid (∀ (V : World), Below VR.heap.size VR V → GO 3 #[true, true, true, true, true, true, true, true, true, false, false, false] A0 V) := by
            show ∀ V, _
            intro V  hB 
            refine hGo.out _ _ _ _ ?_
            rw [← hA0.out]
            try simp only [Act.put, List.setIfInBounds_toArray, List.set_cons_zero, List.set_cons_succ]
            refine wpAnyH_ready (rs := [9]) (by kernel_rfl) (by simp) (AllReadyH.cons rfl (fun K hK => ?_) AllReadyH.nil)
            refine step_calls_on (by rfl) 54 rfl 22 [.tmp 48, .tmp 53] #[36, 36] rfl [.agg #[.int .i64 c.au, .int .i64 c.rd, .slice c.ba c.bl.length c.bc, .slice c.pa c.pl.length c.pc, .slice c.va c.vl.length c.vc], .agg #[.int .i64 h.au, .int .i64 h.rd, .slice h.ba h.bl.length h.bc, .slice h.pa h.pl.length h.pc, .slice h.va h.vl.length h.vc]] rfl (enters_of Tryd.func22 (by kernel_rfl) rfl) (fun v w' => (∃ B : Bool, v = .bool B ∧ Hid (B = true ∨ (B = false ∧ Coll (cvs ks)))) ∧ Below V.heap.size V w') ((HSC.out V hB).mono (fun e w2 h => ⟨_, h.1.choose_spec.1, ⟨_, rfl, h.1.choose_spec.2⟩, h.2⟩)) ?_
            rintro v W' ⟨⟨B, rfl, HB_n⟩, hb⟩
            have hBn := hB.trans (hb.mono hB.size)
            refine hK.out _ _ ⟨(hBn.cell (p := ⟨X, 0, none⟩) (block_lt_of_cell x0)).trans x0, (hBn.cell (p := ⟨X, 1, none⟩) (block_lt_of_cell x1)).trans x1, (hBn.cell (p := ⟨X, 2, none⟩) (block_lt_of_cell x2)).trans x2, (hBn.cell (p := ⟨X, 3, none⟩) (block_lt_of_cell x3)).trans x3, (hBn.cell (p := ⟨X, 4, none⟩) (block_lt_of_cell x4)).trans x4, (hBn.cell (p := ⟨D, 0, none⟩) (block_lt_of_cell f0)).trans f0, (hBn.cell (p := ⟨kb, ko + i * 5, none⟩) (block_lt_of_cell k0)).trans k0, (hBn.cell (p := ⟨kb, ko + i * 5 + 1, none⟩) (block_lt_of_cell k1)).trans k1, (hBn.cell (p := ⟨kb, ko + i * 5 + 2, none⟩) (block_lt_of_cell k2)).trans k2, (hBn.cell (p := ⟨kb, ko + i * 5 + 3, none⟩) (block_lt_of_cell k3)).trans k3, (hBn.cell (p := ⟨kb, ko + i * 5 + 4, none⟩) (block_lt_of_cell k4)).trans k4⟩ (fun hHeld => ?_)
            simp only [Act.put, List.setIfInBounds_toArray, List.set_cons_zero, List.set_cons_succ]
            refine take_dst (i := 10) (d := 55) (v := .bool (!B)) rfl rfl (by kernel_rfl) (by kernel_rfl) (by kernel_rfl) (fun _ _ _ h => h) (Or.inl ⟨by rfl, ?_⟩) hHeld ?_
            · (intro w0 hSw; (try dsimp only at hSw); go_simp)
            simp only [Act.put, List.setIfInBounds_toArray, List.set_cons_zero, List.set_cons_succ]
            refine take_dst (i := 11) (d := 56) (v := .bool (!B)) rfl rfl (by kernel_rfl) (by kernel_rfl) (by kernel_rfl) (fun _ _ _ h => h) (Or.inl ⟨by rfl, ?_⟩) hHeld ?_
            · (intro w0 hSw; (try dsimp only at hSw); go_simp)
            simp only [Act.put, List.setIfInBounds_toArray, List.set_cons_zero, List.set_cons_succ]
            clear hHeld
            have h := st_C.out W' B hBn HB_n
            rw [← hA0.out] at h
            (try simp only [Act.put, List.setIfInBounds_toArray, List.set_cons_zero, List.set_cons_succ] at h)
            (try simp only [Act.put, List.setIfInBounds_toArray, List.set_cons_zero, List.set_cons_succ])
            exact hGi.out _ _ _ _ h
          exact st_0.out V0 hV0
        case rest =>
          obtain ⟨B, rfl, HB, hb6⟩ := hcut
          have hb46 := hb45.trans (hb6.mono hb45.size)
          have hB6 := hB3.trans (hb46.mono hB3.size)
          have qD6 := (hb46.block _ (lt_of_heap qD3)).trans qD3
          have qH6 := (hb6.block _ (lt_of_heap qH5)).trans qH5
          clear x0 x1 x2 x3 x4 k0 k1 k2 k3 k4 f0 HSC qX hC HCI e0 e1 HFD
          cases B with
          | false =>
            have HCO : Hid (Coll (cvs ks)) := by
              rcases HB.out with h | h
              · cases h
              · exact h.2
            go_wp2_with fail
            go_ret
            exact ⟨cvs ks, HG.out, .inr ⟨rfl, HCO.out⟩, hB6⟩
          | true =>
            clear HB
            obtain ⟨W6, hW6⟩ : ∃ W6, W6 = wc := ⟨_, rfl⟩
            subst hW6
            go_wp2_with fail
            have hm2 := cells_at qH6 3 _ rfl
            have hpll : h.pl.length ≤ 4 := (headerF_ok (HHF2.out)).2.2.2.1
            go_loopw [10] (fun j wr => ∃ k : Nat, k ≤ h.pl.length ∧ j = .int .i64 k ∧ Below W6.heap.size W6 wr) (fun j _ => h.pl.length - (intOf j).toNat)
            case atStart => exact ⟨0, Nat.zero_le _, rfl, Below.refl _ _⟩
            case round =>
              obtain ⟨k, hk, rfl, hb7⟩ := hrel
              have hb47 := hb46.trans (hb7.mono hb46.size)
              have hB7 := hB3.trans (hb47.mono hB3.size)
              have qD7 := (hb47.block _ (lt_of_heap qD3)).trans qD3
              have qH7 := (hb7.block _ (lt_of_heap qH6)).trans qH6
              have n1 := cells_at qH7 1 _ rfl
              have n3 := cells_at qH7 3 _ rfl
              by_cases hkl : k < h.pl.length
              · have hklI : (k : Int) < h.pl.length := by omega
                obtain ⟨pb, po, hpe, hpc⟩ : ∃ pb po, h.pa = some ⟨pb, po, none⟩ ∧ ∀ j (g : j < h.pl.length), w3.cell? ⟨pb, po + j, none⟩ = some (.slice (h.pl[j]).sa (h.pl[j]).bs.length (h.pl[j]).cap) := by
                  rcases hCt.hat.lp.parts.cells with g | g
                  · rw [g] at hkl; simp at hkl
                  · exact g
                have m0 := hpc k hkl
                have hSq := hCt.hat.lp.parts.each (h.pl[k]) (List.getElem_mem hkl)
                have HPK : Hid ((cvAt (cvs ks) i).pl.getD k [] = (h.pl[k]).bs ∧ k < (cvAt (cvs ks) i).pl.length) := by
                  rw [HVI.out]
                  exact ⟨bss_get h.pl k hkl, by show k < (bss h.pl).length; rw [bss_length]; exact hkl⟩
                clear hpc
                generalize h.pl[k] = q at m0 hSq HPK
                have hpbl : pb < w3.heap.size := block_lt_of_cell m0
                obtain ⟨N, hN⟩ : ∃ N : Nat, pOf ((cvs ks).take i) q.bs = (N : Int) := by
                  have := (dag_parent HD.out (by rw [cvs_length]; exact hlt) HPK.out.2).1
                  rw [HPK.out.1] at this
                  exact ⟨(pOf ((cvs ks).take i) q.bs).toNat, by omega⟩
                have HNR : Hid (N < ks.length ∧ (cvAt (cvs ks) N).rd = h.rd - 1) := by
                  have h2 := (dag_parent HD.out (by rw [cvs_length]; exact hlt) HPK.out.2).2
                  rw [HPK.out.1, hN, HVI.out] at h2
                  rw [Int.toNat_natCast] at h2
                  refine ⟨?_, h2⟩
                  have := (pOf_bounds ((cvs ks).take i) q.bs).2
                  rw [hN, List.length_take, cvs_length] at this
                  omega
                have HAT : Hid (∀ V : World, Below wr.heap.size wr V → Calls Tryd.prog 23 #[.slice (some ⟨sb, so, none⟩) i dc, .slice q.sa q.bs.length q.cap] V fun e w' => e = .returned (.int .i64 (N : Int)) ∧ V = w') := by
                  show ∀ V, _
                  intro V hV
                  have hbV := hb47.trans (hV.mono hb47.size)
                  have e1 : i = (ds.take i).length := by rw [List.length_take]; omega
                  have e2 : atF (bss (ds.take i)) q.bs = (N : Int) := by
                    have e3 : bss (ds.take i) = ((cvs ks).take i).map CV.d := by
                      have e4 : bss (ds.take i) = (bss ds).take i := by simp [bss, List.map_take]
                      rw [e4, HDS.out, List.map_take]
                    rw [e3, atF_pOf, hN]
                  have := at_any (ds.take i) (some ⟨sb, so, none⟩) i dc q.bs q.sa _ q.cap V e1 rfl ((list_take hLd i).below hbV) (hSq.below hbV)
                  rw [e2] at this
                  exact this
                have HN2 : Hid _ := hN
                clear hN
                have r0 := (hb47.cell (p := ⟨pb, po + k, none⟩) hpbl).trans m0
                have n3' : wr.cell? ⟨HB, 3, none⟩ = some (.slice (some ⟨pb, po, none⟩) h.pl.length h.pc) := by rw [← hpe]; exact n3
                obtain ⟨VR, hVR⟩ : ∃ VR, VR = wr := ⟨_, rfl⟩
                subst hVR
                have hidc : (i : Int) ≤ dc := by omega
                go_upto_region 13 with fail
                go_cut [11] from 57 to 87 (fun v wx => v = .int .i64 (N : Int) ∧ Below VR.heap.size VR wx)
                case first =>
                  have hV0 : Below VR.heap.size VR VR.drew := (Below.refl _ _).drew
                  refine wp_region_held_drew (S := fun w' => w'.cell? ⟨HB, 3, none⟩ = some (.slice (some ⟨pb, po, none⟩) h.pl.length h.pc) ∧ w'.cell? ⟨pb, po + k, none⟩ = some (.slice q.sa q.bs.length q.cap)) (by kernel_rfl) ⟨(hV0.cell (p := ⟨HB, 3, none⟩) (block_lt_of_cell n3')).trans n3', (hV0.cell (p := ⟨pb, po + k, none⟩) (block_lt_of_cell r0)).trans r0⟩ (fun hHeld => ?_)
                  generalize VR.drew = V0 at hV0 hHeld ⊢
                  refine take_dst (i := 0) (d := 64) (v := .slice (some ⟨sb, so, none⟩) ks.length dc) rfl rfl (by kernel_rfl) (by kernel_rfl) (by kernel_rfl) (fun _ _ _ h => h) (Or.inl ⟨by rfl, ?_⟩) hHeld ?_
                  · (intro w0 hSw; (try dsimp only at hSw); go_simp)
                  simp only [Act.put, List.setIfInBounds_toArray, List.set_cons_zero, List.set_cons_succ]
                  refine take_dst (i := 1) (d := 65) (v := .int .i64 (i : Int)) rfl rfl (by kernel_rfl) (by kernel_rfl) (by kernel_rfl) (fun _ _ _ h => h) (Or.inl ⟨by rfl, ?_⟩) hHeld ?_
                  · (intro w0 hSw; (try dsimp only at hSw); go_simp)
                  simp only [Act.put, List.setIfInBounds_toArray, List.set_cons_zero, List.set_cons_succ]
                  refine take_dst (i := 2) (d := 66) (v := .slice (some ⟨sb, so, none⟩) i dc) rfl rfl (by kernel_rfl) (by kernel_rfl) (by kernel_rfl) (fun _ _ _ h => h) (Or.inl ⟨by rfl, ?_⟩) hHeld ?_
                  · (intro w0 hSw; (try dsimp only at hSw); go_simp)
                  simp only [Act.put, List.setIfInBounds_toArray, List.set_cons_zero, List.set_cons_succ]
                  refine take_dst (i := 3) (d := 67) (v := .pointer (some ⟨HB, 3, none⟩)) rfl rfl (by kernel_rfl) (by kernel_rfl) (by kernel_rfl) (fun _ _ _ h => h) (Or.inl ⟨by rfl, ?_⟩) hHeld ?_
                  · (intro w0 hSw; (try dsimp only at hSw); go_simp)
                  simp only [Act.put, List.setIfInBounds_toArray, List.set_cons_zero, List.set_cons_succ]
                  refine take_dst (i := 4) (d := 68) (v := .slice (some ⟨pb, po, none⟩) h.pl.length h.pc) rfl rfl (by kernel_rfl) (by kernel_rfl) (by kernel_rfl) (fun _ _ _ h => h) (Or.inl ⟨by rfl, ?_⟩) hHeld ?_
                  · (intro w0 hSw; (try dsimp only at hSw); go_simp)
                  simp only [Act.put, List.setIfInBounds_toArray, List.set_cons_zero, List.set_cons_succ]
                  refine take_dst (i := 5) (d := 69) (v := .int .i64 (k : Int)) rfl rfl (by kernel_rfl) (by kernel_rfl) (by kernel_rfl) (fun _ _ _ h => h) (Or.inl ⟨by rfl, ?_⟩) hHeld ?_
                  · (intro w0 hSw; (try dsimp only at hSw); go_simp)
                  simp only [Act.put, List.setIfInBounds_toArray, List.set_cons_zero, List.set_cons_succ]
                  refine take_dst (i := 6) (d := 70) (v := .pointer (some ⟨pb, po + k, none⟩)) rfl rfl (by kernel_rfl) (by kernel_rfl) (by kernel_rfl) (fun _ _ _ h => h) (Or.inl ⟨by rfl, ?_⟩) hHeld ?_
                  · (intro w0 hSw; (try dsimp only at hSw); go_simp)
                  simp only [Act.put, List.setIfInBounds_toArray, List.set_cons_zero, List.set_cons_succ]
                  refine take_dst (i := 7) (d := 71) (v := .slice q.sa q.bs.length q.cap) rfl rfl (by kernel_rfl) (by kernel_rfl) (by kernel_rfl) (fun _ _ _ h => h) (Or.inl ⟨by rfl, ?_⟩) hHeld ?_
                  · (intro w0 hSw; (try dsimp only at hSw); go_simp)
                  simp only [Act.put, List.setIfInBounds_toArray, List.set_cons_zero, List.set_cons_succ]
                  clear hHeld
                  refine any_named (fun GO hGo hGi => ?_)
                  refine act_named (fun A0 hA0 => ?_)
                  have st_A : Hid (∀ (V : World), Below VR.heap.size VR V → GO 0 #[true, true, true, true, true, true, true, true, true, true] ((A0.put (some 72) (.int .i64 (N : Int))).put (some 11) (.int .i64 (N : Int))) V) := by
                    show ∀ V, _
                    intro V  hB 
                    refine hGo.out _ _ _ _ ?_
                    rw [← hA0.out]
                    try simp only [Act.put, List.setIfInBounds_toArray, List.set_cons_zero, List.set_cons_succ]
                    refine wpAnyH_done (by kernel_rfl) ?_ _
                    go_wp2_with fail
                    go_meet
                    case rel => exact ⟨rfl, hB⟩
                  have st_0 : Hid (∀ (V : World), Below VR.heap.size VR V → GO 2 #[true, true, true, true, true, true, true, true, false, false] A0 V) := by
                    show ∀ V, _
                    intro V  hB 
                    refine hGo.out _ _ _ _ ?_
                    rw [← hA0.out]
                    try simp only [Act.put, List.setIfInBounds_toArray, List.set_cons_zero, List.set_cons_succ]
                    refine wpAnyH_ready (rs := [8]) (by kernel_rfl) (by simp) (AllReadyH.cons rfl (fun K hK => ?_) AllReadyH.nil)
                    refine step_calls_dst rfl 72 rfl 23 [.tmp 66, .tmp 71] #[31, 41] rfl [.slice (some ⟨sb, so, none⟩) i dc, .slice q.sa q.bs.length q.cap] rfl (enters_of Tryd.func23 (by kernel_rfl) rfl) (fun v w' => v = .int .i64 (N : Int) ∧ V = w') ((HAT.out V hB).mono (fun e w2 h => ⟨_, h.1, rfl, h.2⟩)) ?_
                    rintro v W' ⟨rfl, hwq⟩
                    subst hwq
                    refine hK.out _ _ ⟨(hB.cell (p := ⟨HB, 3, none⟩) (block_lt_of_cell n3')).trans n3', (hB.cell (p := ⟨pb, po + k, none⟩) (block_lt_of_cell r0)).trans r0⟩ (fun hHeld => ?_)
                    simp only [Act.put, List.setIfInBounds_toArray, List.set_cons_zero, List.set_cons_succ]
                    refine take_dst (i := 9) (d := 11) (v := .int .i64 (N : Int)) rfl rfl (by kernel_rfl) (by kernel_rfl) (by kernel_rfl) (fun _ _ _ h => h) (Or.inl ⟨by rfl, ?_⟩) hHeld ?_
                    · (intro w0 hSw; (try dsimp only at hSw); go_simp)
                    simp only [Act.put, List.setIfInBounds_toArray, List.set_cons_zero, List.set_cons_succ]
                    clear hHeld
                    have h := st_A.out V hB
                    rw [← hA0.out] at h
                    (try simp only [Act.put, List.setIfInBounds_toArray, List.set_cons_zero, List.set_cons_succ] at h)
                    (try simp only [Act.put, List.setIfInBounds_toArray, List.set_cons_zero, List.set_cons_succ])
                    exact hGi.out _ _ _ _ h
                  exact st_0.out V0 hV0
                case rest =>
                  obtain ⟨rfl, hb8⟩ := hcut
                  have hb48 := hb47.trans (hb8.mono hb47.size)
                  have hb78 := hb7.trans (hb8.mono hb7.size)
                  have qD8 := (hb48.block _ (lt_of_heap qD3)).trans qD3
                  have qH8 := (hb78.block _ (lt_of_heap qH6)).trans qH6
                  obtain ⟨hNl, hNr⟩ := HNR.out
                  have HNR2 : Hid ((cvAt (cvs ks) N).rd = h.rd - 1) := hNr
                  obtain ⟨_, v1, _⟩ := HCC.out N hNl
                  have v2 : wc.cell? ⟨kb, ko + N * 5 + 1, none⟩ = some (.int .i64 (h.rd - 1)) := by
                    refine ((hb48.cell (p := ⟨kb, ko + N * 5 + 1, none⟩) hkbl).trans v1).trans ?_
                    have e := HNR2.out
                    rw [cvAt_get ks N hNl] at e
                    rw [show (ks[N]).rd = h.rd - 1 from e]
                  have v0 := cells_at qD8 0 _ rfl
                  have v3 := cells_at qH8 1 _ rfl
                  have hNI : (N : Int) < ks.length := by omega
                  have hrdb := (headerF_ok (HHF2.out)).2.1
                  have hwr : IntKind.i64.wrap (h.rd - 1) = h.rd - 1 := by rw [IntKind.wrap_i64]; omega
                  obtain ⟨VQ, hVQ⟩ : ∃ VQ, VQ = wc := ⟨_, rfl⟩
                  subst hVQ
                  clear hNr v1 HNR HNR2 HAT HN2 r0 n3' n1 n3
                  go_upto_region 14 with fail
                  go_cut [87] from 57 to 87 (fun v wx => v = .bool false ∧ Below VQ.heap.size VQ wx)
                  case first =>
                    have hV0 : Below VQ.heap.size VQ VQ.drew := (Below.refl _ _).drew
                    refine wp_region_held_drew (S := fun w' => w'.cell? ⟨D, 0, none⟩ = some (.slice (some ⟨kb, ko, none⟩) ks.length kc) ∧ w'.cell? ⟨kb, ko + N * 5 + 1, none⟩ = some (.int .i64 (h.rd - 1)) ∧ w'.cell? ⟨HB, 1, none⟩ = some (.int .i64 h.rd)) (by kernel_rfl) ⟨(hV0.cell (p := ⟨D, 0, none⟩) (block_lt_of_cell v0)).trans v0, (hV0.cell (p := ⟨kb, ko + N * 5 + 1, none⟩) (block_lt_of_cell v2)).trans v2, (hV0.cell (p := ⟨HB, 1, none⟩) (block_lt_of_cell v3)).trans v3⟩ (fun hHeld => ?_)
                    generalize VQ.drew = V0 at hV0 hHeld ⊢
                    refine take_dst (i := 0) (d := 73) (v := .int .i64 (N : Int)) rfl rfl (by kernel_rfl) (by kernel_rfl) (by kernel_rfl) (fun _ _ _ h => h) (Or.inl ⟨by rfl, ?_⟩) hHeld ?_
                    · (intro w0 hSw; (try dsimp only at hSw); go_simp)
                    simp only [Act.put, List.setIfInBounds_toArray, List.set_cons_zero, List.set_cons_succ]
                    refine take_dst (i := 1) (d := 74) (v := .bool false) rfl rfl (by kernel_rfl) (by kernel_rfl) (by kernel_rfl) (fun _ _ _ h => h) (Or.inl ⟨by rfl, ?_⟩) hHeld ?_
                    · (intro w0 hSw; (try dsimp only at hSw); go_simp)
                    simp only [Act.put, List.setIfInBounds_toArray, List.set_cons_zero, List.set_cons_succ]
                    refine take_dst (i := 2) (d := 75) (v := .bool false) rfl rfl (by kernel_rfl) (by kernel_rfl) (by kernel_rfl) (fun _ _ _ h => h) (Or.inl ⟨by rfl, ?_⟩) hHeld ?_
                    · (intro w0 hSw; (try dsimp only at hSw); go_simp)
                    simp only [Act.put, List.setIfInBounds_toArray, List.set_cons_zero, List.set_cons_succ]
                    refine take_dst (i := 3) (d := 76) (v := .pointer (some ⟨D, 0, none⟩)) rfl rfl (by kernel_rfl) (by kernel_rfl) (by kernel_rfl) (fun _ _ _ h => h) (Or.inl ⟨by rfl, ?_⟩) hHeld ?_
                    · (intro w0 hSw; (try dsimp only at hSw); go_simp)
                    simp only [Act.put, List.setIfInBounds_toArray, List.set_cons_zero, List.set_cons_succ]
                    refine take_dst (i := 4) (d := 77) (v := .slice (some ⟨kb, ko, none⟩) ks.length kc) rfl rfl (by kernel_rfl) (by kernel_rfl) (by kernel_rfl) (fun _ _ _ h => h) (Or.inl ⟨by rfl, ?_⟩) hHeld ?_
                    · (intro w0 hSw; (try dsimp only at hSw); go_simp)
                    simp only [Act.put, List.setIfInBounds_toArray, List.set_cons_zero, List.set_cons_succ]
                    refine take_dst (i := 5) (d := 78) (v := .int .i64 (N : Int)) rfl rfl (by kernel_rfl) (by kernel_rfl) (by kernel_rfl) (fun _ _ _ h => h) (Or.inl ⟨by rfl, ?_⟩) hHeld ?_
                    · (intro w0 hSw; (try dsimp only at hSw); go_simp)
                    simp only [Act.put, List.setIfInBounds_toArray, List.set_cons_zero, List.set_cons_succ]
                    refine take_dst (i := 6) (d := 79) (v := .pointer (some ⟨kb, ko + N * 5, none⟩)) rfl rfl (by kernel_rfl) (by kernel_rfl) (by kernel_rfl) (fun _ _ _ h => h) (Or.inl ⟨by rfl, ?_⟩) hHeld ?_
                    · (intro w0 hSw; (try dsimp only at hSw); go_simp)
                    simp only [Act.put, List.setIfInBounds_toArray, List.set_cons_zero, List.set_cons_succ]
                    refine take_dst (i := 7) (d := 80) (v := .pointer (some ⟨kb, ko + N * 5, none⟩)) rfl rfl (by kernel_rfl) (by kernel_rfl) (by kernel_rfl) (fun _ _ _ h => h) (Or.inl ⟨by rfl, ?_⟩) hHeld ?_
                    · (intro w0 hSw; (try dsimp only at hSw); go_simp)
                    simp only [Act.put, List.setIfInBounds_toArray, List.set_cons_zero, List.set_cons_succ]
                    refine take_dst (i := 8) (d := 81) (v := .pointer (some ⟨kb, ko + N * 5 + 1, none⟩)) rfl rfl (by kernel_rfl) (by kernel_rfl) (by kernel_rfl) (fun _ _ _ h => h) (Or.inl ⟨by rfl, ?_⟩) hHeld ?_
                    · (intro w0 hSw; (try dsimp only at hSw); go_simp)
                    simp only [Act.put, List.setIfInBounds_toArray, List.set_cons_zero, List.set_cons_succ]
                    refine take_dst (i := 9) (d := 82) (v := .int .i64 (h.rd - 1)) rfl rfl (by kernel_rfl) (by kernel_rfl) (by kernel_rfl) (fun _ _ _ h => h) (Or.inl ⟨by rfl, ?_⟩) hHeld ?_
                    · (intro w0 hSw; (try dsimp only at hSw); go_simp)
                    simp only [Act.put, List.setIfInBounds_toArray, List.set_cons_zero, List.set_cons_succ]
                    refine take_dst (i := 10) (d := 83) (v := .pointer (some ⟨HB, 1, none⟩)) rfl rfl (by kernel_rfl) (by kernel_rfl) (by kernel_rfl) (fun _ _ _ h => h) (Or.inl ⟨by rfl, ?_⟩) hHeld ?_
                    · (intro w0 hSw; (try dsimp only at hSw); go_simp)
                    simp only [Act.put, List.setIfInBounds_toArray, List.set_cons_zero, List.set_cons_succ]
                    refine take_dst (i := 11) (d := 84) (v := .int .i64 h.rd) rfl rfl (by kernel_rfl) (by kernel_rfl) (by kernel_rfl) (fun _ _ _ h => h) (Or.inl ⟨by rfl, ?_⟩) hHeld ?_
                    · (intro w0 hSw; (try dsimp only at hSw); go_simp)
                    simp only [Act.put, List.setIfInBounds_toArray, List.set_cons_zero, List.set_cons_succ]
                    refine take_dst (i := 12) (d := 85) (v := .int .i64 (h.rd - 1)) rfl rfl (by kernel_rfl) (by kernel_rfl) (by kernel_rfl) (fun _ _ _ h => h) (Or.inl ⟨by rfl, ?_⟩) hHeld ?_
                    · (intro w0 hSw; (try dsimp only at hSw); go_simp)
                    simp only [Act.put, List.setIfInBounds_toArray, List.set_cons_zero, List.set_cons_succ]
                    refine take_dst (i := 13) (d := 86) (v := .bool false) rfl rfl (by kernel_rfl) (by kernel_rfl) (by kernel_rfl) (fun _ _ _ h => h) (Or.inl ⟨by rfl, ?_⟩) hHeld ?_
                    · (intro w0 hSw; (try dsimp only at hSw); go_simp)
                    simp only [Act.put, List.setIfInBounds_toArray, List.set_cons_zero, List.set_cons_succ]
                    refine take_dst (i := 14) (d := 87) (v := .bool false) rfl rfl (by kernel_rfl) (by kernel_rfl) (by kernel_rfl) (fun _ _ _ h => h) (Or.inl ⟨by rfl, ?_⟩) hHeld ?_
                    · (intro w0 hSw; (try dsimp only at hSw); go_simp)
                    simp only [Act.put, List.setIfInBounds_toArray, List.set_cons_zero, List.set_cons_succ]
                    clear hHeld
                    refine any_named (fun GO hGo hGi => ?_)
                    refine act_named (fun A0 hA0 => ?_)
                    have st_0 : Hid (∀ (V : World), Below VQ.heap.size VQ V → GO 0 #[true, true, true, true, true, true, true, true, true, true, true, true, true, true, true] A0 V) := by
                      show ∀ V, _
                      intro V  hB 
                      refine hGo.out _ _ _ _ ?_
                      rw [← hA0.out]
                      try simp only [Act.put, List.setIfInBounds_toArray, List.set_cons_zero, List.set_cons_succ]
                      refine wpAnyH_done (by kernel_rfl) ?_ _
                      go_wp2_with fail
                      go_meet
                      case rel => exact ⟨rfl, hB⟩
                    exact st_0.out V0 hV0
                  case rest =>
                    obtain ⟨rfl, hb9⟩ := hcut
                    have hb79 := hb78.trans (hb9.mono hb78.size)
                    go_wp2_with fail
                    go_roundw
                    case rel => exact ⟨k + 1, by omega, by go_num, hb79⟩
                    case measure => simp [intOf]; omega
              · obtain rfl : k = h.pl.length := by omega
                have hd7 := hd3.below hb47
                have hCt7 := hCt.below hb47
                have n0 := cells_at qH7 0 _ rfl
                have n2 := cells_at qH7 2 _ rfl
                have d7 := cells_at qD7 0 _ rfl
                have HMi := dagMissing_any ks (some ⟨kb, ko, none⟩) _ kc h.au h.rd h.ba _ h.bc h.bl h.pa _ h.pc h.pl wr rfl rfl rfl hd7 hCt7.hat.lb hCt7.hat.lp (HT.out wr hB7)
                have HME : Hid (missE (cvs ks) h.au h.rd h.bl h.pl = 0 ∧ misF (cvs ks) (bss h.pl) = []) := by
                  have g := dag_none_missing HD.out (i := i) (by rw [cvs_length]; exact hlt)
                  rw [HVI.out] at g
                  have g1 : parF (cvs ks) h.rd (bss h.pl) = 0 := g.1
                  refine ⟨?_, g.2⟩
                  rw [missE, if_neg (fun g => g HD.out), if_neg (fun g => g HHF2.out), g1, if_neg (by decide)]
                go_wp2_with fail
                refine HMi.mono ?_
                rintro e w8 ⟨hM, hb8⟩
                have he : ∃ ma mc, e = .returned (.tuple #[.slice ma 0 mc, .int .i64 0]) := by
                  rcases hM with ⟨g, _⟩ | ⟨_, ma, mc, ms, he, hms, _⟩
                  · exact absurd HME.out.1 g
                  · rw [HME.out.2] at hms
                    have : ms = [] := by cases ms with | nil => rfl | cons _ _ => cases hms
                    subst this
                    exact ⟨ma, mc, he⟩
                obtain ⟨ma, mc, he⟩ := he
                subst he
                dsimp only
                have hb48 := hb47.trans (hb8.mono hb47.size)
                clear hM HMi n0 n1 n2 n3 d7
                go_wp2_with fail
                go_roundw
                case rel => exact ⟨i + 1, by omega, by go_num, hb48⟩
                case measure => simp [intOf]; omega
    · obtain rfl : i = ks.length := by omega
      have hdr := hd3.below hbr
      have hA8 := (Below.refl wr.heap.size wr).alloc (Nat.le_refl _) (.cells #[.int .u8 1] 5)
      have qO := heap_alloc_new wr (.cells #[.int .u8 1] 5)
      have HFi := dagFind_own ks (some ⟨kb, ko, none⟩) _ kc [1] (some ⟨wr.heap.size, 0, none⟩) 1 1 _ rfl rfl (hdr.below hA8) (slice_of1 qO) (HT.out _ (hBr.trans (hA8.mono hBr.size)))
      have HPM : Hid (pOf (cvs ks) [1] = -1) := pOf_short (by intro x hx; simp at hx; omega) (by decide)
      have hB8 := hBr.trans (hA8.mono hBr.size)
      have qD8 := (hA8.block _ (lt_of_heap qDr)).trans qDr
      have hd8 := hdr.below hA8
      go_wp2_with fail
      generalize wr.alloc (.cells #[.int .u8 1] 5) = W8 at HFi hB8 qD8 hd8 hA8 qO ⊢
      refine HFi.mono ?_
      intro e w9 hF9
      have hb9 := hF9.below
      have he : e = .returned (.tuple #[.agg #[.int .i64 0, .int .i64 0, .slice none 0 0, .slice none 0 0, .slice none 0 0], .int .i64 8]) := by
        rcases hF9.out with ⟨ec, he, ⟨hz, _⟩ | ⟨_, _, h8⟩⟩ | ⟨_, hz, _⟩
        · rw [HD.out] at hz; cases hz
        · rw [he, h8]
        · rw [HPM.out] at hz; omega
      subst he
      dsimp only
      have hB9 := hB8.trans (hb9.mono hB8.size)
      have qD9 := (hb9.block _ (lt_of_heap qD8)).trans qD8
      have hd9 := hd8.below hb9
      have hA9 := (Below.refl w9.heap.size w9).alloc (Nat.le_refl _) (.cells #[.int .i64 0, .int .i64 0, .slice none 0 0, .slice none 0 0, .slice none 0 0] 36)
      have qDA := (hA9.block _ (lt_of_heap qD9)).trans qD9
      have hdA := hd9.below hA9
      have hBA := hB9.trans (hA9.mono hB9.size)
      have dA := cells_at qDA 0 _ rfl
      have HCk := dagCheck_any ks (some ⟨kb, ko, none⟩) _ kc _ rfl hdA (HT.out _ hBA)
      rw [HD.out] at HCk
      clear hF9 HFi d0
      go_wp2_with fail
      refine HCk.mono ?_
      rintro e wz ⟨he, hbz⟩
      subst he
      dsimp only
      have hBz := hBA.trans (hbz.mono hBA.size)
      have qDz := (hbz.block _ (lt_of_heap qDA)).trans qDA
      have dz := cells_at qDz 0 _ rfl
      have hposI : (0 : Int) < ks.length := by omega
      clear HCk
      go_wp2_with fail
      go_ret
      exact ⟨cvs ks, HG.out, .inl rfl, hBz⟩
set_option maxRecDepth 100000 in
theorem dagClosed_walk (sa : Option Addr) (cap : Nat) (l : List Stp) (w : World) (hl : StepsAt w sa l) (hcl : l.length ≤ cap) (hc0 : sa = none → cap = 0) (hc1 : l.length * 24 ≤ 140737488351232) (hT : Tabs w) :
    Calls Tryd.prog 3 #[.slice sa l.length cap] w fun e w' => e = .returned (.bool true) ∧ Below w.heap.size w w' := by
  have H := dagClosed_any sa cap l w hl hcl hc0 hc1 hT
  go_enter Tryd.func3, Tryd.ntmps3
  go_wp2_with fail
  refine H.mono ?_
  rintro e w1 ⟨cc, hG, hor, hb1⟩
  rcases hor with he | ⟨he, hco⟩
  · subst he
    dsimp only
    go_wp2_with fail
    go_ret
    exact ⟨rfl, hb1⟩
  · subst he
    dsimp only
    obtain ⟨K, I, h1, h2, h3, h4⟩ := hco
    have H2 := grownSum_true l sa cap w1 cc I K (hl.below hb1) hcl hc0 hc1 hG h1 h2 h3 h4 (hT.below hb1)
    clear H hG hcl hc0 hc1
    go_wp2_with fail
    refine H2.mono ?_
    rintro e w2 ⟨he, hb2⟩
    subst he
    dsimp only
    go_wp2_with fail
    go_ret
    exact ⟨rfl, hb1.trans (hb2.mono hb1.size)⟩
end Go.Proofs.YtnpjhpmgelaonaaDoor
