/- DagBad: the walk. -/
import Derived.Test.YtnpjhpmgelaonaaDoorGKGrown
import Derived.Test.YtnpjhpmgelaonaaDoorQBadF
import Derived.Test.YtnpjhpmgelaonaaDoorQDChkC
import Derived.Test.YtnpjhpmgelaonaaDoorQKDigs
namespace Go.Proofs.YtnpjhpmgelaonaaDoor
open Go.RowKit

set_option maxRecDepth 100000 in
theorem makeCert (w : World) : (Instr.makeSlice 25 (.int .i64 1) (.int .i64 1)).run Tryd.prog w = .ok (.slice (some ⟨w.heap.size, 0, none⟩) 1 1) (w.alloc (.cells #[.int .i64 0, .int .i64 0, .slice none 0 0, .slice none 0 0, .slice none 0 0] 36)) := by kernel_rfl
set_option maxRecDepth 100000 in
theorem cert_row {w : World} {b : Nat} {c : Ct} (h : w.heap[b]? = some (.cells #[.int .i64 c.au, .int .i64 c.rd, .slice c.ba c.bl.length c.bc, .slice c.pa c.pl.length c.pc, .slice c.va c.vl.length c.vc] 36 (0, 0))) : ∀ j u, (Ct.cs c)[j]? = some u → w.cell? ((⟨b, 0, none⟩ : Addr).add j) = some u := by
  intro j u hu
  rw [add_off, Nat.zero_add]
  have h5 : j < 5 := by
    rcases Nat.lt_or_ge j 5 with g | g
    · exact g
    · rw [List.getElem?_eq_none (by simpa [Ct.cs] using g)] at hu; cases hu
  match j, h5 with
  | 0, _ => exact cells_at h 0 u (by simpa [Ct.cs] using hu)
  | 1, _ => exact cells_at h 1 u (by simpa [Ct.cs] using hu)
  | 2, _ => exact cells_at h 2 u (by simpa [Ct.cs] using hu)
  | 3, _ => exact cells_at h 3 u (by simpa [Ct.cs] using hu)
  | 4, _ => exact cells_at h 4 u (by simpa [Ct.cs] using hu)
set_option maxRecDepth 100000 in
theorem ct_one (c : Ct) : ∀ u ∈ c.cs, u.oneCell' = true := by
  intro u hu
  simp [Ct.cs] at hu
  rcases hu with rfl | rfl | rfl | rfl | rfl <;> rfl
set_option maxRecDepth 100000 in
set_option maxHeartbeats 4000000 in
theorem dagBad_any (sa : Option Addr) (cap : Nat) (l : List Stp) (n : Int) (w : World) (hl : StepsAt w sa l) (hcl : l.length ≤ cap) (hc0 : sa = none → cap = 0) (hc1 : l.length * 24 ≤ 140737488351232) (hn1 : -9223372036854775808 ≤ n) (hn2 : n ≤ 9223372036854775807) (hT : Tabs w) :
    Calls Tryd.prog 19 #[.slice sa l.length cap, .int .i64 n] w fun e w' => ∃ cc, GrownTo (s0 :: l) (min (l.length + 1) 24) cc ∧ (e = .returned (.bool true) ∨ (e = .returned (.bool false) ∧ Coll cc)) ∧ Below w.heap.size w w' := by
  have hnil : sa = none → l.length = 0 ∧ cap = 0 := fun h => by have := hc0 h; omega
  have H := grown_any l sa _ cap w rfl hl hnil hc1 hT
  have HT : Hid (∀ W : World, Below w.heap.size w W → Tabs W) := by
    show ∀ W, _
    exact fun W hW => hT.below hW
  clear hT hnil hc0 hc1 hcl
  go_enter Tryd.func19, Tryd.ntmps19
  go_wp2_with fail
  refine H.mono ?_
  rintro e w1 ⟨ka, kc, ks, ba, bc, bl, he, hG, hd, hnew, ho, hoff, hV, hb1⟩
  subst he
  dsimp only
  have hpos : 0 < ks.length := by have := grown_some (by omega) hG; rw [cvs_length] at this; exact this
  have HD : Hid (dagF (cvs ks) = 0) := hG.dag
  have HG : Hid (GrownTo (s0 :: l) (min (l.length + 1) 24) (cvs ks)) := hG
  have hle : ks.length ≤ 24 := by have := hG.len; rw [cvs_length] at this; omega
  have hA1 := (Below.refl w1.heap.size w1).alloc (Nat.le_refl _) (.cells #[.slice ka ks.length kc] 27)
  have qD := heap_alloc_new w1 (.cells #[.slice ka ks.length kc] 27)
  have hd2 := hd.below hA1
  have hB2 := hb1.trans (hA1.mono hb1.size)
  have hgD : w.heap.size ≤ w1.heap.size := hb1.size
  have hdlt : ∀ b, DagIn ka ks b → b < w1.heap.size := fun b hb => by
    rcases hb with ⟨so, e⟩ | ⟨c', hc', hq⟩
    · exact dag_row_lt hd hpos b so e
    · exact (hd.each c' hc').block_lt b hq
  clear hG hV ho hoff hnew hd H hl
  have HHF : Hid (∀ c ∈ ks, headerF c.au c.rd c.bl c.pl = 0) := by
    show ∀ c, _
    intro c hc
    obtain ⟨j, hj, rfl⟩ := List.getElem_of_mem hc
    have h2 := dagF_f HD.out j (by rw [cvs_length]; exact hj)
    rw [cvAt_get ks j hj] at h2
    rw [Ct.hf_v]; exact certF_head (vl := (ks[j]).vl) h2
  have hposI : ¬ ((ks.length : Int) = 0) := by omega
  go_upto_region 4 with fail
  generalize w1.alloc (.cells #[.slice ka ks.length kc] 27) = W2 at hA1 qD hd2 hB2 ⊢
  clear hA1
  generalize w1.heap.size = D at qD hgD hdlt ⊢
  obtain ⟨kb, ko, hkae, hcc⟩ : ∃ kb ko, ka = some ⟨kb, ko, none⟩ ∧ ∀ j (h : j < ks.length), W2.cell? ⟨kb, ko + j * 5, none⟩ = some (.int .i64 (ks[j]).au) ∧ W2.cell? ⟨kb, ko + j * 5 + 1, none⟩ = some (.int .i64 (ks[j]).rd) ∧ W2.cell? ⟨kb, ko + j * 5 + 2, none⟩ = some (.slice (ks[j]).ba (ks[j]).bl.length (ks[j]).bc) ∧ W2.cell? ⟨kb, ko + j * 5 + 3, none⟩ = some (.slice (ks[j]).pa (ks[j]).pl.length (ks[j]).pc) ∧ W2.cell? ⟨kb, ko + j * 5 + 4, none⟩ = some (.slice (ks[j]).va (ks[j]).vl.length (ks[j]).vc) := by
    rcases hd2.certs.cells with h | h
    · rw [h] at hpos; simp at hpos
    · exact h
  subst hkae
  have HCC : Hid _ := hcc
  clear hcc hdlt
  have hkb2 : kb < W2.heap.size := block_lt_of_cell (HCC.out 0 hpos).1
  go_wp2_with fail
  go_loopw [7] (fun j wr => ∃ i : Nat, i ≤ ks.length ∧ j = .int .i64 i ∧ Below W2.heap.size W2 wr) (fun j _ => ks.length - (intOf j).toNat)
  case atStart => exact ⟨0, Nat.zero_le _, rfl, Below.refl _ _⟩
  case round =>
    obtain ⟨i, hi, rfl, hbr⟩ := hrel
    have hBr := hB2.trans (hbr.mono hB2.size)
    have qDr := (hbr.block _ (lt_of_heap qD)).trans qD
    have d0 := cells_at qDr 0 _ rfl
    by_cases hlt : i < ks.length
    · have hltI : (i : Int) < ks.length := by omega
      obtain ⟨_, _, _, c3, _⟩ := HCC.out i hlt
      have g3 := (hbr.cell (p := ⟨kb, ko + i * 5 + 3, none⟩) hkb2).trans c3
      have hCt := hd2.each (ks[i]) (List.getElem_mem hlt)
      have HVI : Hid (cvAt (cvs ks) i = (ks[i]).v) := cvAt_get ks i hlt
      have HPF : Hid ((ks[i]).pl.length ≤ 4) := (headerF_ok (HHF.out _ (List.getElem_mem hlt))).2.2.2.1
      generalize ks[i] = h at c3 g3 hCt HVI HPF
      by_cases hp0 : h.pl.length = 0
      · have hp0I : ((h.pl.length : Int) == 0) = true := by rw [hp0]; rfl
        rw [hp0] at c3 g3
        clear hp0I
        go_wp2_with fail
        go_roundw
        case rel => exact ⟨i + 1, by omega, by go_num, hbr⟩
        case measure => simp [intOf]; omega
      · have hp0I : ((h.pl.length : Int) == 0) = false := by simpa using hp0
        have hpp : 0 < h.pl.length := by omega
        obtain ⟨m, hm⟩ : ∃ m : Nat, pk n h.pl.length = (m : Int) := ⟨(pk n h.pl.length).toNat, by have := (pk_bounds n h.pl.length (by omega)).1; omega⟩
        have hml : m < h.pl.length := by have := (pk_bounds n h.pl.length (by omega)).2; omega
        have hmlI : (m : Int) < h.pl.length := by omega
        have hp4 := HPF.out
        have HP : Hid (∀ V : World, Calls Tryd.prog 12 #[.int .i64 n, .int .i64 h.pl.length] V fun e w' => e = .returned (.int .i64 m) ∧ V = w') := by
          show ∀ V, _
          intro V
          rw [← hm]
          exact picked_any n h.pl.length V hn1 hn2 (by omega) (by omega)
        obtain ⟨pb, po, hpe, hpc⟩ : ∃ pb po, h.pa = some ⟨pb, po, none⟩ ∧ ∀ j (g : j < h.pl.length), W2.cell? ⟨pb, po + j, none⟩ = some (.slice (h.pl[j]).sa (h.pl[j]).bs.length (h.pl[j]).cap) := by
          rcases hCt.hat.lp.parts.cells with g | g
          · rw [g] at hpp; simp at hpp
          · exact g
        have m0 := hpc m hml
        have hSq := hCt.hat.lp.parts.each (h.pl[m]) (List.getElem_mem hml)
        obtain ⟨k, hk, hki, hbad⟩ := bad_or HD.out (i := i) (m := m) (by rw [cvs_length]; exact hlt) (by rw [HVI.out]; show m < (bss h.pl).length; rw [bss_length]; exact hml)
        have hpm : (cvAt (cvs ks) i).pl.getD m [] = (h.pl[m]).bs := by rw [HVI.out]; exact bss_get h.pl m hml
        rw [hpm] at hk
        have HK : Hid _ := hk
        have HBD : Hid _ := hbad
        clear hpc hm hk hbad hpm
        generalize h.pl[m] = q at m0 hSq HK
        have hpb2 : pb < W2.heap.size := block_lt_of_cell m0
        have r0 := (hbr.cell (p := ⟨pb, po + m, none⟩) hpb2).trans m0
        rw [hpe] at g3
        have hdr := hd2.below hbr
        have hSr := hSq.below hbr
        obtain ⟨VR, hVR⟩ : ∃ VR, VR = wr := ⟨_, rfl⟩
        subst hVR
        have HDO : Hid (∀ V : World, Below VR.heap.size VR V → Calls Tryd.prog 20 #[.agg #[.slice (some ⟨kb, ko, none⟩) ks.length kc]] V fun e w' => (∃ da dc, ∃ ds : List Part, e = .returned (.slice da ds.length dc) ∧ ListAt w' da dc ds ∧ Hid (atF (bss ds) q.bs = (k : Int))) ∧ Below V.heap.size V w') := by
          show ∀ V, _
          intro V hV
          refine (digestsOf_any ks _ _ kc V rfl (by omega) (hdr.below hV) HHF.out (HT.out V (hBr.trans (hV.mono hBr.size)))).mono ?_
          intro e w' hDg
          obtain ⟨da, dc, ds, he, hds, hLd, _⟩ := hDg.out
          refine ⟨⟨da, dc, ds, he, hLd, ?_⟩, hDg.below⟩
          show _ = _
          rw [hds, atF_pOf]; exact HK.out
        go_upto_region 8 with fail
        go_cut [8] from 22 to 95 (fun v wx => v = .int .i64 (k : Int) ∧ Below VR.heap.size VR wx)
        case first =>
          have hV0 : Below VR.heap.size VR VR.drew := (Below.refl _ _).drew
          refine wp_region_held_drew (S := fun w' => w'.cell? ⟨D, 0, none⟩ = some (.slice (some ⟨kb, ko, none⟩) ks.length kc) ∧ w'.cell? ⟨kb, ko + i * 5 + 3, none⟩ = some (.slice (some ⟨pb, po, none⟩) h.pl.length h.pc) ∧ w'.cell? ⟨pb, po + m, none⟩ = some (.slice q.sa q.bs.length q.cap)) (by kernel_rfl) ⟨(hV0.cell (p := ⟨D, 0, none⟩) (block_lt_of_cell d0)).trans d0, (hV0.cell (p := ⟨kb, ko + i * 5 + 3, none⟩) (block_lt_of_cell g3)).trans g3, (hV0.cell (p := ⟨pb, po + m, none⟩) (block_lt_of_cell r0)).trans r0⟩ (fun hHeld => ?_)
          generalize VR.drew = V0 at hV0  hHeld ⊢
          refine take_dst (i := 0) (d := 38) (v := .agg #[.slice (some ⟨kb, ko, none⟩) ks.length kc]) rfl rfl (by kernel_rfl) (by kernel_rfl) (by kernel_rfl) (fun _ _ _ h => h) (Or.inl ⟨by rfl, ?_⟩) hHeld ?_
          · (intro w0 hSw; (try dsimp only at hSw); go_simp)
          simp only [Act.put, List.setIfInBounds_toArray, List.set_cons_zero, List.set_cons_succ]
          refine take_dst (i := 2) (d := 40) (v := .pointer (some ⟨D, 0, none⟩)) rfl rfl (by kernel_rfl) (by kernel_rfl) (by kernel_rfl) (fun _ _ _ h => h) (Or.inl ⟨by rfl, ?_⟩) hHeld ?_
          · (intro w0 hSw; (try dsimp only at hSw); go_simp)
          simp only [Act.put, List.setIfInBounds_toArray, List.set_cons_zero, List.set_cons_succ]
          refine take_dst (i := 3) (d := 41) (v := .slice (some ⟨kb, ko, none⟩) ks.length kc) rfl rfl (by kernel_rfl) (by kernel_rfl) (by kernel_rfl) (fun _ _ _ h => h) (Or.inl ⟨by rfl, ?_⟩) hHeld ?_
          · (intro w0 hSw; (try dsimp only at hSw); go_simp)
          simp only [Act.put, List.setIfInBounds_toArray, List.set_cons_zero, List.set_cons_succ]
          refine take_dst (i := 4) (d := 42) (v := .int .i64 (i : Int)) rfl rfl (by kernel_rfl) (by kernel_rfl) (by kernel_rfl) (fun _ _ _ h => h) (Or.inl ⟨by rfl, ?_⟩) hHeld ?_
          · (intro w0 hSw; (try dsimp only at hSw); go_simp)
          simp only [Act.put, List.setIfInBounds_toArray, List.set_cons_zero, List.set_cons_succ]
          refine take_dst (i := 5) (d := 43) (v := .pointer (some ⟨kb, ko + i * 5, none⟩)) rfl rfl (by kernel_rfl) (by kernel_rfl) (by kernel_rfl) (fun _ _ _ h => h) (Or.inl ⟨by rfl, ?_⟩) hHeld ?_
          · (intro w0 hSw; (try dsimp only at hSw); go_simp)
          simp only [Act.put, List.setIfInBounds_toArray, List.set_cons_zero, List.set_cons_succ]
          refine take_dst (i := 6) (d := 44) (v := .pointer (some ⟨kb, ko + i * 5, none⟩)) rfl rfl (by kernel_rfl) (by kernel_rfl) (by kernel_rfl) (fun _ _ _ h => h) (Or.inl ⟨by rfl, ?_⟩) hHeld ?_
          · (intro w0 hSw; (try dsimp only at hSw); go_simp)
          simp only [Act.put, List.setIfInBounds_toArray, List.set_cons_zero, List.set_cons_succ]
          refine take_dst (i := 7) (d := 45) (v := .pointer (some ⟨kb, ko + i * 5 + 3, none⟩)) rfl rfl (by kernel_rfl) (by kernel_rfl) (by kernel_rfl) (fun _ _ _ h => h) (Or.inl ⟨by rfl, ?_⟩) hHeld ?_
          · (intro w0 hSw; (try dsimp only at hSw); go_simp)
          simp only [Act.put, List.setIfInBounds_toArray, List.set_cons_zero, List.set_cons_succ]
          refine take_dst (i := 8) (d := 46) (v := .slice (some ⟨pb, po, none⟩) h.pl.length h.pc) rfl rfl (by kernel_rfl) (by kernel_rfl) (by kernel_rfl) (fun _ _ _ h => h) (Or.inl ⟨by rfl, ?_⟩) hHeld ?_
          · (intro w0 hSw; (try dsimp only at hSw); go_simp)
          simp only [Act.put, List.setIfInBounds_toArray, List.set_cons_zero, List.set_cons_succ]
          refine take_dst (i := 9) (d := 47) (v := .int .i64 n) rfl rfl (by kernel_rfl) (by kernel_rfl) (by kernel_rfl) (fun _ _ _ h => h) (Or.inl ⟨by rfl, ?_⟩) hHeld ?_
          · (intro w0 hSw; (try dsimp only at hSw); go_simp)
          simp only [Act.put, List.setIfInBounds_toArray, List.set_cons_zero, List.set_cons_succ]
          refine take_dst (i := 10) (d := 48) (v := .pointer (some ⟨D, 0, none⟩)) rfl rfl (by kernel_rfl) (by kernel_rfl) (by kernel_rfl) (fun _ _ _ h => h) (Or.inl ⟨by rfl, ?_⟩) hHeld ?_
          · (intro w0 hSw; (try dsimp only at hSw); go_simp)
          simp only [Act.put, List.setIfInBounds_toArray, List.set_cons_zero, List.set_cons_succ]
          refine take_dst (i := 11) (d := 49) (v := .slice (some ⟨kb, ko, none⟩) ks.length kc) rfl rfl (by kernel_rfl) (by kernel_rfl) (by kernel_rfl) (fun _ _ _ h => h) (Or.inl ⟨by rfl, ?_⟩) hHeld ?_
          · (intro w0 hSw; (try dsimp only at hSw); go_simp)
          simp only [Act.put, List.setIfInBounds_toArray, List.set_cons_zero, List.set_cons_succ]
          refine take_dst (i := 12) (d := 50) (v := .int .i64 (i : Int)) rfl rfl (by kernel_rfl) (by kernel_rfl) (by kernel_rfl) (fun _ _ _ h => h) (Or.inl ⟨by rfl, ?_⟩) hHeld ?_
          · (intro w0 hSw; (try dsimp only at hSw); go_simp)
          simp only [Act.put, List.setIfInBounds_toArray, List.set_cons_zero, List.set_cons_succ]
          refine take_dst (i := 13) (d := 51) (v := .pointer (some ⟨kb, ko + i * 5, none⟩)) rfl rfl (by kernel_rfl) (by kernel_rfl) (by kernel_rfl) (fun _ _ _ h => h) (Or.inl ⟨by rfl, ?_⟩) hHeld ?_
          · (intro w0 hSw; (try dsimp only at hSw); go_simp)
          simp only [Act.put, List.setIfInBounds_toArray, List.set_cons_zero, List.set_cons_succ]
          refine take_dst (i := 14) (d := 52) (v := .pointer (some ⟨kb, ko + i * 5, none⟩)) rfl rfl (by kernel_rfl) (by kernel_rfl) (by kernel_rfl) (fun _ _ _ h => h) (Or.inl ⟨by rfl, ?_⟩) hHeld ?_
          · (intro w0 hSw; (try dsimp only at hSw); go_simp)
          simp only [Act.put, List.setIfInBounds_toArray, List.set_cons_zero, List.set_cons_succ]
          refine take_dst (i := 15) (d := 53) (v := .pointer (some ⟨kb, ko + i * 5 + 3, none⟩)) rfl rfl (by kernel_rfl) (by kernel_rfl) (by kernel_rfl) (fun _ _ _ h => h) (Or.inl ⟨by rfl, ?_⟩) hHeld ?_
          · (intro w0 hSw; (try dsimp only at hSw); go_simp)
          simp only [Act.put, List.setIfInBounds_toArray, List.set_cons_zero, List.set_cons_succ]
          refine take_dst (i := 16) (d := 54) (v := .slice (some ⟨pb, po, none⟩) h.pl.length h.pc) rfl rfl (by kernel_rfl) (by kernel_rfl) (by kernel_rfl) (fun _ _ _ h => h) (Or.inl ⟨by rfl, ?_⟩) hHeld ?_
          · (intro w0 hSw; (try dsimp only at hSw); go_simp)
          simp only [Act.put, List.setIfInBounds_toArray, List.set_cons_zero, List.set_cons_succ]
          refine take_dst (i := 17) (d := 55) (v := .int .i64 (h.pl.length : Int)) rfl rfl (by kernel_rfl) (by kernel_rfl) (by kernel_rfl) (fun _ _ _ h => h) (Or.inl ⟨by rfl, ?_⟩) hHeld ?_
          · (intro w0 hSw; (try dsimp only at hSw); go_simp)
          simp only [Act.put, List.setIfInBounds_toArray, List.set_cons_zero, List.set_cons_succ]
          clear hHeld
          refine any_named (fun GO hGo hGi => ?_)
          refine act_named (fun A0 hA0 => ?_)
          have st_DPA : Hid (∀ (V : World) (da : Option Addr) (dc : Nat) (ds : List Part), Below VR.heap.size VR V → (ListAt V da dc ds) → (Hid (atF (bss ds) q.bs = (k : Int))) → GO 0 #[true, true, true, true, true, true, true, true, true, true, true, true, true, true, true, true, true, true, true, true, true, true, true] ((((((A0.put (some 39) (.slice da ds.length dc)).put (some 56) (.int .i64 (m : Int))).put (some 57) (.pointer (some ⟨pb, po + m, none⟩))).put (some 58) (.slice q.sa q.bs.length q.cap)).put (some 59) (.int .i64 (k : Int))).put (some 8) (.int .i64 (k : Int))) V) := by
            show ∀ V, _
            intro V da dc ds hB hLd HA
            refine hGo.out _ _ _ _ ?_
            rw [← hA0.out]
            try simp only [Act.put, List.setIfInBounds_toArray, List.set_cons_zero, List.set_cons_succ]
            refine wpAnyH_done (by kernel_rfl) ?_ _
            go_wp2_with fail
            go_meet
            case rel => exact ⟨rfl, hB⟩
          have st_DP : Hid (∀ (V : World) (da : Option Addr) (dc : Nat) (ds : List Part), Below VR.heap.size VR V → (ListAt V da dc ds) → (Hid (atF (bss ds) q.bs = (k : Int))) → GO 2 #[true, true, true, true, true, true, true, true, true, true, true, true, true, true, true, true, true, true, true, true, true, false, false] ((((A0.put (some 39) (.slice da ds.length dc)).put (some 56) (.int .i64 (m : Int))).put (some 57) (.pointer (some ⟨pb, po + m, none⟩))).put (some 58) (.slice q.sa q.bs.length q.cap)) V) := by
            show ∀ V, _
            intro V da dc ds hB hLd HA
            refine hGo.out _ _ _ _ ?_
            rw [← hA0.out]
            try simp only [Act.put, List.setIfInBounds_toArray, List.set_cons_zero, List.set_cons_succ]
            refine wpAnyH_ready (rs := [21]) (by kernel_rfl) (by simp) (AllReadyH.cons rfl (fun K hK => ?_) AllReadyH.nil)
            refine step_calls_dst rfl 59 rfl 23 [.tmp 39, .tmp 58] #[31, 41] rfl [.slice da ds.length dc, .slice q.sa q.bs.length q.cap] rfl (enters_of Tryd.func23 (by kernel_rfl) rfl) (fun v w' => v = .int .i64 (k : Int) ∧ V = w') ((at_any ds da _ dc q.bs q.sa _ q.cap V rfl rfl hLd (hSr.below hB)).mono (fun e w2 h => ⟨_, by rw [h.1, HA.out], rfl, h.2⟩)) ?_
            rintro v W' ⟨rfl, hwq⟩
            subst hwq
            refine hK.out _ _ ⟨(hB.cell (p := ⟨D, 0, none⟩) (block_lt_of_cell d0)).trans d0, (hB.cell (p := ⟨kb, ko + i * 5 + 3, none⟩) (block_lt_of_cell g3)).trans g3, (hB.cell (p := ⟨pb, po + m, none⟩) (block_lt_of_cell r0)).trans r0⟩ (fun hHeld => ?_)
            simp only [Act.put, List.setIfInBounds_toArray, List.set_cons_zero, List.set_cons_succ]
            refine take_dst (i := 22) (d := 8) (v := .int .i64 (k : Int)) rfl rfl (by kernel_rfl) (by kernel_rfl) (by kernel_rfl) (fun _ _ _ h => h) (Or.inl ⟨by rfl, ?_⟩) hHeld ?_
            · (intro w0 hSw; (try dsimp only at hSw); go_simp)
            simp only [Act.put, List.setIfInBounds_toArray, List.set_cons_zero, List.set_cons_succ]
            clear hHeld
            have h := st_DPA.out V da dc ds hB hLd HA
            rw [← hA0.out] at h
            (try simp only [Act.put, List.setIfInBounds_toArray, List.set_cons_zero, List.set_cons_succ] at h)
            (try simp only [Act.put, List.setIfInBounds_toArray, List.set_cons_zero, List.set_cons_succ])
            exact hGi.out _ _ _ _ h
          have st_D : Hid (∀ (V : World) (da : Option Addr) (dc : Nat) (ds : List Part), Below VR.heap.size VR V → (ListAt V da dc ds) → (Hid (atF (bss ds) q.bs = (k : Int))) → GO 5 #[true, true, true, true, true, true, true, true, true, true, true, true, true, true, true, true, true, true, false, false, false, false, false] (A0.put (some 39) (.slice da ds.length dc)) V) := by
            show ∀ V, _
            intro V da dc ds hB hLd HA
            refine hGo.out _ _ _ _ ?_
            rw [← hA0.out]
            try simp only [Act.put, List.setIfInBounds_toArray, List.set_cons_zero, List.set_cons_succ]
            refine wpAnyH_ready (rs := [18]) (by kernel_rfl) (by simp) (AllReadyH.cons rfl (fun K hK => ?_) AllReadyH.nil)
            refine step_calls_dst rfl 56 rfl 12 [.tmp 47, .tmp 55] #[3, 3] rfl [.int .i64 n, .int .i64 (h.pl.length : Int)] rfl (enters_of Tryd.func12 (by kernel_rfl) rfl) (fun v w' => v = .int .i64 (m : Int) ∧ V = w') ((HP.out V).mono (fun e w2 h => ⟨_, h.1, rfl, h.2⟩)) ?_
            rintro v W' ⟨rfl, hwq⟩
            subst hwq
            refine hK.out _ _ ⟨(hB.cell (p := ⟨D, 0, none⟩) (block_lt_of_cell d0)).trans d0, (hB.cell (p := ⟨kb, ko + i * 5 + 3, none⟩) (block_lt_of_cell g3)).trans g3, (hB.cell (p := ⟨pb, po + m, none⟩) (block_lt_of_cell r0)).trans r0⟩ (fun hHeld => ?_)
            simp only [Act.put, List.setIfInBounds_toArray, List.set_cons_zero, List.set_cons_succ]
            refine take_dst (i := 19) (d := 57) (v := .pointer (some ⟨pb, po + m, none⟩)) rfl rfl (by kernel_rfl) (by kernel_rfl) (by kernel_rfl) (fun _ _ _ h => h) (Or.inl ⟨by rfl, ?_⟩) hHeld ?_
            · (intro w0 hSw; (try dsimp only at hSw); go_simp)
            simp only [Act.put, List.setIfInBounds_toArray, List.set_cons_zero, List.set_cons_succ]
            refine take_dst (i := 20) (d := 58) (v := .slice q.sa q.bs.length q.cap) rfl rfl (by kernel_rfl) (by kernel_rfl) (by kernel_rfl) (fun _ _ _ h => h) (Or.inl ⟨by rfl, ?_⟩) hHeld ?_
            · (intro w0 hSw; (try dsimp only at hSw); go_simp)
            simp only [Act.put, List.setIfInBounds_toArray, List.set_cons_zero, List.set_cons_succ]
            clear hHeld
            have h := st_DP.out V da dc ds hB hLd HA
            rw [← hA0.out] at h
            (try simp only [Act.put, List.setIfInBounds_toArray, List.set_cons_zero, List.set_cons_succ] at h)
            (try simp only [Act.put, List.setIfInBounds_toArray, List.set_cons_zero, List.set_cons_succ])
            exact hGi.out _ _ _ _ h
          have st_0 : Hid (∀ (V : World), Below VR.heap.size VR V → GO 6 #[true, false, true, true, true, true, true, true, true, true, true, true, true, true, true, true, true, true, false, false, false, false, false] A0 V) := by
            show ∀ V, _
            intro V  hB 
            refine hGo.out _ _ _ _ ?_
            rw [← hA0.out]
            try simp only [Act.put, List.setIfInBounds_toArray, List.set_cons_zero, List.set_cons_succ]
            refine wpAnyH_ready (rs := [1]) (by kernel_rfl) (by simp) (AllReadyH.cons rfl (fun K hK => ?_) AllReadyH.nil)
            refine step_calls_dst rfl 39 rfl 20 [.tmp 38] #[27] rfl [.agg #[.slice (some ⟨kb, ko, none⟩) ks.length kc]] rfl (enters_of Tryd.func20 (by kernel_rfl) rfl) (fun v w' => (∃ da dc, ∃ ds : List Part, v = .slice da ds.length dc ∧ ListAt w' da dc ds ∧ Hid (atF (bss ds) q.bs = (k : Int))) ∧ Below V.heap.size V w') ((HDO.out V hB).mono (fun e w2 h => by obtain ⟨⟨da, dc, ds, he, h1, h2⟩, hb⟩ := h; exact ⟨_, he, ⟨da, dc, ds, rfl, h1, h2⟩, hb⟩)) ?_
            rintro v W' ⟨⟨da, dc, ds, rfl, hLd_n, HA_n⟩, hb⟩
            have hBn := hB.trans (hb.mono hB.size)
            refine hK.out _ _ ⟨(hBn.cell (p := ⟨D, 0, none⟩) (block_lt_of_cell d0)).trans d0, (hBn.cell (p := ⟨kb, ko + i * 5 + 3, none⟩) (block_lt_of_cell g3)).trans g3, (hBn.cell (p := ⟨pb, po + m, none⟩) (block_lt_of_cell r0)).trans r0⟩ (fun hHeld => ?_)
            clear hHeld
            have h := st_D.out W' da dc ds hBn hLd_n HA_n
            rw [← hA0.out] at h
            (try simp only [Act.put, List.setIfInBounds_toArray, List.set_cons_zero, List.set_cons_succ] at h)
            (try simp only [Act.put, List.setIfInBounds_toArray, List.set_cons_zero, List.set_cons_succ])
            exact hGi.out _ _ _ _ h
          exact st_0.out V0 hV0 
        case rest =>
          obtain ⟨rfl, hb4⟩ := hcut
          have hb24 := hbr.trans (hb4.mono hbr.size)
          have hB4 := hB2.trans (hb24.mono hB2.size)
          clear r0 g3 d0 HDO HP hSr hdr
          obtain ⟨W4, hW4⟩ : ∃ W4, W4 = wc := ⟨_, rfl⟩
          subst hW4
          have qD4 := (hb24.block _ (lt_of_heap qD)).trans qD
          have hkb4 : kb < W4.heap.size := Nat.lt_of_lt_of_le hkb2 hb24.size
          have hD4 : D < W4.heap.size := lt_of_heap qD4
          have hA5 := (Below.refl W4.heap.size W4).alloc (Nat.le_refl _) (.cells #[.slice none 0 0] 27)
          have qX5 := heap_alloc_new W4 (.cells #[.slice none 0 0] 27)
          obtain ⟨ic, hic, hz0, hz1, hz2⟩ := info_parts infoCert
          have HK2 : Hid (k < ks.length) := by show _ < _; omega
          go_wp2_with fail
          generalize W4.alloc (.cells #[.slice none 0 0] 27) = W5 at hA5 qX5 ⊢
          obtain ⟨X, hX⟩ : ∃ X, X = W4.heap.size := ⟨_, rfl⟩
          rw [← hX] at qX5 ⊢
          have hX4 : W4.heap.size ≤ X := Nat.le_of_eq hX.symm
          clear hX
          go_loopw [10] (fun jv wr => ∃ (j : Nat) (v : Value), j ≤ ks.length ∧ jv = .int .i64 j ∧ wr.heap[X]? = some (.cells #[v] 27 (0, 0)) ∧ wr.ownsRow W4.heap.size 36 5 v (ersT ks k j).length (ctv (ersT ks k j)) ∧ Below W4.heap.size W4 wr) (fun j _ => ks.length - (intOf j).toNat)
          case atStart => exact ⟨0, _, Nat.zero_le _, rfl, qX5, World.ownsRow_nil _ _ _ _, hA5⟩
          case round =>
            obtain ⟨j, v, hj, rfl, qX, hov, hb6⟩ := hrel
            have hb26 := hb24.trans (hb6.mono hb24.size)
            have qD6 := (hb6.block _ hD4).trans qD4
            have d0 := cells_at qD6 0 _ rfl
            have hyl := ersT_le ks k j
            by_cases hjl : j < ks.length
            · have hjlI : (j : Int) < ks.length := by omega
              by_cases hjk : j = k
              · subst hjk
                have HST : Hid (ersT ks j (j + 1) = ersT ks j j) := by show _ = _; rw [ersT, if_pos rfl]
                go_wp2_with fail
                go_roundw
                case rel => exact ⟨j + 1, v, by omega, by go_num, qX, by rw [HST.out]; exact hov, hb6⟩
                case measure => simp [intOf]; omega
              · have hjkI : ((j : Int) != (k : Int)) = true := by simp; omega
                have HST : Hid (ctv (ersT ks k (j + 1)) = ctv (ersT ks k j) ++ Ct.cs (ks[j]) ∧ (ersT ks k (j + 1)).length = (ersT ks k j).length + 1) := by
                  rw [ersT, if_neg hjk, ctv_snoc]
                  refine ⟨?_, by simp⟩
                  simp [hjl]
                obtain ⟨c0, c1, c2, c3', c4⟩ := HCC.out j hjl
                have e0 := (hb26.cell (p := ⟨kb, ko + j * 5, none⟩) hkb2).trans c0
                have e1 := (hb26.cell (p := ⟨kb, ko + j * 5 + 1, none⟩) hkb2).trans c1
                have e2 := (hb26.cell (p := ⟨kb, ko + j * 5 + 2, none⟩) hkb2).trans c2
                have e3 := (hb26.cell (p := ⟨kb, ko + j * 5 + 3, none⟩) hkb2).trans c3'
                have e4 := (hb26.cell (p := ⟨kb, ko + j * 5 + 4, none⟩) hkb2).trans c4
                have w0 := (hb24.cell (p := ⟨kb, ko + j * 5, none⟩) hkb2).trans c0
                have w1' := (hb24.cell (p := ⟨kb, ko + j * 5 + 1, none⟩) hkb2).trans c1
                have w2' := (hb24.cell (p := ⟨kb, ko + j * 5 + 2, none⟩) hkb2).trans c2
                have w3' := (hb24.cell (p := ⟨kb, ko + j * 5 + 3, none⟩) hkb2).trans c3'
                have w4' := (hb24.cell (p := ⟨kb, ko + j * 5 + 4, none⟩) hkb2).trans c4
                have wD := cells_at qD4 0 _ rfl
                clear hjk c0 c1 c2 c3' c4 e0 e1 e2 e3 e4 d0
                generalize hYe : ersT ks k j = ys at hov HST hyl
                clear hYe
                generalize ks[j] = c at w0 w1' w2' w3' w4' HST
                have d0 := cells_at qD6 0 _ rfl
                obtain ⟨VQ, hVQ⟩ : ∃ VQ, VQ = wr := ⟨_, rfl⟩
                subst hVQ
                go_upto_region 14 with fail
                have hV0 : Below W4.heap.size W4 VQ.drew := (hb6).drew
                have qX_i : VQ.drew.heap[X]? = some (.cells #[v] 27 (0, 0)) := qX
                have hov_i : VQ.drew.ownsRow W4.heap.size 36 5 v ys.length (ctv ys) := hov.drew
                refine wp_region_held_drew (S := fun w' => w'.cell? ⟨D, 0, none⟩ = some (.slice (some ⟨kb, ko, none⟩) ks.length kc) ∧ w'.cell? ⟨kb, ko + j * 5, none⟩ = some (.int .i64 c.au) ∧ w'.cell? ⟨kb, ko + j * 5 + 1, none⟩ = some (.int .i64 c.rd) ∧ w'.cell? ⟨kb, ko + j * 5 + 2, none⟩ = some (.slice c.ba c.bl.length c.bc) ∧ w'.cell? ⟨kb, ko + j * 5 + 3, none⟩ = some (.slice c.pa c.pl.length c.pc) ∧ w'.cell? ⟨kb, ko + j * 5 + 4, none⟩ = some (.slice c.va c.vl.length c.vc)) (by kernel_rfl) ⟨(hV0.cell (p := ⟨D, 0, none⟩) (block_lt_of_cell wD)).trans wD, (hV0.cell (p := ⟨kb, ko + j * 5, none⟩) (block_lt_of_cell w0)).trans w0, (hV0.cell (p := ⟨kb, ko + j * 5 + 1, none⟩) (block_lt_of_cell w1')).trans w1', (hV0.cell (p := ⟨kb, ko + j * 5 + 2, none⟩) (block_lt_of_cell w2')).trans w2', (hV0.cell (p := ⟨kb, ko + j * 5 + 3, none⟩) (block_lt_of_cell w3')).trans w3', (hV0.cell (p := ⟨kb, ko + j * 5 + 4, none⟩) (block_lt_of_cell w4')).trans w4'⟩ (fun hHeld => ?_)
                generalize VQ.drew = V0 at hV0 qX_i hov_i hHeld ⊢
                refine take_dst (i := 0) (d := 70) (v := .pointer (some ⟨X, 0, none⟩)) rfl rfl (by kernel_rfl) (by kernel_rfl) (by kernel_rfl) (fun _ _ _ h => h) (Or.inl ⟨by rfl, ?_⟩) hHeld ?_
                · (intro w0 hSw; (try dsimp only at hSw); go_simp)
                simp only [Act.put, List.setIfInBounds_toArray, List.set_cons_zero, List.set_cons_succ]
                refine take_dst (i := 2) (d := 72) (v := .pointer (some ⟨D, 0, none⟩)) rfl rfl (by kernel_rfl) (by kernel_rfl) (by kernel_rfl) (fun _ _ _ h => h) (Or.inl ⟨by rfl, ?_⟩) hHeld ?_
                · (intro w0 hSw; (try dsimp only at hSw); go_simp)
                simp only [Act.put, List.setIfInBounds_toArray, List.set_cons_zero, List.set_cons_succ]
                refine take_dst (i := 3) (d := 73) (v := .slice (some ⟨kb, ko, none⟩) ks.length kc) rfl rfl (by kernel_rfl) (by kernel_rfl) (by kernel_rfl) (fun _ _ _ h => h) (Or.inl ⟨by rfl, ?_⟩) hHeld ?_
                · (intro w0 hSw; (try dsimp only at hSw); go_simp)
                simp only [Act.put, List.setIfInBounds_toArray, List.set_cons_zero, List.set_cons_succ]
                refine take_dst (i := 4) (d := 74) (v := .int .i64 (j : Int)) rfl rfl (by kernel_rfl) (by kernel_rfl) (by kernel_rfl) (fun _ _ _ h => h) (Or.inl ⟨by rfl, ?_⟩) hHeld ?_
                · (intro w0 hSw; (try dsimp only at hSw); go_simp)
                simp only [Act.put, List.setIfInBounds_toArray, List.set_cons_zero, List.set_cons_succ]
                refine take_dst (i := 5) (d := 75) (v := .pointer (some ⟨kb, ko + j * 5, none⟩)) rfl rfl (by kernel_rfl) (by kernel_rfl) (by kernel_rfl) (fun _ _ _ h => h) (Or.inl ⟨by rfl, ?_⟩) hHeld ?_
                · (intro w0 hSw; (try dsimp only at hSw); go_simp)
                simp only [Act.put, List.setIfInBounds_toArray, List.set_cons_zero, List.set_cons_succ]
                refine take_dst (i := 6) (d := 76) (v := .agg #[.int .i64 c.au, .int .i64 c.rd, .slice c.ba c.bl.length c.bc, .slice c.pa c.pl.length c.pc, .slice c.va c.vl.length c.vc]) rfl rfl (by kernel_rfl) (by kernel_rfl) (by kernel_rfl) (fun _ _ _ h => h) (Or.inl ⟨by rfl, ?_⟩) hHeld ?_
                · (intro w0 hSw; (try dsimp only at hSw); go_simp)
                simp only [Act.put, List.setIfInBounds_toArray, List.set_cons_zero, List.set_cons_succ]
                clear hHeld
                refine any_named (fun GO hGo hGi => ?_)
                refine act_named (fun A0 hA0 => ?_)
                have st_LMP : Hid (∀ (V : World) (bM : Nat) (v' : Value), Below W4.heap.size W4 V → (V.heap[X]? = some (.cells #[v] 27 (0, 0))) → (V.ownsRow W4.heap.size 36 5 v' (ys.length + 1) (ctv ys ++ Ct.cs c)) → GO 1 #[true, true, true, true, true, true, true, true, true, true, false] ((((A0.put (some 71) (v)).put (some 77) (.slice (some ⟨bM, 0, none⟩) 1 1)).put (some 78) (v')).put (some 79) (.pointer (some ⟨X, 0, none⟩))) V) := by
                  show ∀ V, _
                  intro V bM v' hB qX h'
                  refine hGo.out _ _ _ _ ?_
                  rw [← hA0.out]
                  try simp only [Act.put, List.setIfInBounds_toArray, List.set_cons_zero, List.set_cons_succ]
                  have xc0 := cells_at qX 0 _ rfl
                  have xf0 := frozen_at qX 0
                  obtain ⟨za, zc, hze⟩ := owns_shape h'
                  subst hze
                  refine wpAnyH_ready (rs := [10]) (by kernel_rfl) (by simp) (AllReadyH.cons rfl (fun K hK => ?_) AllReadyH.nil)
                  refine step_store rfl rfl (V.setCell ⟨X, 0, none⟩ (.slice za (ys.length + 1) zc)) (by go_simp) ?_
                  have hBs := hB.setCell (p := ⟨X, 0, none⟩) hX4 (.slice za (ys.length + 1) zc)
                  have qXs : (V.setCell ⟨X, 0, none⟩ (.slice za (ys.length + 1) zc)).heap[X]? = some (.cells #[.slice za (ys.length + 1) zc] 27 (0, 0)) := by simpa using heap_setCell_same _ _ 0 _ _ (.slice za (ys.length + 1) zc) qX
                  have hos := ownsRow_setCell_other h' (a := ⟨X, 0, none⟩) (row_box h' qX (by decide)) (.slice za (ys.length + 1) zc)
                  refine hK.out _ _ ⟨(hBs.cell (p := ⟨D, 0, none⟩) (block_lt_of_cell wD)).trans wD, (hBs.cell (p := ⟨kb, ko + j * 5, none⟩) (block_lt_of_cell w0)).trans w0, (hBs.cell (p := ⟨kb, ko + j * 5 + 1, none⟩) (block_lt_of_cell w1')).trans w1', (hBs.cell (p := ⟨kb, ko + j * 5 + 2, none⟩) (block_lt_of_cell w2')).trans w2', (hBs.cell (p := ⟨kb, ko + j * 5 + 3, none⟩) (block_lt_of_cell w3')).trans w3', (hBs.cell (p := ⟨kb, ko + j * 5 + 4, none⟩) (block_lt_of_cell w4')).trans w4'⟩ (fun hHeld => ?_)
                  clear hHeld
                  refine wpAnyH_done (by kernel_rfl) ?_ _
                  generalize V.setCell ⟨X, 0, none⟩ (.slice za (ys.length + 1) zc) = WS at hBs qXs hos ⊢
                  go_wp2_with fail
                  go_roundw
                  case rel => exact ⟨j + 1, _, by omega, by go_num, qXs, by rw [HST.out.1, HST.out.2]; exact hos, hBs⟩
                  case measure => simp [intOf]; omega
                have st_LM : Hid (∀ (V : World) (bM : Nat), Below W4.heap.size W4 V → (V.heap[X]? = some (.cells #[v] 27 (0, 0))) → (V.ownsRow W4.heap.size 36 5 v ys.length (ctv ys)) → (V.heap[bM]? = some (.cells #[.int .i64 c.au, .int .i64 c.rd, .slice c.ba c.bl.length c.bc, .slice c.pa c.pl.length c.pc, .slice c.va c.vl.length c.vc] 36 (0, 0))) → GO 3 #[true, true, true, true, true, true, true, true, false, false, false] ((A0.put (some 71) (v)).put (some 77) (.slice (some ⟨bM, 0, none⟩) 1 1)) V) := by
                  show ∀ V, _
                  intro V bM hB qX hov qM
                  refine hGo.out _ _ _ _ ?_
                  rw [← hA0.out]
                  try simp only [Act.put, List.setIfInBounds_toArray, List.set_cons_zero, List.set_cons_succ]
                  refine wpAnyH_ready (rs := [8]) (by kernel_rfl) (by simp) (AllReadyH.cons rfl (fun K hK => ?_) AllReadyH.nil)
                  refine step_append_at rfl _ _ 25 rfl W4.heap.size 36 ic (.agg #[.int .i64 0, .int .i64 0, .slice none 0 0, .slice none 0 0, .slice none 0 0]) 5 88 Tryd.underlying25 hic hz0 hz1 hz2 rfl (by decide) v ys.length _ rfl hov ⟨bM, 0, none⟩ 1 1 (Ct.cs c) rfl rfl (cert_row qM) (ct_one c) (by unfold maxLen; omega) (by omega) hB.size ?_
                  intro v' W' ho' G'
                  have h'_n := ho'
                  have hBn := hB.trans (G'.below hB.size (fun q e => (hov.lt q e).1))
                  have qX' := G'.row qX (row_box hov qX (by decide))
                  refine hK.out _ _ ⟨(hBn.cell (p := ⟨D, 0, none⟩) (block_lt_of_cell wD)).trans wD, (hBn.cell (p := ⟨kb, ko + j * 5, none⟩) (block_lt_of_cell w0)).trans w0, (hBn.cell (p := ⟨kb, ko + j * 5 + 1, none⟩) (block_lt_of_cell w1')).trans w1', (hBn.cell (p := ⟨kb, ko + j * 5 + 2, none⟩) (block_lt_of_cell w2')).trans w2', (hBn.cell (p := ⟨kb, ko + j * 5 + 3, none⟩) (block_lt_of_cell w3')).trans w3', (hBn.cell (p := ⟨kb, ko + j * 5 + 4, none⟩) (block_lt_of_cell w4')).trans w4'⟩ (fun hHeld => ?_)
                  simp only [Act.put, List.setIfInBounds_toArray, List.set_cons_zero, List.set_cons_succ]
                  refine take_dst (i := 9) (d := 79) (v := .pointer (some ⟨X, 0, none⟩)) rfl rfl (by kernel_rfl) (by kernel_rfl) (by kernel_rfl) (fun _ _ _ h => h) (Or.inl ⟨by rfl, ?_⟩) hHeld ?_
                  · (intro w0 hSw; (try dsimp only at hSw); go_simp)
                  simp only [Act.put, List.setIfInBounds_toArray, List.set_cons_zero, List.set_cons_succ]
                  clear hHeld
                  have h := st_LMP.out W' bM v' hBn qX' h'_n
                  rw [← hA0.out] at h
                  (try simp only [Act.put, List.setIfInBounds_toArray, List.set_cons_zero, List.set_cons_succ] at h)
                  (try simp only [Act.put, List.setIfInBounds_toArray, List.set_cons_zero, List.set_cons_succ])
                  exact hGi.out _ _ _ _ h
                have st_L : Hid (∀ (V : World), Below W4.heap.size W4 V → (V.heap[X]? = some (.cells #[v] 27 (0, 0))) → (V.ownsRow W4.heap.size 36 5 v ys.length (ctv ys)) → GO 4 #[true, true, true, true, true, true, true, false, false, false, false] (A0.put (some 71) (v)) V) := by
                  show ∀ V, _
                  intro V  hB qX hov
                  refine hGo.out _ _ _ _ ?_
                  rw [← hA0.out]
                  try simp only [Act.put, List.setIfInBounds_toArray, List.set_cons_zero, List.set_cons_succ]
                  refine wpAnyH_ready (rs := [7]) (by kernel_rfl) (by simp) (AllReadyH.cons rfl (fun K hK => ?_) AllReadyH.nil)
                  refine step_run rfl 77 rfl (.slice (some ⟨V.heap.size, 0, none⟩) 1 1) (V.alloc (.cells #[.int .i64 c.au, .int .i64 c.rd, .slice c.ba c.bl.length c.bc, .slice c.pa c.pl.length c.pc, .slice c.va c.vl.length c.vc] 36)) (by go_simp) ?_
                  have hA : Below V.heap.size V (V.alloc (.cells #[.int .i64 c.au, .int .i64 c.rd, .slice c.ba c.bl.length c.bc, .slice c.pa c.pl.length c.pc, .slice c.va c.vl.length c.vc] 36)) := (Below.refl _ _).alloc (Nat.le_refl _) _
                  have hBn := hB.trans (hA.mono hB.size)
                  have qM_n := heap_alloc_new V (.cells #[.int .i64 c.au, .int .i64 c.rd, .slice c.ba c.bl.length c.bc, .slice c.pa c.pl.length c.pc, .slice c.va c.vl.length c.vc] 36)
                  generalize hW' : V.alloc (.cells #[.int .i64 c.au, .int .i64 c.rd, .slice c.ba c.bl.length c.bc, .slice c.pa c.pl.length c.pc, .slice c.va c.vl.length c.vc] 36) = W' at hA hBn qM_n ⊢
                  clear hW'
                  obtain ⟨bM, hx_e⟩ : ∃ bM, bM = V.heap.size := ⟨_, rfl⟩
                  rw [← hx_e] at qM_n ⊢
                  have hA' := hA
                  clear hx_e
                  refine hK.out _ _ ⟨(hBn.cell (p := ⟨D, 0, none⟩) (block_lt_of_cell wD)).trans wD, (hBn.cell (p := ⟨kb, ko + j * 5, none⟩) (block_lt_of_cell w0)).trans w0, (hBn.cell (p := ⟨kb, ko + j * 5 + 1, none⟩) (block_lt_of_cell w1')).trans w1', (hBn.cell (p := ⟨kb, ko + j * 5 + 2, none⟩) (block_lt_of_cell w2')).trans w2', (hBn.cell (p := ⟨kb, ko + j * 5 + 3, none⟩) (block_lt_of_cell w3')).trans w3', (hBn.cell (p := ⟨kb, ko + j * 5 + 4, none⟩) (block_lt_of_cell w4')).trans w4'⟩ (fun hHeld => ?_)
                  clear hHeld
                  have h := st_LM.out W' bM hBn ((hA'.block _ (lt_of_heap qX)).trans qX) (owns_keep hov hA') qM_n
                  rw [← hA0.out] at h
                  (try simp only [Act.put, List.setIfInBounds_toArray, List.set_cons_zero, List.set_cons_succ] at h)
                  (try simp only [Act.put, List.setIfInBounds_toArray, List.set_cons_zero, List.set_cons_succ])
                  exact hGi.out _ _ _ _ h
                have st_M : Hid (∀ (V : World) (bM : Nat), Below W4.heap.size W4 V → (V.heap[X]? = some (.cells #[v] 27 (0, 0))) → (V.ownsRow W4.heap.size 36 5 v ys.length (ctv ys)) → (V.heap[bM]? = some (.cells #[.int .i64 c.au, .int .i64 c.rd, .slice c.ba c.bl.length c.bc, .slice c.pa c.pl.length c.pc, .slice c.va c.vl.length c.vc] 36 (0, 0))) → GO 4 #[true, false, true, true, true, true, true, true, false, false, false] (A0.put (some 77) (.slice (some ⟨bM, 0, none⟩) 1 1)) V) := by
                  show ∀ V, _
                  intro V bM hB qX hov qM
                  refine hGo.out _ _ _ _ ?_
                  rw [← hA0.out]
                  try simp only [Act.put, List.setIfInBounds_toArray, List.set_cons_zero, List.set_cons_succ]
                  refine wpAnyH_ready (rs := [1]) (by kernel_rfl) (by simp) (AllReadyH.cons rfl (fun K hK => ?_) AllReadyH.nil)
                  have xc := cells_at qX 0 _ rfl
                  refine step_run rfl 71 rfl (v) V (by go_simp) ?_
                  refine hK.out _ _ ⟨(hB.cell (p := ⟨D, 0, none⟩) (block_lt_of_cell wD)).trans wD, (hB.cell (p := ⟨kb, ko + j * 5, none⟩) (block_lt_of_cell w0)).trans w0, (hB.cell (p := ⟨kb, ko + j * 5 + 1, none⟩) (block_lt_of_cell w1')).trans w1', (hB.cell (p := ⟨kb, ko + j * 5 + 2, none⟩) (block_lt_of_cell w2')).trans w2', (hB.cell (p := ⟨kb, ko + j * 5 + 3, none⟩) (block_lt_of_cell w3')).trans w3', (hB.cell (p := ⟨kb, ko + j * 5 + 4, none⟩) (block_lt_of_cell w4')).trans w4'⟩ (fun hHeld => ?_)
                  clear hHeld
                  have h := st_LM.out V bM hB qX hov qM
                  rw [← hA0.out] at h
                  (try simp only [Act.put, List.setIfInBounds_toArray, List.set_cons_zero, List.set_cons_succ] at h)
                  (try simp only [Act.put, List.setIfInBounds_toArray, List.set_cons_zero, List.set_cons_succ])
                  exact hGi.out _ _ _ _ h
                have st_0 : Hid (∀ (V : World), Below W4.heap.size W4 V → (V.heap[X]? = some (.cells #[v] 27 (0, 0))) → (V.ownsRow W4.heap.size 36 5 v ys.length (ctv ys)) → GO 5 #[true, false, true, true, true, true, true, false, false, false, false] A0 V) := by
                  show ∀ V, _
                  intro V  hB qX hov
                  refine hGo.out _ _ _ _ ?_
                  rw [← hA0.out]
                  try simp only [Act.put, List.setIfInBounds_toArray, List.set_cons_zero, List.set_cons_succ]
                  refine wpAnyH_ready (rs := [1, 7]) (by kernel_rfl) (by simp) (AllReadyH.cons rfl (fun K hK => ?_) (AllReadyH.cons rfl (fun K hK => ?_) AllReadyH.nil))
                  · skip
                    have xc := cells_at qX 0 _ rfl
                    refine step_run rfl 71 rfl (v) V (by go_simp) ?_
                    refine hK.out _ _ ⟨(hB.cell (p := ⟨D, 0, none⟩) (block_lt_of_cell wD)).trans wD, (hB.cell (p := ⟨kb, ko + j * 5, none⟩) (block_lt_of_cell w0)).trans w0, (hB.cell (p := ⟨kb, ko + j * 5 + 1, none⟩) (block_lt_of_cell w1')).trans w1', (hB.cell (p := ⟨kb, ko + j * 5 + 2, none⟩) (block_lt_of_cell w2')).trans w2', (hB.cell (p := ⟨kb, ko + j * 5 + 3, none⟩) (block_lt_of_cell w3')).trans w3', (hB.cell (p := ⟨kb, ko + j * 5 + 4, none⟩) (block_lt_of_cell w4')).trans w4'⟩ (fun hHeld => ?_)
                    clear hHeld
                    have h := st_L.out V hB qX hov
                    rw [← hA0.out] at h
                    (try simp only [Act.put, List.setIfInBounds_toArray, List.set_cons_zero, List.set_cons_succ] at h)
                    (try simp only [Act.put, List.setIfInBounds_toArray, List.set_cons_zero, List.set_cons_succ])
                    exact hGi.out _ _ _ _ h
                  · skip
                    refine step_run rfl 77 rfl (.slice (some ⟨V.heap.size, 0, none⟩) 1 1) (V.alloc (.cells #[.int .i64 c.au, .int .i64 c.rd, .slice c.ba c.bl.length c.bc, .slice c.pa c.pl.length c.pc, .slice c.va c.vl.length c.vc] 36)) (by go_simp) ?_
                    have hA : Below V.heap.size V (V.alloc (.cells #[.int .i64 c.au, .int .i64 c.rd, .slice c.ba c.bl.length c.bc, .slice c.pa c.pl.length c.pc, .slice c.va c.vl.length c.vc] 36)) := (Below.refl _ _).alloc (Nat.le_refl _) _
                    have hBn := hB.trans (hA.mono hB.size)
                    have qM_n := heap_alloc_new V (.cells #[.int .i64 c.au, .int .i64 c.rd, .slice c.ba c.bl.length c.bc, .slice c.pa c.pl.length c.pc, .slice c.va c.vl.length c.vc] 36)
                    generalize hW' : V.alloc (.cells #[.int .i64 c.au, .int .i64 c.rd, .slice c.ba c.bl.length c.bc, .slice c.pa c.pl.length c.pc, .slice c.va c.vl.length c.vc] 36) = W' at hA hBn qM_n ⊢
                    clear hW'
                    obtain ⟨bM, hx_e⟩ : ∃ bM, bM = V.heap.size := ⟨_, rfl⟩
                    rw [← hx_e] at qM_n ⊢
                    have hA' := hA
                    clear hx_e
                    refine hK.out _ _ ⟨(hBn.cell (p := ⟨D, 0, none⟩) (block_lt_of_cell wD)).trans wD, (hBn.cell (p := ⟨kb, ko + j * 5, none⟩) (block_lt_of_cell w0)).trans w0, (hBn.cell (p := ⟨kb, ko + j * 5 + 1, none⟩) (block_lt_of_cell w1')).trans w1', (hBn.cell (p := ⟨kb, ko + j * 5 + 2, none⟩) (block_lt_of_cell w2')).trans w2', (hBn.cell (p := ⟨kb, ko + j * 5 + 3, none⟩) (block_lt_of_cell w3')).trans w3', (hBn.cell (p := ⟨kb, ko + j * 5 + 4, none⟩) (block_lt_of_cell w4')).trans w4'⟩ (fun hHeld => ?_)
                    clear hHeld
                    have h := st_M.out W' bM hBn ((hA'.block _ (lt_of_heap qX)).trans qX) (owns_keep hov hA') qM_n
                    rw [← hA0.out] at h
                    (try simp only [Act.put, List.setIfInBounds_toArray, List.set_cons_zero, List.set_cons_succ] at h)
                    (try simp only [Act.put, List.setIfInBounds_toArray, List.set_cons_zero, List.set_cons_succ])
                    exact hGi.out _ _ _ _ h
                exact st_0.out V0 hV0 qX_i hov_i
            · obtain rfl : j = ks.length := by omega
              have hB6 := hB2.trans (hb26.mono hB2.size)
              obtain ⟨ra, rc, hve, hdx⟩ := dag_row hov (by omega) (fun c hc => (hd2.each c (ersT_mem ks k _ (Nat.le_refl _) c hc)).below hb26)
              have HCV : Hid (dagF (cvs (ersT ks k ks.length)) = 12 ∨ Coll (cvs ks)) := by
                rw [ers_cvs ks k _ (Nat.le_refl _)]
                have := HBD.out
                rw [cvs_length] at this
                exact this
              subst hve
              generalize ersT ks k ks.length = ys at *
              have x0 := cells_at qX 0 _ rfl
              have hkI : (0 : Int) ≤ (k : Int) := by omega
              go_wp2_with fail
              refine (dagRound_any ys ra _ rc wr rfl hdx (HT.out wr hB6)).mono ?_
              rintro e w7 ⟨hR, hb7⟩
              have hB7 := hB6.trans (hb7.mono hB6.size)
              have qX7 := (hb7.block _ (lt_of_heap qX)).trans qX
              have y0 := cells_at qX7 0 _ rfl
              have HCk := dagCheck_any ys ra _ rc w7 rfl (hdx.below hb7) (HT.out w7 hB7)
              rcases hR with ⟨hz, he⟩ | ⟨hz, r, he, _⟩
              · rw [hz] at HCk
                subst he
                dsimp only
                clear hz x0 HCV HBD
                go_wp2_with fail
                refine HCk.mono ?_
                rintro e w8 ⟨he, hb8⟩
                subst he
                dsimp only
                have hB8 := hB7.trans (hb8.mono hB7.size)
                clear HCk
                go_wp2_with fail
                go_ret
                exact ⟨cvs ks, HG.out, .inl rfl, hB8⟩
              · have HCO : Hid (Coll (cvs ks)) := by
                  rcases HCV.out with h | h
                  · rw [hz] at h; cases h
                  · exact h
                rw [hz] at HCk
                subst he
                dsimp only
                clear hz x0 HCV HBD
                go_wp2_with fail
                refine HCk.mono ?_
                rintro e w8 ⟨he, hb8⟩
                subst he
                dsimp only
                have hB8 := hB7.trans (hb8.mono hB7.size)
                clear HCk
                go_wp2_with fail
                go_ret
                exact ⟨cvs ks, HG.out, .inr ⟨rfl, HCO.out⟩, hB8⟩
    · obtain rfl : i = ks.length := by omega
      have hA9 := (Below.refl wr.heap.size wr).alloc (Nat.le_refl _) (.cells #[.int .i64 0, .int .i64 0, .slice none 0 0, .slice none 0 0, .slice none 0 0] 36)
      have qZ := heap_alloc_new wr (.cells #[.int .i64 0, .int .i64 0, .slice none 0 0, .slice none 0 0, .slice none 0 0] 36)
      have hB9 := hBr.trans (hA9.mono hBr.size)
      have hdz : DagAt (wr.alloc (.cells #[.int .i64 0, .int .i64 0, .slice none 0 0, .slice none 0 0, .slice none 0 0] 36)) (some ⟨wr.heap.size, 0, none⟩) 1 [⟨0, 0, none, 0, [], none, 0, [], none, 0, []⟩] := by
        refine ⟨Nat.le_refl _, by decide, (show (1 : Nat) ≤ _ by decide), .inr ⟨_, 0, rfl⟩, ⟨.inr ⟨_, 0, rfl, fun j hj => ?_⟩⟩, fun c hc => ?_⟩
        · have hj1 : j < 1 := hj
          obtain rfl : j = 0 := by omega
          exact ⟨cells_at qZ 0 _ rfl, cells_at qZ 1 _ rfl, cells_at qZ 2 _ rfl, cells_at qZ 3 _ rfl, cells_at qZ 4 _ rfl⟩
        · obtain rfl : c = _ := by simpa using hc
          exact ⟨⟨list_none _, list_none _, (fun _ _ e => by cases e), (fun _ _ e => by cases e)⟩, ⟨.inl rfl⟩, Nat.zero_le _⟩
      have HCk := dagCheck_any [⟨0, 0, none, 0, [], none, 0, [], none, 0, []⟩] (some ⟨wr.heap.size, 0, none⟩) 1 1 _ rfl hdz (HT.out _ hB9)
      rw [show dagF (cvs [⟨0, 0, none, 0, [], none, 0, [], none, 0, []⟩]) = 12 from zero_bad] at HCk
      have hmk := makeCert wr
      go_wp2_with fail
      refine HCk.mono ?_
      rintro e wz ⟨he, hbz⟩
      subst he
      dsimp only
      clear HCk
      go_wp2_with fail
      go_ret
      exact ⟨cvs ks, HG.out, .inl rfl, hB9.trans (hbz.mono hB9.size)⟩
set_option maxRecDepth 100000 in
theorem dagBad_walk (sa : Option Addr) (cap : Nat) (l : List Stp) (n : Int) (w : World) (hl : StepsAt w sa l) (hcl : l.length ≤ cap) (hc0 : sa = none → cap = 0) (hc1 : l.length * 24 ≤ 140737488351232) (hn1 : -9223372036854775808 ≤ n) (hn2 : n ≤ 9223372036854775807) (hT : Tabs w) :
    Calls Tryd.prog 8 #[.slice sa l.length cap, .int .i64 n] w fun e w' => e = .returned (.bool true) ∧ Below w.heap.size w w' := by
  have H := dagBad_any sa cap l n w hl hcl hc0 hc1 hn1 hn2 hT
  go_enter Tryd.func8, Tryd.ntmps8
  go_wp2_with fail
  refine H.mono ?_
  rintro e w1 ⟨cc, hG, hor, hb1⟩
  rcases hor with he | ⟨he, hco⟩
  · subst he
    dsimp only
    go_wp2_with fail
    go_ret
    exact ⟨rfl, hb1⟩
  · subst he
    dsimp only
    obtain ⟨K, I, h1, h2, h3, h4⟩ := hco
    have H2 := grownSum_true l sa cap w1 cc I K (hl.below hb1) hcl hc0 hc1 hG h1 h2 h3 h4 (hT.below hb1)
    clear H hG hcl hc0 hc1
    go_wp2_with fail
    refine H2.mono ?_
    rintro e w2 ⟨he, hb2⟩
    subst he
    dsimp only
    go_wp2_with fail
    go_ret
    exact ⟨rfl, hb1.trans (hb2.mono hb1.size)⟩
end Go.Proofs.YtnpjhpmgelaonaaDoor
