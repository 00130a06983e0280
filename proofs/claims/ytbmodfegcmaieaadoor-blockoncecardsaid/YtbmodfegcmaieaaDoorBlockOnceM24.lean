/- The law sheaveskeep.BlockOnce answers true for every argument, and each argument reads behind the call as it read before: the tied card. Its conditions: the three tables of package blake hold what the program's text lays (the card ties that); the form's own reach. -/
import Derived.Test.YtbmodfegcmaieaaDoorGKGrown
import Derived.Test.YtbmodfegcmaieaaDoorBlockOnceM18
import Derived.Test.YtbmodfegcmaieaaDoorRows
import Derived.Test.YtbmodfegcmaieaaDoorGK
import Derived.Test.YtbmodfegcmaieaaDoorGSteps
import Derived.Lib.LaidTab
import Derived.OpenShut
import Derived.Stop.LaidErr
import Derived.Test.YtbmodfegcmaieaaDoorGTagged
import Derived.ProofKit
import Derived.Test.YtbmodfegcmaieaaDoorCards
import Derived.Test.YtbmodfegcmaieaaDoorTie
import Derived.WalkKit
import Derived.Deep.DeepHandedRow
import Derived.SevenTiedAt
import Derived.Below
namespace Go.Proofs.YtbmodfegcmaieaaDoor
open Go.RowKit Go.WideMaps Go.Maps

set_option maxRecDepth 100000 in
set_option maxHeartbeats 4000000 in
theorem blockOnce_any (sa : Option Addr) (cap : Nat) (l : List Stp) (n : Int) (w : World) (hl : StepsAt w sa l) (hcl : l.length ≤ cap) (hc0 : sa = none → cap = 0) (hc1 : l.length * 24 ≤ 140737488351232) (hn1 : -9223372036854775808 ≤ n) (hn2 : n ≤ 9223372036854775807) (hT : Tabs w) :
    Calls Tryd.prog 19 #[.slice sa l.length cap, .int .i64 n] w fun e w' => ∃ cc, GrownTo (s0 :: l) (min (l.length + 1) 24) cc ∧ (e = .returned (.bool true) ∨ (e = .returned (.bool false) ∧ (Coll cc ∨ CollB ((bvTo (s0 :: l) (min (l.length + 1) 24)).map BV.w)))) ∧ Below w.heap.size w w' := by
  have hnil : sa = none → l.length = 0 ∧ cap = 0 := fun h => by have := hc0 h; omega
  have H := grown_any l sa _ cap w rfl hl hnil hc1 hT
  have HT : Hid (∀ W : World, Below w.heap.size w W → Tabs W) := by
    show ∀ W, _
    exact fun W hW => hT.below hW
  clear hT hnil hc0 hc1 hcl
  go_enter Tryd.func19, Tryd.ntmps19
  go_wp2_with fail
  refine H.mono ?_
  rintro e w1 ⟨ka, kc, ks, ba, bc, bl, he, hG, hd, hnew, ho, hoff, hV, hb1⟩
  subst he
  dsimp only
  have hpos : 0 < ks.length := by have := grown_some (by omega) hG; rw [cvs_length] at this; exact this
  have HD : Hid (dagF (cvs ks) = 0) := hG.dag
  have HG : Hid (GrownTo (s0 :: l) (min (l.length + 1) 24) (cvs ks)) := hG
  have hle : ks.length ≤ 24 := by have := hG.len; rw [cvs_length] at this; omega
  have hA1 := (Below.refl w1.heap.size w1).alloc (Nat.le_refl _) (.cells #[.slice ka ks.length kc] 51)
  have qD := heap_alloc_new w1 (.cells #[.slice ka ks.length kc] 51)
  have hd2 := hd.below hA1
  have hB2 := hb1.trans (hA1.mono hb1.size)
  have hgD : w.heap.size ≤ w1.heap.size := hb1.size
  have hdlt : ∀ b, DagIn ka ks b → b < w1.heap.size := fun b hb => by
    rcases hb with ⟨so, e⟩ | ⟨c', hc', hq⟩
    · exact dag_row_lt hd hpos b so e
    · exact (hd.each c' hc').block_lt b hq
  have HBW : Hid (bcv bl = (bvTo (s0 :: l) (min (l.length + 1) 24)).map BV.w) := by
    show _ = _
    rw [← hV, List.map_map]; rfl
  have HBG : Hid (BatG (cvs ks) (bws (bl.map Bt.bc))) := by
    show BatG _ _
    rw [bws_bc, HBW.out]; exact batG_of hG (by omega)
  have HBE : Hid (bws (bl.map Bt.bc) = (bvTo (s0 :: l) (min (l.length + 1) 24)).map BV.w) := by
    show _ = _
    rw [bws_bc, HBW.out]
  have hBc : BcsAt w1 ba (bl.map Bt.bc) := by
    obtain ⟨xa, xc, hv, hAt, _, _, _⟩ := bts_of_owns ho
    simp at hv
    obtain ⟨rfl, rfl⟩ := hv
    exact bcs_of_bts hAt (bts_small hV (by omega))
  have hbl60 : bl.length ≤ 60 := (grown_facts hG hV).out.2.2.1
  have hblp : 0 < bl.length := (grown_facts hG hV).out.2.2.2.1
  have HBL : Hid (bl.length = (bl.map Bt.bc).length) := by show _ = _; rw [List.length_map]
  have hBc2 := hBc.below hA1
  clear hBc
  generalize bl.map Bt.bc = cl at HBG HBE hBc2 HBL
  clear hG hV ho hoff hnew hd H hl
  have e0 := cells_at qD 0 _ rfl
  have HHF : Hid (∀ c ∈ ks, headerF c.au c.rd c.bl c.pl = 0) := by
    show ∀ c, _
    intro c hc
    obtain ⟨j, hj, rfl⟩ := List.getElem_of_mem hc
    have h2 := dagF_f HD.out j (by rw [cvs_length]; exact hj)
    rw [cvAt_get ks j hj] at h2
    rw [Ct.hf_v]; exact certF_head (vl := (ks[j]).vl) h2
  go_wp2_with fail
  generalize w1.alloc (.cells #[.slice ka ks.length kc] 51) = W2 at hA1 qD hd2 hB2 hBc2 e0 ⊢
  clear hA1
  generalize w1.heap.size = D at qD e0 hgD hdlt ⊢
  refine (digestsOf_any ks ka _ kc W2 rfl (by omega) hd2 HHF.out (HT.out W2 hB2)).mono ?_
  intro e w3 hDg
  have hb3 := hDg.below
  obtain ⟨da, dc, ds, he, hds, hLd, hfd⟩ := hDg.out
  subst he
  dsimp only
  have HDS : Hid _ := hds
  have hdsl : ds.length = ks.length := by have := congrArg List.length hds; simpa [bss, cvs] using this
  have HDL : Hid (ds.length = ks.length) := hdsl
  rw [hdsl]
  have hB3 := hB2.trans (hb3.mono hB2.size)
  have qD3 := (hb3.block _ (lt_of_heap qD)).trans qD
  have hd3 := hd2.below hb3
  have hBc3 := hBc2.below hb3
  clear hDg hds hfd hdsl hd2 qD e0 hb3 hdlt hBc2
  have HV : Hid (∀ x ∈ cvs ks, x.vl = [0, 1, 2]) := HG.out.voters
  have HU : Hid (∀ x ∈ cvs ks, U8C x) := HG.out.u8
  obtain ⟨sb, so, hdae, hlc⟩ : ∃ sb so, da = some ⟨sb, so, none⟩ ∧ ∀ j (h : j < ds.length), w3.cell? ⟨sb, so + j, none⟩ = some (.slice (ds[j]).sa (ds[j]).bs.length (ds[j]).cap) := by
    rcases hLd.parts.cells with h | h
    · have := HDL.out; rw [h] at this; simp at this; omega
    · exact h
  subst hdae
  have HLC : Hid _ := hlc
  have hdcl : ks.length ≤ dc := by have := hLd.le; have := HDL.out; omega
  have hdmx := hLd.max
  have hposI : (0 : Int) < ks.length := by omega
  have hne0 : ((ks.length : Int) == 0) = false := by rw [beq_eq_false_iff_ne]; omega
  have HAU : Hid (∀ x ∈ cvs ks, 0 ≤ x.au ∧ x.au < 4 ∧ 1 ≤ x.rd ∧ x.rd ≤ 1048576) := by
    show ∀ x, _
    intro x hx
    obtain ⟨j, hj, rfl⟩ := List.getElem_of_mem hx
    have h2 := dagF_f HD.out j hj
    have e : cvAt (cvs ks) j = (cvs ks)[j] := by simp [cvAt, hj]
    rw [e] at h2
    have h3 := f_author h2
    have h4 := f_round h2
    omega
  clear hlc
  obtain ⟨I, hEI⟩ : ∃ I : Nat, pk n ks.length = (I : Int) := ⟨(pk n ks.length).toNat, by have := pk_bounds n ks.length (by omega); omega⟩
  have hI : I < ks.length := by have := pk_bounds n ks.length (by omega); omega
  have HPI : Hid (∀ V : World, Calls Tryd.prog 35 #[.int .i64 n, .int .i64 (ks.length : Int)] V fun e w' => e = .returned (.int .i64 (I : Int)) ∧ V = w') := by
    show ∀ V, _
    intro V
    rw [← hEI]
    exact picked_any n ks.length V hn1 hn2 (by omega) (by omega)
  have hII : (I : Int) < ks.length := by omega
  have hdI : I < ds.length := by have := HDL.out; omega
  have lI := HLC.out I hdI
  have hSI := hLd.parts.each (ds[I]) (List.getElem_mem hdI)
  have HDI : Hid ((ds[I]).bs = (cvAt (cvs ks) I).d) := by
    show _ = _
    have h1 : (bss ds).getD I [] = ((cvs ks).map CV.d).getD I [] := by rw [HDS.out]
    rw [bss_get ds I hdI] at h1
    rw [h1]
    simp [cvAt, cvs, hI]
  have h32I : (ds[I]).bs.length = 32 := by rw [HDI.out, CV.d_length]
  clear hEI
  generalize ds[I] = p at lI hSI HDI h32I
  rw [h32I] at lI
  have hsblI : sb < w3.heap.size := block_lt_of_cell lI
  have HBK := blk_at ks ka kc I cl ba _ bc p w3 HD.out hle hI hd3 HBL.out hBc3 HBG.out hSI HDI.out h32I (HT.out w3 hB3)
  have d3 := cells_at qD3 0 _ rfl
  go_wp2_with (go_at_call 35; refine (HPI.out _).mono ?_; rintro e w' ⟨rfl, rfl⟩)
  refine HBK.mono ?_
  rintro e w4 ⟨⟨xa, N, xc, ec, he, hBR, hN⟩, hb4⟩
  subst he
  dsimp only
  have hB4 := hB3.trans (hb4.mono hB3.size)
  have qD4 := (hb4.block _ (lt_of_heap qD3)).trans qD3
  have hd4 := hd3.below hb4
  have hS4 := hSI.below hb4
  clear HBK HPI d3
  have HHA := his_at ks ka kc I p w4 HD.out hI hd4 hS4 HDI.out h32I (HT.out w4 hB4)
  have d4 := cells_at qD4 0 _ rfl
  go_wp2_with fail
  refine HHA.mono ?_
  rintro e w5 ⟨⟨ra, rc, qs, he, hLq, ⟨hs, hG⟩, hFr, hq0, hql⟩, hb5⟩
  subst he
  dsimp only
  have HHG : Hid _ := hG
  have hb35 := hb4.trans (hb5.mono hb4.size)
  have hB5 := hB4.trans (hb5.mono hB4.size)
  have hBc5 := hBc3.below hb35
  clear HHA hG d4 hFr hd4 hS4 qD4
  rcases hBR with ⟨rfl, hbs0, h2, t, hH2, ht, hNe, hST⟩ | ⟨rfl, hcb, _⟩
  case inr =>
    have HCO : Hid (Coll (cvs ks) ∨ CollB ((bvTo (s0 :: l) (min (l.length + 1) 24)).map BV.w)) := by
      right
      rw [← HBE.out]; exact hcb
    clear hcb
    go_wp2_with fail
    go_ret
    exact ⟨cvs ks, HG.out, .inr ⟨rfl, HCO.out⟩, hB5⟩
  case inl =>
    have hh : h2 = hs := hH2.one HHG.out.hist
    subst hh
    have HTX : Hid (bsF (bws cl) = 0 ∧ txsH (bws cl) (hisB h2) = some t) := ⟨hbs0, ht⟩
    have HSZ : Hid (∀ s ∈ onceS [] t, s.size ≤ maxLen) := by
      show ∀ s ∈ onceS [] t, _
      intro s hs
      have := (once_small HD.out (by rw [cvs_length]; exact hle) hbs0 hH2 ht).2 s hs
      unfold maxLen; omega
    have HNE : Hid (N = (onceS [] t).length) := hNe
    have HNO : Hid ((onceS [] t).Nodup ∧ ∀ s, s ∈ onceS [] t ↔ s ∈ t) := ⟨onceS_nodup t [] (by simp), onceS_iff t⟩
    have hST5 := hST.below hb5
    have HCK := checkBatches_any cl ba _ bc w5 HBL.out hBc5 (HT.out w5 hB5)
    rw [hbs0] at HCK
    clear hbs0 hH2 ht hNe hST
    generalize onceS [] t = A at hST5 HSZ HNE HNO
    go_upto_region 11 with (go_at_call 13; refine HCK.mono ?_; rintro e w6 ⟨he, hb6⟩; subst he; dsimp only)
    clear HCK
    have hb36 := hb35.trans (hb6.mono hb35.size)
    have hB6 := hB5.trans (hb6.mono hB5.size)
    have hST6 := hST5.below hb6
    have hLq6 := hLq.below hb6
    clear hST5 hLq hBc5
    have HSC : Hid (0 < N → ∃ tb tq, xa = some ⟨tb, tq, none⟩ ∧ ∀ j, j < A.length → w6.cell? ⟨tb, tq + j, none⟩ = some (.string (A.getD j ByteArray.empty))) := by
      show _ → _
      intro hp
      rcases hST6.cells with h | h
      · have := HNE.out; rw [h] at this; simp at this; omega
      · exact h
    go_wp2_with fail
    go_loopw [13] (fun j wr => ∃ i : Nat, i ≤ N ∧ j = .int .i64 i ∧ Below w6.heap.size w6 wr) (fun j _ => N - (intOf j).toNat)
    case atStart => exact ⟨0, Nat.zero_le _, rfl, Below.refl _ _⟩
    case round =>
      obtain ⟨i, hi, rfl, hb7⟩ := hrel
      have hB7 := hB6.trans (hb7.mono hB6.size)
      by_cases hlt : i < N
      · have hltI : (i : Int) < N := by omega
        obtain ⟨tb, tq, hte, htc⟩ := HSC.out (by omega)
        have HTC : Hid _ := htc
        have hiA : i < A.length := by have := HNE.out; omega
        have htbl : tb < w6.heap.size := block_lt_of_cell (htc i hiA)
        clear htc
        subst hte
        go_wp2_with fail
        go_loopw [14] (fun j wr => ∃ k : Nat, k ≤ i ∧ j = .int .i64 k ∧ Below w6.heap.size w6 wr) (fun j _ => i - (intOf j).toNat)
        case atStart => exact ⟨0, Nat.zero_le _, rfl, hb7⟩
        case round =>
          obtain ⟨k, hk, rfl, hb8⟩ := hrel
          by_cases hlk : k < i
          · have hlkI : (k : Int) < i := by omega
            have hlkN : (k : Int) < N := by omega
            have hkA : k < A.length := by omega
            have u0 := HTC.out i hiA
            have u1 := HTC.out k hkA
            have HNQ : Hid (((A.getD i ByteArray.empty).toList == (A.getD k ByteArray.empty).toList) = false) := by
              show _ = _
              rw [str_eq]
              refine decide_eq_false (fun e => ?_)
              have h3 := (List.pairwise_iff_getElem.1 HNO.out.1) k i hkA hiA hlk
              apply h3
              simpa [hiA, hkA] using e.symm
            generalize A.getD i ByteArray.empty = si at u0 HNQ
            generalize A.getD k ByteArray.empty = sk at u1 HNQ
            have g0 := (hb8.cell (p := ⟨tb, tq + i, none⟩) htbl).trans u0
            have g1 := (hb8.cell (p := ⟨tb, tq + k, none⟩) htbl).trans u1
            obtain ⟨VR, hVR⟩ : ∃ VR, VR = wr := ⟨_, rfl⟩
            subst hVR
            obtain ⟨BQ, hBQ⟩ : ∃ BQ, (si.toList == sk.toList) = BQ := ⟨_, rfl⟩
            have hBF : BQ = false := by rw [← hBQ]; exact HNQ.out
            clear HNQ
            go_upto_region 16 with fail
            go_cut [84] from 71 to 84 (fun v wx => v = .bool BQ ∧ Below VR.heap.size VR wx)
            case first =>
              have hV0 : Below VR.heap.size VR VR.drew := (Below.refl _ _).drew
              refine wp_region_held_drew (S := fun w' => w'.cell? ⟨tb, tq + i, none⟩ = some (.string si) ∧ w'.cell? ⟨tb, tq + k, none⟩ = some (.string sk)) (by kernel_rfl) ⟨(hV0.cell (p := ⟨tb, tq + i, none⟩) (block_lt_of_cell g0)).trans g0, (hV0.cell (p := ⟨tb, tq + k, none⟩) (block_lt_of_cell g1)).trans g1⟩ (fun hHeld => ?_)
              generalize VR.drew = V0 at hV0  hHeld ⊢
              refine take_dst (i := 0) (d := 76) (v := .slice (some ⟨tb, tq, none⟩) N xc) rfl rfl (by kernel_rfl) (by kernel_rfl) (by kernel_rfl) (fun _ _ _ h => h) (Or.inl ⟨by rfl, ?_⟩) hHeld ?_
              · (intro w0 hSw; (try dsimp only at hSw); go_simp)
              simp only [Act.put, List.setIfInBounds_toArray, List.set_cons_zero, List.set_cons_succ]
              refine take_dst (i := 1) (d := 77) (v := .int .i64 (i : Int)) rfl rfl (by kernel_rfl) (by kernel_rfl) (by kernel_rfl) (fun _ _ _ h => h) (Or.inl ⟨by rfl, ?_⟩) hHeld ?_
              · (intro w0 hSw; (try dsimp only at hSw); go_simp)
              simp only [Act.put, List.setIfInBounds_toArray, List.set_cons_zero, List.set_cons_succ]
              refine take_dst (i := 2) (d := 78) (v := .pointer (some ⟨tb, tq + i, none⟩)) rfl rfl (by kernel_rfl) (by kernel_rfl) (by kernel_rfl) (fun _ _ _ h => h) (Or.inl ⟨by rfl, ?_⟩) hHeld ?_
              · (intro w0 hSw; (try dsimp only at hSw); go_simp)
              simp only [Act.put, List.setIfInBounds_toArray, List.set_cons_zero, List.set_cons_succ]
              refine take_dst (i := 3) (d := 79) (v := .string si) rfl rfl (by kernel_rfl) (by kernel_rfl) (by kernel_rfl) (fun _ _ _ h => h) (Or.inl ⟨by rfl, ?_⟩) hHeld ?_
              · (intro w0 hSw; (try dsimp only at hSw); go_simp)
              simp only [Act.put, List.setIfInBounds_toArray, List.set_cons_zero, List.set_cons_succ]
              refine take_dst (i := 4) (d := 80) (v := .slice (some ⟨tb, tq, none⟩) N xc) rfl rfl (by kernel_rfl) (by kernel_rfl) (by kernel_rfl) (fun _ _ _ h => h) (Or.inl ⟨by rfl, ?_⟩) hHeld ?_
              · (intro w0 hSw; (try dsimp only at hSw); go_simp)
              simp only [Act.put, List.setIfInBounds_toArray, List.set_cons_zero, List.set_cons_succ]
              refine take_dst (i := 5) (d := 81) (v := .int .i64 (k : Int)) rfl rfl (by kernel_rfl) (by kernel_rfl) (by kernel_rfl) (fun _ _ _ h => h) (Or.inl ⟨by rfl, ?_⟩) hHeld ?_
              · (intro w0 hSw; (try dsimp only at hSw); go_simp)
              simp only [Act.put, List.setIfInBounds_toArray, List.set_cons_zero, List.set_cons_succ]
              refine take_dst (i := 6) (d := 82) (v := .pointer (some ⟨tb, tq + k, none⟩)) rfl rfl (by kernel_rfl) (by kernel_rfl) (by kernel_rfl) (fun _ _ _ h => h) (Or.inl ⟨by rfl, ?_⟩) hHeld ?_
              · (intro w0 hSw; (try dsimp only at hSw); go_simp)
              simp only [Act.put, List.setIfInBounds_toArray, List.set_cons_zero, List.set_cons_succ]
              refine take_dst (i := 7) (d := 83) (v := .string sk) rfl rfl (by kernel_rfl) (by kernel_rfl) (by kernel_rfl) (fun _ _ _ h => h) (Or.inl ⟨by rfl, ?_⟩) hHeld ?_
              · (intro w0 hSw; (try dsimp only at hSw); go_simp)
              simp only [Act.put, List.setIfInBounds_toArray, List.set_cons_zero, List.set_cons_succ]
              refine take_dst (i := 8) (d := 84) (v := .bool (si.toList == sk.toList)) rfl rfl (by kernel_rfl) (by kernel_rfl) (by kernel_rfl) (fun _ _ _ h => h) (Or.inl ⟨by rfl, ?_⟩) hHeld ?_
              · (intro w0 hSw; (try dsimp only at hSw); go_simp)
              simp only [Act.put, List.setIfInBounds_toArray, List.set_cons_zero, List.set_cons_succ]
              clear hHeld
              refine any_named (fun GO hGo hGi => ?_)
              refine act_named (fun A0 hA0 => ?_)
              have st_0 : Hid (∀ (V : World), Below VR.heap.size VR V → GO 0 #[true, true, true, true, true, true, true, true, true] A0 V) := by
                show ∀ V, _
                intro V  hB 
                refine hGo.out _ _ _ _ ?_
                rw [← hA0.out]
                try simp only [Act.put, List.setIfInBounds_toArray, List.set_cons_zero, List.set_cons_succ]
                refine wpAnyH_done (by kernel_rfl) ?_ _
                go_wp2_with fail
                go_meet
                case rel => exact ⟨by rw [← hBQ], hB⟩
              exact st_0.out V0 hV0 
            case rest =>
              obtain ⟨rfl, hb9⟩ := hcut
              have hb89 := hb8.trans (hb9.mono hb8.size)
              subst hBF
              clear hBQ
              go_wp2_with fail
              go_roundw
              case rel => exact ⟨k + 1, by omega, by go_num, hb89⟩
              case measure => simp [intOf]; omega
          · obtain rfl : k = i := by omega
            go_wp2_with fail
            go_roundw
            case rel => exact ⟨k + 1, by omega, by go_num, hb8⟩
            case measure => simp [intOf]; omega
      · have hniI : ¬ (i : Int) < N := by omega
        have hmm := makeMapBl
        have hb37 := hb36.trans (hb7.mono hb36.size)
        have hBc7 := hBc3.below hb37
        have hmB : 0 < cl.length := by have := HBL.out; omega
        obtain ⟨bb, bo, hbe, hbc⟩ : ∃ bb bo, ba = some ⟨bb, bo, none⟩ ∧ ∀ j (h : j < cl.length), wr.cell? ⟨bb, bo + j * 3, none⟩ = some (.int .i64 (cl[j]).v.au) ∧ wr.cell? ⟨bb, bo + j * 3 + 1, none⟩ = some (.int .i64 (cl[j]).v.nu) ∧ wr.cell? ⟨bb, bo + j * 3 + 2, none⟩ = some (.slice (cl[j]).ta (cl[j]).v.ss.length (cl[j]).tc) := by
          rcases hBc7.cells with h | h
          · rw [h] at hmB; simp at hmB
          · exact h
        subst hbe
        have HBC : Hid _ := hbc
        have hbbl : bb < wr.heap.size := block_lt_of_cell (hbc 0 hmB).1
        have hLq7 := hLq6.below hb7
        obtain ⟨qb, qo, hqe, hqc⟩ : ∃ qb qo, ra = some ⟨qb, qo, none⟩ ∧ ∀ j (h : j < qs.length), wr.cell? ⟨qb, qo + j, none⟩ = some (.slice (qs[j]).sa (qs[j]).bs.length (qs[j]).cap) := by
          rcases hLq7.parts.cells with h | h
          · rw [h] at hq0; simp at hq0
          · exact h
        subst hqe
        have HQC : Hid _ := hqc
        have hqbl : qb < wr.heap.size := block_lt_of_cell (hqc 0 hq0)
        clear hqc hbc
        have HBA : Hid (∀ W : World, Below wr.heap.size wr W → ∀ j (h : j < cl.length), BcAt W (cl[j]) ∧ (cl[j]).v.f = 0 ∧ (cl[j]).v ∈ bws cl) := by
          show ∀ W, _
          intro W hW j hj
          exact ⟨(hBc7.each _ (List.getElem_mem hj)).below hW, HBG.out.f _ (List.mem_map.2 ⟨_, List.getElem_mem hj, rfl⟩), List.mem_map.2 ⟨_, List.getElem_mem hj, rfl⟩⟩
        obtain ⟨W7, hW7⟩ : ∃ W7, W7 = wr := ⟨_, rfl⟩
        subst hW7
        go_upto_region 20 with fail
        have hA8 := (Below.refl W7.heap.size W7).alloc (Nat.le_refl _) (.map #[] 0)
        have hown8 : (W7.alloc (.map #[] 0)).ownsMap Tryd.prog 9 (plainElem Tryd.prog 4) W7.heap.size 0 (manyD []) := World.ownsMap_made _ _ _ _
        generalize W7.alloc (.map #[] 0) = W8 at hA8 hown8 ⊢
        obtain ⟨MB, hMB⟩ : ∃ MB, MB = W7.heap.size := ⟨_, rfl⟩
        rw [← hMB] at hown8 ⊢
        have HMB : Hid (MB = W7.heap.size) := hMB
        clear hMB hLq6
        go_wp2_with fail
        go_loopw [16] (fun j wr => ∃ (i : Nat) (ml : List ByteArray), i ≤ qs.length ∧ j = .int .i64 i ∧ ml.length ≤ 240 * i ∧ Hid (Coll (cvs ks) ∨ ((∀ s ∈ ml, hasT h2 (bws cl) s) ∧ ∀ s, hasT (h2.take i) (bws cl) s → s ∈ ml)) ∧ wr.ownsMap Tryd.prog 9 (plainElem Tryd.prog 4) MB ml.length (manyD ml) ∧ Below W7.heap.size W7 wr) (fun j _ => qs.length - (intOf j).toNat)
        case atStart => exact ⟨0, [], Nat.zero_le _, rfl, by simp, .inr ⟨fun s hs => absurd hs (by simp), fun s hs => absurd hs (by rintro ⟨c, hc, _⟩; simp at hc)⟩, hown8, hA8⟩
        case round =>
          clear hown8 hA8
          obtain ⟨i, ml, hi, rfl, hml, HML, hown, hb9⟩ := hrel
          have hb39 := hb37.trans (hb9.mono hb37.size)
          have hB9 := hB7.trans (hb9.mono hB7.size)
          have qD9 := (hb39.block _ (lt_of_heap qD3)).trans qD3
          have hd9 := hd3.below hb39
          by_cases hlk : i < qs.length
          · have hlkI : (i : Int) < qs.length := by omega
            obtain ⟨pi, hpi, hsel, hcv, hqb⟩ := HHG.out.at hlk
            rw [cvs_length] at hpi
            have l0 := HQC.out i hlk
            have hSl := hLq7.parts.each (qs[i]) (List.getElem_mem hlk)
            have HQB : Hid ((qs[i]).bs = (cvAt (cvs ks) pi).d) := hqb
            have HCV : Hid (cvAt h2 i = cvAt (cvs ks) pi) := hcv
            have h32 : (qs[i]).bs.length = 32 := by rw [hqb, CV.d_length]
            clear hsel hcv hqb
            generalize qs[i] = q at l0 hSl HQB h32
            rw [h32] at l0
            have e0 := cells_at qD9 0 _ rfl
            have e1 := (hb9.cell (p := ⟨qb, qo + i, none⟩) hqbl).trans l0
            have hSk := hSl.below hb9
            obtain ⟨VR, hVR⟩ : ∃ VR, VR = wr := ⟨_, rfl⟩
            subst hVR
            have HFD : Hid (∀ V : World, Below VR.heap.size VR V → Calls Tryd.prog 38 #[.agg #[.slice ka ks.length kc], .slice q.sa 32 q.cap] V fun e w' => (∃ c : Ct, e = .returned (.tuple #[.agg #[.int .i64 c.au, .int .i64 c.rd, .slice c.ba c.bl.length c.bc, .slice c.pa c.pl.length c.pc, .slice c.va c.vl.length c.vc], .int .i64 0]) ∧ CtAt w' c ∧ Hid ((c.v = cvAt (cvs ks) pi ∨ (unlikeC (cvAt (cvs ks) pi) c.v ∧ Coll (cvs ks))) ∧ c.v ∈ cvs ks) ∧ ∀ b, CtIn c b → V.heap.size ≤ b) ∧ Below V.heap.size V w') := by
              show ∀ V, _
              intro V hV
              exact find_at ks _ kc pi q V HD.out HV.out hpi (hd9.below hV) (hSk.below hV) HQB.out h32 (HT.out V (hB9.trans (hV.mono hB9.size)))
            go_upto_region 22 with fail
            go_cut [17, 18] from 86 to 143 (fun u v wx => ∃ (X : Nat) (c : Ct), u = .pointer (some ⟨X, 0, none⟩) ∧ v = .int .i64 0 ∧ wx.heap[X]? = some (.cells #[.int .i64 c.au, .int .i64 c.rd, .slice c.ba c.bl.length c.bc, .slice c.pa c.pl.length c.pc, .slice c.va c.vl.length c.vc] 63 (0, 0)) ∧ CtAt wx c ∧ Hid ((c.v = cvAt (cvs ks) pi ∨ (unlikeC (cvAt (cvs ks) pi) c.v ∧ Coll (cvs ks))) ∧ c.v ∈ cvs ks) ∧ (∀ b, CtIn c b → b ≠ MB) ∧ X ≠ MB ∧ Below VR.heap.size VR wx)
            case first =>
              have hMBl : MB < VR.heap.size := hown.lt
              have hV0 : Below VR.heap.size VR VR.drew := (Below.refl _ _).drew
              refine wp_region_held_drew (S := fun w' => w'.cell? ⟨D, 0, none⟩ = some (.slice ka ks.length kc) ∧ w'.cell? ⟨qb, qo + i, none⟩ = some (.slice q.sa 32 q.cap)) (by kernel_rfl) ⟨(hV0.cell (p := ⟨D, 0, none⟩) (block_lt_of_cell e0)).trans e0, (hV0.cell (p := ⟨qb, qo + i, none⟩) (block_lt_of_cell e1)).trans e1⟩ (fun hHeld => ?_)
              generalize VR.drew = V0 at hV0  hHeld ⊢
              refine take_dst (i := 0) (d := 93) (v := .agg #[.slice ka ks.length kc]) rfl rfl (by kernel_rfl) (by kernel_rfl) (by kernel_rfl) (fun _ _ _ h => h) (Or.inl ⟨by rfl, ?_⟩) hHeld ?_
              · (intro w0 hSw; (try dsimp only at hSw); go_simp)
              simp only [Act.put, List.setIfInBounds_toArray, List.set_cons_zero, List.set_cons_succ]
              refine take_dst (i := 1) (d := 94) (v := .slice (some ⟨qb, qo, none⟩) qs.length rc) rfl rfl (by kernel_rfl) (by kernel_rfl) (by kernel_rfl) (fun _ _ _ h => h) (Or.inl ⟨by rfl, ?_⟩) hHeld ?_
              · (intro w0 hSw; (try dsimp only at hSw); go_simp)
              simp only [Act.put, List.setIfInBounds_toArray, List.set_cons_zero, List.set_cons_succ]
              refine take_dst (i := 2) (d := 95) (v := .int .i64 (i : Int)) rfl rfl (by kernel_rfl) (by kernel_rfl) (by kernel_rfl) (fun _ _ _ h => h) (Or.inl ⟨by rfl, ?_⟩) hHeld ?_
              · (intro w0 hSw; (try dsimp only at hSw); go_simp)
              simp only [Act.put, List.setIfInBounds_toArray, List.set_cons_zero, List.set_cons_succ]
              refine take_dst (i := 3) (d := 96) (v := .pointer (some ⟨qb, qo + i, none⟩)) rfl rfl (by kernel_rfl) (by kernel_rfl) (by kernel_rfl) (fun _ _ _ h => h) (Or.inl ⟨by rfl, ?_⟩) hHeld ?_
              · (intro w0 hSw; (try dsimp only at hSw); go_simp)
              simp only [Act.put, List.setIfInBounds_toArray, List.set_cons_zero, List.set_cons_succ]
              refine take_dst (i := 4) (d := 97) (v := .slice q.sa 32 q.cap) rfl rfl (by kernel_rfl) (by kernel_rfl) (by kernel_rfl) (fun _ _ _ h => h) (Or.inl ⟨by rfl, ?_⟩) hHeld ?_
              · (intro w0 hSw; (try dsimp only at hSw); go_simp)
              simp only [Act.put, List.setIfInBounds_toArray, List.set_cons_zero, List.set_cons_succ]
              clear hHeld
              refine any_named (fun GO hGo hGi => ?_)
              refine act_named (fun A0 hA0 => ?_)
              have st_FXS : Hid (∀ (V : World) (c : Ct) (bX : Nat), Below VR.heap.size VR V → (CtAt V c) → (Hid ((c.v = cvAt (cvs ks) pi ∨ (unlikeC (cvAt (cvs ks) pi) c.v ∧ Coll (cvs ks))) ∧ c.v ∈ cvs ks)) → (∀ b, CtIn c b → b ≠ MB) → (VR.heap.size ≤ bX) → (V.heap[bX]? = some (.cells #[.int .i64 c.au, .int .i64 c.rd, .slice c.ba c.bl.length c.bc, .slice c.pa c.pl.length c.pc, .slice c.va c.vl.length c.vc] 63 (0, 0))) → (∀ b, CtIn c b → b ≠ bX) → GO 0 #[true, true, true, true, true, true, true, true, true, true, true, true] ((((((A0.put (some 98) (.tuple #[.agg #[.int .i64 c.au, .int .i64 c.rd, .slice c.ba c.bl.length c.bc, .slice c.pa c.pl.length c.pc, .slice c.va c.vl.length c.vc], .int .i64 0])).put (some 92) (.tuple #[.agg #[.int .i64 c.au, .int .i64 c.rd, .slice c.ba c.bl.length c.bc, .slice c.pa c.pl.length c.pc, .slice c.va c.vl.length c.vc], .int .i64 0])).put (some 99) (.agg #[.int .i64 c.au, .int .i64 c.rd, .slice c.ba c.bl.length c.bc, .slice c.pa c.pl.length c.pc, .slice c.va c.vl.length c.vc])).put (some 100) (.int .i64 0)).put (some 17) (.pointer (some ⟨bX, 0, none⟩))).put (some 18) (.int .i64 0)) V) := by
                show ∀ V, _
                intro V c bX hB hC HC hCM gX qS hCX
                refine hGo.out _ _ _ _ ?_
                rw [← hA0.out]
                try simp only [Act.put, List.setIfInBounds_toArray, List.set_cons_zero, List.set_cons_succ]
                refine wpAnyH_done (by kernel_rfl) ?_ _
                go_wp2_with fail
                go_meet
                case rel => exact ⟨bX, c, rfl, rfl, qS, hC, HC, hCM, by have := hMBl; omega, hB⟩
              have st_FX : Hid (∀ (V : World) (c : Ct) (bX : Nat), Below VR.heap.size VR V → (CtAt V c) → (Hid ((c.v = cvAt (cvs ks) pi ∨ (unlikeC (cvAt (cvs ks) pi) c.v ∧ Coll (cvs ks))) ∧ c.v ∈ cvs ks)) → (∀ b, CtIn c b → b ≠ MB) → (V.heap[bX]? = some (.cells #[.int .i64 0, .int .i64 0, .slice none 0 0, .slice none 0 0, .slice none 0 0] 63 (0, 0))) → (VR.heap.size ≤ bX) → (∀ b, CtIn c b → b ≠ bX) → GO 2 #[true, true, true, true, true, true, true, true, true, true, false, false] (((((A0.put (some 98) (.tuple #[.agg #[.int .i64 c.au, .int .i64 c.rd, .slice c.ba c.bl.length c.bc, .slice c.pa c.pl.length c.pc, .slice c.va c.vl.length c.vc], .int .i64 0])).put (some 92) (.tuple #[.agg #[.int .i64 c.au, .int .i64 c.rd, .slice c.ba c.bl.length c.bc, .slice c.pa c.pl.length c.pc, .slice c.va c.vl.length c.vc], .int .i64 0])).put (some 99) (.agg #[.int .i64 c.au, .int .i64 c.rd, .slice c.ba c.bl.length c.bc, .slice c.pa c.pl.length c.pc, .slice c.va c.vl.length c.vc])).put (some 100) (.int .i64 0)).put (some 17) (.pointer (some ⟨bX, 0, none⟩))) V) := by
                show ∀ V, _
                intro V c bX hB hC HC hCM qX gX hCX
                refine hGo.out _ _ _ _ ?_
                rw [← hA0.out]
                try simp only [Act.put, List.setIfInBounds_toArray, List.set_cons_zero, List.set_cons_succ]
                refine wpAnyH_ready (rs := [10]) (by kernel_rfl) (by simp) (AllReadyH.cons rfl (fun K hK => ?_) AllReadyH.nil)
                have c0_ := cells_at qX 0 _ rfl
                have f0_ := frozen_at qX 0
                have c1_ := cells_at qX 1 _ rfl
                have f1_ := frozen_at qX 1
                have c2_ := cells_at qX 2 _ rfl
                have f2_ := frozen_at qX 2
                have c3_ := cells_at qX 3 _ rfl
                have f3_ := frozen_at qX 3
                have c4_ := cells_at qX 4 _ rfl
                have f4_ := frozen_at qX 4
                refine step_store rfl rfl (((((V.setCell ⟨bX, 0, none⟩ (.int .i64 c.au)).setCell ⟨bX, 1, none⟩ (.int .i64 c.rd)).setCell ⟨bX, 2, none⟩ (.slice c.ba c.bl.length c.bc)).setCell ⟨bX, 3, none⟩ (.slice c.pa c.pl.length c.pc)).setCell ⟨bX, 4, none⟩ (.slice c.va c.vl.length c.vc)) (by go_simp) ?_
                have hBn := (((((hB.setCell (p := ⟨bX, 0, none⟩) gX (.int .i64 c.au)).setCell (p := ⟨bX, 1, none⟩) gX (.int .i64 c.rd)).setCell (p := ⟨bX, 2, none⟩) gX (.slice c.ba c.bl.length c.bc)).setCell (p := ⟨bX, 3, none⟩) gX (.slice c.pa c.pl.length c.pc)).setCell (p := ⟨bX, 4, none⟩) gX (.slice c.va c.vl.length c.vc))
                have qS_n : (((((V.setCell ⟨bX, 0, none⟩ (.int .i64 c.au)).setCell ⟨bX, 1, none⟩ (.int .i64 c.rd)).setCell ⟨bX, 2, none⟩ (.slice c.ba c.bl.length c.bc)).setCell ⟨bX, 3, none⟩ (.slice c.pa c.pl.length c.pc)).setCell ⟨bX, 4, none⟩ (.slice c.va c.vl.length c.vc)).heap[bX]? = some (.cells #[.int .i64 c.au, .int .i64 c.rd, .slice c.ba c.bl.length c.bc, .slice c.pa c.pl.length c.pc, .slice c.va c.vl.length c.vc] 63 (0, 0)) := by simpa using (heap_setCell_same _ _ 4 _ _ (.slice c.va c.vl.length c.vc) (heap_setCell_same _ _ 3 _ _ (.slice c.pa c.pl.length c.pc) (heap_setCell_same _ _ 2 _ _ (.slice c.ba c.bl.length c.bc) (heap_setCell_same _ _ 1 _ _ (.int .i64 c.rd) (heap_setCell_same _ _ 0 _ _ (.int .i64 c.au) qX)))))
                have hC_n := (ct_put (ct_put (ct_put (ct_put (ct_put hC bX 0 (.int .i64 c.au) hCX) bX 1 (.int .i64 c.rd) hCX) bX 2 (.slice c.ba c.bl.length c.bc) hCX) bX 3 (.slice c.pa c.pl.length c.pc) hCX) bX 4 (.slice c.va c.vl.length c.vc) hCX)
                generalize (((((V.setCell ⟨bX, 0, none⟩ (.int .i64 c.au)).setCell ⟨bX, 1, none⟩ (.int .i64 c.rd)).setCell ⟨bX, 2, none⟩ (.slice c.ba c.bl.length c.bc)).setCell ⟨bX, 3, none⟩ (.slice c.pa c.pl.length c.pc)).setCell ⟨bX, 4, none⟩ (.slice c.va c.vl.length c.vc)) = W' at hBn qS_n hC_n ⊢
                refine hK.out _ _ ⟨(hBn.cell (p := ⟨D, 0, none⟩) (block_lt_of_cell e0)).trans e0, (hBn.cell (p := ⟨qb, qo + i, none⟩) (block_lt_of_cell e1)).trans e1⟩ (fun hHeld => ?_)
                simp only [List.setIfInBounds_toArray, List.set_cons_zero, List.set_cons_succ]
                refine take_dst (i := 11) (d := 18) (v := .int .i64 0) rfl rfl (by kernel_rfl) (by kernel_rfl) (by kernel_rfl) (fun _ _ _ h => h) (Or.inl ⟨by rfl, ?_⟩) hHeld ?_
                · (intro w0 hSw; (try dsimp only at hSw); go_simp)
                simp only [Act.put, List.setIfInBounds_toArray, List.set_cons_zero, List.set_cons_succ]
                clear hHeld
                have h := st_FXS.out W' c bX hBn hC_n HC hCM gX qS_n hCX
                rw [← hA0.out] at h
                (try simp only [Act.put, List.setIfInBounds_toArray, List.set_cons_zero, List.set_cons_succ] at h)
                (try simp only [Act.put, List.setIfInBounds_toArray, List.set_cons_zero, List.set_cons_succ])
                exact hGi.out _ _ _ _ h
              have st_F : Hid (∀ (V : World) (c : Ct), Below VR.heap.size VR V → (CtAt V c) → (Hid ((c.v = cvAt (cvs ks) pi ∨ (unlikeC (cvAt (cvs ks) pi) c.v ∧ Coll (cvs ks))) ∧ c.v ∈ cvs ks)) → (∀ b, CtIn c b → b ≠ MB) → GO 3 #[true, true, true, true, true, true, true, true, true, false, false, false] ((((A0.put (some 98) (.tuple #[.agg #[.int .i64 c.au, .int .i64 c.rd, .slice c.ba c.bl.length c.bc, .slice c.pa c.pl.length c.pc, .slice c.va c.vl.length c.vc], .int .i64 0])).put (some 92) (.tuple #[.agg #[.int .i64 c.au, .int .i64 c.rd, .slice c.ba c.bl.length c.bc, .slice c.pa c.pl.length c.pc, .slice c.va c.vl.length c.vc], .int .i64 0])).put (some 99) (.agg #[.int .i64 c.au, .int .i64 c.rd, .slice c.ba c.bl.length c.bc, .slice c.pa c.pl.length c.pc, .slice c.va c.vl.length c.vc])).put (some 100) (.int .i64 0)) V) := by
                show ∀ V, _
                intro V c hB hC HC hCM
                refine hGo.out _ _ _ _ ?_
                rw [← hA0.out]
                try simp only [Act.put, List.setIfInBounds_toArray, List.set_cons_zero, List.set_cons_succ]
                refine wpAnyH_ready (rs := [9]) (by kernel_rfl) (by simp) (AllReadyH.cons rfl (fun K hK => ?_) AllReadyH.nil)
                refine step_run rfl 17 rfl (.pointer (some ⟨V.heap.size, 0, none⟩)) (V.alloc (.cells #[.int .i64 0, .int .i64 0, .slice none 0 0, .slice none 0 0, .slice none 0 0] 63)) (by go_simp) ?_
                have hA : Below V.heap.size V (V.alloc (.cells #[.int .i64 0, .int .i64 0, .slice none 0 0, .slice none 0 0, .slice none 0 0] 63)) := (Below.refl _ _).alloc (Nat.le_refl _) _
                have hBn := hB.trans (hA.mono hB.size)
                have qX_n := heap_alloc_new V (.cells #[.int .i64 0, .int .i64 0, .slice none 0 0, .slice none 0 0, .slice none 0 0] 63)
                have gX_n := hB.size
                generalize hW' : V.alloc (.cells #[.int .i64 0, .int .i64 0, .slice none 0 0, .slice none 0 0, .slice none 0 0] 63) = W' at hA hBn qX_n ⊢
                clear hW'
                obtain ⟨bX, hx_e⟩ : ∃ bX, bX = V.heap.size := ⟨_, rfl⟩
                rw [← hx_e] at qX_n gX_n ⊢
                have hCX_n : ∀ b, CtIn c b → b ≠ bX := fun b hb' => by have := hC.block_lt b hb'; omega
                have hA' := hA
                clear hx_e
                refine hK.out _ _ ⟨(hBn.cell (p := ⟨D, 0, none⟩) (block_lt_of_cell e0)).trans e0, (hBn.cell (p := ⟨qb, qo + i, none⟩) (block_lt_of_cell e1)).trans e1⟩ (fun hHeld => ?_)
                clear hHeld
                have h := st_FX.out W' c bX hBn (hC.below hA') HC hCM qX_n gX_n hCX_n
                rw [← hA0.out] at h
                (try simp only [Act.put, List.setIfInBounds_toArray, List.set_cons_zero, List.set_cons_succ] at h)
                (try simp only [Act.put, List.setIfInBounds_toArray, List.set_cons_zero, List.set_cons_succ])
                exact hGi.out _ _ _ _ h
              have st_X : Hid (∀ (V : World) (bX : Nat), Below VR.heap.size VR V → (V.heap[bX]? = some (.cells #[.int .i64 0, .int .i64 0, .slice none 0 0, .slice none 0 0, .slice none 0 0] 63 (0, 0))) → (VR.heap.size ≤ bX) → GO 6 #[true, true, true, true, true, false, false, false, false, true, false, false] (A0.put (some 17) (.pointer (some ⟨bX, 0, none⟩))) V) := by
                show ∀ V, _
                intro V bX hB qX gX
                refine hGo.out _ _ _ _ ?_
                rw [← hA0.out]
                try simp only [Act.put, List.setIfInBounds_toArray, List.set_cons_zero, List.set_cons_succ]
                refine wpAnyH_ready (rs := [5]) (by kernel_rfl) (by simp) (AllReadyH.cons rfl (fun K hK => ?_) AllReadyH.nil)
                refine step_calls_dst rfl 98 rfl 38 [.tmp 93, .tmp 97] #[51, 46] rfl [.agg #[.slice ka ks.length kc], .slice q.sa 32 q.cap] rfl (enters_of Tryd.func38 (by kernel_rfl) rfl) (fun v w' => (∃ c : Ct, v = .tuple #[.agg #[.int .i64 c.au, .int .i64 c.rd, .slice c.ba c.bl.length c.bc, .slice c.pa c.pl.length c.pc, .slice c.va c.vl.length c.vc], .int .i64 0] ∧ CtAt w' c ∧ Hid ((c.v = cvAt (cvs ks) pi ∨ (unlikeC (cvAt (cvs ks) pi) c.v ∧ Coll (cvs ks))) ∧ c.v ∈ cvs ks) ∧ ∀ b, CtIn c b → V.heap.size ≤ b) ∧ Below V.heap.size V w') ((HFD.out V hB).mono (fun e w2 h => ⟨_, h.1.choose_spec.1, ⟨_, rfl, h.1.choose_spec.2⟩, h.2⟩)) ?_
                rintro v W' ⟨⟨c, rfl, hC_n, HC_n, hfr⟩, hb⟩
                have hBn := hB.trans (hb.mono hB.size)
                have hCM_n : ∀ b, CtIn c b → b ≠ MB := fun b hb' => by have := hfr b hb'; have := hB.size; have := hMBl; omega
                have hCX_n : ∀ b, CtIn c b → b ≠ bX := fun b hb' => by have := hfr b hb'; have := lt_of_heap qX; omega
                refine hK.out _ _ ⟨(hBn.cell (p := ⟨D, 0, none⟩) (block_lt_of_cell e0)).trans e0, (hBn.cell (p := ⟨qb, qo + i, none⟩) (block_lt_of_cell e1)).trans e1⟩ (fun hHeld => ?_)
                simp only [Act.put, List.setIfInBounds_toArray, List.set_cons_zero, List.set_cons_succ]
                refine take_dst (i := 6) (d := 92) (v := .tuple #[.agg #[.int .i64 c.au, .int .i64 c.rd, .slice c.ba c.bl.length c.bc, .slice c.pa c.pl.length c.pc, .slice c.va c.vl.length c.vc], .int .i64 0]) rfl rfl (by kernel_rfl) (by kernel_rfl) (by kernel_rfl) (fun _ _ _ h => h) (Or.inl ⟨by rfl, ?_⟩) hHeld ?_
                · (intro w0 hSw; (try dsimp only at hSw); go_simp)
                simp only [Act.put, List.setIfInBounds_toArray, List.set_cons_zero, List.set_cons_succ]
                refine take_dst (i := 7) (d := 99) (v := .agg #[.int .i64 c.au, .int .i64 c.rd, .slice c.ba c.bl.length c.bc, .slice c.pa c.pl.length c.pc, .slice c.va c.vl.length c.vc]) rfl rfl (by kernel_rfl) (by kernel_rfl) (by kernel_rfl) (fun _ _ _ h => h) (Or.inl ⟨by rfl, ?_⟩) hHeld ?_
                · (intro w0 hSw; (try dsimp only at hSw); go_simp)
                simp only [Act.put, List.setIfInBounds_toArray, List.set_cons_zero, List.set_cons_succ]
                refine take_dst (i := 8) (d := 100) (v := .int .i64 0) rfl rfl (by kernel_rfl) (by kernel_rfl) (by kernel_rfl) (fun _ _ _ h => h) (Or.inl ⟨by rfl, ?_⟩) hHeld ?_
                · (intro w0 hSw; (try dsimp only at hSw); go_simp)
                simp only [Act.put, List.setIfInBounds_toArray, List.set_cons_zero, List.set_cons_succ]
                clear hHeld
                have h := st_FX.out W' c bX hBn hC_n HC_n hCM_n ((hb.block _ (lt_of_heap qX)).trans qX) gX hCX_n
                rw [← hA0.out] at h
                (try simp only [Act.put, List.setIfInBounds_toArray, List.set_cons_zero, List.set_cons_succ] at h)
                (try simp only [Act.put, List.setIfInBounds_toArray, List.set_cons_zero, List.set_cons_succ])
                exact hGi.out _ _ _ _ h
              have st_0 : Hid (∀ (V : World), Below VR.heap.size VR V → GO 7 #[true, true, true, true, true, false, false, false, false, false, false, false] A0 V) := by
                show ∀ V, _
                intro V  hB 
                refine hGo.out _ _ _ _ ?_
                rw [← hA0.out]
                try simp only [Act.put, List.setIfInBounds_toArray, List.set_cons_zero, List.set_cons_succ]
                refine wpAnyH_ready (rs := [5, 9]) (by kernel_rfl) (by simp) (AllReadyH.cons rfl (fun K hK => ?_) (AllReadyH.cons rfl (fun K hK => ?_) AllReadyH.nil))
                · skip
                  refine step_calls_dst rfl 98 rfl 38 [.tmp 93, .tmp 97] #[51, 46] rfl [.agg #[.slice ka ks.length kc], .slice q.sa 32 q.cap] rfl (enters_of Tryd.func38 (by kernel_rfl) rfl) (fun v w' => (∃ c : Ct, v = .tuple #[.agg #[.int .i64 c.au, .int .i64 c.rd, .slice c.ba c.bl.length c.bc, .slice c.pa c.pl.length c.pc, .slice c.va c.vl.length c.vc], .int .i64 0] ∧ CtAt w' c ∧ Hid ((c.v = cvAt (cvs ks) pi ∨ (unlikeC (cvAt (cvs ks) pi) c.v ∧ Coll (cvs ks))) ∧ c.v ∈ cvs ks) ∧ ∀ b, CtIn c b → V.heap.size ≤ b) ∧ Below V.heap.size V w') ((HFD.out V hB).mono (fun e w2 h => ⟨_, h.1.choose_spec.1, ⟨_, rfl, h.1.choose_spec.2⟩, h.2⟩)) ?_
                  rintro v W' ⟨⟨c, rfl, hC_n, HC_n, hfr⟩, hb⟩
                  have hBn := hB.trans (hb.mono hB.size)
                  have hCM_n : ∀ b, CtIn c b → b ≠ MB := fun b hb' => by have := hfr b hb'; have := hB.size; have := hMBl; omega
                  refine hK.out _ _ ⟨(hBn.cell (p := ⟨D, 0, none⟩) (block_lt_of_cell e0)).trans e0, (hBn.cell (p := ⟨qb, qo + i, none⟩) (block_lt_of_cell e1)).trans e1⟩ (fun hHeld => ?_)
                  simp only [Act.put, List.setIfInBounds_toArray, List.set_cons_zero, List.set_cons_succ]
                  refine take_dst (i := 6) (d := 92) (v := .tuple #[.agg #[.int .i64 c.au, .int .i64 c.rd, .slice c.ba c.bl.length c.bc, .slice c.pa c.pl.length c.pc, .slice c.va c.vl.length c.vc], .int .i64 0]) rfl rfl (by kernel_rfl) (by kernel_rfl) (by kernel_rfl) (fun _ _ _ h => h) (Or.inl ⟨by rfl, ?_⟩) hHeld ?_
                  · (intro w0 hSw; (try dsimp only at hSw); go_simp)
                  simp only [Act.put, List.setIfInBounds_toArray, List.set_cons_zero, List.set_cons_succ]
                  refine take_dst (i := 7) (d := 99) (v := .agg #[.int .i64 c.au, .int .i64 c.rd, .slice c.ba c.bl.length c.bc, .slice c.pa c.pl.length c.pc, .slice c.va c.vl.length c.vc]) rfl rfl (by kernel_rfl) (by kernel_rfl) (by kernel_rfl) (fun _ _ _ h => h) (Or.inl ⟨by rfl, ?_⟩) hHeld ?_
                  · (intro w0 hSw; (try dsimp only at hSw); go_simp)
                  simp only [Act.put, List.setIfInBounds_toArray, List.set_cons_zero, List.set_cons_succ]
                  refine take_dst (i := 8) (d := 100) (v := .int .i64 0) rfl rfl (by kernel_rfl) (by kernel_rfl) (by kernel_rfl) (fun _ _ _ h => h) (Or.inl ⟨by rfl, ?_⟩) hHeld ?_
                  · (intro w0 hSw; (try dsimp only at hSw); go_simp)
                  simp only [Act.put, List.setIfInBounds_toArray, List.set_cons_zero, List.set_cons_succ]
                  clear hHeld
                  have h := st_F.out W' c hBn hC_n HC_n hCM_n
                  rw [← hA0.out] at h
                  (try simp only [Act.put, List.setIfInBounds_toArray, List.set_cons_zero, List.set_cons_succ] at h)
                  (try simp only [Act.put, List.setIfInBounds_toArray, List.set_cons_zero, List.set_cons_succ])
                  exact hGi.out _ _ _ _ h
                · skip
                  refine step_run rfl 17 rfl (.pointer (some ⟨V.heap.size, 0, none⟩)) (V.alloc (.cells #[.int .i64 0, .int .i64 0, .slice none 0 0, .slice none 0 0, .slice none 0 0] 63)) (by go_simp) ?_
                  have hA : Below V.heap.size V (V.alloc (.cells #[.int .i64 0, .int .i64 0, .slice none 0 0, .slice none 0 0, .slice none 0 0] 63)) := (Below.refl _ _).alloc (Nat.le_refl _) _
                  have hBn := hB.trans (hA.mono hB.size)
                  have qX_n := heap_alloc_new V (.cells #[.int .i64 0, .int .i64 0, .slice none 0 0, .slice none 0 0, .slice none 0 0] 63)
                  have gX_n := hB.size
                  generalize hW' : V.alloc (.cells #[.int .i64 0, .int .i64 0, .slice none 0 0, .slice none 0 0, .slice none 0 0] 63) = W' at hA hBn qX_n ⊢
                  clear hW'
                  obtain ⟨bX, hx_e⟩ : ∃ bX, bX = V.heap.size := ⟨_, rfl⟩
                  rw [← hx_e] at qX_n gX_n ⊢
                  have hA' := hA
                  clear hx_e
                  refine hK.out _ _ ⟨(hBn.cell (p := ⟨D, 0, none⟩) (block_lt_of_cell e0)).trans e0, (hBn.cell (p := ⟨qb, qo + i, none⟩) (block_lt_of_cell e1)).trans e1⟩ (fun hHeld => ?_)
                  clear hHeld
                  have h := st_X.out W' bX hBn qX_n gX_n
                  rw [← hA0.out] at h
                  (try simp only [Act.put, List.setIfInBounds_toArray, List.set_cons_zero, List.set_cons_succ] at h)
                  (try simp only [Act.put, List.setIfInBounds_toArray, List.set_cons_zero, List.set_cons_succ])
                  exact hGi.out _ _ _ _ h
              exact st_0.out V0 hV0 
            case rest =>
              obtain ⟨X, c, rfl, rfl, qX, hC, HCI, hCM, hXM, hbA⟩ := hcut
              have hb7A := hb9.trans (hbA.mono hb9.size)
              have hBA := hB9.trans (hbA.mono hB9.size)
              have hownA := ownsMap_below hown hbA
              have hcbl : c.bl.length ≤ 3 := by
                obtain ⟨j, hj, e⟩ := List.getElem_of_mem HCI.out.2
                have h3 := dagF_f HD.out j hj
                have e3 : cvAt (cvs ks) j = (cvs ks)[j] := by simp [cvAt, hj]
                rw [e3, e] at h3
                have := (f_small h3).1
                rwa [show c.v.bl = bss c.bl from rfl, bss_length] at this
              have HORC : Hid (Coll (cvs ks) ∨ (c.v = cvAt h2 i ∧ (∀ s ∈ ml, hasT h2 (bws cl) s) ∧ ∀ s, hasT (h2.take i) (bws cl) s → s ∈ ml)) := by
                rcases HML.out with o | o
                · exact .inl o
                · rcases HCI.out.1 with g | g
                  · exact .inr ⟨by rw [HCV.out]; exact g, o⟩
                  · exact .inl g.2
              have hih : i < h2.length := by rw [← HHG.out.len]; exact hlk
              clear HFD HQB e0 e1 HML hown
              obtain ⟨WA, hWA⟩ : ∃ WA, WA = wc := ⟨_, rfl⟩
              subst hWA
              go_upto_region 26 with fail
              go_wp2_with fail
              go_loopw [19] (fun j wr => ∃ (b : Nat) (ml' : List ByteArray), b ≤ bl.length ∧ j = .int .i64 b ∧ ml'.length ≤ 240 * i + 4 * b ∧ Hid (Coll (cvs ks) ∨ ((∀ s ∈ ml', hasT h2 (bws cl) s) ∧ (∀ s ∈ ml, s ∈ ml') ∧ ∀ b' ∈ (bws cl).take b, 0 ≤ atF (cvAt h2 i).bl b'.d → ∀ s ∈ b'.ss, s ∈ ml')) ∧ wr.ownsMap Tryd.prog 9 (plainElem Tryd.prog 4) MB ml'.length (manyD ml') ∧ CtAt wr c ∧ wr.heap[X]? = some (.cells #[.int .i64 c.au, .int .i64 c.rd, .slice c.ba c.bl.length c.bc, .slice c.pa c.pl.length c.pc, .slice c.va c.vl.length c.vc] 63 (0, 0)) ∧ Below W7.heap.size W7 wr) (fun j _ => bl.length - (intOf j).toNat)
              case atStart => exact ⟨0, ml, Nat.zero_le _, rfl, by omega, (by
                show _ ∨ _
                rcases HORC.out with o | o
                · exact .inl o
                · exact .inr ⟨o.2.1, fun s hs => hs, fun b' hb' => by simp at hb'⟩), hownA, hC, qX, hb7A⟩
              case round =>
                clear hownA hC qX
                obtain ⟨b, ml', hb, rfl, hml', HMB2, hownB, hCB, qXB, hbB⟩ := hrel
                have hBB := hB7.trans (hbB.mono hB7.size)
                by_cases hlb : b < bl.length
                · have hlbI : (b : Int) < bl.length := by omega
                  have hbcl : b < cl.length := by have := HBL.out; omega
                  obtain ⟨c0, c1, c2⟩ := HBC.out b hbcl
                  obtain ⟨hxAt, hxf, hxm⟩ := HBA.out wr hbB b hbcl
                  have HXS : Hid (∀ W : World, Below W7.heap.size W7 W → BcAt W (cl[b])) := by
                    show ∀ W, _
                    intro W hW
                    exact (HBA.out W hW b hbcl).1
                  have HXT : Hid ((bws cl).take (b + 1) = (bws cl).take b ++ [(cl[b]).v] ∧ (cl[b]).v.f = 0 ∧ (cl[b]).v ∈ bws cl) := by
                    refine ⟨?_, hxf, hxm⟩
                    rw [List.take_succ_eq_append_getElem (by rw [bws_length]; exact hbcl)]
                    simp [bws]
                  clear hxf hxm
                  generalize cl[b] = x at c0 c1 c2 hxAt HXT HXS
                  have g0 := (hbB.cell (p := ⟨bb, bo + b * 3, none⟩) hbbl).trans c0
                  have g1 := (hbB.cell (p := ⟨bb, bo + b * 3 + 1, none⟩) hbbl).trans c1
                  have g2 := (hbB.cell (p := ⟨bb, bo + b * 3 + 2, none⟩) hbbl).trans c2
                  have hx4 : x.v.ss.length ≤ 4 ∧ ∀ s ∈ x.v.ss, s.size ≤ 20 := by
                    obtain ⟨y1, y2, y3, y4⟩ := batchF_ok HXT.out.2.1
                    exact ⟨y3.2, fun s hs => (y4 s hs).2⟩
                  have HX4 : Hid _ := hx4.2
                  have hx4l := hx4.1
                  clear hx4
                  have HDG : Calls Tryd.prog 42 #[.agg #[.int .i64 x.v.au, .int .i64 x.v.nu, .slice x.ta x.v.ss.length x.tc]] wr fun e w' => ∃ d, e = .returned (.tuple #[.slice (some ⟨d, 0, none⟩) 32 32, .int .i64 0]) ∧ wr.heap.size ≤ d ∧ Below wr.heap.size wr w' ∧ SliceAt w' (some ⟨d, 0, none⟩) 32 x.v.d := by
                    obtain ⟨y1, y2, y3, y4⟩ := batchF_ok HXT.out.2.1
                    exact batchDigest_ok x.v.au x.v.nu x.ta _ x.tc x.v.ss wr rfl hxAt.strs HXT.out.2.1 y1 (by omega) y3.2 (fun s hs => (y4 s hs).2) hxAt.lt (HT.out wr hBB)
                  go_wp2_with fail
                  refine HDG.mono ?_
                  rintro e wD ⟨xd, he, hgd, hbD, hsx⟩
                  subst he
                  dsimp only
                  have hb7D := hbB.trans (hbD.mono hbB.size)
                  have hBD := hBB.trans (hbD.mono hBB.size)
                  have hownD := ownsMap_below hownB hbD
                  have hCD := hCB.below hbD
                  have qXD := (hbD.block _ (lt_of_heap qXB)).trans qXB
                  have hxD := hxAt.below hbD
                  have hxdM : xd ≠ MB := by have := hownB.lt; omega
                  obtain ⟨NA, hNA⟩ : ∃ NA : Int, atF (bss c.bl) x.v.d = NA := ⟨_, rfl⟩
                  have HNA : Hid (c.v = cvAt h2 i → NA = atF (cvAt h2 i).bl x.v.d) := by
                    show _ → _
                    intro e
                    rw [← hNA, ← e]; rfl
                  clear HDG g0 g1 g2 hownB hCB qXB hxAt
                  go_upto_region 30 with fail
                  go_wp2_with fail
                  go_loopw [22] (fun j wr => ∃ (t' : Nat) (mi : List ByteArray), t' ≤ x.v.ss.length ∧ j = .int .i64 t' ∧ mi.length ≤ 240 * i + 4 * b + t' ∧ Hid (0 < t' → 0 ≤ NA) ∧ Hid (Coll (cvs ks) ∨ ((∀ s ∈ mi, hasT h2 (bws cl) s) ∧ (∀ s ∈ ml', s ∈ mi) ∧ ∀ s ∈ x.v.ss.take t', s ∈ mi)) ∧ wr.ownsMap Tryd.prog 9 (plainElem Tryd.prog 4) MB mi.length (manyD mi) ∧ CtAt wr c ∧ wr.heap[X]? = some (.cells #[.int .i64 c.au, .int .i64 c.rd, .slice c.ba c.bl.length c.bc, .slice c.pa c.pl.length c.pc, .slice c.va c.vl.length c.vc] 63 (0, 0)) ∧ SliceAt wr (some ⟨xd, 0, none⟩) 32 x.v.d ∧ Below W7.heap.size W7 wr) (fun j _ => x.v.ss.length - (intOf j).toNat)
                  case atStart => exact ⟨0, ml', Nat.zero_le _, rfl, by omega, (show _ → _ from fun h => by omega), (by
                    show _ ∨ _
                    rcases HMB2.out with o | o
                    · exact .inl o
                    · exact .inr ⟨o.1, fun s hs => hs, fun s hs => absurd hs (by simp)⟩), hownD, hCD, qXD, hsx, hb7D⟩
                  case round =>
                    clear hownD hCD qXD hsx hxD
                    obtain ⟨t', mi, ht', rfl, hmi, HT0, HMI, hownE, hCE, qXE, hsxE, hbE⟩ := hrel
                    have hBE := hB7.trans (hbE.mono hB7.size)
                    have k2 := (hbE.cell (p := ⟨bb, bo + b * 3 + 2, none⟩) hbbl).trans c2
                    have HNEXT : Hid ((t' < x.v.ss.length → NA < 0) → Hid (Coll (cvs ks) ∨ ((∀ s ∈ mi, hasT h2 (bws cl) s) ∧ (∀ s ∈ ml, s ∈ mi) ∧ ∀ b' ∈ (bws cl).take (b + 1), 0 ≤ atF (cvAt h2 i).bl b'.d → ∀ s ∈ b'.ss, s ∈ mi))) := by
                      show _ → _
                      intro hex
                      show _ ∨ _
                      rcases HMI.out with o | ⟨o1, o2, o3⟩
                      · exact .inl o
                      · rcases HMB2.out with o | ⟨p1, p2, p3⟩
                        · exact .inl o
                        · rcases HORC.out with o | o
                          · exact .inl o
                          · right
                            refine ⟨o1, fun s hs => o2 s (p2 s hs), fun b' hb' ha s hs => ?_⟩
                            rw [HXT.out.1] at hb'
                            rcases List.mem_append.1 hb' with g | g
                            · exact o2 s (p3 b' g ha s hs)
                            · obtain rfl : b' = x.v := by simpa using g
                              rw [← HNA.out o.1] at ha
                              have htl : t' = x.v.ss.length := by
                                rcases Nat.lt_or_ge t' x.v.ss.length with z | z
                                · have := hex z; omega
                                · omega
                              exact o3 s (by rw [htl, List.take_length]; exact hs)
                    by_cases hlt : t' < x.v.ss.length
                    · have hltI : (t' : Int) < x.v.ss.length := by omega
                      have x2 := cells_at qXE 2 _ rfl
                      have HAT := at_any c.bl c.ba _ c.bc x.v.d (some ⟨xd, 0, none⟩) 32 32 wr rfl (tagD_length _ _).symm hCE.hat.lb hsxE
                      rw [hNA] at HAT
                      by_cases hNA0 : 0 ≤ NA
                      · have hstr := (HXS.out wr hbE).strs
                        obtain ⟨yb, yo, hye, hyc⟩ : ∃ yb yo, x.ta = some ⟨yb, yo, none⟩ ∧ ∀ j, j < x.v.ss.length → wr.cell? ⟨yb, yo + j, none⟩ = some (.string (x.v.ss.getD j ByteArray.empty)) := by
                          rcases hstr.cells with h | h
                          · rw [h] at hlt; simp at hlt
                          · exact h
                        have y0 := hyc t' hlt
                        have hym : x.v.ss.getD t' ByteArray.empty ∈ x.v.ss := by simp [hlt]
                        have HYS : Hid ((x.v.ss.getD t' ByteArray.empty).size ≤ maxLen) := by
                          have := HX4.out _ hym
                          show _ ≤ _
                          unfold maxLen; omega
                        have HYT : Hid (x.v.ss.take (t' + 1) = x.v.ss.take t' ++ [x.v.ss.getD t' ByteArray.empty] ∧ x.v.ss.getD t' ByteArray.empty ∈ x.v.ss) := by
                          refine ⟨?_, hym⟩
                          rw [List.take_succ_eq_append_getElem hlt]
                          simp [hlt]
                        clear hyc hym hstr
                        generalize x.v.ss.getD t' ByteArray.empty = y at y0 HYS HYT
                        have hkey : keyOf Tryd.prog 9 (.string y) = some (keyS y) := keyOf_string_mk Tryd.underlying9 HYS.out
                        have HMN : Hid (Coll (cvs ks) ∨ ((∀ s ∈ mi ++ [y], hasT h2 (bws cl) s) ∧ (∀ s ∈ ml', s ∈ mi ++ [y]) ∧ ∀ s ∈ x.v.ss.take (t' + 1), s ∈ mi ++ [y])) := by
                          show _ ∨ _
                          rcases HMI.out with o | ⟨o1, o2, o3⟩
                          · exact .inl o
                          · rcases HORC.out with o | o
                            · exact .inl o
                            · right
                              refine ⟨fun s hs => ?_, fun s hs => List.mem_append.2 (.inl (o2 s hs)), fun s hs => ?_⟩
                              · rcases List.mem_append.1 hs with g | g
                                · exact o1 s g
                                · obtain rfl : s = y := by simpa using g
                                  exact ⟨cvAt h2 i, cvAt_mem hih, x.v, HXT.out.2.2, by rw [← HNA.out o.1]; exact hNA0, HYT.out.2⟩
                              · rw [HYT.out.1] at hs
                                rcases List.mem_append.1 hs with g | g
                                · exact List.mem_append.2 (.inl (o3 s g))
                                · exact List.mem_append.2 (.inr g)
                        rw [hye] at k2
                        clear hye
                        go_wp2_with (first
                          | (go_at_call 39; refine HAT.mono ?_; rintro e w' ⟨rfl, rfl⟩)
                          | (at_mapUpdate; refine wpList_mapUpdate_own _ rfl _ _ _ 70 rfl 9 4 keyT Tryd.underlying70 (plainElem Tryd.prog 4) MB mi.length _ rfl hownE (by unfold maxLen; omega) _ _ _ rfl rfl hkey uT [] (plainElem_bool Tryd.underlying4 true) ?_; intro wF hownF hgF))
                        have hbF : Below W7.heap.size W7 wF := Below.grown hbE hgF hbE.size (fun q e => by cases e; rw [HMB.out]; exact Nat.le_refl _)
                        have hCF : CtAt wF c := hCE.keep hgF.size (fun b' hb' => hgF.block b' (hCE.block_lt b' hb') (fun e => hCM b' hb' (by cases e; rfl)))
                        have qXF := (hgF.block X (lt_of_heap qXE) (fun e => hXM (by cases e; rfl))).trans qXE
                        have hsxF : SliceAt wF (some ⟨xd, 0, none⟩) 32 x.v.d := slice_keep hsxE (fun b' so' _ e => by
                          cases e
                          have hlx : xd < wr.heap.size := by
                            rcases hsxE.bytes with h | ⟨sb', so'', e', h⟩
                            · have := tagD_length 1 (batchB x.v.au x.v.nu x.v.ss)
                              rw [show tagD 1 (batchB x.v.au x.v.nu x.v.ss) = x.v.d from rfl, h] at this; simp at this
                            · cases e'
                              exact block_lt_of_cell (h 0 (by rw [show x.v.d.length = 32 from tagD_length _ _]; decide))
                          exact hgF.block xd hlx (fun e => hxdM (by cases e; rfl)))
                        go_roundw
                        case rel =>
                          have hR : ∃ (t'' : Nat) (mi' : List ByteArray), t'' ≤ x.v.ss.length ∧ (Value.int .i64 ((t' : Int) + 1)) = .int .i64 t'' ∧ mi'.length ≤ 240 * i + 4 * b + t'' ∧ Hid (0 < t'' → 0 ≤ NA) ∧ Hid (Coll (cvs ks) ∨ ((∀ s ∈ mi', hasT h2 (bws cl) s) ∧ (∀ s ∈ ml', s ∈ mi') ∧ ∀ s ∈ x.v.ss.take t'', s ∈ mi')) ∧ wF.ownsMap Tryd.prog 9 (plainElem Tryd.prog 4) MB mi'.length (manyD mi') ∧ CtAt wF c ∧ wF.heap[X]? = some (.cells #[.int .i64 c.au, .int .i64 c.rd, .slice c.ba c.bl.length c.bc, .slice c.pa c.pl.length c.pc, .slice c.va c.vl.length c.vc] 63 (0, 0)) ∧ SliceAt wF (some ⟨xd, 0, none⟩) 32 x.v.d ∧ Below W7.heap.size W7 wF := ⟨t' + 1, mi ++ [y], by omega, by go_num, by rw [List.length_append]; simp; omega, (show _ → _ from fun _ => hNA0), HMN, by rw [manyD_snoc, List.length_append]; exact hownF, hCF, qXF, hsxF, hbF⟩
                          first | exact hR | ((repeat apply Exists.intro); exact ⟨hR, rfl⟩)
                        case measure => simp [intOf]; omega
                      · have HNB : Hid _ := HNEXT.out (fun _ => by omega)
                        go_wp2_with (go_at_call 39; refine HAT.mono ?_; rintro e w' ⟨rfl, rfl⟩)
                        go_roundw
                        case rel => exact ⟨b + 1, mi, by omega, by go_num, by omega, HNB.out, hownE, hCE, qXE, hbE⟩
                        case measure => simp [intOf]; omega
                    · obtain rfl : t' = x.v.ss.length := by omega
                      have HNB : Hid _ := HNEXT.out (fun h => by omega)
                      go_wp2_with fail
                      go_roundw
                      case rel => exact ⟨b + 1, mi, by omega, by go_num, by omega, HNB.out, hownE, hCE, qXE, hbE⟩
                      case measure => simp [intOf]; omega
                · obtain rfl : b = bl.length := by omega
                  have HN3 : Hid (Coll (cvs ks) ∨ ((∀ s ∈ ml', hasT h2 (bws cl) s) ∧ ∀ s, hasT (h2.take (i + 1)) (bws cl) s → s ∈ ml')) := by
                    show _ ∨ _
                    rcases HMB2.out with o | ⟨p1, p2, p3⟩
                    · exact .inl o
                    · rcases HORC.out with o | o
                      · exact .inl o
                      · right
                        refine ⟨p1, fun s hs => ?_⟩
                        obtain ⟨c', hc', b', hb', ha, hsb⟩ := hs
                        rw [List.take_succ_eq_append_getElem hih] at hc'
                        rcases List.mem_append.1 hc' with g | g
                        · exact p2 s (o.2.2 s ⟨c', g, b', hb', ha, hsb⟩)
                        · have e3 : c' = cvAt h2 i := by
                            have : c' = h2[i] := by simpa using g
                            rw [this]; simp [cvAt, hih]
                          rw [e3] at ha
                          refine p3 b' ?_ ha s hsb
                          rw [HBL.out, ← bws_length cl, List.take_length]; exact hb'
                  go_wp2_with fail
                  go_roundw
                  case rel => exact ⟨i + 1, ml', by omega, by go_num, by omega, HN3, hownB, hbB⟩
                  case measure => simp [intOf]; omega
          · obtain rfl : i = qs.length := by omega
            have HALL : Hid (Coll (cvs ks) ∨ ∀ s, s ∈ ml ↔ s ∈ A) := by
              show _ ∨ _
              rcases HML.out with o | ⟨o1, o2⟩
              · exact .inl o
              · right
                rw [HHG.out.len, List.take_length] at o2
                intro s
                rw [HNO.out.2 s, ← hasT_iff HTX.out.1 HTX.out.2 s]
                exact ⟨o1 s, o2 s⟩
            have HSIZ : Hid (Coll (cvs ks) ∨ (onceS [] ml).length = N) := by
              show _ ∨ _
              rcases HALL.out with o | o
              · exact .inl o
              · right
                rw [HNE.out]
                exact once_len (onceS_nodup ml [] (by simp)) HNO.out.1 (fun s => by rw [onceS_iff, o s])
            have HMS : Hid (Maps.size (manyD ml) = (onceS [] ml).length) := many_size ml
            generalize (onceS [] ml).length = SZ at HSIZ HMS
            obtain ⟨WZ, hWZ⟩ : ∃ WZ, WZ = wr := ⟨_, rfl⟩
            subst hWZ
            go_upto_region 34 with fail
            go_wp2_with fail
            go_loopw [23] (fun j wr => ∃ k : Nat, k ≤ N ∧ j = .int .i64 k ∧ WZ = wr) (fun j _ => N - (intOf j).toNat)
            case atStart => exact ⟨0, Nat.zero_le _, rfl, rfl⟩
            case round =>
              obtain ⟨k, hk, rfl, rfl⟩ := hrel
              by_cases hlkN : k < N
              · have hlkNI : (k : Int) < N := by omega
                obtain ⟨tb, tq, hte, htc⟩ := HSC.out (by omega)
                have hkA : k < A.length := by have := HNE.out; omega
                have u0 := htc k hkA
                have htbl : tb < w6.heap.size := block_lt_of_cell u0
                have hsA : A.getD k ByteArray.empty ∈ A := by simp [hkA]
                have hrun := many_look (s := A.getD k ByteArray.empty) hown (HSZ.out _ hsA)
                have HIA : Hid (Coll (cvs ks) ∨ inO (A.getD k ByteArray.empty) ml = true) := by
                  show _ ∨ _
                  rcases HALL.out with o | o
                  · exact .inl o
                  · exact .inr (inO_iff.2 ((o _).2 hsA))
                clear htc hsA
                subst hte
                generalize A.getD k ByteArray.empty = sk at u0 hrun HIA
                have g0 := (hb9.cell (p := ⟨tb, tq + k, none⟩) (Nat.lt_of_lt_of_le htbl hb7.size)).trans ((hb7.cell (p := ⟨tb, tq + k, none⟩) htbl).trans u0)
                generalize inO sk ml = BQ at hrun HIA
                cases BQ with
                | false =>
                  have HCO : Hid (Coll (cvs ks) ∨ CollB ((bvTo (s0 :: l) (min (l.length + 1) 24)).map BV.w)) := by
                    rcases HIA.out with o | o
                    · exact .inl o
                    · cases o
                  go_wp2_with fail
                  go_ret
                  exact ⟨cvs ks, HG.out, .inr ⟨rfl, HCO.out⟩, hB9⟩
                | true =>
                  go_wp2_with fail
                  go_roundw
                  case rel => exact ⟨k + 1, by omega, by go_num, trivial⟩
                  case measure => simp [intOf]; omega
              · have hnkI : ¬ (k : Int) < N := by omega
                by_cases hSN : SZ = N
                · subst hSN
                  go_wp2_with (at_len; refine wpList_len_own _ rfl _ 70 rfl 9 4 Tryd.underlying70 _ MB ml.length _ rfl hown ?_; rw [HMS.out])
                  go_ret
                  exact ⟨cvs ks, HG.out, .inl rfl, hB9⟩
                · have HCO : Hid (Coll (cvs ks) ∨ CollB ((bvTo (s0 :: l) (min (l.length + 1) 24)).map BV.w)) := by
                    rcases HSIZ.out with o | o
                    · exact .inl o
                    · exact absurd o hSN
                  have hSI : ((N : Int) == (SZ : Int)) = false := by rw [beq_eq_false_iff_ne]; omega
                  clear hSN
                  go_wp2_with (at_len; refine wpList_len_own _ rfl _ 70 rfl 9 4 Tryd.underlying70 _ MB ml.length _ rfl hown ?_; rw [HMS.out])
                  go_ret
                  exact ⟨cvs ks, HG.out, .inr ⟨rfl, HCO.out⟩, hB9⟩
set_option maxRecDepth 100000 in
theorem blockOnce_walk (sa : Option Addr) (cap : Nat) (l : List Stp) (n : Int) (w : World) (hl : StepsAt w sa l) (hcl : l.length ≤ cap) (hc0 : sa = none → cap = 0) (hc1 : l.length * 24 ≤ 140737488351232) (hn1 : -9223372036854775808 ≤ n) (hn2 : n ≤ 9223372036854775807) (hT : Tabs w) :
    Calls Tryd.prog 6 #[.slice sa l.length cap, .int .i64 n] w fun e w' => e = .returned (.bool true) ∧ Below w.heap.size w w' := by
  have H := blockOnce_any sa cap l n w hl hcl hc0 hc1 hn1 hn2 hT
  go_enter Tryd.func6, Tryd.ntmps6
  go_wp2_with fail
  refine H.mono ?_
  rintro e w1 ⟨cc, hG, hor, hb1⟩
  rcases hor with he | ⟨he, hco⟩
  · subst he
    dsimp only
    go_wp2_with fail
    go_ret
    exact ⟨rfl, hb1⟩
  · subst he
    dsimp only
    have H2 := grownSum_all l [] sa cap none 0 w1 cc (hl.below hb1) hcl hc0 hc1 ⟨.inl rfl, fun s hs => by cases hs⟩ (Nat.le_refl _) (fun _ => rfl) (by decide) hG (fun cx _ => hco.imp (coll_left cx) (collB_left _)) (hT.below hb1)
    clear H hG hcl hc0 hc1 hco
    go_wp2_with fail
    refine H2.mono ?_
    rintro e w2 ⟨he, hb2⟩
    subst he
    dsimp only
    go_wp2_with fail
    go_ret
    exact ⟨rfl, hb1.trans (hb2.mono hb1.size)⟩
end Go.Proofs.YtbmodfegcmaieaaDoor

namespace Go.Proofs.YtbmodfegcmaieaaDoor
open Go.RowKit

set_option maxRecDepth 100000 in
/-- An array of arrays of integers that reads as a table of rows holds the rows' numbers, cell for cell. -/
theorem cells_of_tab2 {H : Type} {enc : TypeId × Value → H} {P : Program} {w : World} {base : Nat} {sp : Nat → Bool} {held : Bool} {fuel : Nat} {t e i : TypeId} {n m : Nat} {k : IntKind} {cs : List Value} {rows : List (List Int)} {p : List MemPlace}
    (ht : P.underlying t = some (.array n e)) (he : P.underlying e = some (.array m i)) (hi : P.underlying i = some (.int k)) (hci : P.cellsOf i = 1) (hce : P.cellsOf e = m) (hm : 0 < m)
    (h : DataW.trod enc P w base sp held fuel t cs = some (.agg (rows.map (Lib.tabData k)), p)) (q : Nat) (hq : q < n * m) : cs[q]? = ((rows.getD (q / m) []).map (Value.int k))[q % m]? := by
  obtain ⟨xs, f, rfl, hx, hl, hn, hr⟩ := DataW.trod_array ht h
  have hin : q / m < n := Nat.div_lt_of_lt_mul (by rw [Nat.mul_comm]; exact hq)
  have hrow := hr (q / m) hin
  have hxs : xs.map (·.1) = rows.map (Lib.tabData k) := by
    have := congrArg Prod.fst hx
    simpa using this.symm
  have hg : (xs.map (·.1))[q / m]? = some (xs[q / m]'(by omega)).1 := by simp [hn, hin]
  rw [hxs] at hg
  simp only [List.getElem?_map, Option.map_eq_some_iff] at hg
  obtain ⟨r, hr1, hr2⟩ := hg
  rw [List.getElem?_eq_getElem (by omega), hce] at hrow
  have hrow' : DataW.trod enc P w base sp held f e ((cs.drop (q / m * m)).take m) = some (Lib.tabData k r, (xs[q / m]'(by omega)).2) := by
    rw [hrow, hr2]
  have hc := Lib.cells_of_tab he hi hci hce hrow'
  have hj : q % m < m := Nat.mod_lt _ hm
  have e1 : ((cs.drop (q / m * m)).take m)[q % m]? = cs[q]? := by
    rw [List.getElem?_take, if_pos hj, List.getElem?_drop, Nat.mul_comm, Nat.div_add_mod]
  rw [← e1, hc]
  simp [List.getD, hr1]

set_option maxRecDepth 100000 in
theorem tFirst : (Tryd.prog.globals[0]?).map (·.type) = some 142 := by kernel_rfl
set_option maxRecDepth 100000 in
theorem tOrders : (Tryd.prog.globals[1]?).map (·.type) = some 172 := by kernel_rfl
set_option maxRecDepth 100000 in
theorem tLanes : (Tryd.prog.globals[2]?).map (·.type) = some 174 := by kernel_rfl
set_option maxRecDepth 100000 in
theorem cU32 : Tryd.prog.cellsOf 141 = 1 := by kernel_rfl
set_option maxRecDepth 100000 in
theorem c8U32 : Tryd.prog.cellsOf 142 = 8 := by kernel_rfl
set_option maxRecDepth 100000 in
theorem c16U8 : Tryd.prog.cellsOf 171 = 16 := by kernel_rfl
set_option maxRecDepth 100000 in
theorem c4U8 : Tryd.prog.cellsOf 173 = 4 := by kernel_rfl
def ordRows : List (List Int) := [[0, 1, 2, 3, 4, 5, 6, 7, 8, 9, 10, 11, 12, 13, 14, 15], [14, 10, 4, 8, 9, 15, 13, 6, 1, 12, 0, 2, 11, 7, 5, 3], [11, 8, 12, 0, 5, 2, 15, 13, 10, 14, 3, 6, 7, 1, 9, 4], [7, 9, 3, 1, 13, 12, 11, 14, 2, 6, 5, 10, 4, 0, 15, 8], [9, 0, 5, 7, 2, 4, 10, 15, 14, 1, 11, 12, 6, 8, 3, 13], [2, 12, 6, 10, 0, 11, 8, 3, 4, 13, 7, 5, 15, 14, 1, 9], [12, 5, 1, 15, 14, 13, 4, 10, 0, 7, 6, 3, 9, 2, 8, 11], [13, 11, 7, 14, 12, 1, 3, 9, 5, 0, 15, 4, 8, 6, 2, 10], [6, 15, 14, 9, 11, 3, 0, 8, 12, 2, 13, 7, 1, 4, 10, 5], [10, 2, 8, 4, 7, 6, 1, 5, 15, 11, 9, 14, 3, 12, 13, 0]]
def laneRows : List (List Int) := [[0, 4, 8, 12], [1, 5, 9, 13], [2, 6, 10, 14], [3, 7, 11, 15], [0, 5, 10, 15], [1, 6, 11, 12], [2, 7, 8, 13], [3, 4, 9, 14]]
set_option maxRecDepth 100000 in
theorem ordRows_flat : ∀ q, q < 160 → (ordRows.getD (q / 16) [])[q % 16]? = some ((ordF.getD q 0 : Nat) : Int) := by decide +kernel
set_option maxRecDepth 100000 in
theorem laneRows_flat : ∀ q, q < 32 → (laneRows.getD (q / 4) [])[q % 4]? = some ((laneF.getD q 0 : Nat) : Int) := by decide +kernel
set_option maxRecDepth 100000 in
theorem dFirst : Rows.laid_sheaves_blake_firstWords (H := Unit) = Lib.tabData .u32 fw := rfl
set_option maxRecDepth 100000 in
theorem dOrders : Rows.laid_sheaves_blake_orders (H := Unit) = .agg (ordRows.map (Lib.tabData .u8)) := rfl
set_option maxRecDepth 100000 in
theorem dLanes : Rows.laid_sheaves_blake_lanes (H := Unit) = .agg (laneRows.map (Lib.tabData .u8)) := rfl

set_option maxRecDepth 100000 in
theorem tabs_of_laid {W : World} {n1 n2 n3 : String} (gFirst : Tryd.prog.globalNamed n1 = some 0) (gOrders : Tryd.prog.globalNamed n2 = some 1) (gLanes : Tryd.prog.globalNamed n3 = some 2)
    (h : laidMetH Tryd.prog [(n1, Rows.laid_sheaves_blake_firstWords), (n2, Rows.laid_sheaves_blake_orders), (n3, Rows.laid_sheaves_blake_lanes)] W) : Tabs W := by
  have h1 : laidMet Tryd.prog [(n1, Rows.laid_sheaves_blake_firstWords), (n2, Rows.laid_sheaves_blake_orders), (n3, Rows.laid_sheaves_blake_lanes)] W := h
  clear h
  have h2 := h1.tail
  have h3 := h2.tail
  rw [dFirst] at h1
  rw [dOrders] at h2
  rw [dLanes] at h3
  have t1 := Lib.tabIs_of_head gFirst tFirst Tryd.underlying142 Tryd.underlying141 cU32 c8U32 h1
  refine ⟨fun i hi => t1.cell gFirst i hi, fun i hi => ?_, fun i hi => ?_⟩
  · obtain ⟨ps, ⟨g', t', cs, fuel, p, q, hg', ht', hvar, hd, _, _⟩, _⟩ := h2
    obtain rfl := Option.some.inj (gOrders.symm.trans hg')
    obtain rfl := Option.some.inj (tOrders.symm.trans ht')
    have hc := World.var?_cell gOrders hvar i
    have he := cells_of_tab2 Tryd.underlying172 Tryd.underlying171 Tryd.underlying5 cU8 c16U8 (by decide) hd i hi
    rw [hc]
    have := ordRows_flat i hi
    simp only [List.getElem?_map, this, Option.map_some] at he
    simpa using he
  · obtain ⟨ps, ⟨g', t', cs, fuel, p, q, hg', ht', hvar, hd, _, _⟩, _⟩ := h3
    obtain rfl := Option.some.inj (gLanes.symm.trans hg')
    obtain rfl := Option.some.inj (tLanes.symm.trans ht')
    have hc := World.var?_cell gLanes hvar i
    have he := cells_of_tab2 Tryd.underlying174 Tryd.underlying173 Tryd.underlying5 cU8 c4U8 (by decide) hd i hi
    rw [hc]
    have := laneRows_flat i hi
    simp only [List.getElem?_map, this, Option.map_some] at he
    simpa using he
end Go.Proofs.YtbmodfegcmaieaaDoor

namespace Go.Proofs.YtbmodfegcmaieaaDoor
open Go.ChangeShapes Go.WideShapes Go.ChangeAt Go.RowKit

/-- What the initialisers of the three tables lay, in the first blocks. -/
def layBlock (c : Array Value) : Obj → Obj
  | .cells _ t frozen => .cells c t frozen
  | o => o
def layTabs (w : World) : World :=
  { w with heap := ((w.heap.modify 0 (layBlock (ua fw))).modify 1 (layBlock (ub (ordF.map Int.ofNat)).toArray)).modify 2 (layBlock (ub (laneF.map Int.ofNat)).toArray) }
end Go.Proofs.YtbmodfegcmaieaaDoor

namespace Go.Proofs.YtbmodfegcmaieaaDoor.blockOnce
open Go.ChangeShapes Go.WideShapes Go.ChangeAt Go.RowKit

set_option maxRecDepth 100000 in
/-- What the walk gives, for every argument and every world that holds the tables. -/
theorem contract (H : Type) (enc : TypeId × Value → H) (W : World) (base : Nat) (args : Array Value) (ds gs : List (DataW H)) (before : List MemPlace)
    (hval : ∀ (j : Nat) t v, Tryd.f6.params[j]? = some t → args[j]? = some v → Value.okWide Tryd.prog W .any base t v)
    (hW : DataW.Whole enc Tryd.prog Tryd.f6.params.toList Rows.blockOnceSpec.vars false W args.toList ds gs before) (hsz : (DataW.weightsEach Tryd.prog (Tryd.f6.params.toList ++ (OpenSpec.ofChange Rows.blockOnceSpec).bare.plain.varTypes Tryd.prog) (ds ++ gs)).all (· ≤ reachBytes) = true) (hL : laidMetH Tryd.prog Rows.blockOnceRow.laid W) :
    Calls Tryd.prog 6 args W fun e W' => ∃ v, e = .returned v ∧ Rows.blockOnceSpec.post enc Tryd.prog Tryd.f6 false true false false W args v W' := by
  have hW' := hW
  obtain ⟨p, q, hA0, hV, rfl, hfz, hnd⟩ := hW
  have hA : DataW.TrodAll enc Tryd.prog W 0 (fun _ => true) true Tryd.f6.params.toList args.toList ds p := hA0
  rw [Tryd.params6] at hA hval hsz
  obtain ⟨v0, vs0, d0, ds0, p0, q0, hargs, rfl, rfl, h0, r0⟩ := trodAll_cons hA
  obtain ⟨v1, vs1, d1, ds1, p1, q1, rfl, rfl, rfl, h1, r1⟩ := trodAll_cons r0
  obtain ⟨rfl, rfl, rfl⟩ := trodAll_nil r1
  obtain rfl : args = #[v0, v1] := by cases args; simp_all
  obtain ⟨rfl, rfl⟩ := trodVars_none hV
  have k0 := h0
  have lt0 : ∀ x ∈ p0, x.block < W.heap.size := by obtain ⟨m, hm⟩ := k0; exact DataW.trod_lt m _ _ _ hm
  obtain ⟨sa0, cap0, l0, rfl, q0_0, q0_1, q0_2, q0_3⟩ := open_steps (hval 0 27 v0 rfl rfl) h0 (fit_each hsz (j := 0) rfl rfl)
  obtain ⟨a1, rfl, rfl, rfl, w1⟩ := open_int Tryd.underlying3 (hval 1 3 v1 rfl rfl) h1
  obtain ⟨lo1, hi1⟩ := bounds_i64 w1
  clear hA0
  have hT : Tabs W := tabs_of_laid (by kernel_rfl) (by kernel_rfl) (by kernel_rfl) hL
  refine (blockOnce_walk sa0 cap0 l0 a1 W q0_0 q0_1 q0_2 q0_3 lo1 hi1 hT).mono fun e W' ⟨he, bel⟩ => ?_
  subst he
  exact ⟨_, rfl, _, _, _, [], _, [], hW', trodAll_mk1 (shut_bool Tryd.underlying4 _), (trodAll_cons_mk (Below.trod laidOut (by kernel_rfl) (of_decide_eq_true (by kernel_rfl)) k0 bel lt0) (trodAll_cons_mk (shut_int Tryd.underlying3 w1) trodAll_mk0)), rfl, bel.frame _, fun h => by cases h⟩

set_option maxRecDepth 100000 in
theorem laid_met (os : Os) : laidMet Tryd.prog Rows.blockOnceRow.laid ((layTabs (World.holding Tryd.prog os ⟨#[], #[], []⟩)).forCall (fun _ _ => 0) ⟨#[], #[.slice none 0 0, .int .i64 0], []⟩).memory :=
  laidMet_of_run' 8 (by kernel_rfl) (by kernel_rfl)
set_option maxRecDepth 100000 in
theorem reads (os : Os) {H : Type} (enc : TypeId × Value → H) : ∃ places, DataW.whole enc Tryd.prog ((layTabs (World.holding Tryd.prog os ⟨#[], #[], []⟩)).forCall (fun _ _ => 0) ⟨#[], #[.slice none 0 0, .int .i64 0], []⟩).memory Tryd.f6.params.toList Rows.blockOnceSpec.vars false (#[.slice none 0 0, .int .i64 0] : Array Value).toList 8 = some ([.nil, .lit (.int .i64 0)], [], places) :=
  ⟨[], by kernel_rfl⟩

set_option maxRecDepth 100000 in
theorem lifted (os : Os) (started : os.Started) (H : Type) (enc : TypeId × Value → H) (F : Stop.Interp) :
    ReturnsInHanded {} Tryd.checked os 6 .any ((OpenSpec.ofChange Rows.blockOnceSpec).preRow enc Tryd.prog Tryd.f6 Rows.blockOnceRow.domain false Rows.blockOnceRow.laid) (((OpenSpec.ofChange Rows.blockOnceSpec).at F).post enc Tryd.prog Tryd.f6 false true false false) := by
  obtain ⟨places, hx⟩ := reads os enc
  refine returnsInHanded_of_row (C := Tryd.checked) (s := OpenSpec.ofChange Rows.blockOnceSpec) own started (by kernel_rfl) Tryd.func6
    (witness_row_at (enc := enc) (C := Tryd.checked) false (layTabs (World.holding Tryd.prog os ⟨#[], #[], []⟩)) #[.slice none 0 0, .int .i64 0] rfl (by kernel_rfl) (by kernel_rfl) (by kernel_rfl)
      (OpenSpec.preRow_of_cond 8 hx (by kernel_rfl) (fun k hk => by cases hk) (by kernel_rfl) (laid_met os))) ?_
  intro W base args ds gs before hval hW _ _ hsz hL _ _
  exact contract H enc W base args ds gs before hval hW hsz hL

set_option maxRecDepth 100000 in
theorem said : Rows.BlockOnceSaid :=
  OpenClaim.holds_of_cond 6 Tryd.f6 rfl rfl rfl rfl rfl rfl rfl ⟨rfl, rfl, rfl, rfl, rfl⟩ rfl rfl rfl rfl rfl (by kernel_rfl) Tryd.func6 (by kernel_rfl)
    (of_decide_eq_true (by kernel_rfl)) (by unfold Func.isWrapper; first | (rw [if_pos (by decide +kernel)]; kernel_rfl) | (rw [if_neg (by decide +kernel)]; exact ⟨rfl, rfl⟩))
    (fun os started H enc _ F => by rw [OpenClaim.pre_eq_preRow]; exact lifted os started H enc F)

set_option maxRecDepth 100000 in
theorem plain (f : FuncId) (fn : Func) (hf : Tryd.pinned.checked.prog.funcNamed Rows.blockOnceRow.func = some f) (hfn : Tryd.pinned.checked.prog.funcs[f]? = some fn) :
    false = Tryd.pinned.checked.prog.looks [] ∧ ∀ (j : Nat) t, fn.params[j]? = some t → Tryd.pinned.checked.prog.wantsStandIn t = false := by
  obtain rfl : f = 6 := Option.some.inj ((show Tryd.prog.funcNamed Rows.blockOnceRow.func = some 6 by kernel_rfl).symm.trans hf) |>.symm
  obtain rfl : fn = Tryd.f6 := (Option.some.inj (Tryd.func6.symm.trans hfn)).symm
  refine ⟨by kernel_rfl, fun j t ht => ?_⟩
  rw [Tryd.params6] at ht
  have hm : t = 27 ∨ t = 3 := by simpa using Array.mem_of_getElem? ht
  rcases hm with rfl | rfl
  · exact (show Tryd.prog.wantsStandIn 27 = false by kernel_rfl)
  · exact (show Tryd.prog.wantsStandIn 3 = false by kernel_rfl)

set_option maxRecDepth 100000 in
/-- THE CARD. -/
theorem card : Rows.BlockOnceCardSaid :=
  Claim7.holds_tied_plain_at .later [] _ _ _ _ said (fun _ h => by cases h) (by kernel_rfl) (fun _ h => by cases h) blockOnce_row_tie rfl ⟨rfl, rfl⟩ (by kernel_rfl) rfl plain (by kernel_rfl)
end Go.Proofs.YtbmodfegcmaieaaDoor.blockOnce
namespace Go.Proofs.YtbmodfegcmaieaaDoor
set_option maxRecDepth 100000 in
theorem blockOnce_holds : Rows.BlockOnceCardSaid := blockOnce.card
#print axioms blockOnce_holds
end Go.Proofs.YtbmodfegcmaieaaDoor
