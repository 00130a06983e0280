/- RoundNext: the walk. -/
import Derived.Test.YtnpjhpmgelaonaaDoorGKGrown
import Derived.Test.YtnpjhpmgelaonaaDoorQDgA
import Derived.Test.YtnpjhpmgelaonaaDoorQDFndC
namespace Go.Proofs.YtnpjhpmgelaonaaDoor
open Go.RowKit

set_option maxRecDepth 100000 in
set_option maxHeartbeats 4000000 in
theorem roundNext_any (sa : Option Addr) (cap : Nat) (l : List Stp) (w : World) (hl : StepsAt w sa l) (hcl : l.length ≤ cap) (hc0 : sa = none → cap = 0) (hc1 : l.length * 24 ≤ 140737488351232) (hT : Tabs w) :
    Calls Tryd.prog 16 #[.slice sa l.length cap] w fun e w' => ∃ cc, GrownTo (s0 :: l) (min (l.length + 1) 24) cc ∧ (e = .returned (.bool true) ∨ (e = .returned (.bool false) ∧ Coll cc)) ∧ Below w.heap.size w w' := by
  have hnil : sa = none → l.length = 0 ∧ cap = 0 := fun h => by have := hc0 h; omega
  have H := grown_any l sa _ cap w rfl hl hnil hc1 hT
  have HT : Hid (∀ W : World, Below w.heap.size w W → Tabs W) := by
    show ∀ W, _
    exact fun W hW => hT.below hW
  clear hT hnil hc0 hc1 hcl
  go_enter Tryd.func16, Tryd.ntmps16
  go_wp2_with fail
  refine H.mono ?_
  rintro e w1 ⟨ka, kc, ks, ba, bc, bl, he, hG, hd, hnew, ho, hoff, hV, hb1⟩
  subst he
  dsimp only
  have hpos : 0 < ks.length := by have := grown_some (by omega) hG; rw [cvs_length] at this; exact this
  have HD : Hid (dagF (cvs ks) = 0) := hG.dag
  have HG : Hid (GrownTo (s0 :: l) (min (l.length + 1) 24) (cvs ks)) := hG
  have hle : ks.length ≤ 24 := by have := hG.len; rw [cvs_length] at this; omega
  have hA1 := (Below.refl w1.heap.size w1).alloc (Nat.le_refl _) (.cells #[.slice ka ks.length kc] 27)
  have qD := heap_alloc_new w1 (.cells #[.slice ka ks.length kc] 27)
  have hd2 := hd.below hA1
  have hB2 := hb1.trans (hA1.mono hb1.size)
  have hgD : w.heap.size ≤ w1.heap.size := hb1.size
  have hdlt : ∀ b, DagIn ka ks b → b < w1.heap.size := fun b hb => by
    rcases hb with ⟨so, e⟩ | ⟨c', hc', hq⟩
    · exact dag_row_lt hd hpos b so e
    · exact (hd.each c' hc').block_lt b hq
  clear hG hV ho hoff hnew hd H hl
  have e0 := cells_at qD 0 _ rfl
  go_wp2_with fail
  generalize w1.alloc (.cells #[.slice ka ks.length kc] 27) = W2 at hA1 qD hd2 hB2 e0 ⊢
  clear hA1
  generalize w1.heap.size = D at qD e0 hgD hdlt ⊢
  refine (dagRound_any ks ka _ kc W2 rfl hd2 (HT.out W2 hB2)).mono ?_
  rintro e w3 ⟨hR, hb3⟩
  unfold RndAt at hR
  rcases hR with ⟨hz, _⟩ | ⟨_, r, he, hN⟩
  · rw [HD.out] at hz; cases hz
  have hrb := next_bound HD.out hN
  have HN : Hid _ := hN
  subst he
  dsimp only
  have hB3 := hB2.trans (hb3.mono hB2.size)
  have qD3 := (hb3.block _ (lt_of_heap qD)).trans qD
  have hd3 := hd2.below hb3
  clear hd2 qD e0 hb3 hdlt hN
  have HV : Hid (∀ x ∈ cvs ks, x.vl = [0, 1, 2]) := HG.out.voters
  have HAU : Hid (∀ x ∈ cvs ks, 0 ≤ x.au ∧ x.au < 4 ∧ 1 ≤ x.rd ∧ x.rd ≤ 1048576) := by
    show ∀ x, _
    intro x hx
    obtain ⟨j, hj, rfl⟩ := List.getElem_of_mem hx
    have h2 := dagF_f HD.out j hj
    have e : cvAt (cvs ks) j = (cvs ks)[j] := by simp [cvAt, hj]
    rw [e] at h2
    have h3 := f_author h2
    have h4 := f_round h2
    omega
  have hr1 : ¬ r < 1 := by omega
  go_upto_region 5 with fail
  go_wp2_with fail
  go_loopw [7] (fun j wr => ∃ k : Int, 1 ≤ k ∧ k ≤ r + 1 ∧ j = .int .i64 k ∧ Below w3.heap.size w3 wr) (fun j _ => (r + 1 - intOf j).toNat)
  case atStart => exact ⟨1, by omega, by omega, rfl, Below.refl _ _⟩
  case round =>
    obtain ⟨k, hk1, hk2, rfl, hbr⟩ := hrel
    have hBr := hB3.trans (hbr.mono hB3.size)
    have qDr := (hbr.block _ (lt_of_heap qD3)).trans qD3
    have hdr := hd3.below hbr
    have d0 := cells_at qDr 0 _ rfl
    by_cases hkr : k ≤ r
    · have HDg := dagDigests_own ks ka _ kc k wr rfl hdr (HT.out wr hBr)
      go_wp2_with fail
      refine HDg.mono ?_
      intro e w4 hO
      have hb4' := hO.below
      rcases hO.out with ⟨hz, _⟩ | ⟨_, ma, mc, ms, he, hms, hL, hFr⟩
      · rw [HD.out] at hz; cases hz
      have HMS : Hid _ := hms
      have hml : ms.length = (dgF (cvs ks) k).length := by rw [← hms, bss_length]
      have HML : Hid (ms.length = (dgF (cvs ks) k).length) := hml
      have hm4 : ms.length ≤ 4 := by rw [hml]; exact dgTo_length _ _ 4
      have HKR : Hid ((k < r → 3 ≤ ms.length) ∧ (¬ k < r → ms.length < 3)) := by
        refine ⟨fun h => ?_, fun h => ?_⟩
        · rw [hml]; exact HN.out.2.1 k hk1 h
        · obtain rfl : k = r := by omega
          rw [hml]; exact HN.out.2.2
      subst he
      dsimp only
      clear hms hml hO HDg d0
      have hb4 := hbr.trans (hb4'.mono hbr.size)
      have hB4 := hB3.trans (hb4.mono hB3.size)
      have qD4 := (hb4.block _ (lt_of_heap qD3)).trans qD3
      go_upto_region 9 with fail
      go_cut [51] from 30 to 85 (fun v wx => v = .bool false ∧ w4 = wx)
      case first =>
        by_cases hlt : k < r
        · have h3 : (3 : Int) ≤ (ms.length : Int) := by have := HKR.out.1 hlt; omega
          go_wp2_with fail
          go_meet
          case rel => exact ⟨rfl, rfl⟩
        · have h3 : ¬ (3 : Int) ≤ (ms.length : Int) := by have := HKR.out.2 hlt; omega
          go_wp2_with fail
          go_meet
          case rel => exact ⟨rfl, rfl⟩
      case rest =>
        obtain ⟨rfl, rfl⟩ := hcut
        clear HKR
        go_upto_region 11 with fail
        go_wp2_with fail
        go_loopw [11, 10] (fun j v wr => ∃ (m : Nat) (la : Int), m ≤ ms.length ∧ j = .int .i64 m ∧ v = .int .i64 la ∧ -1 ≤ la ∧ la < 4 ∧ Hid (la = prevA (cvs ks) k m ∨ Coll (cvs ks)) ∧ Below w4.heap.size w4 wr) (fun j _ _ => ms.length - (intOf j).toNat)
        case atStart => exact ⟨0, -1, Nat.zero_le _, rfl, rfl, by omega, by omega, .inl rfl, Below.refl _ _⟩
        case round =>
          obtain ⟨m, la, hm, rfl, rfl, hl1, hl2, HLA, hb5⟩ := hrel
          have hb45 := hb4.trans (hb5.mono hb4.size)
          have hB5 := hB3.trans (hb45.mono hB3.size)
          by_cases hlt : m < ms.length
          · have hltI : (m : Int) < ms.length := by omega
            obtain ⟨i, hi, hid, hir, hia⟩ := dgF_at (l := cvs ks) (rd := k) (m := m) (by rw [← HML.out]; exact hlt)
            rw [cvs_length] at hi
            have HPL : Hid (prevA (cvs ks) k m < (cvAt (cvs ks) i).au ∧ (cvAt (cvs ks) i).rd = k ∧ (cvAt (cvs ks) i).au = prevA (cvs ks) k (m + 1)) := by
              refine ⟨?_, hir, ?_⟩
              · rw [hia]; exact prevA_lt (by rw [← HML.out]; exact hlt)
              · rw [hia, prevA, if_neg (by omega)]; rfl
            obtain ⟨sb, so, hse, hlc⟩ : ∃ sb so, ma = some ⟨sb, so, none⟩ ∧ ∀ j (h : j < ms.length), w4.cell? ⟨sb, so + j, none⟩ = some (.slice (ms[j]).sa (ms[j]).bs.length (ms[j]).cap) := by
              rcases hL.parts.cells with h | h
              · rw [h] at hlt; simp at hlt
              · exact h
            subst hse
            have l0 := hlc m hlt
            have hSl := hL.parts.each (ms[m]) (List.getElem_mem hlt)
            have HDI : Hid ((ms[m]).bs = (cvAt (cvs ks) i).d) := by
              show _ = _
              rw [← hid, ← HMS.out, bss_get ms m hlt]
            have h32 : (ms[m]).bs.length = 32 := by rw [HDI.out, CV.d_length]
            clear hlc hid hir hia
            generalize ms[m] = p at l0 hSl HDI h32
            rw [h32] at l0
            have hsbl : sb < w4.heap.size := block_lt_of_cell l0
            have qD5 := (hb5.block _ (lt_of_heap qD4)).trans qD4
            have hd5 := hd3.below hb45
            have e0 := cells_at qD5 0 _ rfl
            have e1 := (hb5.cell (p := ⟨sb, so + m, none⟩) hsbl).trans l0
            have hS5 := hSl.below hb5
            obtain ⟨VR, hVR⟩ : ∃ VR, VR = wr := ⟨_, rfl⟩
            subst hVR
            have HFD : Hid (∀ V : World, Below VR.heap.size VR V → Calls Tryd.prog 21 #[.agg #[.slice ka ks.length kc], .slice p.sa 32 p.cap] V fun e w' => (∃ c : Ct, e = .returned (.tuple #[.agg #[.int .i64 c.au, .int .i64 c.rd, .slice c.ba c.bl.length c.bc, .slice c.pa c.pl.length c.pc, .slice c.va c.vl.length c.vc], .int .i64 0]) ∧ CtAt w' c ∧ Hid ((c.v = cvAt (cvs ks) i ∨ (unlikeC (cvAt (cvs ks) i) c.v ∧ Coll (cvs ks))) ∧ c.v ∈ cvs ks) ∧ ∀ b, CtIn c b → V.heap.size ≤ b) ∧ Below V.heap.size V w') := by
              show ∀ V, _
              intro V hV
              exact find_at ks _ kc i p V HD.out HV.out hi (hd5.below hV) (hS5.below hV) HDI.out h32 (HT.out V (hB5.trans (hV.mono hB5.size)))
            go_upto_region 14 with fail
            go_cut [12, 13] from 52 to 85 (fun u v wx => ∃ (X : Nat) (c : Ct), u = .pointer (some ⟨X, 0, none⟩) ∧ v = .int .i64 0 ∧ wx.heap[X]? = some (.cells #[.int .i64 c.au, .int .i64 c.rd, .slice c.ba c.bl.length c.bc, .slice c.pa c.pl.length c.pc, .slice c.va c.vl.length c.vc] 36 (0, 0)) ∧ Hid ((c.v = cvAt (cvs ks) i ∨ (unlikeC (cvAt (cvs ks) i) c.v ∧ Coll (cvs ks))) ∧ c.v ∈ cvs ks) ∧ Below VR.heap.size VR wx)
            case first =>
              have hV0 : Below VR.heap.size VR VR.drew := (Below.refl _ _).drew
              refine wp_region_held_drew (S := fun w' => w'.cell? ⟨D, 0, none⟩ = some (.slice ka ks.length kc) ∧ w'.cell? ⟨sb, so + m, none⟩ = some (.slice p.sa 32 p.cap)) (by kernel_rfl) ⟨(hV0.cell (p := ⟨D, 0, none⟩) (block_lt_of_cell e0)).trans e0, (hV0.cell (p := ⟨sb, so + m, none⟩) (block_lt_of_cell e1)).trans e1⟩ (fun hHeld => ?_)
              generalize VR.drew = V0 at hV0 hHeld ⊢
              refine take_dst (i := 0) (d := 59) (v := .agg #[.slice ka ks.length kc]) rfl rfl (by kernel_rfl) (by kernel_rfl) (by kernel_rfl) (fun _ _ _ h => h) (Or.inl ⟨by rfl, ?_⟩) hHeld ?_
              · (intro w0 hSw; (try dsimp only at hSw); go_simp)
              simp only [Act.put, List.setIfInBounds_toArray, List.set_cons_zero, List.set_cons_succ]
              refine take_dst (i := 1) (d := 60) (v := .slice (some ⟨sb, so, none⟩) ms.length mc) rfl rfl (by kernel_rfl) (by kernel_rfl) (by kernel_rfl) (fun _ _ _ h => h) (Or.inl ⟨by rfl, ?_⟩) hHeld ?_
              · (intro w0 hSw; (try dsimp only at hSw); go_simp)
              simp only [Act.put, List.setIfInBounds_toArray, List.set_cons_zero, List.set_cons_succ]
              refine take_dst (i := 2) (d := 61) (v := .int .i64 (m : Int)) rfl rfl (by kernel_rfl) (by kernel_rfl) (by kernel_rfl) (fun _ _ _ h => h) (Or.inl ⟨by rfl, ?_⟩) hHeld ?_
              · (intro w0 hSw; (try dsimp only at hSw); go_simp)
              simp only [Act.put, List.setIfInBounds_toArray, List.set_cons_zero, List.set_cons_succ]
              refine take_dst (i := 3) (d := 62) (v := .pointer (some ⟨sb, so + m, none⟩)) rfl rfl (by kernel_rfl) (by kernel_rfl) (by kernel_rfl) (fun _ _ _ h => h) (Or.inl ⟨by rfl, ?_⟩) hHeld ?_
              · (intro w0 hSw; (try dsimp only at hSw); go_simp)
              simp only [Act.put, List.setIfInBounds_toArray, List.set_cons_zero, List.set_cons_succ]
              refine take_dst (i := 4) (d := 63) (v := .slice p.sa 32 p.cap) rfl rfl (by kernel_rfl) (by kernel_rfl) (by kernel_rfl) (fun _ _ _ h => h) (Or.inl ⟨by rfl, ?_⟩) hHeld ?_
              · (intro w0 hSw; (try dsimp only at hSw); go_simp)
              simp only [Act.put, List.setIfInBounds_toArray, List.set_cons_zero, List.set_cons_succ]
              clear hHeld
              refine any_named (fun GO hGo hGi => ?_)
              refine act_named (fun A0 hA0 => ?_)
              have st_FXS : Hid (∀ (V : World) (c : Ct) (bX : Nat), Below VR.heap.size VR V → (Hid ((c.v = cvAt (cvs ks) i ∨ (unlikeC (cvAt (cvs ks) i) c.v ∧ Coll (cvs ks))) ∧ c.v ∈ cvs ks)) → (VR.heap.size ≤ bX) → (V.heap[bX]? = some (.cells #[.int .i64 c.au, .int .i64 c.rd, .slice c.ba c.bl.length c.bc, .slice c.pa c.pl.length c.pc, .slice c.va c.vl.length c.vc] 36 (0, 0))) → GO 0 #[true, true, true, true, true, true, true, true, true, true, true, true] ((((((A0.put (some 64) (.tuple #[.agg #[.int .i64 c.au, .int .i64 c.rd, .slice c.ba c.bl.length c.bc, .slice c.pa c.pl.length c.pc, .slice c.va c.vl.length c.vc], .int .i64 0])).put (some 58) (.tuple #[.agg #[.int .i64 c.au, .int .i64 c.rd, .slice c.ba c.bl.length c.bc, .slice c.pa c.pl.length c.pc, .slice c.va c.vl.length c.vc], .int .i64 0])).put (some 65) (.agg #[.int .i64 c.au, .int .i64 c.rd, .slice c.ba c.bl.length c.bc, .slice c.pa c.pl.length c.pc, .slice c.va c.vl.length c.vc])).put (some 66) (.int .i64 0)).put (some 12) (.pointer (some ⟨bX, 0, none⟩))).put (some 13) (.int .i64 0)) V) := by
                show ∀ V, _
                intro V c bX hB HC gX qS
                refine hGo.out _ _ _ _ ?_
                rw [← hA0.out]
                try simp only [Act.put, List.setIfInBounds_toArray, List.set_cons_zero, List.set_cons_succ]
                refine wpAnyH_done (by kernel_rfl) ?_ _
                go_wp2_with fail
                go_meet
                case rel => exact ⟨bX, c, rfl, rfl, qS, HC, hB⟩
              have st_FX : Hid (∀ (V : World) (c : Ct) (bX : Nat), Below VR.heap.size VR V → (Hid ((c.v = cvAt (cvs ks) i ∨ (unlikeC (cvAt (cvs ks) i) c.v ∧ Coll (cvs ks))) ∧ c.v ∈ cvs ks)) → (V.heap[bX]? = some (.cells #[.int .i64 0, .int .i64 0, .slice none 0 0, .slice none 0 0, .slice none 0 0] 36 (0, 0))) → (VR.heap.size ≤ bX) → GO 2 #[true, true, true, true, true, true, true, true, true, true, false, false] (((((A0.put (some 64) (.tuple #[.agg #[.int .i64 c.au, .int .i64 c.rd, .slice c.ba c.bl.length c.bc, .slice c.pa c.pl.length c.pc, .slice c.va c.vl.length c.vc], .int .i64 0])).put (some 58) (.tuple #[.agg #[.int .i64 c.au, .int .i64 c.rd, .slice c.ba c.bl.length c.bc, .slice c.pa c.pl.length c.pc, .slice c.va c.vl.length c.vc], .int .i64 0])).put (some 65) (.agg #[.int .i64 c.au, .int .i64 c.rd, .slice c.ba c.bl.length c.bc, .slice c.pa c.pl.length c.pc, .slice c.va c.vl.length c.vc])).put (some 66) (.int .i64 0)).put (some 12) (.pointer (some ⟨bX, 0, none⟩))) V) := by
                show ∀ V, _
                intro V c bX hB HC qX gX
                refine hGo.out _ _ _ _ ?_
                rw [← hA0.out]
                try simp only [Act.put, List.setIfInBounds_toArray, List.set_cons_zero, List.set_cons_succ]
                refine wpAnyH_ready (rs := [10]) (by kernel_rfl) (by simp) (AllReadyH.cons rfl (fun K hK => ?_) AllReadyH.nil)
                have c0_ := cells_at qX 0 _ rfl
                have f0_ := frozen_at qX 0
                have c1_ := cells_at qX 1 _ rfl
                have f1_ := frozen_at qX 1
                have c2_ := cells_at qX 2 _ rfl
                have f2_ := frozen_at qX 2
                have c3_ := cells_at qX 3 _ rfl
                have f3_ := frozen_at qX 3
                have c4_ := cells_at qX 4 _ rfl
                have f4_ := frozen_at qX 4
                refine step_store rfl rfl (((((V.setCell ⟨bX, 0, none⟩ (.int .i64 c.au)).setCell ⟨bX, 1, none⟩ (.int .i64 c.rd)).setCell ⟨bX, 2, none⟩ (.slice c.ba c.bl.length c.bc)).setCell ⟨bX, 3, none⟩ (.slice c.pa c.pl.length c.pc)).setCell ⟨bX, 4, none⟩ (.slice c.va c.vl.length c.vc)) (by go_simp) ?_
                have hBn := (((((hB.setCell (p := ⟨bX, 0, none⟩) gX (.int .i64 c.au)).setCell (p := ⟨bX, 1, none⟩) gX (.int .i64 c.rd)).setCell (p := ⟨bX, 2, none⟩) gX (.slice c.ba c.bl.length c.bc)).setCell (p := ⟨bX, 3, none⟩) gX (.slice c.pa c.pl.length c.pc)).setCell (p := ⟨bX, 4, none⟩) gX (.slice c.va c.vl.length c.vc))
                have qS_n : (((((V.setCell ⟨bX, 0, none⟩ (.int .i64 c.au)).setCell ⟨bX, 1, none⟩ (.int .i64 c.rd)).setCell ⟨bX, 2, none⟩ (.slice c.ba c.bl.length c.bc)).setCell ⟨bX, 3, none⟩ (.slice c.pa c.pl.length c.pc)).setCell ⟨bX, 4, none⟩ (.slice c.va c.vl.length c.vc)).heap[bX]? = some (.cells #[.int .i64 c.au, .int .i64 c.rd, .slice c.ba c.bl.length c.bc, .slice c.pa c.pl.length c.pc, .slice c.va c.vl.length c.vc] 36 (0, 0)) := by simpa using (heap_setCell_same _ _ 4 _ _ (.slice c.va c.vl.length c.vc) (heap_setCell_same _ _ 3 _ _ (.slice c.pa c.pl.length c.pc) (heap_setCell_same _ _ 2 _ _ (.slice c.ba c.bl.length c.bc) (heap_setCell_same _ _ 1 _ _ (.int .i64 c.rd) (heap_setCell_same _ _ 0 _ _ (.int .i64 c.au) qX)))))
                generalize (((((V.setCell ⟨bX, 0, none⟩ (.int .i64 c.au)).setCell ⟨bX, 1, none⟩ (.int .i64 c.rd)).setCell ⟨bX, 2, none⟩ (.slice c.ba c.bl.length c.bc)).setCell ⟨bX, 3, none⟩ (.slice c.pa c.pl.length c.pc)).setCell ⟨bX, 4, none⟩ (.slice c.va c.vl.length c.vc)) = W' at hBn qS_n ⊢
                refine hK.out _ _ ⟨(hBn.cell (p := ⟨D, 0, none⟩) (block_lt_of_cell e0)).trans e0, (hBn.cell (p := ⟨sb, so + m, none⟩) (block_lt_of_cell e1)).trans e1⟩ (fun hHeld => ?_)
                simp only [List.setIfInBounds_toArray, List.set_cons_zero, List.set_cons_succ]
                refine take_dst (i := 11) (d := 13) (v := .int .i64 0) rfl rfl (by kernel_rfl) (by kernel_rfl) (by kernel_rfl) (fun _ _ _ h => h) (Or.inl ⟨by rfl, ?_⟩) hHeld ?_
                · (intro w0 hSw; (try dsimp only at hSw); go_simp)
                simp only [Act.put, List.setIfInBounds_toArray, List.set_cons_zero, List.set_cons_succ]
                clear hHeld
                have h := st_FXS.out W' c bX hBn HC gX qS_n
                rw [← hA0.out] at h
                (try simp only [Act.put, List.setIfInBounds_toArray, List.set_cons_zero, List.set_cons_succ] at h)
                (try simp only [Act.put, List.setIfInBounds_toArray, List.set_cons_zero, List.set_cons_succ])
                exact hGi.out _ _ _ _ h
              have st_F : Hid (∀ (V : World) (c : Ct), Below VR.heap.size VR V → (Hid ((c.v = cvAt (cvs ks) i ∨ (unlikeC (cvAt (cvs ks) i) c.v ∧ Coll (cvs ks))) ∧ c.v ∈ cvs ks)) → GO 3 #[true, true, true, true, true, true, true, true, true, false, false, false] ((((A0.put (some 64) (.tuple #[.agg #[.int .i64 c.au, .int .i64 c.rd, .slice c.ba c.bl.length c.bc, .slice c.pa c.pl.length c.pc, .slice c.va c.vl.length c.vc], .int .i64 0])).put (some 58) (.tuple #[.agg #[.int .i64 c.au, .int .i64 c.rd, .slice c.ba c.bl.length c.bc, .slice c.pa c.pl.length c.pc, .slice c.va c.vl.length c.vc], .int .i64 0])).put (some 65) (.agg #[.int .i64 c.au, .int .i64 c.rd, .slice c.ba c.bl.length c.bc, .slice c.pa c.pl.length c.pc, .slice c.va c.vl.length c.vc])).put (some 66) (.int .i64 0)) V) := by
                show ∀ V, _
                intro V c hB HC
                refine hGo.out _ _ _ _ ?_
                rw [← hA0.out]
                try simp only [Act.put, List.setIfInBounds_toArray, List.set_cons_zero, List.set_cons_succ]
                refine wpAnyH_ready (rs := [9]) (by kernel_rfl) (by simp) (AllReadyH.cons rfl (fun K hK => ?_) AllReadyH.nil)
                refine step_run rfl 12 rfl (.pointer (some ⟨V.heap.size, 0, none⟩)) (V.alloc (.cells #[.int .i64 0, .int .i64 0, .slice none 0 0, .slice none 0 0, .slice none 0 0] 36)) (by go_simp) ?_
                have hA : Below V.heap.size V (V.alloc (.cells #[.int .i64 0, .int .i64 0, .slice none 0 0, .slice none 0 0, .slice none 0 0] 36)) := (Below.refl _ _).alloc (Nat.le_refl _) _
                have hBn := hB.trans (hA.mono hB.size)
                have qX_n := heap_alloc_new V (.cells #[.int .i64 0, .int .i64 0, .slice none 0 0, .slice none 0 0, .slice none 0 0] 36)
                have gX_n := hB.size
                generalize hW' : V.alloc (.cells #[.int .i64 0, .int .i64 0, .slice none 0 0, .slice none 0 0, .slice none 0 0] 36) = W' at hA hBn qX_n ⊢
                clear hW'
                obtain ⟨bX, hx_e⟩ : ∃ bX, bX = V.heap.size := ⟨_, rfl⟩
                rw [← hx_e] at qX_n gX_n ⊢
                have hA' := hA
                clear hx_e
                refine hK.out _ _ ⟨(hBn.cell (p := ⟨D, 0, none⟩) (block_lt_of_cell e0)).trans e0, (hBn.cell (p := ⟨sb, so + m, none⟩) (block_lt_of_cell e1)).trans e1⟩ (fun hHeld => ?_)
                clear hHeld
                have h := st_FX.out W' c bX hBn HC qX_n gX_n
                rw [← hA0.out] at h
                (try simp only [Act.put, List.setIfInBounds_toArray, List.set_cons_zero, List.set_cons_succ] at h)
                (try simp only [Act.put, List.setIfInBounds_toArray, List.set_cons_zero, List.set_cons_succ])
                exact hGi.out _ _ _ _ h
              have st_X : Hid (∀ (V : World) (bX : Nat), Below VR.heap.size VR V → (V.heap[bX]? = some (.cells #[.int .i64 0, .int .i64 0, .slice none 0 0, .slice none 0 0, .slice none 0 0] 36 (0, 0))) → (VR.heap.size ≤ bX) → GO 6 #[true, true, true, true, true, false, false, false, false, true, false, false] (A0.put (some 12) (.pointer (some ⟨bX, 0, none⟩))) V) := by
                show ∀ V, _
                intro V bX hB qX gX
                refine hGo.out _ _ _ _ ?_
                rw [← hA0.out]
                try simp only [Act.put, List.setIfInBounds_toArray, List.set_cons_zero, List.set_cons_succ]
                refine wpAnyH_ready (rs := [5]) (by kernel_rfl) (by simp) (AllReadyH.cons rfl (fun K hK => ?_) AllReadyH.nil)
                refine step_calls_dst rfl 64 rfl 21 [.tmp 59, .tmp 63] #[27, 41] rfl [.agg #[.slice ka ks.length kc], .slice p.sa 32 p.cap] rfl (enters_of Tryd.func21 (by kernel_rfl) rfl) (fun v w' => (∃ c : Ct, v = .tuple #[.agg #[.int .i64 c.au, .int .i64 c.rd, .slice c.ba c.bl.length c.bc, .slice c.pa c.pl.length c.pc, .slice c.va c.vl.length c.vc], .int .i64 0] ∧ Hid ((c.v = cvAt (cvs ks) i ∨ (unlikeC (cvAt (cvs ks) i) c.v ∧ Coll (cvs ks))) ∧ c.v ∈ cvs ks)) ∧ Below V.heap.size V w') ((HFD.out V hB).mono (fun e w2 h => ⟨_, h.1.choose_spec.1, ⟨_, rfl, h.1.choose_spec.2.2.1⟩, h.2⟩)) ?_
                rintro v W' ⟨⟨c, rfl, HC_n⟩, hb⟩
                have hBn := hB.trans (hb.mono hB.size)
                refine hK.out _ _ ⟨(hBn.cell (p := ⟨D, 0, none⟩) (block_lt_of_cell e0)).trans e0, (hBn.cell (p := ⟨sb, so + m, none⟩) (block_lt_of_cell e1)).trans e1⟩ (fun hHeld => ?_)
                simp only [Act.put, List.setIfInBounds_toArray, List.set_cons_zero, List.set_cons_succ]
                refine take_dst (i := 6) (d := 58) (v := .tuple #[.agg #[.int .i64 c.au, .int .i64 c.rd, .slice c.ba c.bl.length c.bc, .slice c.pa c.pl.length c.pc, .slice c.va c.vl.length c.vc], .int .i64 0]) rfl rfl (by kernel_rfl) (by kernel_rfl) (by kernel_rfl) (fun _ _ _ h => h) (Or.inl ⟨by rfl, ?_⟩) hHeld ?_
                · (intro w0 hSw; (try dsimp only at hSw); go_simp)
                simp only [Act.put, List.setIfInBounds_toArray, List.set_cons_zero, List.set_cons_succ]
                refine take_dst (i := 7) (d := 65) (v := .agg #[.int .i64 c.au, .int .i64 c.rd, .slice c.ba c.bl.length c.bc, .slice c.pa c.pl.length c.pc, .slice c.va c.vl.length c.vc]) rfl rfl (by kernel_rfl) (by kernel_rfl) (by kernel_rfl) (fun _ _ _ h => h) (Or.inl ⟨by rfl, ?_⟩) hHeld ?_
                · (intro w0 hSw; (try dsimp only at hSw); go_simp)
                simp only [Act.put, List.setIfInBounds_toArray, List.set_cons_zero, List.set_cons_succ]
                refine take_dst (i := 8) (d := 66) (v := .int .i64 0) rfl rfl (by kernel_rfl) (by kernel_rfl) (by kernel_rfl) (fun _ _ _ h => h) (Or.inl ⟨by rfl, ?_⟩) hHeld ?_
                · (intro w0 hSw; (try dsimp only at hSw); go_simp)
                simp only [Act.put, List.setIfInBounds_toArray, List.set_cons_zero, List.set_cons_succ]
                clear hHeld
                have h := st_FX.out W' c bX hBn HC_n ((hb.block _ (lt_of_heap qX)).trans qX) gX
                rw [← hA0.out] at h
                (try simp only [Act.put, List.setIfInBounds_toArray, List.set_cons_zero, List.set_cons_succ] at h)
                (try simp only [Act.put, List.setIfInBounds_toArray, List.set_cons_zero, List.set_cons_succ])
                exact hGi.out _ _ _ _ h
              have st_0 : Hid (∀ (V : World), Below VR.heap.size VR V → GO 7 #[true, true, true, true, true, false, false, false, false, false, false, false] A0 V) := by
                show ∀ V, _
                intro V  hB 
                refine hGo.out _ _ _ _ ?_
                rw [← hA0.out]
                try simp only [Act.put, List.setIfInBounds_toArray, List.set_cons_zero, List.set_cons_succ]
                refine wpAnyH_ready (rs := [5, 9]) (by kernel_rfl) (by simp) (AllReadyH.cons rfl (fun K hK => ?_) (AllReadyH.cons rfl (fun K hK => ?_) AllReadyH.nil))
                · skip
                  refine step_calls_dst rfl 64 rfl 21 [.tmp 59, .tmp 63] #[27, 41] rfl [.agg #[.slice ka ks.length kc], .slice p.sa 32 p.cap] rfl (enters_of Tryd.func21 (by kernel_rfl) rfl) (fun v w' => (∃ c : Ct, v = .tuple #[.agg #[.int .i64 c.au, .int .i64 c.rd, .slice c.ba c.bl.length c.bc, .slice c.pa c.pl.length c.pc, .slice c.va c.vl.length c.vc], .int .i64 0] ∧ Hid ((c.v = cvAt (cvs ks) i ∨ (unlikeC (cvAt (cvs ks) i) c.v ∧ Coll (cvs ks))) ∧ c.v ∈ cvs ks)) ∧ Below V.heap.size V w') ((HFD.out V hB).mono (fun e w2 h => ⟨_, h.1.choose_spec.1, ⟨_, rfl, h.1.choose_spec.2.2.1⟩, h.2⟩)) ?_
                  rintro v W' ⟨⟨c, rfl, HC_n⟩, hb⟩
                  have hBn := hB.trans (hb.mono hB.size)
                  refine hK.out _ _ ⟨(hBn.cell (p := ⟨D, 0, none⟩) (block_lt_of_cell e0)).trans e0, (hBn.cell (p := ⟨sb, so + m, none⟩) (block_lt_of_cell e1)).trans e1⟩ (fun hHeld => ?_)
                  simp only [Act.put, List.setIfInBounds_toArray, List.set_cons_zero, List.set_cons_succ]
                  refine take_dst (i := 6) (d := 58) (v := .tuple #[.agg #[.int .i64 c.au, .int .i64 c.rd, .slice c.ba c.bl.length c.bc, .slice c.pa c.pl.length c.pc, .slice c.va c.vl.length c.vc], .int .i64 0]) rfl rfl (by kernel_rfl) (by kernel_rfl) (by kernel_rfl) (fun _ _ _ h => h) (Or.inl ⟨by rfl, ?_⟩) hHeld ?_
                  · (intro w0 hSw; (try dsimp only at hSw); go_simp)
                  simp only [Act.put, List.setIfInBounds_toArray, List.set_cons_zero, List.set_cons_succ]
                  refine take_dst (i := 7) (d := 65) (v := .agg #[.int .i64 c.au, .int .i64 c.rd, .slice c.ba c.bl.length c.bc, .slice c.pa c.pl.length c.pc, .slice c.va c.vl.length c.vc]) rfl rfl (by kernel_rfl) (by kernel_rfl) (by kernel_rfl) (fun _ _ _ h => h) (Or.inl ⟨by rfl, ?_⟩) hHeld ?_
                  · (intro w0 hSw; (try dsimp only at hSw); go_simp)
                  simp only [Act.put, List.setIfInBounds_toArray, List.set_cons_zero, List.set_cons_succ]
                  refine take_dst (i := 8) (d := 66) (v := .int .i64 0) rfl rfl (by kernel_rfl) (by kernel_rfl) (by kernel_rfl) (fun _ _ _ h => h) (Or.inl ⟨by rfl, ?_⟩) hHeld ?_
                  · (intro w0 hSw; (try dsimp only at hSw); go_simp)
                  simp only [Act.put, List.setIfInBounds_toArray, List.set_cons_zero, List.set_cons_succ]
                  clear hHeld
                  have h := st_F.out W' c hBn HC_n
                  rw [← hA0.out] at h
                  (try simp only [Act.put, List.setIfInBounds_toArray, List.set_cons_zero, List.set_cons_succ] at h)
                  (try simp only [Act.put, List.setIfInBounds_toArray, List.set_cons_zero, List.set_cons_succ])
                  exact hGi.out _ _ _ _ h
                · skip
                  refine step_run rfl 12 rfl (.pointer (some ⟨V.heap.size, 0, none⟩)) (V.alloc (.cells #[.int .i64 0, .int .i64 0, .slice none 0 0, .slice none 0 0, .slice none 0 0] 36)) (by go_simp) ?_
                  have hA : Below V.heap.size V (V.alloc (.cells #[.int .i64 0, .int .i64 0, .slice none 0 0, .slice none 0 0, .slice none 0 0] 36)) := (Below.refl _ _).alloc (Nat.le_refl _) _
                  have hBn := hB.trans (hA.mono hB.size)
                  have qX_n := heap_alloc_new V (.cells #[.int .i64 0, .int .i64 0, .slice none 0 0, .slice none 0 0, .slice none 0 0] 36)
                  have gX_n := hB.size
                  generalize hW' : V.alloc (.cells #[.int .i64 0, .int .i64 0, .slice none 0 0, .slice none 0 0, .slice none 0 0] 36) = W' at hA hBn qX_n ⊢
                  clear hW'
                  obtain ⟨bX, hx_e⟩ : ∃ bX, bX = V.heap.size := ⟨_, rfl⟩
                  rw [← hx_e] at qX_n gX_n ⊢
                  have hA' := hA
                  clear hx_e
                  refine hK.out _ _ ⟨(hBn.cell (p := ⟨D, 0, none⟩) (block_lt_of_cell e0)).trans e0, (hBn.cell (p := ⟨sb, so + m, none⟩) (block_lt_of_cell e1)).trans e1⟩ (fun hHeld => ?_)
                  clear hHeld
                  have h := st_X.out W' bX hBn qX_n gX_n
                  rw [← hA0.out] at h
                  (try simp only [Act.put, List.setIfInBounds_toArray, List.set_cons_zero, List.set_cons_succ] at h)
                  (try simp only [Act.put, List.setIfInBounds_toArray, List.set_cons_zero, List.set_cons_succ])
                  exact hGi.out _ _ _ _ h
              exact st_0.out V0 hV0
            case rest =>
              obtain ⟨X, c, rfl, rfl, qX, HCI, hb6⟩ := hcut
              have hb56 := hb5.trans (hb6.mono hb5.size)
              have hB6 := hB5.trans (hb6.mono hB5.size)
              have x0 := cells_at qX 0 _ rfl
              have x1 := cells_at qX 1 _ rfl
              obtain ⟨b1, b2, b3, b4⟩ := HAU.out _ HCI.out.2
              have hb1' : 0 ≤ c.au := b1
              have hb2' : c.au < 4 := b2
              have HOR : Hid (Coll (cvs ks) ∨ (c.rd = k ∧ la < c.au ∧ c.au = prevA (cvs ks) k (m + 1))) := by
                rcases HCI.out.1 with h | h
                · rcases HLA.out with g | g
                  · right
                    obtain ⟨p1, p2, p3⟩ := HPL.out
                    rw [← h] at p1 p2 p3
                    exact ⟨p2, by rw [g]; exact p1, p3⟩
                  · exact .inl g
                · exact .inl h.2
              clear HCI HFD HPL HDI b1 b2 b3 b4 e0 e1
              by_cases h1 : c.rd = k
              · by_cases h2 : c.au ≤ la
                · have HCO : Hid (Coll (cvs ks)) := by
                    rcases HOR.out with h | h
                    · exact h
                    · omega
                  go_wp2_with fail
                  go_ret
                  exact ⟨cvs ks, HG.out, .inr ⟨rfl, HCO.out⟩, hB6⟩
                · have HNX : Hid (c.au = prevA (cvs ks) k (m + 1) ∨ Coll (cvs ks)) := by
                    rcases HOR.out with h | h
                    · exact .inr h
                    · exact .inl h.2.2
                  clear HOR
                  go_wp2_with fail
                  go_roundw
                  case rel => exact ⟨m + 1, c.au, by omega, by go_num, rfl, by omega, by omega, HNX, hb56⟩
                  case measure => simp [intOf]; omega
              · have HCO : Hid (Coll (cvs ks)) := by
                  rcases HOR.out with h | h
                  · exact h
                  · exact absurd h.1 h1
                have h1b : (c.rd != k) = true := by simpa using h1
                clear h1
                go_wp2_with fail
                go_ret
                exact ⟨cvs ks, HG.out, .inr ⟨rfl, HCO.out⟩, hB6⟩
          · obtain rfl : m = ms.length := by omega
            go_wp2_with fail
            go_roundw
            case rel => exact ⟨k + 1, by omega, by omega, by go_num, hb45⟩
            case measure => simp [intOf]; omega
    · have hkI : ¬ k ≤ r := hkr
      go_wp2_with fail
      go_ret
      exact ⟨cvs ks, HG.out, .inl rfl, hBr⟩
set_option maxRecDepth 100000 in
theorem roundNext_walk (sa : Option Addr) (cap : Nat) (l : List Stp) (w : World) (hl : StepsAt w sa l) (hcl : l.length ≤ cap) (hc0 : sa = none → cap = 0) (hc1 : l.length * 24 ≤ 140737488351232) (hT : Tabs w) :
    Calls Tryd.prog 6 #[.slice sa l.length cap] w fun e w' => e = .returned (.bool true) ∧ Below w.heap.size w w' := by
  have H := roundNext_any sa cap l w hl hcl hc0 hc1 hT
  go_enter Tryd.func6, Tryd.ntmps6
  go_wp2_with fail
  refine H.mono ?_
  rintro e w1 ⟨cc, hG, hor, hb1⟩
  rcases hor with he | ⟨he, hco⟩
  · subst he
    dsimp only
    go_wp2_with fail
    go_ret
    exact ⟨rfl, hb1⟩
  · subst he
    dsimp only
    obtain ⟨K, I, h1, h2, h3, h4⟩ := hco
    have H2 := grownSum_true l sa cap w1 cc I K (hl.below hb1) hcl hc0 hc1 hG h1 h2 h3 h4 (hT.below hb1)
    clear H hG hcl hc0 hc1
    go_wp2_with fail
    refine H2.mono ?_
    rintro e w2 ⟨he, hb2⟩
    subst he
    dsimp only
    go_wp2_with fail
    go_ret
    exact ⟨rfl, hb1.trans (hb2.mono hb1.size)⟩
end Go.Proofs.YtnpjhpmgelaonaaDoor
