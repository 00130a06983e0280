/- The law sheaveskeep.DagGrows answers true for every argument, and each argument reads behind the call as it read before: the tied card. Its conditions: the three tables of package blake hold what the program's text lays (the card ties that); the form's own reach. -/
import Derived.Test.YtnpjhpmgelaonaaDoorGKGrown
import Derived.Test.YtnpjhpmgelaonaaDoorQGrwI
import Derived.Test.YtnpjhpmgelaonaaDoorQKGrw
import Derived.Test.YtnpjhpmgelaonaaDoorQKCert
import Derived.Test.YtnpjhpmgelaonaaDoorRows
import Derived.Test.YtnpjhpmgelaonaaDoorGK
import Derived.Test.YtnpjhpmgelaonaaDoorGSteps
import Derived.Lib.LaidTab
import Derived.OpenShut
import Derived.Stop.LaidErr
import Derived.Test.YtnpjhpmgelaonaaDoorGTagged
import Derived.ProofKit
import Derived.Test.YtnpjhpmgelaonaaDoorCards
import Derived.Test.YtnpjhpmgelaonaaDoorTie
import Derived.WalkKit
import Derived.Deep.DeepHandedRow
import Derived.SevenTiedAt
import Derived.Below
namespace Go.Proofs.YtnpjhpmgelaonaaDoor
open Go.RowKit

set_option maxRecDepth 100000 in
set_option maxHeartbeats 4000000 in
theorem dagGrows_any (sa : Option Addr) (cap : Nat) (l : List Stp) (n : Int) (w : World) (hl : StepsAt w sa l) (hcl : l.length ≤ cap) (hc0 : sa = none → cap = 0) (hc1 : l.length * 24 ≤ 140737488351232) (hn1 : -9223372036854775808 ≤ n) (hn2 : n ≤ 9223372036854775807) (hT : Tabs w) :
    Calls Tryd.prog 17 #[.slice sa l.length cap, .int .i64 n] w fun e w' => ∃ cc, GrownTo (s0 :: l) (min (l.length + 1) 24) cc ∧ (e = .returned (.bool true) ∨ (e = .returned (.bool false) ∧ Coll cc)) ∧ Below w.heap.size w w' := by
  have hnil : sa = none → l.length = 0 ∧ cap = 0 := fun h => by have := hc0 h; omega
  have H := grown_any l sa _ cap w rfl hl hnil hc1 hT
  have HT : Hid (∀ W : World, Below w.heap.size w W → Tabs W) := by
    show ∀ W, _
    exact fun W hW => hT.below hW
  clear hT hnil hc0 hc1 hcl
  go_enter Tryd.func17, Tryd.ntmps17
  go_wp2_with fail
  refine H.mono ?_
  rintro e w1 ⟨ka, kc, ks, ba, bc, bl, he, hG, hd, hnew, ho, hoff, hV, hb1⟩
  subst he
  dsimp only
  have hpos : 0 < ks.length := by have := grown_some (by omega) hG; rw [cvs_length] at this; exact this
  have HD : Hid (dagF (cvs ks) = 0) := hG.dag
  have HG : Hid (GrownTo (s0 :: l) (min (l.length + 1) 24) (cvs ks)) := hG
  have hle : ks.length ≤ 24 := by have := hG.len; rw [cvs_length] at this; omega
  have hA1 := (Below.refl w1.heap.size w1).alloc (Nat.le_refl _) (.cells #[.slice ka ks.length kc] 27)
  have qD := heap_alloc_new w1 (.cells #[.slice ka ks.length kc] 27)
  have hd2 := hd.below hA1
  have hB2 := hb1.trans (hA1.mono hb1.size)
  have hgD : w.heap.size ≤ w1.heap.size := hb1.size
  have hdlt : ∀ b, DagIn ka ks b → b < w1.heap.size := fun b hb => by
    rcases hb with ⟨so, e⟩ | ⟨c', hc', hq⟩
    · exact dag_row_lt hd hpos b so e
    · exact (hd.each c' hc').block_lt b hq
  clear hG hV ho hoff hnew hd H hl
  have e0 := cells_at qD 0 _ rfl
  have HV : Hid (∀ x ∈ cvs ks, x.vl = [0, 1, 2]) := HG.out.voters
  have HFU : Hid (∀ x ∈ cvs ks, x.f = 0 ∧ U8C x ∧ x.vl.length ≤ 1000) := by
    show ∀ x, _
    intro x hx
    refine ⟨?_, HG.out.u8 x hx, by rw [HV.out x hx]; decide⟩
    obtain ⟨j, hj, rfl⟩ := List.getElem_of_mem hx
    have h2 := dagF_f HD.out j hj
    have e : cvAt (cvs ks) j = (cvs ks)[j] := by simp [cvAt, hj]
    rw [e] at h2; exact h2
  go_wp2_with fail
  generalize w1.alloc (.cells #[.slice ka ks.length kc] 27) = W2 at hA1 qD hd2 hB2 e0 ⊢
  clear hA1
  generalize w1.heap.size = D at qD e0 hgD hdlt ⊢
  refine (dagRound_any ks ka _ kc W2 rfl hd2 (HT.out W2 hB2)).mono ?_
  rintro e w3 ⟨hR, hb3⟩
  unfold RndAt at hR
  rcases hR with ⟨hz, _⟩ | ⟨_, r, he, hN⟩
  · rw [HD.out] at hz; cases hz
  have hrb := next_bound HD.out hN
  have HN : Hid _ := hN
  have hrm : r ≤ 1000 := by
    rcases Int.lt_or_le 1 r with g | g
    · have h3 := hN.2.1 (r - 1) (by omega) (by omega)
      obtain ⟨j, hj, e⟩ := dgTo_some (cvs ks) (r - 1) 4 (by rw [dgF] at h3; omega)
      have h1 := HG.out.rounds _ (cvAt_mem hj)
      omega
    · omega
  subst he
  dsimp only
  have hB3 := hB2.trans (hb3.mono hB2.size)
  have qD3 := (hb3.block _ (lt_of_heap qD)).trans qD
  have hd3 := hd2.below hb3
  clear hd2 qD e0 hb3 hdlt hN
  have d0 := cells_at qD3 0 _ rfl
  have hwr : IntKind.i64.wrap (r - 1) = r - 1 := by rw [IntKind.wrap_i64]; omega
  go_wp2_with fail
  refine (dagDigests_own ks ka _ kc (r - 1) w3 rfl hd3 (HT.out w3 hB3)).mono ?_
  intro e w4 hO
  have hb4 := hO.below
  rcases hO.out with ⟨hz, _⟩ | ⟨_, ma, mc, ms, he, hms, hL, _⟩
  · rw [HD.out] at hz; cases hz
  have HMS : Hid _ := hms
  have hm4 : ms.length ≤ 4 := by
    have h9 := congrArg List.length hms
    rw [bss_length] at h9
    rw [h9]; exact dgTo_length _ _ 4
  subst he
  dsimp only
  clear hms hO d0
  have hpa := pk_bounds n 4 (by decide)
  go_wp2_with fail
  refine (picked_any n 4 w4 hn1 hn2 (by decide) (by decide)).mono ?_
  rintro e wq ⟨he, hwq⟩
  subst he hwq
  dsimp only
  generalize pk n 4 = PA at hpa ⊢
  have hA5 := (Below.refl w4.heap.size w4).alloc (Nat.le_refl _) (.cells #[.int .i64 PA, .int .i64 r, .slice none 0 0, .slice ma ms.length mc] 33)
  have qH := heap_alloc_new w4 (.cells #[.int .i64 PA, .int .i64 r, .slice none 0 0, .slice ma ms.length mc] 33)
  have hB4 := hB3.trans (hb4.mono hB3.size)
  have qD4 := (hb4.block _ (lt_of_heap qD3)).trans qD3
  have hd4 := hd3.below hb4
  go_upto_region 5 with fail
  generalize w4.alloc (.cells #[.int .i64 PA, .int .i64 r, .slice none 0 0, .slice ma ms.length mc] 33) = W5 at hA5 qH ⊢
  have hDH : D < w4.heap.size := lt_of_heap qD4
  obtain ⟨HB, hHB⟩ : ∃ HB, HB = w4.heap.size := ⟨_, rfl⟩
  rw [← hHB] at qH hDH ⊢
  have hHg : w4.heap.size ≤ HB := Nat.le_of_eq hHB.symm
  have hHl : HB ≤ w4.heap.size := Nat.le_of_eq hHB
  clear hHB
  go_upto_if 40 with fail
  go_cut [41] (fun _ wx => ∃ (pa : Option Addr) (pc : Nat) (pl : List Part), wx.heap[HB]? = some (.cells #[.int .i64 PA, .int .i64 r, .slice none 0 0, .slice pa pl.length pc] 33 (0, 0)) ∧ ListAt wx pa pc pl ∧ Hid (bss pl = grwP (cvs ks) r) ∧ (∀ sb so, pa = some ⟨sb, so, none⟩ → sb < wx.heap.size) ∧ pl.length ≤ 4 ∧ Below w4.heap.size w4 wx)
  case first =>
    by_cases hr1 : r = 1
    · subst hr1
      have z3 := cells_at qH 3 _ rfl
      have zf := frozen_at qH 3
      go_wp2_with fail
      go_meet
      case rel => exact ⟨none, 0, [], by simpa using heap_setCell_same _ _ 3 _ _ (.slice none 0 0) qH, list_none _, (show bss [] = _ by rw [grwP, if_pos rfl]; rfl), (fun _ _ e => by cases e), by decide, hA5.setCell (p := ⟨HB, 3, none⟩) hHg _⟩
    · have hr1b : (r == 1) = false := by simpa using hr1
      have HPL : Hid (bss ms = grwP (cvs ks) r) := by
        show _ = _
        rw [grwP, if_neg hr1]; exact HMS.out
      have hm3 : 3 ≤ ms.length := by
        have h9 := congrArg List.length HMS.out
        rw [bss_length] at h9
        rw [h9]; exact HN.out.2.1 (r - 1) (by omega) (by omega)
      clear hr1
      go_wp2_with fail
      go_meet
      case rel => exact ⟨ma, mc, ms, qH, hL.below hA5, HPL, fun b so e => Nat.lt_of_lt_of_le (list_lt hL (by omega) b so e) hA5.size, hm4, hA5⟩
  case rest =>
    obtain ⟨pa, pc, pl, qH6, hLp, HPL, hpr, hp4, hb6⟩ := hcut
    have hB6 := hB4.trans (hb6.mono hB4.size)
    have qD6 := (hb6.block _ (lt_of_heap qD4)).trans qD4
    have hd6 := hd4.below hb6
    have qI := heap_alloc_new wc (.cells #[.int .i64 1, .int .i64 2, .int .i64 3] 3)
    have hAI := (Below.refl wc.heap.size wc).alloc (Nat.le_refl _) (.cells #[.int .i64 1, .int .i64 2, .int .i64 3] 3)
    have hC6 : CtAt (wc.alloc (.cells #[.int .i64 1, .int .i64 2, .int .i64 3] 3)) ⟨PA, r, none, 0, [], pa, pc, pl, some ⟨wc.heap.size, 0, none⟩, 3, [1, 2, 3]⟩ := by
      have hb := bare_at PA r qI
      exact ⟨⟨list_none _, hLp.below hAI, (fun _ _ e => by cases e), (fun sb so e => Nat.lt_of_lt_of_le (hpr sb so e) hAI.size)⟩, hb.ints, hb.vle⟩
    have HCV : Hid ((⟨PA, r, none, 0, [], pa, pc, pl, some ⟨wc.heap.size, 0, none⟩, 3, [1, 2, 3]⟩ : Ct).v = grwC (cvs ks) r PA) := by
      show (⟨PA, r, bss [], bss pl, [1, 2, 3]⟩ : CV) = _
      rw [HPL.out]; rfl
    have HIn := dagInsert_any ks ka _ kc _ _ rfl (hd6.below hAI) hC6 (HT.out _ (hB6.trans (hAI.mono hB6.size)))
    rw [HCV.out] at HIn
    have HOR : Hid _ := grow_ins HD.out HV.out (by rw [cvs_length]; exact hle) HN.out (by omega) hpa
    have d0 := cells_at qD6 0 _ rfl
    have h0 := cells_at qH6 0 _ rfl
    have h1 := cells_at qH6 1 _ rfl
    have h2 := cells_at qH6 2 _ rfl
    have h3 := cells_at qH6 3 _ rfl
    clear hC6 HMS hL hA5 qH
    go_wp2_with fail
    refine HIn.mono ?_
    rintro e w7 ⟨hI7, hb7⟩
    have hb67 := hAI.trans (hb7.mono hAI.size)
    have hB7 := hB6.trans (hb67.mono hB6.size)
    have qD7 := (hb67.block _ (lt_of_heap qD6)).trans qD6
    have hposI : (0 : Int) < ks.length := by omega
    clear HIn d0 h0 h1 h2 h3
    by_cases hx7 : insE (cvs ks) (grwC (cvs ks) r PA) = 7
    · have he := in_err hI7 hx7 (by decide)
      subst he
      dsimp only
      have hA8 := (Below.refl w7.heap.size w7).alloc (Nat.le_refl _) (.cells #[.slice none 0 0] 27)
      have qD8 := (hA8.block _ (lt_of_heap qD7)).trans qD7
      have d0 := cells_at qD8 0 _ rfl
      have hB8 := hB7.trans (hA8.mono hB7.size)
      clear hx7 hI7 HOR
      go_wp2_with fail
      go_ret
      exact ⟨cvs ks, HG.out, .inl rfl, hB8⟩
    · by_cases hx0 : insE (cvs ks) (grwC (cvs ks) r PA) = 0
      · have HCF : Hid (cOf (cvs ks) PA r < 0) := by
          rcases HOR.out with h | h | h
          · exact h.2
          · exact absurd h hx7
          · exact takF_cOf (insE_ok HD.out hx0).2.1
        obtain ⟨ra, rc, ns, he, hcs, hdn, _, _⟩ := in_ok hI7 hx0
        have HND : Hid (dagF (cvs ns) = 0) := by
          show _ = _
          rw [hcs]; exact dag_snoc HD.out hx0
        have HCS : Hid _ := hcs
        have HNL : Hid (ns.length = ks.length + 1) := by
          show _ = _
          have := congrArg List.length hcs
          rw [cvs_length, List.length_append, cvs_length] at this
          exact this
        have HCF0 : Hid (insE (cvs ks) (grwC (cvs ks) r PA) = 0) := hx0
        subst he
        dsimp only
        have hA8 := (Below.refl w7.heap.size w7).alloc (Nat.le_refl _) (.cells #[.slice ra ns.length rc] 27)
        have qY := heap_alloc_new w7 (.cells #[.slice ra ns.length rc] 27)
        have hB8 := hB7.trans (hA8.mono hB7.size)
        have hb68 := hb67.trans (hA8.mono hb67.size)
        have hdn8 := hdn.below hA8
        have y0 := cells_at qY 0 _ rfl
        clear hI7 hx7 hx0 hcs HOR
        go_wp2_with fail
        generalize w7.alloc (.cells #[.slice ra ns.length rc] 27) = W8 at hA8 qY hB8 hb68 hdn8 y0 ⊢
        generalize w7.heap.size = Y at qY y0 ⊢
        refine (dagRound_any ns ra _ rc W8 rfl hdn8 (HT.out W8 hB8)).mono ?_
        rintro e w9 ⟨hR, hb9⟩
        rcases hR with ⟨hz, _⟩ | ⟨_, sr, he, hNs⟩
        · rw [HND.out] at hz; cases hz
        obtain ⟨hs1, hs2⟩ := next_snoc (c := grwC (cvs ks) r PA) HD.out HN.out rfl HCF.out hpa (by rw [← HCS.out]; exact hNs)
        subst he
        dsimp only
        clear hNs
        have hb89 := hb68.trans (hb9.mono hb68.size)
        have hB9 := hB6.trans (hb89.mono hB6.size)
        have qD9 := (hb89.block _ (lt_of_heap qD6)).trans qD6
        have qY9 := (hb9.block _ (lt_of_heap qY)).trans qY
        have qH9 := (hb89.block _ (lt_of_heap qH6)).trans qH6
        have hd9 := hd6.below hb89
        have hdn9 := hdn8.below hb9
        have hLp9 := hLp.below hb89
        have hs1' : ¬ sr < r := by omega
        have hs2' : ¬ r + 1 < sr := by omega
        have hw1 : IntKind.i64.wrap (r + 1) = r + 1 := by rw [IntKind.wrap_i64]; omega
        have hw2 : IntKind.i64.wrap ((ks.length : Int) + 1) = (ks.length : Int) + 1 := by rw [IntKind.wrap_i64]; omega
        have hnl : ns.length = ks.length + 1 := HNL.out
        rw [hnl] at qY9
        have d0 := cells_at qD9 0 _ rfl
        have y9 := cells_at qY9 0 _ rfl
        have hnlI : (((ks.length + 1 : Nat) : Int) != (ks.length : Int) + 1) = false := by simp
        clear hs1 hs2 hnl y0
        go_upto_region 13 with fail
        obtain ⟨kb, ko, hkae, hcc⟩ : ∃ kb ko, ka = some ⟨kb, ko, none⟩ ∧ ∀ j (h : j < ks.length), w9.cell? ⟨kb, ko + j * 5, none⟩ = some (.int .i64 (ks[j]).au) ∧ w9.cell? ⟨kb, ko + j * 5 + 1, none⟩ = some (.int .i64 (ks[j]).rd) ∧ w9.cell? ⟨kb, ko + j * 5 + 2, none⟩ = some (.slice (ks[j]).ba (ks[j]).bl.length (ks[j]).bc) ∧ w9.cell? ⟨kb, ko + j * 5 + 3, none⟩ = some (.slice (ks[j]).pa (ks[j]).pl.length (ks[j]).pc) ∧ w9.cell? ⟨kb, ko + j * 5 + 4, none⟩ = some (.slice (ks[j]).va (ks[j]).vl.length (ks[j]).vc) := by
          rcases hd9.certs.cells with h | h
          · rw [h] at hpos; simp at hpos
          · exact h
        subst hkae
        obtain ⟨nb, no, hnae, hnc⟩ : ∃ nb no, ra = some ⟨nb, no, none⟩ ∧ ∀ j (h : j < ns.length), w9.cell? ⟨nb, no + j * 5, none⟩ = some (.int .i64 (ns[j]).au) ∧ w9.cell? ⟨nb, no + j * 5 + 1, none⟩ = some (.int .i64 (ns[j]).rd) ∧ w9.cell? ⟨nb, no + j * 5 + 2, none⟩ = some (.slice (ns[j]).ba (ns[j]).bl.length (ns[j]).bc) ∧ w9.cell? ⟨nb, no + j * 5 + 3, none⟩ = some (.slice (ns[j]).pa (ns[j]).pl.length (ns[j]).pc) ∧ w9.cell? ⟨nb, no + j * 5 + 4, none⟩ = some (.slice (ns[j]).va (ns[j]).vl.length (ns[j]).vc) := by
          rcases hdn9.certs.cells with h | h
          · have := HNL.out; rw [h] at this; simp at this
          · exact h
        subst hnae
        have HCC : Hid _ := hcc
        have HNC : Hid _ := hnc
        have hkbl : kb < w9.heap.size := block_lt_of_cell (hcc 0 hpos).1
        have hnbl : nb < w9.heap.size := block_lt_of_cell (hnc 0 (by have := HNL.out; omega)).1
        clear hcc hnc d0 y9
        go_wp2_with fail
        go_loopw [16] (fun j wr => ∃ k : Nat, k ≤ ks.length ∧ j = .int .i64 k ∧ Below w9.heap.size w9 wr) (fun j _ => ks.length - (intOf j).toNat)
        case atStart => exact ⟨0, Nat.zero_le _, rfl, Below.refl _ _⟩
        case round =>
          obtain ⟨k, hk, rfl, hbr⟩ := hrel
          have hBr := hB9.trans (hbr.mono hB9.size)
          have qDr := (hbr.block _ (lt_of_heap qD9)).trans qD9
          have qYr := (hbr.block _ (lt_of_heap qY9)).trans qY9
          have qHr := (hbr.block _ (lt_of_heap qH9)).trans qH9
          have d0 := cells_at qDr 0 _ rfl
          have y0 := cells_at qYr 0 _ rfl
          have hkn : k < ns.length := by have := HNL.out; omega
          have hkI3 : ¬ ((ks.length : Int) + 1 ≤ (k : Int)) := by omega
          obtain ⟨n0, n1, n2, n3, n4⟩ := HNC.out k hkn
          have hDn := hdn9.each (ns[k]) (List.getElem_mem hkn)
          have HVN : Hid (cvAt (cvs ks ++ [grwC (cvs ks) r PA]) k = (ns[k]).v) := by
            show _ = _
            rw [← HCS.out]; exact cvAt_get ns k hkn
          generalize ns[k] = d at n0 n1 n2 n3 n4 hDn HVN
          have m0 := (hbr.cell (p := ⟨nb, no + k * 5, none⟩) hnbl).trans n0
          have m1 := (hbr.cell (p := ⟨nb, no + k * 5 + 1, none⟩) hnbl).trans n1
          have m2 := (hbr.cell (p := ⟨nb, no + k * 5 + 2, none⟩) hnbl).trans n2
          have m3 := (hbr.cell (p := ⟨nb, no + k * 5 + 3, none⟩) hnbl).trans n3
          have m4 := (hbr.cell (p := ⟨nb, no + k * 5 + 4, none⟩) hnbl).trans n4
          have hDr := hDn.below hbr
          obtain ⟨VR, hVR⟩ : ∃ VR, VR = wr := ⟨_, rfl⟩
          subst hVR
          clear n0 n1 n2 n3 n4
          by_cases hlt : k < ks.length
          · have hltI : (k : Int) < ks.length := by omega
            obtain ⟨c0, c1, c2, c3, c4⟩ := HCC.out k hlt
            have hCn := hd9.each (ks[k]) (List.getElem_mem hlt)
            have HVK : Hid ((ks[k]).v = d.v ∧ (ks[k]).v ∈ cvs ks) := by
              have e1 : cvAt (cvs ks ++ [grwC (cvs ks) r PA]) k = cvAt (cvs ks) k := by simp [cvAt, List.getD, List.getElem?_append_left (show k < (cvs ks).length by rw [cvs_length]; exact hlt)]
              have e2 := HVN.out
              rw [e1, cvAt_get ks k hlt] at e2
              exact ⟨e2, List.mem_map.2 ⟨_, List.getElem_mem hlt, rfl⟩⟩
            generalize ks[k] = c at c0 c1 c2 c3 c4 hCn HVK
            have g0 := (hbr.cell (p := ⟨kb, ko + k * 5, none⟩) hkbl).trans c0
            have g1 := (hbr.cell (p := ⟨kb, ko + k * 5 + 1, none⟩) hkbl).trans c1
            have g2 := (hbr.cell (p := ⟨kb, ko + k * 5 + 2, none⟩) hkbl).trans c2
            have g3 := (hbr.cell (p := ⟨kb, ko + k * 5 + 3, none⟩) hkbl).trans c3
            have g4 := (hbr.cell (p := ⟨kb, ko + k * 5 + 4, none⟩) hkbl).trans c4
            have hCr := hCn.below hbr
            have HSC : Hid (∀ V : World, Below VR.heap.size VR V → Calls Tryd.prog 22 #[.agg #[.int .i64 c.au, .int .i64 c.rd, .slice c.ba c.bl.length c.bc, .slice c.pa c.pl.length c.pc, .slice c.va c.vl.length c.vc], .agg #[.int .i64 d.au, .int .i64 d.rd, .slice d.ba d.bl.length d.bc, .slice d.pa d.pl.length d.pc, .slice d.va d.vl.length d.vc]] V fun e w' => e = .returned (.bool true) ∧ Below V.heap.size V w') := by
              show ∀ V, _
              intro V hV
              obtain ⟨p1, p2⟩ := HVK.out
              obtain ⟨q1, q2, q3⟩ := HFU.out _ p2
              have q5 : c.vl = d.vl := congrArg CV.vl p1
              have q3' : d.vl.length ≤ 1000 := by rw [← q5]; exact q3
              refine (sameCert_or c d V (hCr.below hV) (hDr.below hV) q1 (by rw [← p1]; exact q1) q2 (by rw [← p1]; exact q2) q3' (.inl p1)).mono (fun e w' g => ⟨?_, g.2⟩)
              rcases g.1 with ⟨_, g⟩ | ⟨gu, _⟩
              · exact g
              · exact absurd (by rw [p1]; exact ⟨rfl, rfl, rfl, rfl⟩) gu
            clear c0 c1 c2 c3 c4
            go_upto_region 16 with fail
            go_cut [122] from 104 to 122 (fun v wx => v = .bool false ∧ Below VR.heap.size VR wx)
            case first =>
              have hV0 : Below VR.heap.size VR VR.drew := (Below.refl _ _).drew
              refine wp_region_held_drew (S := fun w' => w'.cell? ⟨D, 0, none⟩ = some (.slice (some ⟨kb, ko, none⟩) ks.length kc) ∧ w'.cell? ⟨Y, 0, none⟩ = some (.slice (some ⟨nb, no, none⟩) (ks.length + 1) rc) ∧ w'.cell? ⟨kb, ko + k * 5, none⟩ = some (.int .i64 c.au) ∧ w'.cell? ⟨kb, ko + k * 5 + 1, none⟩ = some (.int .i64 c.rd) ∧ w'.cell? ⟨kb, ko + k * 5 + 2, none⟩ = some (.slice c.ba c.bl.length c.bc) ∧ w'.cell? ⟨kb, ko + k * 5 + 3, none⟩ = some (.slice c.pa c.pl.length c.pc) ∧ w'.cell? ⟨kb, ko + k * 5 + 4, none⟩ = some (.slice c.va c.vl.length c.vc) ∧ w'.cell? ⟨nb, no + k * 5, none⟩ = some (.int .i64 d.au) ∧ w'.cell? ⟨nb, no + k * 5 + 1, none⟩ = some (.int .i64 d.rd) ∧ w'.cell? ⟨nb, no + k * 5 + 2, none⟩ = some (.slice d.ba d.bl.length d.bc) ∧ w'.cell? ⟨nb, no + k * 5 + 3, none⟩ = some (.slice d.pa d.pl.length d.pc) ∧ w'.cell? ⟨nb, no + k * 5 + 4, none⟩ = some (.slice d.va d.vl.length d.vc)) (by kernel_rfl) ⟨(hV0.cell (p := ⟨D, 0, none⟩) (block_lt_of_cell d0)).trans d0, (hV0.cell (p := ⟨Y, 0, none⟩) (block_lt_of_cell y0)).trans y0, (hV0.cell (p := ⟨kb, ko + k * 5, none⟩) (block_lt_of_cell g0)).trans g0, (hV0.cell (p := ⟨kb, ko + k * 5 + 1, none⟩) (block_lt_of_cell g1)).trans g1, (hV0.cell (p := ⟨kb, ko + k * 5 + 2, none⟩) (block_lt_of_cell g2)).trans g2, (hV0.cell (p := ⟨kb, ko + k * 5 + 3, none⟩) (block_lt_of_cell g3)).trans g3, (hV0.cell (p := ⟨kb, ko + k * 5 + 4, none⟩) (block_lt_of_cell g4)).trans g4, (hV0.cell (p := ⟨nb, no + k * 5, none⟩) (block_lt_of_cell m0)).trans m0, (hV0.cell (p := ⟨nb, no + k * 5 + 1, none⟩) (block_lt_of_cell m1)).trans m1, (hV0.cell (p := ⟨nb, no + k * 5 + 2, none⟩) (block_lt_of_cell m2)).trans m2, (hV0.cell (p := ⟨nb, no + k * 5 + 3, none⟩) (block_lt_of_cell m3)).trans m3, (hV0.cell (p := ⟨nb, no + k * 5 + 4, none⟩) (block_lt_of_cell m4)).trans m4⟩ (fun hHeld => ?_)
              generalize VR.drew = V0 at hV0  hHeld ⊢
              refine take_dst (i := 0) (d := 111) (v := .pointer (some ⟨D, 0, none⟩)) rfl rfl (by kernel_rfl) (by kernel_rfl) (by kernel_rfl) (fun _ _ _ h => h) (Or.inl ⟨by rfl, ?_⟩) hHeld ?_
              · (intro w0 hSw; (try dsimp only at hSw); go_simp)
              simp only [Act.put, List.setIfInBounds_toArray, List.set_cons_zero, List.set_cons_succ]
              refine take_dst (i := 1) (d := 112) (v := .slice (some ⟨kb, ko, none⟩) ks.length kc) rfl rfl (by kernel_rfl) (by kernel_rfl) (by kernel_rfl) (fun _ _ _ h => h) (Or.inl ⟨by rfl, ?_⟩) hHeld ?_
              · (intro w0 hSw; (try dsimp only at hSw); go_simp)
              simp only [Act.put, List.setIfInBounds_toArray, List.set_cons_zero, List.set_cons_succ]
              refine take_dst (i := 2) (d := 113) (v := .int .i64 (k : Int)) rfl rfl (by kernel_rfl) (by kernel_rfl) (by kernel_rfl) (fun _ _ _ h => h) (Or.inl ⟨by rfl, ?_⟩) hHeld ?_
              · (intro w0 hSw; (try dsimp only at hSw); go_simp)
              simp only [Act.put, List.setIfInBounds_toArray, List.set_cons_zero, List.set_cons_succ]
              refine take_dst (i := 3) (d := 114) (v := .pointer (some ⟨kb, ko + k * 5, none⟩)) rfl rfl (by kernel_rfl) (by kernel_rfl) (by kernel_rfl) (fun _ _ _ h => h) (Or.inl ⟨by rfl, ?_⟩) hHeld ?_
              · (intro w0 hSw; (try dsimp only at hSw); go_simp)
              simp only [Act.put, List.setIfInBounds_toArray, List.set_cons_zero, List.set_cons_succ]
              refine take_dst (i := 4) (d := 115) (v := .agg #[.int .i64 c.au, .int .i64 c.rd, .slice c.ba c.bl.length c.bc, .slice c.pa c.pl.length c.pc, .slice c.va c.vl.length c.vc]) rfl rfl (by kernel_rfl) (by kernel_rfl) (by kernel_rfl) (fun _ _ _ h => h) (Or.inl ⟨by rfl, ?_⟩) hHeld ?_
              · (intro w0 hSw; (try dsimp only at hSw); go_simp)
              simp only [Act.put, List.setIfInBounds_toArray, List.set_cons_zero, List.set_cons_succ]
              refine take_dst (i := 5) (d := 116) (v := .pointer (some ⟨Y, 0, none⟩)) rfl rfl (by kernel_rfl) (by kernel_rfl) (by kernel_rfl) (fun _ _ _ h => h) (Or.inl ⟨by rfl, ?_⟩) hHeld ?_
              · (intro w0 hSw; (try dsimp only at hSw); go_simp)
              simp only [Act.put, List.setIfInBounds_toArray, List.set_cons_zero, List.set_cons_succ]
              refine take_dst (i := 6) (d := 117) (v := .slice (some ⟨nb, no, none⟩) (ks.length + 1) rc) rfl rfl (by kernel_rfl) (by kernel_rfl) (by kernel_rfl) (fun _ _ _ h => h) (Or.inl ⟨by rfl, ?_⟩) hHeld ?_
              · (intro w0 hSw; (try dsimp only at hSw); go_simp)
              simp only [Act.put, List.setIfInBounds_toArray, List.set_cons_zero, List.set_cons_succ]
              refine take_dst (i := 7) (d := 118) (v := .int .i64 (k : Int)) rfl rfl (by kernel_rfl) (by kernel_rfl) (by kernel_rfl) (fun _ _ _ h => h) (Or.inl ⟨by rfl, ?_⟩) hHeld ?_
              · (intro w0 hSw; (try dsimp only at hSw); go_simp)
              simp only [Act.put, List.setIfInBounds_toArray, List.set_cons_zero, List.set_cons_succ]
              refine take_dst (i := 8) (d := 119) (v := .pointer (some ⟨nb, no + k * 5, none⟩)) rfl rfl (by kernel_rfl) (by kernel_rfl) (by kernel_rfl) (fun _ _ _ h => h) (Or.inl ⟨by rfl, ?_⟩) hHeld ?_
              · (intro w0 hSw; (try dsimp only at hSw); go_simp)
              simp only [Act.put, List.setIfInBounds_toArray, List.set_cons_zero, List.set_cons_succ]
              refine take_dst (i := 9) (d := 120) (v := .agg #[.int .i64 d.au, .int .i64 d.rd, .slice d.ba d.bl.length d.bc, .slice d.pa d.pl.length d.pc, .slice d.va d.vl.length d.vc]) rfl rfl (by kernel_rfl) (by kernel_rfl) (by kernel_rfl) (fun _ _ _ h => h) (Or.inl ⟨by rfl, ?_⟩) hHeld ?_
              · (intro w0 hSw; (try dsimp only at hSw); go_simp)
              simp only [Act.put, List.setIfInBounds_toArray, List.set_cons_zero, List.set_cons_succ]
              clear hHeld
              refine any_named (fun GO hGo hGi => ?_)
              refine act_named (fun A0 hA0 => ?_)
              have st_C : Hid (∀ (V : World), Below VR.heap.size VR V → GO 0 #[true, true, true, true, true, true, true, true, true, true, true, true] ((A0.put (some 121) (.bool true)).put (some 122) (.bool false)) V) := by
                show ∀ V, _
                intro V  hB 
                refine hGo.out _ _ _ _ ?_
                rw [← hA0.out]
                try simp only [Act.put, List.setIfInBounds_toArray, List.set_cons_zero, List.set_cons_succ]
                refine wpAnyH_done (by kernel_rfl) ?_ _
                go_wp2_with fail
                go_meet
                case rel => exact ⟨rfl, hB⟩
              have st_0 : Hid (∀ (V : World), Below VR.heap.size VR V → GO 2 #[true, true, true, true, true, true, true, true, true, true, false, false] A0 V) := by
                show ∀ V, _
                intro V  hB 
                refine hGo.out _ _ _ _ ?_
                rw [← hA0.out]
                try simp only [Act.put, List.setIfInBounds_toArray, List.set_cons_zero, List.set_cons_succ]
                refine wpAnyH_ready (rs := [10]) (by kernel_rfl) (by simp) (AllReadyH.cons rfl (fun K hK => ?_) AllReadyH.nil)
                refine step_calls_dst rfl 121 rfl 22 [.tmp 115, .tmp 120] #[36, 36] rfl [.agg #[.int .i64 c.au, .int .i64 c.rd, .slice c.ba c.bl.length c.bc, .slice c.pa c.pl.length c.pc, .slice c.va c.vl.length c.vc], .agg #[.int .i64 d.au, .int .i64 d.rd, .slice d.ba d.bl.length d.bc, .slice d.pa d.pl.length d.pc, .slice d.va d.vl.length d.vc]] rfl (enters_of Tryd.func22 (by kernel_rfl) rfl) (fun v w' => v = .bool true ∧ Below V.heap.size V w') ((HSC.out V hB).mono (fun e w2 h => ⟨_, h.1, rfl, h.2⟩)) ?_
                rintro v W' ⟨rfl, hb⟩
                have hBn := hB.trans (hb.mono hB.size)
                refine hK.out _ _ ⟨(hBn.cell (p := ⟨D, 0, none⟩) (block_lt_of_cell d0)).trans d0, (hBn.cell (p := ⟨Y, 0, none⟩) (block_lt_of_cell y0)).trans y0, (hBn.cell (p := ⟨kb, ko + k * 5, none⟩) (block_lt_of_cell g0)).trans g0, (hBn.cell (p := ⟨kb, ko + k * 5 + 1, none⟩) (block_lt_of_cell g1)).trans g1, (hBn.cell (p := ⟨kb, ko + k * 5 + 2, none⟩) (block_lt_of_cell g2)).trans g2, (hBn.cell (p := ⟨kb, ko + k * 5 + 3, none⟩) (block_lt_of_cell g3)).trans g3, (hBn.cell (p := ⟨kb, ko + k * 5 + 4, none⟩) (block_lt_of_cell g4)).trans g4, (hBn.cell (p := ⟨nb, no + k * 5, none⟩) (block_lt_of_cell m0)).trans m0, (hBn.cell (p := ⟨nb, no + k * 5 + 1, none⟩) (block_lt_of_cell m1)).trans m1, (hBn.cell (p := ⟨nb, no + k * 5 + 2, none⟩) (block_lt_of_cell m2)).trans m2, (hBn.cell (p := ⟨nb, no + k * 5 + 3, none⟩) (block_lt_of_cell m3)).trans m3, (hBn.cell (p := ⟨nb, no + k * 5 + 4, none⟩) (block_lt_of_cell m4)).trans m4⟩ (fun hHeld => ?_)
                simp only [Act.put, List.setIfInBounds_toArray, List.set_cons_zero, List.set_cons_succ]
                refine take_dst (i := 11) (d := 122) (v := .bool false) rfl rfl (by kernel_rfl) (by kernel_rfl) (by kernel_rfl) (fun _ _ _ h => h) (Or.inl ⟨by rfl, ?_⟩) hHeld ?_
                · (intro w0 hSw; (try dsimp only at hSw); go_simp)
                simp only [Act.put, List.setIfInBounds_toArray, List.set_cons_zero, List.set_cons_succ]
                clear hHeld
                have h := st_C.out W' hBn
                rw [← hA0.out] at h
                (try simp only [Act.put, List.setIfInBounds_toArray, List.set_cons_zero, List.set_cons_succ] at h)
                (try simp only [Act.put, List.setIfInBounds_toArray, List.set_cons_zero, List.set_cons_succ])
                exact hGi.out _ _ _ _ h
              exact st_0.out V0 hV0 
            case rest =>
              obtain ⟨rfl, hb10⟩ := hcut
              go_wp2_with fail
              go_roundw
              case rel => exact ⟨k + 1, by omega, by go_num, hbr.trans (hb10.mono hbr.size)⟩
              case measure => simp [intOf]; omega
          · obtain rfl : k = ks.length := by omega
            have HVD : Hid (d.v = grwC (cvs ks) r PA) := by
              show _ = _
              rw [← HVN.out]
              simp [cvAt, cvs]
            have a0 : d.au = PA := congrArg CV.au HVD.out
            have a1 : d.rd = r := congrArg CV.rd HVD.out
            have a2 : d.bl.length = 0 := by
              have := congrArg List.length (congrArg CV.bl HVD.out)
              simpa [Ct.v, grwC, bss] using this
            have HPD : Hid (bss d.pl = bss pl) := by
              show _ = _
              rw [HPL.out]; exact congrArg CV.pl HVD.out
            have a3 : d.pl.length = pl.length := by have := congrArg List.length HPD.out; simpa [bss] using this
            rw [a0] at m0
            rw [a1] at m1
            rw [a2] at m2
            rw [a3] at m3
            have h0 := cells_at qHr 0 _ rfl
            have h1 := cells_at qHr 1 _ rfl
            have h2 := cells_at qHr 2 _ rfl
            have h3 := cells_at qHr 3 _ rfl
            have hLr := hLp9.below hbr
            have HSH : Hid (∀ V : World, Below VR.heap.size VR V → Calls Tryd.prog 34 #[.agg #[.int .i64 PA, .int .i64 r, .slice d.ba 0 d.bc, .slice d.pa pl.length d.pc], .agg #[.int .i64 PA, .int .i64 r, .slice none 0 0, .slice pa pl.length pc]] V fun e w' => e = .returned (.bool true) ∧ Below V.heap.size V w') := by
              show ∀ V, _
              intro V hV
              have hu : ∀ x ∈ bss pl, ∀ y ∈ x, 0 ≤ y ∧ y ≤ 255 := by
                rw [HPL.out]
                intro x hx
                obtain ⟨m, hm, rfl⟩ := List.getElem_of_mem hx
                obtain ⟨i, _, e, _⟩ := grwP_at hm
                have e2 : (grwP (cvs ks) r).getD m [] = (grwP (cvs ks) r)[m] := by simp [hm]
                rw [e2] at e
                rw [e]; exact CV.d_u8 _
              have hb0 : d.bl = [] := List.eq_nil_of_length_eq_zero a2
              have hDV := hDr.below hV
              have hlb := hDV.hat.lb
              rw [hb0] at hlb
              exact sameHeaderK_eq PA r d.ba d.bc [] d.pa d.pc d.pl none 0 [] pa pc pl V ⟨rfl, (fun p hp => by cases hp), by decide⟩ (sameU_of (m := 4) HPD.out hp4 hu) hlb hDV.hat.lp (list_none _) (hLr.below hV)
            clear a0 a1 a2 a3
            go_upto_region 18 with fail
            go_cut [4] (fun v wx => v = .bool true ∧ Below VR.heap.size VR wx)
            case first =>
              have hV0 : Below VR.heap.size VR VR.drew := (Below.refl _ _).drew
              refine wp_region_held_drew (S := fun w' => w'.cell? ⟨D, 0, none⟩ = some (.slice (some ⟨kb, ko, none⟩) ks.length kc) ∧ w'.cell? ⟨Y, 0, none⟩ = some (.slice (some ⟨nb, no, none⟩) (ks.length + 1) rc) ∧ w'.cell? ⟨nb, no + ks.length * 5, none⟩ = some (.int .i64 PA) ∧ w'.cell? ⟨nb, no + ks.length * 5 + 1, none⟩ = some (.int .i64 r) ∧ w'.cell? ⟨nb, no + ks.length * 5 + 2, none⟩ = some (.slice d.ba 0 d.bc) ∧ w'.cell? ⟨nb, no + ks.length * 5 + 3, none⟩ = some (.slice d.pa pl.length d.pc) ∧ w'.cell? ⟨HB, 0, none⟩ = some (.int .i64 PA) ∧ w'.cell? ⟨HB, 1, none⟩ = some (.int .i64 r) ∧ w'.cell? ⟨HB, 2, none⟩ = some (.slice none 0 0) ∧ w'.cell? ⟨HB, 3, none⟩ = some (.slice pa pl.length pc)) (by kernel_rfl) ⟨(hV0.cell (p := ⟨D, 0, none⟩) (block_lt_of_cell d0)).trans d0, (hV0.cell (p := ⟨Y, 0, none⟩) (block_lt_of_cell y0)).trans y0, (hV0.cell (p := ⟨nb, no + ks.length * 5, none⟩) (block_lt_of_cell m0)).trans m0, (hV0.cell (p := ⟨nb, no + ks.length * 5 + 1, none⟩) (block_lt_of_cell m1)).trans m1, (hV0.cell (p := ⟨nb, no + ks.length * 5 + 2, none⟩) (block_lt_of_cell m2)).trans m2, (hV0.cell (p := ⟨nb, no + ks.length * 5 + 3, none⟩) (block_lt_of_cell m3)).trans m3, (hV0.cell (p := ⟨HB, 0, none⟩) (block_lt_of_cell h0)).trans h0, (hV0.cell (p := ⟨HB, 1, none⟩) (block_lt_of_cell h1)).trans h1, (hV0.cell (p := ⟨HB, 2, none⟩) (block_lt_of_cell h2)).trans h2, (hV0.cell (p := ⟨HB, 3, none⟩) (block_lt_of_cell h3)).trans h3⟩ (fun hHeld => ?_)
              generalize VR.drew = V0 at hV0  hHeld ⊢
              refine take_dst (i := 0) (d := 123) (v := .pointer (some ⟨Y, 0, none⟩)) rfl rfl (by kernel_rfl) (by kernel_rfl) (by kernel_rfl) (fun _ _ _ h => h) (Or.inl ⟨by rfl, ?_⟩) hHeld ?_
              · (intro w0 hSw; (try dsimp only at hSw); go_simp)
              simp only [Act.put, List.setIfInBounds_toArray, List.set_cons_zero, List.set_cons_succ]
              refine take_dst (i := 1) (d := 124) (v := .slice (some ⟨nb, no, none⟩) (ks.length + 1) rc) rfl rfl (by kernel_rfl) (by kernel_rfl) (by kernel_rfl) (fun _ _ _ h => h) (Or.inl ⟨by rfl, ?_⟩) hHeld ?_
              · (intro w0 hSw; (try dsimp only at hSw); go_simp)
              simp only [Act.put, List.setIfInBounds_toArray, List.set_cons_zero, List.set_cons_succ]
              refine take_dst (i := 2) (d := 125) (v := .pointer (some ⟨D, 0, none⟩)) rfl rfl (by kernel_rfl) (by kernel_rfl) (by kernel_rfl) (fun _ _ _ h => h) (Or.inl ⟨by rfl, ?_⟩) hHeld ?_
              · (intro w0 hSw; (try dsimp only at hSw); go_simp)
              simp only [Act.put, List.setIfInBounds_toArray, List.set_cons_zero, List.set_cons_succ]
              refine take_dst (i := 3) (d := 126) (v := .slice (some ⟨kb, ko, none⟩) ks.length kc) rfl rfl (by kernel_rfl) (by kernel_rfl) (by kernel_rfl) (fun _ _ _ h => h) (Or.inl ⟨by rfl, ?_⟩) hHeld ?_
              · (intro w0 hSw; (try dsimp only at hSw); go_simp)
              simp only [Act.put, List.setIfInBounds_toArray, List.set_cons_zero, List.set_cons_succ]
              refine take_dst (i := 4) (d := 127) (v := .int .i64 (ks.length : Int)) rfl rfl (by kernel_rfl) (by kernel_rfl) (by kernel_rfl) (fun _ _ _ h => h) (Or.inl ⟨by rfl, ?_⟩) hHeld ?_
              · (intro w0 hSw; (try dsimp only at hSw); go_simp)
              simp only [Act.put, List.setIfInBounds_toArray, List.set_cons_zero, List.set_cons_succ]
              refine take_dst (i := 5) (d := 128) (v := .pointer (some ⟨nb, no + ks.length * 5, none⟩)) rfl rfl (by kernel_rfl) (by kernel_rfl) (by kernel_rfl) (fun _ _ _ h => h) (Or.inl ⟨by rfl, ?_⟩) hHeld ?_
              · (intro w0 hSw; (try dsimp only at hSw); go_simp)
              simp only [Act.put, List.setIfInBounds_toArray, List.set_cons_zero, List.set_cons_succ]
              refine take_dst (i := 6) (d := 129) (v := .pointer (some ⟨nb, no + ks.length * 5, none⟩)) rfl rfl (by kernel_rfl) (by kernel_rfl) (by kernel_rfl) (fun _ _ _ h => h) (Or.inl ⟨by rfl, ?_⟩) hHeld ?_
              · (intro w0 hSw; (try dsimp only at hSw); go_simp)
              simp only [Act.put, List.setIfInBounds_toArray, List.set_cons_zero, List.set_cons_succ]
              refine take_dst (i := 7) (d := 130) (v := .agg #[.int .i64 PA, .int .i64 r, .slice d.ba 0 d.bc, .slice d.pa pl.length d.pc]) rfl rfl (by kernel_rfl) (by kernel_rfl) (by kernel_rfl) (fun _ _ _ h => h) (Or.inl ⟨by rfl, ?_⟩) hHeld ?_
              · (intro w0 hSw; (try dsimp only at hSw); go_simp)
              simp only [Act.put, List.setIfInBounds_toArray, List.set_cons_zero, List.set_cons_succ]
              refine take_dst (i := 8) (d := 131) (v := .agg #[.int .i64 PA, .int .i64 r, .slice none 0 0, .slice pa pl.length pc]) rfl rfl (by kernel_rfl) (by kernel_rfl) (by kernel_rfl) (fun _ _ _ h => h) (Or.inl ⟨by rfl, ?_⟩) hHeld ?_
              · (intro w0 hSw; (try dsimp only at hSw); go_simp)
              simp only [Act.put, List.setIfInBounds_toArray, List.set_cons_zero, List.set_cons_succ]
              clear hHeld
              refine any_named (fun GO hGo hGi => ?_)
              refine act_named (fun A0 hA0 => ?_)
              have st_C : Hid (∀ (V : World), Below VR.heap.size VR V → GO 0 #[true, true, true, true, true, true, true, true, true, true, true] ((A0.put (some 132) (.bool true)).put (some 4) (.bool true)) V) := by
                show ∀ V, _
                intro V  hB 
                refine hGo.out _ _ _ _ ?_
                rw [← hA0.out]
                try simp only [Act.put, List.setIfInBounds_toArray, List.set_cons_zero, List.set_cons_succ]
                refine wpAnyH_done (by kernel_rfl) ?_ _
                go_wp2_with fail
                go_meet
                case rel => exact ⟨rfl, hB⟩
              have st_0 : Hid (∀ (V : World), Below VR.heap.size VR V → GO 2 #[true, true, true, true, true, true, true, true, true, false, false] A0 V) := by
                show ∀ V, _
                intro V  hB 
                refine hGo.out _ _ _ _ ?_
                rw [← hA0.out]
                try simp only [Act.put, List.setIfInBounds_toArray, List.set_cons_zero, List.set_cons_succ]
                refine wpAnyH_ready (rs := [9]) (by kernel_rfl) (by simp) (AllReadyH.cons rfl (fun K hK => ?_) AllReadyH.nil)
                refine step_calls_dst rfl 132 rfl 34 [.tmp 130, .tmp 131] #[33, 33] rfl [.agg #[.int .i64 PA, .int .i64 r, .slice d.ba 0 d.bc, .slice d.pa pl.length d.pc], .agg #[.int .i64 PA, .int .i64 r, .slice none 0 0, .slice pa pl.length pc]] rfl (enters_of Tryd.func34 (by kernel_rfl) rfl) (fun v w' => v = .bool true ∧ Below V.heap.size V w') ((HSH.out V hB).mono (fun e w2 h => ⟨_, h.1, rfl, h.2⟩)) ?_
                rintro v W' ⟨rfl, hb⟩
                have hBn := hB.trans (hb.mono hB.size)
                refine hK.out _ _ ⟨(hBn.cell (p := ⟨D, 0, none⟩) (block_lt_of_cell d0)).trans d0, (hBn.cell (p := ⟨Y, 0, none⟩) (block_lt_of_cell y0)).trans y0, (hBn.cell (p := ⟨nb, no + ks.length * 5, none⟩) (block_lt_of_cell m0)).trans m0, (hBn.cell (p := ⟨nb, no + ks.length * 5 + 1, none⟩) (block_lt_of_cell m1)).trans m1, (hBn.cell (p := ⟨nb, no + ks.length * 5 + 2, none⟩) (block_lt_of_cell m2)).trans m2, (hBn.cell (p := ⟨nb, no + ks.length * 5 + 3, none⟩) (block_lt_of_cell m3)).trans m3, (hBn.cell (p := ⟨HB, 0, none⟩) (block_lt_of_cell h0)).trans h0, (hBn.cell (p := ⟨HB, 1, none⟩) (block_lt_of_cell h1)).trans h1, (hBn.cell (p := ⟨HB, 2, none⟩) (block_lt_of_cell h2)).trans h2, (hBn.cell (p := ⟨HB, 3, none⟩) (block_lt_of_cell h3)).trans h3⟩ (fun hHeld => ?_)
                simp only [Act.put, List.setIfInBounds_toArray, List.set_cons_zero, List.set_cons_succ]
                refine take_dst (i := 10) (d := 4) (v := .bool true) rfl rfl (by kernel_rfl) (by kernel_rfl) (by kernel_rfl) (fun _ _ _ h => h) (Or.inl ⟨by rfl, ?_⟩) hHeld ?_
                · (intro w0 hSw; (try dsimp only at hSw); go_simp)
                simp only [Act.put, List.setIfInBounds_toArray, List.set_cons_zero, List.set_cons_succ]
                clear hHeld
                have h := st_C.out W' hBn
                rw [← hA0.out] at h
                (try simp only [Act.put, List.setIfInBounds_toArray, List.set_cons_zero, List.set_cons_succ] at h)
                (try simp only [Act.put, List.setIfInBounds_toArray, List.set_cons_zero, List.set_cons_succ])
                exact hGi.out _ _ _ _ h
              exact st_0.out V0 hV0 
            case rest =>
              obtain ⟨rfl, hb10⟩ := hcut
              go_wp2_with fail
              go_ret
              exact ⟨cvs ks, HG.out, .inl rfl, hBr.trans (hb10.mono hBr.size)⟩
      · have HCO : Hid (Coll (cvs ks)) := by
          rcases HOR.out with h | h | h
          · exact absurd h.1 hx0
          · exact absurd h hx7
          · exact h.2
        obtain ⟨x, hxe⟩ : ∃ x, insE (cvs ks) (grwC (cvs ks) r PA) = x := ⟨_, rfl⟩
        have he := in_err hI7 hxe (by rw [← hxe]; exact hx0)
        rw [hxe] at hx0 hx7
        have hx7b : (x == 7) = false := by simpa using hx7
        have hx0b : (x != 0) = true := by simpa using hx0
        subst he
        dsimp only
        have hA8 := (Below.refl w7.heap.size w7).alloc (Nat.le_refl _) (.cells #[.slice none 0 0] 27)
        have qY := heap_alloc_new w7 (.cells #[.slice none 0 0] 27)
        have hB8 := hB7.trans (hA8.mono hB7.size)
        have y0 := cells_at qY 0 _ rfl
        clear hI7 hx7 hx0 hxe HOR
        go_wp2_with fail
        refine (dagRound_any [] none 0 0 _ rfl (dag_none _) (HT.out _ hB8)).mono ?_
        rintro e w9 ⟨hR, hb9⟩
        rcases hR with ⟨hz, _⟩ | ⟨_, sr, he, _⟩
        · cases hz
        subst he
        dsimp only
        go_wp2_with fail
        go_ret
        exact ⟨cvs ks, HG.out, .inr ⟨rfl, HCO.out⟩, hB8.trans (hb9.mono hB8.size)⟩
set_option maxRecDepth 100000 in
theorem dagGrows_walk (sa : Option Addr) (cap : Nat) (l : List Stp) (n : Int) (w : World) (hl : StepsAt w sa l) (hcl : l.length ≤ cap) (hc0 : sa = none → cap = 0) (hc1 : l.length * 24 ≤ 140737488351232) (hn1 : -9223372036854775808 ≤ n) (hn2 : n ≤ 9223372036854775807) (hT : Tabs w) :
    Calls Tryd.prog 7 #[.slice sa l.length cap, .int .i64 n] w fun e w' => e = .returned (.bool true) ∧ Below w.heap.size w w' := by
  have H := dagGrows_any sa cap l n w hl hcl hc0 hc1 hn1 hn2 hT
  go_enter Tryd.func7, Tryd.ntmps7
  go_wp2_with fail
  refine H.mono ?_
  rintro e w1 ⟨cc, hG, hor, hb1⟩
  rcases hor with he | ⟨he, hco⟩
  · subst he
    dsimp only
    go_wp2_with fail
    go_ret
    exact ⟨rfl, hb1⟩
  · subst he
    dsimp only
    have H2 := growSum_true sa cap l n w1 (hl.below hb1) hcl hc0 hc1 hn1 hn2 cc hG hco (hT.below hb1)
    clear H hG hcl hc0 hc1
    go_wp2_with fail
    refine H2.mono ?_
    rintro e w2 ⟨he, hb2⟩
    subst he
    dsimp only
    go_wp2_with fail
    go_ret
    exact ⟨rfl, hb1.trans (hb2.mono hb1.size)⟩
end Go.Proofs.YtnpjhpmgelaonaaDoor

namespace Go.Proofs.YtnpjhpmgelaonaaDoor
open Go.RowKit

set_option maxRecDepth 100000 in
/-- An array of arrays of integers that reads as a table of rows holds the rows' numbers, cell for cell. -/
theorem cells_of_tab2 {H : Type} {enc : TypeId × Value → H} {P : Program} {w : World} {base : Nat} {sp : Nat → Bool} {held : Bool} {fuel : Nat} {t e i : TypeId} {n m : Nat} {k : IntKind} {cs : List Value} {rows : List (List Int)} {p : List MemPlace}
    (ht : P.underlying t = some (.array n e)) (he : P.underlying e = some (.array m i)) (hi : P.underlying i = some (.int k)) (hci : P.cellsOf i = 1) (hce : P.cellsOf e = m) (hm : 0 < m)
    (h : DataW.trod enc P w base sp held fuel t cs = some (.agg (rows.map (Lib.tabData k)), p)) (q : Nat) (hq : q < n * m) : cs[q]? = ((rows.getD (q / m) []).map (Value.int k))[q % m]? := by
  obtain ⟨xs, f, rfl, hx, hl, hn, hr⟩ := DataW.trod_array ht h
  have hin : q / m < n := Nat.div_lt_of_lt_mul (by rw [Nat.mul_comm]; exact hq)
  have hrow := hr (q / m) hin
  have hxs : xs.map (·.1) = rows.map (Lib.tabData k) := by
    have := congrArg Prod.fst hx
    simpa using this.symm
  have hg : (xs.map (·.1))[q / m]? = some (xs[q / m]'(by omega)).1 := by simp [hn, hin]
  rw [hxs] at hg
  simp only [List.getElem?_map, Option.map_eq_some_iff] at hg
  obtain ⟨r, hr1, hr2⟩ := hg
  rw [List.getElem?_eq_getElem (by omega), hce] at hrow
  have hrow' : DataW.trod enc P w base sp held f e ((cs.drop (q / m * m)).take m) = some (Lib.tabData k r, (xs[q / m]'(by omega)).2) := by
    rw [hrow, hr2]
  have hc := Lib.cells_of_tab he hi hci hce hrow'
  have hj : q % m < m := Nat.mod_lt _ hm
  have e1 : ((cs.drop (q / m * m)).take m)[q % m]? = cs[q]? := by
    rw [List.getElem?_take, if_pos hj, List.getElem?_drop, Nat.mul_comm, Nat.div_add_mod]
  rw [← e1, hc]
  simp [List.getD, hr1]

set_option maxRecDepth 100000 in
theorem tFirst : (Tryd.prog.globals[0]?).map (·.type) = some 109 := by kernel_rfl
set_option maxRecDepth 100000 in
theorem tOrders : (Tryd.prog.globals[1]?).map (·.type) = some 119 := by kernel_rfl
set_option maxRecDepth 100000 in
theorem tLanes : (Tryd.prog.globals[2]?).map (·.type) = some 121 := by kernel_rfl
set_option maxRecDepth 100000 in
theorem cU32 : Tryd.prog.cellsOf 108 = 1 := by kernel_rfl
set_option maxRecDepth 100000 in
theorem c8U32 : Tryd.prog.cellsOf 109 = 8 := by kernel_rfl
set_option maxRecDepth 100000 in
theorem c16U8 : Tryd.prog.cellsOf 118 = 16 := by kernel_rfl
set_option maxRecDepth 100000 in
theorem c4U8 : Tryd.prog.cellsOf 120 = 4 := by kernel_rfl
def ordRows : List (List Int) := [[0, 1, 2, 3, 4, 5, 6, 7, 8, 9, 10, 11, 12, 13, 14, 15], [14, 10, 4, 8, 9, 15, 13, 6, 1, 12, 0, 2, 11, 7, 5, 3], [11, 8, 12, 0, 5, 2, 15, 13, 10, 14, 3, 6, 7, 1, 9, 4], [7, 9, 3, 1, 13, 12, 11, 14, 2, 6, 5, 10, 4, 0, 15, 8], [9, 0, 5, 7, 2, 4, 10, 15, 14, 1, 11, 12, 6, 8, 3, 13], [2, 12, 6, 10, 0, 11, 8, 3, 4, 13, 7, 5, 15, 14, 1, 9], [12, 5, 1, 15, 14, 13, 4, 10, 0, 7, 6, 3, 9, 2, 8, 11], [13, 11, 7, 14, 12, 1, 3, 9, 5, 0, 15, 4, 8, 6, 2, 10], [6, 15, 14, 9, 11, 3, 0, 8, 12, 2, 13, 7, 1, 4, 10, 5], [10, 2, 8, 4, 7, 6, 1, 5, 15, 11, 9, 14, 3, 12, 13, 0]]
def laneRows : List (List Int) := [[0, 4, 8, 12], [1, 5, 9, 13], [2, 6, 10, 14], [3, 7, 11, 15], [0, 5, 10, 15], [1, 6, 11, 12], [2, 7, 8, 13], [3, 4, 9, 14]]
set_option maxRecDepth 100000 in
theorem ordRows_flat : ∀ q, q < 160 → (ordRows.getD (q / 16) [])[q % 16]? = some ((ordF.getD q 0 : Nat) : Int) := by decide +kernel
set_option maxRecDepth 100000 in
theorem laneRows_flat : ∀ q, q < 32 → (laneRows.getD (q / 4) [])[q % 4]? = some ((laneF.getD q 0 : Nat) : Int) := by decide +kernel
set_option maxRecDepth 100000 in
theorem dFirst : Rows.laid_sheaves_blake_firstWords (H := Unit) = Lib.tabData .u32 fw := rfl
set_option maxRecDepth 100000 in
theorem dOrders : Rows.laid_sheaves_blake_orders (H := Unit) = .agg (ordRows.map (Lib.tabData .u8)) := rfl
set_option maxRecDepth 100000 in
theorem dLanes : Rows.laid_sheaves_blake_lanes (H := Unit) = .agg (laneRows.map (Lib.tabData .u8)) := rfl

set_option maxRecDepth 100000 in
theorem tabs_of_laid {W : World} {n1 n2 n3 : String} (gFirst : Tryd.prog.globalNamed n1 = some 0) (gOrders : Tryd.prog.globalNamed n2 = some 1) (gLanes : Tryd.prog.globalNamed n3 = some 2)
    (h : laidMetH Tryd.prog [(n1, Rows.laid_sheaves_blake_firstWords), (n2, Rows.laid_sheaves_blake_orders), (n3, Rows.laid_sheaves_blake_lanes)] W) : Tabs W := by
  have h1 : laidMet Tryd.prog [(n1, Rows.laid_sheaves_blake_firstWords), (n2, Rows.laid_sheaves_blake_orders), (n3, Rows.laid_sheaves_blake_lanes)] W := h
  clear h
  have h2 := h1.tail
  have h3 := h2.tail
  rw [dFirst] at h1
  rw [dOrders] at h2
  rw [dLanes] at h3
  have t1 := Lib.tabIs_of_head gFirst tFirst Tryd.underlying109 Tryd.underlying108 cU32 c8U32 h1
  refine ⟨fun i hi => t1.cell gFirst i hi, fun i hi => ?_, fun i hi => ?_⟩
  · obtain ⟨ps, ⟨g', t', cs, fuel, p, q, hg', ht', hvar, hd, _, _⟩, _⟩ := h2
    obtain rfl := Option.some.inj (gOrders.symm.trans hg')
    obtain rfl := Option.some.inj (tOrders.symm.trans ht')
    have hc := World.var?_cell gOrders hvar i
    have he := cells_of_tab2 Tryd.underlying119 Tryd.underlying118 Tryd.underlying5 cU8 c16U8 (by decide) hd i hi
    rw [hc]
    have := ordRows_flat i hi
    simp only [List.getElem?_map, this, Option.map_some] at he
    simpa using he
  · obtain ⟨ps, ⟨g', t', cs, fuel, p, q, hg', ht', hvar, hd, _, _⟩, _⟩ := h3
    obtain rfl := Option.some.inj (gLanes.symm.trans hg')
    obtain rfl := Option.some.inj (tLanes.symm.trans ht')
    have hc := World.var?_cell gLanes hvar i
    have he := cells_of_tab2 Tryd.underlying121 Tryd.underlying120 Tryd.underlying5 cU8 c4U8 (by decide) hd i hi
    rw [hc]
    have := laneRows_flat i hi
    simp only [List.getElem?_map, this, Option.map_some] at he
    simpa using he
end Go.Proofs.YtnpjhpmgelaonaaDoor

namespace Go.Proofs.YtnpjhpmgelaonaaDoor
open Go.ChangeShapes Go.WideShapes Go.ChangeAt Go.RowKit

/-- What the initialisers of the three tables lay, in the first blocks. -/
def layBlock (c : Array Value) : Obj → Obj
  | .cells _ t frozen => .cells c t frozen
  | o => o
def layTabs (w : World) : World :=
  { w with heap := ((w.heap.modify 0 (layBlock (ua fw))).modify 1 (layBlock (ub (ordF.map Int.ofNat)).toArray)).modify 2 (layBlock (ub (laneF.map Int.ofNat)).toArray) }
end Go.Proofs.YtnpjhpmgelaonaaDoor

namespace Go.Proofs.YtnpjhpmgelaonaaDoor.dagGrows
open Go.ChangeShapes Go.WideShapes Go.ChangeAt Go.RowKit

set_option maxRecDepth 100000 in
/-- What the walk gives, for every argument and every world that holds the tables. -/
theorem contract (H : Type) (enc : TypeId × Value → H) (W : World) (base : Nat) (args : Array Value) (ds gs : List (DataW H)) (before : List MemPlace)
    (hval : ∀ (j : Nat) t v, Tryd.f7.params[j]? = some t → args[j]? = some v → Value.okWide Tryd.prog W .any base t v)
    (hW : DataW.Whole enc Tryd.prog Tryd.f7.params.toList Rows.dagGrowsSpec.vars false W args.toList ds gs before) (hsz : (DataW.weightsEach Tryd.prog (Tryd.f7.params.toList ++ (OpenSpec.ofChange Rows.dagGrowsSpec).bare.plain.varTypes Tryd.prog) (ds ++ gs)).all (· ≤ reachBytes) = true) (hL : laidMetH Tryd.prog Rows.dagGrowsRow.laid W) :
    Calls Tryd.prog 7 args W fun e W' => ∃ v, e = .returned v ∧ Rows.dagGrowsSpec.post enc Tryd.prog Tryd.f7 false true false false W args v W' := by
  have hW' := hW
  obtain ⟨p, q, hA0, hV, rfl, hfz, hnd⟩ := hW
  have hA : DataW.TrodAll enc Tryd.prog W 0 (fun _ => true) true Tryd.f7.params.toList args.toList ds p := hA0
  rw [Tryd.params7] at hA hval hsz
  obtain ⟨v0, vs0, d0, ds0, p0, q0, hargs, rfl, rfl, h0, r0⟩ := trodAll_cons hA
  obtain ⟨v1, vs1, d1, ds1, p1, q1, rfl, rfl, rfl, h1, r1⟩ := trodAll_cons r0
  obtain ⟨rfl, rfl, rfl⟩ := trodAll_nil r1
  obtain rfl : args = #[v0, v1] := by cases args; simp_all
  obtain ⟨rfl, rfl⟩ := trodVars_none hV
  have k0 := h0
  have lt0 : ∀ x ∈ p0, x.block < W.heap.size := by obtain ⟨m, hm⟩ := k0; exact DataW.trod_lt m _ _ _ hm
  obtain ⟨sa0, cap0, l0, rfl, q0_0, q0_1, q0_2, q0_3⟩ := open_steps (hval 0 22 v0 rfl rfl) h0 (fit_each hsz (j := 0) rfl rfl)
  obtain ⟨a1, rfl, rfl, rfl, w1⟩ := open_int Tryd.underlying3 (hval 1 3 v1 rfl rfl) h1
  obtain ⟨lo1, hi1⟩ := bounds_i64 w1
  clear hA0
  have hT : Tabs W := tabs_of_laid (by kernel_rfl) (by kernel_rfl) (by kernel_rfl) hL
  refine (dagGrows_walk sa0 cap0 l0 a1 W q0_0 q0_1 q0_2 q0_3 lo1 hi1 hT).mono fun e W' ⟨he, bel⟩ => ?_
  subst he
  exact ⟨_, rfl, _, _, _, [], _, [], hW', trodAll_mk1 (shut_bool Tryd.underlying4 _), (trodAll_cons_mk (Below.trod laidOut (by kernel_rfl) (of_decide_eq_true (by kernel_rfl)) k0 bel lt0) (trodAll_cons_mk (shut_int Tryd.underlying3 w1) trodAll_mk0)), rfl, bel.frame _, fun h => by cases h⟩

set_option maxRecDepth 100000 in
theorem laid_met (os : Os) : laidMet Tryd.prog Rows.dagGrowsRow.laid ((layTabs (World.holding Tryd.prog os ⟨#[], #[], []⟩)).forCall (fun _ _ => 0) ⟨#[], #[.slice none 0 0, .int .i64 0], []⟩).memory :=
  laidMet_of_run' 8 (by kernel_rfl) (by kernel_rfl)
set_option maxRecDepth 100000 in
theorem reads (os : Os) {H : Type} (enc : TypeId × Value → H) : ∃ places, DataW.whole enc Tryd.prog ((layTabs (World.holding Tryd.prog os ⟨#[], #[], []⟩)).forCall (fun _ _ => 0) ⟨#[], #[.slice none 0 0, .int .i64 0], []⟩).memory Tryd.f7.params.toList Rows.dagGrowsSpec.vars false (#[.slice none 0 0, .int .i64 0] : Array Value).toList 8 = some ([.nil, .lit (.int .i64 0)], [], places) :=
  ⟨[], by kernel_rfl⟩

set_option maxRecDepth 100000 in
theorem lifted (os : Os) (started : os.Started) (H : Type) (enc : TypeId × Value → H) (F : Stop.Interp) :
    ReturnsInHanded {} Tryd.checked os 7 .any ((OpenSpec.ofChange Rows.dagGrowsSpec).preRow enc Tryd.prog Tryd.f7 Rows.dagGrowsRow.domain false Rows.dagGrowsRow.laid) (((OpenSpec.ofChange Rows.dagGrowsSpec).at F).post enc Tryd.prog Tryd.f7 false true false false) := by
  obtain ⟨places, hx⟩ := reads os enc
  refine returnsInHanded_of_row (C := Tryd.checked) (s := OpenSpec.ofChange Rows.dagGrowsSpec) own started (by kernel_rfl) Tryd.func7
    (witness_row_at (enc := enc) (C := Tryd.checked) false (layTabs (World.holding Tryd.prog os ⟨#[], #[], []⟩)) #[.slice none 0 0, .int .i64 0] rfl (by kernel_rfl) (by kernel_rfl) (by kernel_rfl)
      (OpenSpec.preRow_of_cond 8 hx (by kernel_rfl) (fun k hk => by cases hk) (by kernel_rfl) (laid_met os))) ?_
  intro W base args ds gs before hval hW _ _ hsz hL _ _
  exact contract H enc W base args ds gs before hval hW hsz hL

set_option maxRecDepth 100000 in
theorem said : Rows.DagGrowsSaid :=
  OpenClaim.holds_of_cond 7 Tryd.f7 rfl rfl rfl rfl rfl rfl rfl ⟨rfl, rfl, rfl, rfl, rfl⟩ rfl rfl rfl rfl rfl (by kernel_rfl) Tryd.func7 (by kernel_rfl)
    (of_decide_eq_true (by kernel_rfl)) (by unfold Func.isWrapper; first | (rw [if_pos (by decide +kernel)]; kernel_rfl) | (rw [if_neg (by decide +kernel)]; exact ⟨rfl, rfl⟩))
    (fun os started H enc _ F => by rw [OpenClaim.pre_eq_preRow]; exact lifted os started H enc F)

set_option maxRecDepth 100000 in
theorem plain (f : FuncId) (fn : Func) (hf : Tryd.pinned.checked.prog.funcNamed Rows.dagGrowsRow.func = some f) (hfn : Tryd.pinned.checked.prog.funcs[f]? = some fn) :
    false = Tryd.pinned.checked.prog.looks [] ∧ ∀ (j : Nat) t, fn.params[j]? = some t → Tryd.pinned.checked.prog.wantsStandIn t = false := by
  obtain rfl : f = 7 := Option.some.inj ((show Tryd.prog.funcNamed Rows.dagGrowsRow.func = some 7 by kernel_rfl).symm.trans hf) |>.symm
  obtain rfl : fn = Tryd.f7 := (Option.some.inj (Tryd.func7.symm.trans hfn)).symm
  refine ⟨by kernel_rfl, fun j t ht => ?_⟩
  rw [Tryd.params7] at ht
  have hm : t = 22 ∨ t = 3 := by simpa using Array.mem_of_getElem? ht
  rcases hm with rfl | rfl
  · exact (show Tryd.prog.wantsStandIn 22 = false by kernel_rfl)
  · exact (show Tryd.prog.wantsStandIn 3 = false by kernel_rfl)

set_option maxRecDepth 100000 in
/-- THE CARD. -/
theorem card : Rows.DagGrowsCardSaid :=
  Claim7.holds_tied_plain_at .later [] _ _ _ _ said (fun _ h => by cases h) (by kernel_rfl) (fun _ h => by cases h) dagGrows_row_tie rfl ⟨rfl, rfl⟩ (by kernel_rfl) rfl plain (by kernel_rfl)
end Go.Proofs.YtnpjhpmgelaonaaDoor.dagGrows
namespace Go.Proofs.YtnpjhpmgelaonaaDoor
set_option maxRecDepth 100000 in
theorem dagGrows_holds : Rows.DagGrowsCardSaid := dagGrows.card
#print axioms dagGrows_holds
end Go.Proofs.YtnpjhpmgelaonaaDoor
