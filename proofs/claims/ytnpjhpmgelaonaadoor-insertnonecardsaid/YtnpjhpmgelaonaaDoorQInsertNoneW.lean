/- InsertNone: the walk. -/
import Derived.Test.YtnpjhpmgelaonaaDoorGKGrown
import Derived.Test.YtnpjhpmgelaonaaDoorQInsNF
import Derived.Test.YtnpjhpmgelaonaaDoorQKDigs
namespace Go.Proofs.YtnpjhpmgelaonaaDoor
open Go.RowKit

set_option maxRecDepth 100000 in
set_option maxHeartbeats 4000000 in
theorem insertNone_yes (sa : Option Addr) (cap : Nat) (l : List Stp) (n : Int) (w : World) (hl : StepsAt w sa l) (hcl : l.length ≤ cap) (hc0 : sa = none → cap = 0) (hc1 : l.length * 24 ≤ 140737488351232) (hn1 : -9223372036854775808 ≤ n) (hn2 : n ≤ 9223372036854775807) (hT : Tabs w) :
    Calls Tryd.prog 15 #[.slice sa l.length cap, .int .i64 n] w fun e w' => e = .returned (.bool true) ∧ Below w.heap.size w w' := by
  have hnil : sa = none → l.length = 0 ∧ cap = 0 := fun h => by have := hc0 h; omega
  have H := grown_any l sa _ cap w rfl hl hnil hc1 hT
  have HT : Hid (∀ W : World, Below w.heap.size w W → Tabs W) := by
    show ∀ W, _
    exact fun W hW => hT.below hW
  clear hT hnil hc0 hc1 hcl
  go_enter Tryd.func15, Tryd.ntmps15
  go_wp2_with fail
  refine H.mono ?_
  rintro e w1 ⟨ka, kc, ks, ba, bc, bl, he, hG, hd, hnew, ho, hoff, hV, hb1⟩
  subst he
  dsimp only
  have hpos : 0 < ks.length := by have := grown_some (by omega) hG; rw [cvs_length] at this; exact this
  have HD : Hid (dagF (cvs ks) = 0) := hG.dag
  have HG : Hid (GrownTo (s0 :: l) (min (l.length + 1) 24) (cvs ks)) := hG
  have hle : ks.length ≤ 24 := by have := hG.len; rw [cvs_length] at this; omega
  have hA1 := (Below.refl w1.heap.size w1).alloc (Nat.le_refl _) (.cells #[.slice ka ks.length kc] 27)
  have qD := heap_alloc_new w1 (.cells #[.slice ka ks.length kc] 27)
  have hd2 := hd.below hA1
  have hB2 := hb1.trans (hA1.mono hb1.size)
  have hgD : w.heap.size ≤ w1.heap.size := hb1.size
  have hdlt : ∀ b, DagIn ka ks b → b < w1.heap.size := fun b hb => by
    rcases hb with ⟨so, e⟩ | ⟨c', hc', hq⟩
    · exact dag_row_lt hd hpos b so e
    · exact (hd.each c' hc').block_lt b hq
  clear hG hV ho hoff hnew hd H hl
  have HR : Hid (∀ x ∈ cvs ks, x.rd ≠ 1000 ∧ x.rd ≠ 1000 - 1) := by
    show ∀ x, _
    intro x hx
    have h1 := HG.out.rounds x hx
    omega
  have HHF : Hid (∀ c ∈ ks, headerF c.au c.rd c.bl c.pl = 0) := by
    show ∀ c, _
    intro c hc
    obtain ⟨j, hj, rfl⟩ := List.getElem_of_mem hc
    have h2 := dagF_f HD.out j (by rw [cvs_length]; exact hj)
    rw [cvAt_get ks j hj] at h2
    rw [Ct.hf_v]; exact certF_head (vl := (ks[j]).vl) h2
  obtain ⟨L1, L2, L3, HSO, HLN, HNE⟩ := somes
  go_upto_region 2 with fail
  generalize w1.alloc (.cells #[.slice ka ks.length kc] 27) = W2 at hA1 qD hd2 hB2 ⊢
  clear hA1
  generalize w1.heap.size = D at qD hgD hdlt ⊢
  have hpa := pk_bounds n 4 (by decide)
  go_wp2_with fail
  refine (picked_any n 4 W2 hn1 hn2 (by decide) (by decide)).mono ?_
  rintro e wq ⟨he, hwq⟩
  subst he hwq
  dsimp only
  generalize pk n 4 = PA at hpa ⊢
  go_wp2_with fail
  refine (HSO.out.1 W2).mono ?_
  rintro e w3 ⟨he, s1, g1, hb3⟩
  subst he
  dsimp only
  go_wp2_with fail
  refine (HSO.out.2.1 w3).mono ?_
  rintro e w4 ⟨he, s2, g2, hb4⟩
  subst he
  dsimp only
  go_wp2_with fail
  refine (HSO.out.2.2 w4).mono ?_
  rintro e w5 ⟨he, s3, g3, hb5⟩
  subst he
  dsimp only
  have hb45 := hb4.trans (hb5.mono hb4.size)
  have hb35 := hb3.trans (hb45.mono hb3.size)
  have t1 := s1.below hb45
  have t2 := s2.below hb5
  have hB5 := hB2.trans (hb35.mono hB2.size)
  have qD5 := (hb35.block _ (lt_of_heap qD)).trans qD
  have hd5 := hd2.below hb35
  have a13 : W2.heap.size < w5.heap.size := by have := hb45.size; omega
  have a23 : w3.heap.size < w5.heap.size := by have := hb5.size; omega
  have aD : D < W2.heap.size := lt_of_heap qD
  have adl : ∀ b, DagIn ka ks b → b < W2.heap.size := fun b hb => by have := hdlt b hb; omega
  have aw : w.heap.size ≤ W2.heap.size := hB2.size
  clear hd2 qD hb3 hb4 hb5 hb45 hb35 s1 s2 hdlt
  generalize hA1e : W2.heap.size = A1 at t1 g1 a13 aD adl aw ⊢
  generalize hA2e : w3.heap.size = A2 at t2 g1 g2 a23 ⊢
  generalize hA3e : w4.heap.size = A3 at s3 g2 g3 ⊢
  clear hA1e hA2e hA3e
  have hA6 := (Below.refl w5.heap.size w5).alloc (Nat.le_refl _) (.cells #[.slice (some ⟨A1, 0, none⟩) 32 32, .slice (some ⟨A2, 0, none⟩) 32 32, .slice (some ⟨A3, 0, none⟩) 32 32] 41)
  have hA7 := hA6.alloc hA6.size (.cells #[.int .i64 PA, .int .i64 1000, .slice none 0 0, .slice (some ⟨w5.heap.size, 0, none⟩) 3 3] 33)
  have qP := heap_alloc2_old w5 (.cells #[.slice (some ⟨A1, 0, none⟩) 32 32, .slice (some ⟨A2, 0, none⟩) 32 32, .slice (some ⟨A3, 0, none⟩) 32 32] 41) (.cells #[.int .i64 PA, .int .i64 1000, .slice none 0 0, .slice (some ⟨w5.heap.size, 0, none⟩) 3 3] 33)
  have qH : ((w5.alloc (.cells #[.slice (some ⟨A1, 0, none⟩) 32 32, .slice (some ⟨A2, 0, none⟩) 32 32, .slice (some ⟨A3, 0, none⟩) 32 32] 41)).alloc (.cells #[.int .i64 PA, .int .i64 1000, .slice none 0 0, .slice (some ⟨w5.heap.size, 0, none⟩) 3 3] 33)).heap[w5.heap.size + 1]? = some (.cells #[.int .i64 PA, .int .i64 1000, .slice none 0 0, .slice (some ⟨w5.heap.size, 0, none⟩) 3 3] 33 (0, 0)) := by
    have := heap_alloc_new (w5.alloc (.cells #[.slice (some ⟨A1, 0, none⟩) 32 32, .slice (some ⟨A2, 0, none⟩) 32 32, .slice (some ⟨A3, 0, none⟩) 32 32] 41)) (.cells #[.int .i64 PA, .int .i64 1000, .slice none 0 0, .slice (some ⟨w5.heap.size, 0, none⟩) 3 3] 33)
    rw [size_alloc] at this; exact this
  have u1 := t1.below hA7
  have u2 := t2.below hA7
  have u3 := s3.below hA7
  have hB6 := hB5.trans (hA7.mono hB5.size)
  have qD6 := (hA7.block _ (lt_of_heap qD5)).trans qD5
  have hd6 := hd5.below hA7
  go_upto_region 3 with fail
  generalize (w5.alloc (.cells #[.slice (some ⟨A1, 0, none⟩) 32 32, .slice (some ⟨A2, 0, none⟩) 32 32, .slice (some ⟨A3, 0, none⟩) 32 32] 41)).alloc (.cells #[.int .i64 PA, .int .i64 1000, .slice none 0 0, .slice (some ⟨w5.heap.size, 0, none⟩) 3 3] 33) = W6 at hA7 qP qH u1 u2 u3 hB6 qD6 hd6 ⊢
  clear hA6 hA7 t1 t2 s3 hB5 qD5 hd5
  generalize hPBe : w5.heap.size = PB at qP qH a13 a23 g3 ⊢
  generalize hHBe : PB + 1 = HB at qH ⊢
  have hPH : PB < HB := by omega
  clear hPBe hHBe
  have qI := heap_alloc_new W6 (.cells #[.int .i64 0, .int .i64 1, .int .i64 2] 3)
  have hAI := (Below.refl W6.heap.size W6).alloc (Nat.le_refl _) (.cells #[.int .i64 0, .int .i64 1, .int .i64 2] 3)
  have hL6 : ListAt W6 (some ⟨PB, 0, none⟩) 3 [⟨some ⟨A1, 0, none⟩, 32, L1⟩, ⟨some ⟨A2, 0, none⟩, 32, L2⟩, ⟨some ⟨A3, 0, none⟩, 32, L3⟩] := list_lit3 (by rw [HLN.out.1, HLN.out.2.1, HLN.out.2.2]; exact qP) u1 u2 u3
  have hC6 : CtAt (W6.alloc (.cells #[.int .i64 0, .int .i64 1, .int .i64 2] 3)) ⟨PA, 1000, none, 0, [], some ⟨PB, 0, none⟩, 3, [⟨some ⟨A1, 0, none⟩, 32, L1⟩, ⟨some ⟨A2, 0, none⟩, 32, L2⟩, ⟨some ⟨A3, 0, none⟩, 32, L3⟩], some ⟨W6.heap.size, 0, none⟩, 3, [0, 1, 2]⟩ := by
    have hb := bare_at PA 1000 qI
    exact ⟨⟨list_none _, hL6.below hAI, (fun _ _ e => by cases e), (fun sb so e => by cases e; exact Nat.lt_of_lt_of_le (lt_of_heap qP) hAI.size)⟩, hb.ints, hb.vle⟩
  have HF6 : Hid (headerF PA 1000 [] [⟨some ⟨A1, 0, none⟩, 32, L1⟩, ⟨some ⟨A2, 0, none⟩, 32, L2⟩, ⟨some ⟨A3, 0, none⟩, 32, L3⟩] = 0) := headerF3 hpa (by decide) (digF3 HLN.out.1 HLN.out.2.1 HLN.out.2.2 HNE.out.1 HNE.out.2.1 HNE.out.2.2)
  have HPR := par3 (l := cvs ks) (rd := 1000) (a := L1) (b := L2) (c := L3) (fun x hx => (HR.out x hx).2)
  obtain ⟨x1, hx1⟩ : ∃ x1, parF (cvs ks) 1000 [L1, L2, L3] = x1 := ⟨_, rfl⟩
  have hx8 : x1 = 8 ∨ x1 = 9 := by
    rw [← hx1, HPR.1]; split
    · exact .inl rfl
    · exact .inr rfl
  have HX1 : Hid (pOf (cvs ks) (L1) < 0 → pOf (cvs ks) (L2) < 0 → pOf (cvs ks) (L3) < 0 → x1 = 8) := by
    show _ → _
    intro h1 h2 h3
    rw [← hx1, HPR.1, if_pos ⟨h1, h2, h3⟩]
  have HIe : Hid (insE (cvs ks) (⟨PA, 1000, none, 0, [], some ⟨PB, 0, none⟩, 3, [⟨some ⟨A1, 0, none⟩, 32, L1⟩, ⟨some ⟨A2, 0, none⟩, 32, L2⟩, ⟨some ⟨A3, 0, none⟩, 32, L3⟩], some ⟨W6.heap.size, 0, none⟩, 3, [0, 1, 2]⟩ : Ct).v = x1) := by
    show _ = _
    rw [insE_par HD.out (by rw [← Ct.f_v]; exact certF3 HF6.out) (cOf_none (fun x hx => (HR.out x hx).1)) (by show parF (cvs ks) 1000 [L1, L2, L3] ≠ 0; rw [hx1]; omega)]
    exact hx1
  have HMe : Hid (missE (cvs ks) PA 1000 [] [⟨some ⟨A1, 0, none⟩, 32, L1⟩, ⟨some ⟨A2, 0, none⟩, 32, L2⟩, ⟨some ⟨A3, 0, none⟩, 32, L3⟩] = if x1 = 9 then 9 else 0) := by
    show _ = _
    rw [missE, if_neg (fun g => g HD.out), if_neg (fun g => g HF6.out)]
    show (if parF (cvs ks) 1000 [L1, L2, L3] = 9 then (9 : Int) else 0) = _
    rw [hx1]
  have HMS : Hid _ := HPR.2
  have HIn := dagInsert_any ks ka _ kc _ _ rfl (hd6.below hAI) hC6 (HT.out _ (hB6.trans (hAI.mono hB6.size)))
  have m0 := cells_at qD6 0 _ rfl
  have h0 := cells_at qH 0 _ rfl
  have h1 := cells_at qH 1 _ rfl
  have h2 := cells_at qH 2 _ rfl
  have h3 := cells_at qH 3 _ rfl
  clear hx1 HPR hC6
  go_wp2_with fail
  refine HIn.mono ?_
  rintro e w7 ⟨hI7, hb7⟩
  have he := in_err hI7 HIe.out (by omega)
  subst he
  dsimp only
  clear hI7 HIn HIe
  have hb67 := hAI.trans (hb7.mono hAI.size)
  have hA8 := (Below.refl w7.heap.size w7).alloc (Nat.le_refl _) (.cells #[.slice none 0 0] 27)
  have hb68 := hb67.trans (hA8.mono hb67.size)
  have hB8 := hB6.trans (hb68.mono hB6.size)
  have qD8 := (hb68.block _ (lt_of_heap qD6)).trans qD6
  have qH8 := (hb68.block _ (lt_of_heap qH)).trans qH
  have hd8 := hd6.below hb68
  have hL8 := hL6.below hb68
  have HMi := dagMissing_any ks ka _ kc PA 1000 none 0 0 [] (some ⟨PB, 0, none⟩) 3 3 [⟨some ⟨A1, 0, none⟩, 32, L1⟩, ⟨some ⟨A2, 0, none⟩, 32, L2⟩, ⟨some ⟨A3, 0, none⟩, 32, L3⟩] _ rfl rfl rfl hd8 (list_none _) hL8 (HT.out _ hB8)
  clear m0 h0 h1 h2 h3 qI hAI hb7 hb67
  have m0 := cells_at qD8 0 _ rfl
  have h0 := cells_at qH8 0 _ rfl
  have h1 := cells_at qH8 1 _ rfl
  have h2 := cells_at qH8 2 _ rfl
  have h3 := cells_at qH8 3 _ rfl
  go_wp2_with fail
  generalize w7.alloc (.cells #[.slice none 0 0] 27) = W8 at hb68 hB8 qD8 qH8 hd8 hL8 HMi hA8 m0 h0 h1 h2 h3 ⊢
  clear hA8
  refine HMi.mono ?_
  rintro e w9 ⟨hM, hb9⟩
  obtain ⟨ma, mn, mc, y, he, HY⟩ : ∃ ma mn mc, ∃ y : Int, e = .returned (.tuple #[.slice ma mn mc, .int .i64 y]) ∧ Hid (pOf (cvs ks) (L1) < 0 → pOf (cvs ks) (L2) < 0 → pOf (cvs ks) (L3) < 0 → mn = 3 ∧ y = 0) := by
    rcases hM with ⟨g, he⟩ | ⟨g, ma, mc, ms, he, hms, _⟩
    · refine ⟨none, 0, 0, _, he, ?_⟩
      show _ → _
      intro a1 a2 a3
      rw [HMe.out, HX1.out a1 a2 a3] at g
      exact absurd rfl g
    · refine ⟨ma, ms.length, mc, 0, he, ?_⟩
      show _ → _
      intro a1 a2 a3
      have e2 : misF (cvs ks) (bss [⟨some ⟨A1, 0, none⟩, 32, L1⟩, ⟨some ⟨A2, 0, none⟩, 32, L2⟩, ⟨some ⟨A3, 0, none⟩, 32, L3⟩]) = [L1, L2, L3] := HMS.out a1 a2 a3
      rw [e2] at hms
      have := congrArg List.length hms
      rw [bss_length] at this
      exact ⟨this, rfl⟩
  subst he
  dsimp only
  clear hM HMi m0 h0 h1 h2 h3 HMS HMe
  have hb69 := hb68.trans (hb9.mono hb68.size)
  have hB9 := hB6.trans (hb69.mono hB6.size)
  have qD9 := (hb69.block _ (lt_of_heap qD6)).trans qD6
  have hd9 := hd6.below hb69
  have m0 := cells_at qD9 0 _ rfl
  go_wp2_with fail
  refine (digestsOf_any ks ka _ kc w9 rfl (by omega) hd9 HHF.out (HT.out w9 hB9)).mono ?_
  intro e wA hDg
  have hbA := hDg.below
  obtain ⟨da, dc, ds, he, hds, hLd, hfd⟩ := hDg.out
  subst he
  dsimp only
  have HDS : Hid _ := hds
  have hdsl : ds.length = ks.length := by have := congrArg List.length hds; simpa [bss, cvs] using this
  have HAT : Hid (∀ d, atF (bss ds) d = pOf (cvs ks) d) := by
    show ∀ d, _
    intro d
    rw [hds, atF_pOf]
  have hb6A := hb69.trans (hbA.mono hb69.size)
  have hBA := hB6.trans (hb6A.mono hB6.size)
  have hdl0 : ¬ ((ds.length : Int) = 0) := by omega
  have hdp : 0 < ds.length := by omega
  have hdm : ds.length ≤ 24 := by omega
  have HDL : Hid (ds.length = ks.length) := hdsl
  have hb69s := hb69.size
  clear hDg hds hdsl m0 qD8 qH8 hd8 hL8 hB8 hb68 hd9 qD9 hB9 hb69
  go_wp2_with fail
  refine (HSO.out.1 wA).mono ?_
  rintro e wB ⟨he, s1, _, hbB⟩
  subst he
  dsimp only
  have hBB := hBA.trans (hbB.mono hBA.size)
  go_wp2_with fail
  refine (at_any ds da _ dc (L1) _ 32 32 wB rfl HLN.out.1.symm (hLd.below hbB) s1).mono ?_
  rintro e wq ⟨he, hwq⟩
  rw [HAT.out] at he
  subst he hwq
  dsimp only
  by_cases g1 : pOf (cvs ks) (L1) < 0
  case neg =>
    have g1' : (0 : Int) ≤ pOf (cvs ks) (L1) := by omega
    generalize pOf (cvs ks) (L1) = a1 at g1' ⊢
    clear g1
    go_wp2_with fail
    go_ret
    exact ⟨rfl, hBB⟩
  case pos =>
    have G1 : Hid _ := g1
    have g1' : ¬ (0 : Int) ≤ pOf (cvs ks) (L1) := by omega
    generalize pOf (cvs ks) (L1) = a1 at g1' ⊢
    clear g1
    go_wp2_with fail
    refine (HSO.out.2.1 wB).mono ?_
    rintro e wC ⟨he, s2, _, hbC⟩
    subst he
    dsimp only
    have hbAC := hbB.trans (hbC.mono hbB.size)
    have hBC := hBA.trans (hbAC.mono hBA.size)
    go_wp2_with fail
    refine (at_any ds da _ dc (L2) _ 32 32 wC rfl HLN.out.2.1.symm (hLd.below hbAC) s2).mono ?_
    rintro e wq ⟨he, hwq⟩
    rw [HAT.out] at he
    subst he hwq
    dsimp only
    by_cases g2 : pOf (cvs ks) (L2) < 0
    case neg =>
      have g2' : (0 : Int) ≤ pOf (cvs ks) (L2) := by omega
      generalize pOf (cvs ks) (L2) = a2 at g2' ⊢
      clear g2
      go_wp2_with fail
      go_ret
      exact ⟨rfl, hBC⟩
    case pos =>
      have G2 : Hid _ := g2
      have g2' : ¬ (0 : Int) ≤ pOf (cvs ks) (L2) := by omega
      generalize pOf (cvs ks) (L2) = a2 at g2' ⊢
      clear g2
      go_wp2_with fail
      refine (HSO.out.2.2 wC).mono ?_
      rintro e wE ⟨he, s3, _, hbE⟩
      subst he
      dsimp only
      have hbAE := hbAC.trans (hbE.mono hbAC.size)
      have hBE := hBA.trans (hbAE.mono hBA.size)
      go_wp2_with fail
      refine (at_any ds da _ dc (L3) _ 32 32 wE rfl HLN.out.2.2.symm (hLd.below hbAE) s3).mono ?_
      rintro e wq ⟨he, hwq⟩
      rw [HAT.out] at he
      subst he hwq
      dsimp only
      by_cases g3 : pOf (cvs ks) (L3) < 0
      case neg =>
        have g3' : (0 : Int) ≤ pOf (cvs ks) (L3) := by omega
        generalize pOf (cvs ks) (L3) = a3 at g3' ⊢
        clear g3
        go_wp2_with fail
        go_ret
        exact ⟨rfl, hBE⟩
      case pos =>
        have G3 : Hid _ := g3
        have g3' : ¬ (0 : Int) ≤ pOf (cvs ks) (L3) := by omega
        generalize pOf (cvs ks) (L3) = a3 at g3' ⊢
        clear g3
        obtain ⟨hmn, hy⟩ := HY.out G1.out G2.out G3.out
        obtain rfl := HX1.out G1.out G2.out G3.out
        subst hmn hy
        clear HY HX1 hx8
        have hb6E := hb6A.trans (hbAE.mono hb6A.size)
        have qDE := (hb6E.block _ (lt_of_heap qD6)).trans qD6
        have qHE := (hb6E.block _ (lt_of_heap qH)).trans qH
        have qPE := (hb6E.block _ (lt_of_heap qP)).trans qP
        have hdE := hd6.below hb6E
        have v2 := u2.below hb6E
        have v3 := u3.below hb6E
        have hLdE := hLd.below hbAE
        have hds0 : 0 < ds.length := by omega
        obtain ⟨I, hI⟩ : ∃ I : Nat, pk n ds.length = (I : Int) := ⟨(pk n ds.length).toNat, by have := (pk_bounds n ds.length (by omega)).1; omega⟩
        have hIl : I < ds.length := by have := (pk_bounds n ds.length (by omega)).2; omega
        have HP : Hid (∀ V : World, Calls Tryd.prog 12 #[.int .i64 n, .int .i64 ds.length] V fun e w' => e = .returned (.int .i64 I) ∧ V = w') := by
          show ∀ V, _
          intro V
          rw [← hI]
          exact picked_any n ds.length V hn1 hn2 (by omega) (by omega)
        obtain ⟨sb, so, hse, hlc⟩ : ∃ sb so, da = some ⟨sb, so, none⟩ ∧ ∀ j (h : j < ds.length), wA.cell? ⟨sb, so + j, none⟩ = some (.slice (ds[j]).sa (ds[j]).bs.length (ds[j]).cap) := by
          rcases hLd.parts.cells with h | h
          · rw [h] at hds0; simp at hds0
          · exact h
        subst hse
        have l0 := hlc I hIl
        have hSl := hLd.parts.each (ds[I]) (List.getElem_mem hIl)
        have hpS := hfd.each (ds[I]) (List.getElem_mem hIl)
        have HPD : Hid ((ds[I]).bs = (cvAt (cvs ks) I).d) := by
          show _ = _
          have e1 : (bss ds).getD I [] = ((cvs ks).map CV.d).getD I [] := by rw [HDS.out]
          rw [bss_get ds I hIl] at e1
          have hik : I < ks.length := by have := HDL.out; omega
          rw [e1]; simp [cvAt, cvs, hik]
        have h32 : (ds[I]).bs.length = 32 := by rw [HPD.out, CV.d_length]
        clear hlc hI
        generalize ds[I] = p at l0 hSl HPD h32 hpS
        rw [h32] at l0
        have hsbA : sb < wA.heap.size := block_lt_of_cell l0
        have hsbn := hfd.row sb so rfl
        have h69 : PB < w9.heap.size := by have := lt_of_heap qP; have := hb69s; omega
        have l1 := (hbAE.cell (p := ⟨sb, so + I, none⟩) hsbA).trans l0
        have hE3 := cells_at qHE 3 _ rfl
        have hIlI : (I : Int) < ds.length := by omega
        have hSlE := hSl.below hbAE
        obtain ⟨VR, hVR⟩ : ∃ VR, VR = wE := ⟨_, rfl⟩
        subst hVR
        have p0 := cells_at qPE 0 _ rfl
        have pf := frozen_at qPE 0
        clear s1 s2 s3 hLd
        go_upto_region 10 with fail
        have hPsb : PB ≠ sb := by omega
        have HE9 : Hid ((VR.setCell ⟨PB, 0, none⟩ (.slice p.sa 32 p.cap)).cell? ⟨HB, 3, none⟩ = some (.slice (some ⟨PB, 0, none⟩) 3 3) ∧ (VR.setCell ⟨PB, 0, none⟩ (.slice p.sa 32 p.cap)).cell? ⟨sb, so + I, none⟩ = some (.slice p.sa 32 p.cap)) :=
          ⟨(World.cell?_setCell_far VR ⟨PB, 0, none⟩ ⟨HB, 3, none⟩ _ (show PB ≠ HB by omega)).trans hE3, (World.cell?_setCell_far VR ⟨PB, 0, none⟩ ⟨sb, so + I, none⟩ _ hPsb).trans l1⟩
        go_cut [1] (fun v wx => v = .int .i64 n ∧ ∃ V0 : World, Below VR.heap.size VR V0 ∧ wx = V0.setCell ⟨PB, 0, none⟩ (.slice p.sa 32 p.cap))
        case first =>
          have hV0 : Below VR.heap.size VR VR.drew := (Below.refl _ _).drew
          refine wp_region_held_drew (S := fun w' => w'.cell? ⟨HB, 3, none⟩ = some (.slice (some ⟨PB, 0, none⟩) 3 3) ∧ w'.cell? ⟨sb, so + I, none⟩ = some (.slice p.sa 32 p.cap)) (by kernel_rfl) ⟨(hV0.cell (p := ⟨HB, 3, none⟩) (block_lt_of_cell hE3)).trans hE3, (hV0.cell (p := ⟨sb, so + I, none⟩) (block_lt_of_cell l1)).trans l1⟩ (fun hHeld => ?_)
          generalize VR.drew = V0 at hV0 hHeld ⊢
          refine take_dst (i := 0) (d := 64) (v := .pointer (some ⟨HB, 3, none⟩)) rfl rfl (by kernel_rfl) (by kernel_rfl) (by kernel_rfl) (fun _ _ _ h => h) (Or.inl ⟨by rfl, ?_⟩) hHeld ?_
          · (intro w0 hSw; (try dsimp only at hSw); go_simp)
          simp only [Act.put, List.setIfInBounds_toArray, List.set_cons_zero, List.set_cons_succ]
          refine take_dst (i := 1) (d := 65) (v := .slice (some ⟨PB, 0, none⟩) 3 3) rfl rfl (by kernel_rfl) (by kernel_rfl) (by kernel_rfl) (fun _ _ _ h => h) (Or.inl ⟨by rfl, ?_⟩) hHeld ?_
          · (intro w0 hSw; (try dsimp only at hSw); go_simp)
          simp only [Act.put, List.setIfInBounds_toArray, List.set_cons_zero, List.set_cons_succ]
          refine take_dst (i := 2) (d := 66) (v := .slice (some ⟨sb, so, none⟩) ds.length dc) rfl rfl (by kernel_rfl) (by kernel_rfl) (by kernel_rfl) (fun _ _ _ h => h) (Or.inl ⟨by rfl, ?_⟩) hHeld ?_
          · (intro w0 hSw; (try dsimp only at hSw); go_simp)
          simp only [Act.put, List.setIfInBounds_toArray, List.set_cons_zero, List.set_cons_succ]
          refine take_dst (i := 3) (d := 67) (v := .int .i64 n) rfl rfl (by kernel_rfl) (by kernel_rfl) (by kernel_rfl) (fun _ _ _ h => h) (Or.inl ⟨by rfl, ?_⟩) hHeld ?_
          · (intro w0 hSw; (try dsimp only at hSw); go_simp)
          simp only [Act.put, List.setIfInBounds_toArray, List.set_cons_zero, List.set_cons_succ]
          refine take_dst (i := 4) (d := 68) (v := .slice (some ⟨sb, so, none⟩) ds.length dc) rfl rfl (by kernel_rfl) (by kernel_rfl) (by kernel_rfl) (fun _ _ _ h => h) (Or.inl ⟨by rfl, ?_⟩) hHeld ?_
          · (intro w0 hSw; (try dsimp only at hSw); go_simp)
          simp only [Act.put, List.setIfInBounds_toArray, List.set_cons_zero, List.set_cons_succ]
          refine take_dst (i := 5) (d := 69) (v := .int .i64 (ds.length : Int)) rfl rfl (by kernel_rfl) (by kernel_rfl) (by kernel_rfl) (fun _ _ _ h => h) (Or.inl ⟨by rfl, ?_⟩) hHeld ?_
          · (intro w0 hSw; (try dsimp only at hSw); go_simp)
          simp only [Act.put, List.setIfInBounds_toArray, List.set_cons_zero, List.set_cons_succ]
          clear hHeld
          refine any_named (fun GO hGo hGi => ?_)
          refine act_named (fun A0 hA0 => ?_)
          have st_C : Hid (∀ (V : World), Below VR.heap.size VR V → GO 1 #[true, true, true, true, true, true, true, true, true, true, false] ((((A0.put (some 70) (.int .i64 (I : Int))).put (some 71) (.pointer (some ⟨sb, so + I, none⟩))).put (some 72) (.slice p.sa 32 p.cap)).put (some 73) (.pointer (some ⟨PB, 0, none⟩))) V) := by
            show ∀ V, _
            intro V  hB 
            refine hGo.out _ _ _ _ ?_
            rw [← hA0.out]
            try simp only [Act.put, List.setIfInBounds_toArray, List.set_cons_zero, List.set_cons_succ]
            have qPV := (hB.block _ (lt_of_heap qPE)).trans qPE
            have pc0 := cells_at qPV 0 _ rfl
            have pf0 := frozen_at qPV 0
            refine wpAnyH_ready (rs := [10]) (by kernel_rfl) (by simp) (AllReadyH.cons rfl (fun K hK => ?_) AllReadyH.nil)
            refine step_store rfl rfl (V.setCell ⟨PB, 0, none⟩ (.slice p.sa 32 p.cap)) (by go_simp) ?_
            refine hK.out _ _ ⟨(World.cell?_setCell_far V ⟨PB, 0, none⟩ ⟨HB, 3, none⟩ _ (show PB ≠ HB by omega)).trans ((hB.cell (p := ⟨HB, 3, none⟩) (block_lt_of_cell hE3)).trans hE3), (World.cell?_setCell_far V ⟨PB, 0, none⟩ ⟨sb, so + I, none⟩ _ hPsb).trans ((hB.cell (p := ⟨sb, so + I, none⟩) (block_lt_of_cell l1)).trans l1)⟩ (fun hHeld => ?_)
            clear hHeld
            refine wpAnyH_done (by kernel_rfl) ?_ _
            go_wp2_with fail
            go_meet
            case rel => exact ⟨rfl, V, hB, rfl⟩
          have st_0 : Hid (∀ (V : World), Below VR.heap.size VR V → GO 5 #[true, true, true, true, true, true, false, false, false, false, false] A0 V) := by
            show ∀ V, _
            intro V  hB 
            refine hGo.out _ _ _ _ ?_
            rw [← hA0.out]
            try simp only [Act.put, List.setIfInBounds_toArray, List.set_cons_zero, List.set_cons_succ]
            refine wpAnyH_ready (rs := [6]) (by kernel_rfl) (by simp) (AllReadyH.cons rfl (fun K hK => ?_) AllReadyH.nil)
            refine step_calls_dst rfl 70 rfl 12 [.tmp 67, .tmp 69] #[3, 3] rfl [.int .i64 n, .int .i64 (ds.length : Int)] rfl (enters_of Tryd.func12 (by kernel_rfl) rfl) (fun v w' => v = .int .i64 (I : Int) ∧ V = w') ((HP.out V).mono (fun e w2 h => ⟨_, h.1, rfl, h.2⟩)) ?_
            rintro v W' ⟨rfl, hwq⟩
            subst hwq
            refine hK.out _ _ ⟨(hB.cell (p := ⟨HB, 3, none⟩) (block_lt_of_cell hE3)).trans hE3, (hB.cell (p := ⟨sb, so + I, none⟩) (block_lt_of_cell l1)).trans l1⟩ (fun hHeld => ?_)
            simp only [Act.put, List.setIfInBounds_toArray, List.set_cons_zero, List.set_cons_succ]
            refine take_dst (i := 7) (d := 71) (v := .pointer (some ⟨sb, so + I, none⟩)) rfl rfl (by kernel_rfl) (by kernel_rfl) (by kernel_rfl) (fun _ _ _ h => h) (Or.inl ⟨by rfl, ?_⟩) hHeld ?_
            · (intro w0 hSw; (try dsimp only at hSw); go_simp)
            simp only [Act.put, List.setIfInBounds_toArray, List.set_cons_zero, List.set_cons_succ]
            refine take_dst (i := 8) (d := 72) (v := .slice p.sa 32 p.cap) rfl rfl (by kernel_rfl) (by kernel_rfl) (by kernel_rfl) (fun _ _ _ h => h) (Or.inl ⟨by rfl, ?_⟩) hHeld ?_
            · (intro w0 hSw; (try dsimp only at hSw); go_simp)
            simp only [Act.put, List.setIfInBounds_toArray, List.set_cons_zero, List.set_cons_succ]
            refine take_dst (i := 9) (d := 73) (v := .pointer (some ⟨PB, 0, none⟩)) rfl rfl (by kernel_rfl) (by kernel_rfl) (by kernel_rfl) (fun _ _ _ h => h) (Or.inl ⟨by rfl, ?_⟩) hHeld ?_
            · (intro w0 hSw; (try dsimp only at hSw); go_simp)
            simp only [Act.put, List.setIfInBounds_toArray, List.set_cons_zero, List.set_cons_succ]
            clear hHeld
            have h := st_C.out V hB
            rw [← hA0.out] at h
            (try simp only [Act.put, List.setIfInBounds_toArray, List.set_cons_zero, List.set_cons_succ] at h)
            (try simp only [Act.put, List.setIfInBounds_toArray, List.set_cons_zero, List.set_cons_succ])
            exact hGi.out _ _ _ _ h
          exact st_0.out V0 hV0
        case rest =>
          obtain ⟨rfl, V0, hbV, rfl⟩ := hcut
          have qPV := (hbV.block _ (lt_of_heap qPE)).trans qPE
          have qHV := (hbV.block _ (lt_of_heap qHE)).trans qHE
          have qDV := (hbV.block _ (lt_of_heap qDE)).trans qDE
          have hdV := hdE.below hbV
          have v2V := v2.below hbV
          have v3V := v3.below hbV
          have hpV := hSlE.below hbV
          have hBV := hBE.trans (hbV.mono hBE.size)
          have qP9 : (V0.setCell ⟨PB, 0, none⟩ (.slice p.sa 32 p.cap)).heap[PB]? = some (.cells #[.slice p.sa 32 p.cap, .slice (some ⟨A2, 0, none⟩) 32 32, .slice (some ⟨A3, 0, none⟩) 32 32] 41 (0, 0)) := by simpa using heap_setCell_same _ _ 0 _ _ (.slice p.sa 32 p.cap) qPV
          have qH9 := heap_far (j := 0) (v := .slice p.sa 32 p.cap) qHV (show HB ≠ PB by omega)
          have qD9 := heap_far (j := 0) (v := .slice p.sa 32 p.cap) qDV (show D ≠ PB by omega)
          have hd9 := dag_setCell hdV PB 0 (.slice p.sa 32 p.cap) (fun sb so e => by have := adl sb (.inl ⟨so, e⟩); omega) (fun c' hc' q hq => by have := adl q (.inr ⟨c', hc', hq⟩); omega)
          have t2 := slice_keep (w' := V0.setCell ⟨PB, 0, none⟩ (.slice p.sa 32 p.cap)) v2V (fun b so _ e => heap_setCell_other _ ⟨PB, 0, none⟩ b _ (by cases e; show A2 ≠ PB; omega))
          have t3 := slice_keep (w' := V0.setCell ⟨PB, 0, none⟩ (.slice p.sa 32 p.cap)) v3V (fun b so _ e => heap_setCell_other _ ⟨PB, 0, none⟩ b _ (by cases e; show A3 ≠ PB; omega))
          have tp := slice_keep (w' := V0.setCell ⟨PB, 0, none⟩ (.slice p.sa 32 p.cap)) hpV (fun b so _ e => heap_setCell_other _ ⟨PB, 0, none⟩ b _ (by have := hpS b so e; show b ≠ PB; omega))
          have hB9 := hBV.setCell (p := ⟨PB, 0, none⟩) (by show w.heap.size ≤ PB; omega) (.slice p.sa 32 p.cap)
          clear qPV qHV qDV hdV v2V v3V hpV hBV hbV HE9 p0 pf
          generalize V0.setCell ⟨PB, 0, none⟩ (.slice p.sa 32 p.cap) = W9 at qP9 qH9 qD9 hd9 t2 t3 tp hB9 ⊢
          have qI := heap_alloc_new W9 (.cells #[.int .i64 0, .int .i64 1, .int .i64 2] 3)
          have hAI := (Below.refl W9.heap.size W9).alloc (Nat.le_refl _) (.cells #[.int .i64 0, .int .i64 1, .int .i64 2] 3)
          have hL9 : ListAt W9 (some ⟨PB, 0, none⟩) 3 [p, ⟨some ⟨A2, 0, none⟩, 32, L2⟩, ⟨some ⟨A3, 0, none⟩, 32, L3⟩] := list_lit3 (by rw [h32, HLN.out.2.1, HLN.out.2.2]; exact qP9) tp t2 t3
          have hC9 : CtAt (W9.alloc (.cells #[.int .i64 0, .int .i64 1, .int .i64 2] 3)) ⟨PA, 1000, none, 0, [], some ⟨PB, 0, none⟩, 3, [p, ⟨some ⟨A2, 0, none⟩, 32, L2⟩, ⟨some ⟨A3, 0, none⟩, 32, L3⟩], some ⟨W9.heap.size, 0, none⟩, 3, [0, 1, 2]⟩ := by
            have hb := bare_at PA 1000 qI
            exact ⟨⟨list_none _, hL9.below hAI, (fun _ _ e => by cases e), (fun sb so e => by cases e; exact Nat.lt_of_lt_of_le (lt_of_heap qP9) hAI.size)⟩, hb.ints, hb.vle⟩
          have hIk : I < (cvs ks).length := by rw [cvs_length]; have := HDL.out; omega
          have HF9 : Hid (headerF PA 1000 [] [p, ⟨some ⟨A2, 0, none⟩, 32, L2⟩, ⟨some ⟨A3, 0, none⟩, 32, L3⟩] = 0) := headerF3 hpa (by decide) (digF3 h32 HLN.out.2.1 HLN.out.2.2 (by rw [HPD.out]; exact pOf_ne G2.out hIk) (by rw [HPD.out]; exact pOf_ne G3.out hIk) HNE.out.2.2)
          have HP9 : Hid (parF (cvs ks) 1000 [p.bs, L2, L3] = 9) := by
            show _ = _
            rw [(par3 (l := cvs ks) (rd := 1000) (a := p.bs) (b := L2) (c := L3) (fun x hx => (HR.out x hx).2)).1, if_neg]
            rintro ⟨h, _⟩
            rw [HPD.out] at h
            have := (pOf_self hIk).1
            omega
          have HIe : Hid (insE (cvs ks) (⟨PA, 1000, none, 0, [], some ⟨PB, 0, none⟩, 3, [p, ⟨some ⟨A2, 0, none⟩, 32, L2⟩, ⟨some ⟨A3, 0, none⟩, 32, L3⟩], some ⟨W9.heap.size, 0, none⟩, 3, [0, 1, 2]⟩ : Ct).v = 9) := by
            show _ = _
            rw [insE_par HD.out (by rw [← Ct.f_v]; exact certF3 HF9.out) (cOf_none (fun x hx => (HR.out x hx).1)) (by show parF (cvs ks) 1000 [p.bs, L2, L3] ≠ 0; rw [HP9.out]; decide)]
            exact HP9.out
          have HMe : Hid (missE (cvs ks) PA 1000 [] [p, ⟨some ⟨A2, 0, none⟩, 32, L2⟩, ⟨some ⟨A3, 0, none⟩, 32, L3⟩] = 9) := by
            show _ = _
            rw [missE, if_neg (fun g => g HD.out), if_neg (fun g => g HF9.out)]
            show (if parF (cvs ks) 1000 [p.bs, L2, L3] = 9 then (9 : Int) else 0) = _
            rw [HP9.out]; rfl
          have HIn := dagInsert_any ks ka _ kc _ _ rfl (hd9.below hAI) hC9 (HT.out _ (hB9.trans (hAI.mono hB9.size)))
          have m0 := cells_at qD9 0 _ rfl
          have h0 := cells_at qH9 0 _ rfl
          have h1 := cells_at qH9 1 _ rfl
          have h2 := cells_at qH9 2 _ rfl
          have h3 := cells_at qH9 3 _ rfl
          clear hC9 HF9 HP9
          go_wp2_with fail
          refine HIn.mono ?_
          rintro e wF ⟨hIF, hbF⟩
          have he := in_err hIF HIe.out (by decide)
          subst he
          dsimp only
          clear hIF HIn HIe m0 h0 h1 h2 h3
          have hb9F := hAI.trans (hbF.mono hAI.size)
          have hAG := (Below.refl wF.heap.size wF).alloc (Nat.le_refl _) (.cells #[.slice none 0 0] 27)
          have hb9G := hb9F.trans (hAG.mono hb9F.size)
          have hBG := hB9.trans (hb9G.mono hB9.size)
          have qDG := (hb9G.block _ (lt_of_heap qD9)).trans qD9
          have qHG := (hb9G.block _ (lt_of_heap qH9)).trans qH9
          have HMi := dagMissing_any ks ka _ kc PA 1000 none 0 0 [] (some ⟨PB, 0, none⟩) 3 3 [p, ⟨some ⟨A2, 0, none⟩, 32, L2⟩, ⟨some ⟨A3, 0, none⟩, 32, L3⟩] _ rfl rfl rfl (hd9.below hb9G) (list_none _) (hL9.below hb9G) (HT.out _ hBG)
          have m0 := cells_at qDG 0 _ rfl
          have h0 := cells_at qHG 0 _ rfl
          have h1 := cells_at qHG 1 _ rfl
          have h2 := cells_at qHG 2 _ rfl
          have h3 := cells_at qHG 3 _ rfl
          go_wp2_with fail
          refine HMi.mono ?_
          rintro e wH ⟨hM, hbH⟩
          have he : e = .returned (.tuple #[.slice none 0 0, .int .i64 9]) := by
            rcases hM with ⟨_, he⟩ | ⟨g, _⟩
            · rw [HMe.out] at he; exact he
            · rw [HMe.out] at g; cases g
          subst he
          dsimp only
          have hBH := hBG.trans (hbH.mono hBG.size)
          clear hM HMi m0 h0 h1 h2 h3
          go_wp2_with fail
          go_ret
          exact ⟨rfl, hBH⟩
set_option maxRecDepth 100000 in
theorem insertNone_walk (sa : Option Addr) (cap : Nat) (l : List Stp) (n : Int) (w : World) (hl : StepsAt w sa l) (hcl : l.length ≤ cap) (hc0 : sa = none → cap = 0) (hc1 : l.length * 24 ≤ 140737488351232) (hn1 : -9223372036854775808 ≤ n) (hn2 : n ≤ 9223372036854775807) (hT : Tabs w) :
    Calls Tryd.prog 5 #[.slice sa l.length cap, .int .i64 n] w fun e w' => e = .returned (.bool true) ∧ Below w.heap.size w w' := by
  have H := insertNone_yes sa cap l n w hl hcl hc0 hc1 hn1 hn2 hT
  go_enter Tryd.func5, Tryd.ntmps5
  go_wp2_with fail
  refine H.mono ?_
  rintro e w1 ⟨he, hb1⟩
  subst he
  dsimp only
  go_wp2_with fail
  go_ret
  exact ⟨rfl, hb1⟩
end Go.Proofs.YtnpjhpmgelaonaaDoor
