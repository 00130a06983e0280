/- MissingSome: the walk. -/
import Derived.Test.YtnpjhpmgelaonabDoorGKGrown
import Derived.Test.YtnpjhpmgelaonabDoorQMisF
namespace Go.Proofs.YtnpjhpmgelaonabDoor
open Go.RowKit

set_option maxRecDepth 100000 in
set_option maxHeartbeats 4000000 in
theorem missingSome_any (sa : Option Addr) (cap : Nat) (l : List Stp) (n : Int) (w : World) (hl : StepsAt w sa l) (hcl : l.length ≤ cap) (hc0 : sa = none → cap = 0) (hc1 : l.length * 24 ≤ 140737488351232) (hn1 : -9223372036854775808 ≤ n) (hn2 : n ≤ 9223372036854775807) (hT : Tabs w) :
    Calls Tryd.prog 15 #[.slice sa l.length cap, .int .i64 n] w fun e w' => ∃ cc, GrownTo (s0 :: l) (min (l.length + 1) 24) cc ∧ (e = .returned (.bool true) ∨ (e = .returned (.bool false) ∧ Coll cc)) ∧ Below w.heap.size w w' := by
  have hnil : sa = none → l.length = 0 ∧ cap = 0 := fun h => by have := hc0 h; omega
  have H := grown_any l sa _ cap w rfl hl hnil hc1 hT
  have HT : Hid (∀ W : World, Below w.heap.size w W → Tabs W) := by
    show ∀ W, _
    exact fun W hW => hT.below hW
  clear hT hnil hc0 hc1 hcl
  go_enter Tryd.func15, Tryd.ntmps15
  go_wp2_with fail
  refine H.mono ?_
  rintro e w1 ⟨ka, kc, ks, ba, bc, bl, he, hG, hd, hnew, ho, hoff, hV, hb1⟩
  subst he
  dsimp only
  have hpos : 0 < ks.length := by have := grown_some (by omega) hG; rw [cvs_length] at this; exact this
  have HD : Hid (dagF (cvs ks) = 0) := hG.dag
  have HG : Hid (GrownTo (s0 :: l) (min (l.length + 1) 24) (cvs ks)) := hG
  have hle : ks.length ≤ 24 := by have := hG.len; rw [cvs_length] at this; omega
  have hA1 := (Below.refl w1.heap.size w1).alloc (Nat.le_refl _) (.cells #[.slice ka ks.length kc] 25)
  have qD := heap_alloc_new w1 (.cells #[.slice ka ks.length kc] 25)
  have hd2 := hd.below hA1
  have hB2 := hb1.trans (hA1.mono hb1.size)
  have hgD : w.heap.size ≤ w1.heap.size := hb1.size
  have hdlt : ∀ b, DagIn ka ks b → b < w1.heap.size := fun b hb => by
    rcases hb with ⟨so, e⟩ | ⟨c', hc', hq⟩
    · exact dag_row_lt hd hpos b so e
    · exact (hd.each c' hc').block_lt b hq
  clear hG hV ho hoff hnew hd H hl
  have e0 := cells_at qD 0 _ rfl
  have HHF : Hid (∀ c ∈ ks, headerF c.au c.rd c.bl c.pl = 0) := by
    show ∀ c, _
    intro c hc
    obtain ⟨j, hj, rfl⟩ := List.getElem_of_mem hc
    have h2 := dagF_f HD.out j (by rw [cvs_length]; exact hj)
    rw [cvAt_get ks j hj] at h2
    rw [Ct.hf_v]; exact certF_head (vl := (ks[j]).vl) h2
  have HV : Hid (∀ x ∈ cvs ks, x.vl = [0, 1, 2]) := HG.out.voters
  obtain ⟨L1, L2, HS1, HS2, HLN, HLT⟩ : ∃ L1 L2 : List Int, Hid (∀ V : World, Calls Tryd.prog 23 #[.int .i64 n, .int .i64 1] V fun e w' => (∃ a, e = .returned (.slice (some ⟨a, 0, none⟩) 32 32) ∧ SliceAt w' (some ⟨a, 0, none⟩) 32 L1 ∧ V.heap.size ≤ a ∧ a < w'.heap.size) ∧ Below V.heap.size V w') ∧ Hid (∀ V : World, Calls Tryd.prog 23 #[.int .i64 n, .int .i64 2] V fun e w' => (∃ a, e = .returned (.slice (some ⟨a, 0, none⟩) 32 32) ∧ SliceAt w' (some ⟨a, 0, none⟩) 32 L2 ∧ V.heap.size ≤ a ∧ a < w'.heap.size) ∧ Below V.heap.size V w') ∧ Hid (L1.length = 32 ∧ L2.length = 32) ∧ Hid (txL L1 ≠ txL L2) :=
    ⟨someL n 1, someL n 2, fun V => some_slM n 1 V ⟨hn1, hn2⟩, fun V => some_slM n 2 V ⟨hn1, hn2⟩, ⟨someL_length n 1, someL_length n 2⟩, some_two n⟩
  go_wp2_with fail
  generalize w1.alloc (.cells #[.slice ka ks.length kc] 25) = W2 at hA1 qD hd2 hB2 e0 ⊢
  clear hA1
  generalize w1.heap.size = D at qD e0 hgD hdlt ⊢
  refine (dagRound_any ks ka _ kc W2 rfl hd2 (HT.out W2 hB2)).mono ?_
  rintro e w3 ⟨hR, hb3⟩
  unfold RndAt at hR
  rcases hR with ⟨hz, _⟩ | ⟨_, r, he, hN⟩
  · rw [HD.out] at hz; cases hz
  have hrb := next_bound HD.out hN
  have HN : Hid _ := hN
  subst he
  dsimp only
  have hB3 := hB2.trans (hb3.mono hB2.size)
  have qD3 := (hb3.block _ (lt_of_heap qD)).trans qD
  have hd3 := hd2.below hb3
  clear hd2 qD e0 hb3 hdlt hN
  have d0 := cells_at qD3 0 _ rfl
  have hwr : IntKind.i64.wrap (r - 1) = r - 1 := by rw [IntKind.wrap_i64]; omega
  go_wp2_with fail
  refine (dagDigests_own ks ka _ kc (r - 1) w3 rfl hd3 (HT.out w3 hB3)).mono ?_
  intro e w4 hO
  have hb4 := hO.below
  rcases hO.out with ⟨hz, _⟩ | ⟨_, ma, mc, ms, he, hms, hL, hFr⟩
  · rw [HD.out] at hz; cases hz
  have HMS : Hid _ := hms
  have HML : Hid (ms.length = (dgF (cvs ks) (r - 1)).length) := by show _ = _; rw [← hms, bss_length]
  subst he
  dsimp only
  clear hms hO d0 hFr
  have hB4 := hB3.trans (hb4.mono hB3.size)
  have qD4 := (hb4.block _ (lt_of_heap qD3)).trans qD3
  have hd4 := hd3.below hb4
  have d0 := cells_at qD4 0 _ rfl
  have hposI : (0 : Int) < ks.length := by omega
  by_cases hr1 : r = 1
  · subst hr1
    go_wp2_with fail
    go_ret
    exact ⟨cvs ks, HG.out, .inl rfl, hB4⟩
  · have hr1b : (r == 1) = false := by simpa using hr1
    have hr2 : 1 < r := by omega
    have hm3 : 3 ≤ ms.length := by rw [HML.out]; exact HN.out.2.1 (r - 1) (by omega) (by omega)
    have hm3I : ¬ ((ms.length : Int) < 3) := by omega
    have hrm : r ≤ 1048576 := by
      obtain ⟨j, hj, e⟩ := dgTo_some (cvs ks) (r - 1) 4 (by have := HML.out; rw [dgF] at this; omega)
      have h1 := HG.out.rounds _ (cvAt_mem hj)
      omega
    clear hr1
    go_wp2_with fail
    refine (digestsOf_any ks ka _ kc w4 rfl (by omega) hd4 HHF.out (HT.out w4 hB4)).mono ?_
    intro e w5 hDg
    have hb5 := hDg.below
    obtain ⟨da, dc, ds, he, hds, hLd, hfd⟩ := hDg.out
    subst he
    dsimp only
    have HAT : Hid (∀ d, atF (bss ds) d = pOf (cvs ks) d) := by
      show ∀ d, _
      intro d
      rw [hds, atF_pOf]
    have hB5 := hB4.trans (hb5.mono hB4.size)
    clear hDg hds hfd d0
    go_wp2_with fail
    refine Calls.mono (HS1.out w5) ?_
    rintro e w6 ⟨⟨a1, he, s1, _, _⟩, hb6⟩
    subst he
    dsimp only
    have hB6 := hB5.trans (hb6.mono hB5.size)
    go_wp2_with fail
    refine (at_any ds da _ dc L1 _ 32 32 w6 rfl HLN.out.1.symm (hLd.below hb6) s1).mono ?_
    rintro e wq ⟨he, hwq⟩
    rw [HAT.out] at he
    subst he hwq
    dsimp only
    by_cases g1 : pOf (cvs ks) L1 < 0
    case neg =>
      have g1' : (0 : Int) ≤ pOf (cvs ks) L1 := by omega
      generalize pOf (cvs ks) L1 = x1 at g1' ⊢
      clear g1
      go_wp2_with fail
      go_ret
      exact ⟨cvs ks, HG.out, .inl rfl, hB6⟩
    case pos =>
      have G1 : Hid _ := g1
      have g1' : ¬ (0 : Int) ≤ pOf (cvs ks) L1 := by omega
      generalize pOf (cvs ks) L1 = x1 at g1' ⊢
      clear g1
      go_wp2_with fail
      refine Calls.mono (HS2.out w6) ?_
      rintro e w7 ⟨⟨a2, he, s2, _, _⟩, hb7⟩
      subst he
      dsimp only
      have hb57 := hb6.trans (hb7.mono hb6.size)
      have hB7 := hB5.trans (hb57.mono hB5.size)
      go_wp2_with fail
      refine (at_any ds da _ dc L2 _ 32 32 w7 rfl HLN.out.2.symm (hLd.below hb57) s2).mono ?_
      rintro e wq ⟨he, hwq⟩
      rw [HAT.out] at he
      subst he hwq
      dsimp only
      by_cases g2 : pOf (cvs ks) L2 < 0
      case neg =>
        have g2' : (0 : Int) ≤ pOf (cvs ks) L2 := by omega
        generalize pOf (cvs ks) L2 = x2 at g2' ⊢
        clear g2
        go_wp2_with fail
        go_ret
        exact ⟨cvs ks, HG.out, .inl rfl, hB7⟩
      case pos =>
        have G2 : Hid _ := g2
        have g2' : ¬ (0 : Int) ≤ pOf (cvs ks) L2 := by omega
        generalize pOf (cvs ks) L2 = x2 at g2' ⊢
        clear g2
        have hb47 := hb5.trans (hb57.mono hb5.size)
        have qD7 := (hb47.block _ (lt_of_heap qD4)).trans qD4
        have hd7 := hd4.below hb47
        obtain ⟨sb, so, hse, hlc⟩ : ∃ sb so, ma = some ⟨sb, so, none⟩ ∧ ∀ j (h : j < ms.length), w4.cell? ⟨sb, so + j, none⟩ = some (.slice (ms[j]).sa (ms[j]).bs.length (ms[j]).cap) := by
          rcases hL.parts.cells with h | h
          · rw [h] at hm3; simp at hm3
          · exact h
        subst hse
        have h0l : 0 < ms.length := by omega
        have h1l : 1 < ms.length := by omega
        have l0 := hlc 0 h0l
        have l1 := hlc 1 h1l
        have p0S := hL.parts.each (ms[0]) (List.getElem_mem h0l)
        have p1S := hL.parts.each (ms[1]) (List.getElem_mem h1l)
        have HP : Hid ((ms[0]).bs = (dgF (cvs ks) (r - 1)).getD 0 [] ∧ (ms[1]).bs = (dgF (cvs ks) (r - 1)).getD 1 [] ∧ 0 < (dgF (cvs ks) (r - 1)).length ∧ 1 < (dgF (cvs ks) (r - 1)).length) := by
          refine ⟨?_, ?_, by rw [← HML.out]; exact h0l, by rw [← HML.out]; exact h1l⟩
          · rw [← HMS.out, bss_get ms 0 h0l]
          · rw [← HMS.out, bss_get ms 1 h1l]
        have hp32 : (ms[0]).bs.length = 32 ∧ (ms[1]).bs.length = 32 := by
          obtain ⟨a, b, c, d⟩ := HP.out
          obtain ⟨i, _, ei, _⟩ := dgF_at c
          obtain ⟨j, _, ej, _⟩ := dgF_at d
          rw [a, b, ei, ej]
          exact ⟨CV.d_length _, CV.d_length _⟩
        clear hlc
        generalize ms[0] = p at l0 p0S HP hp32
        generalize ms[1] = q at l1 p1S HP hp32
        obtain ⟨hp, hq⟩ := hp32
        rw [hp] at l0
        rw [hq] at l1
        have HPL : Hid (p.bs.length = 32 ∧ q.bs.length = 32) := ⟨hp, hq⟩
        clear hp hq
        have l0' : w4.cell? ⟨sb, so, none⟩ = some (.slice p.sa 32 p.cap) := by simpa using l0
        have hsbl : sb < w4.heap.size := block_lt_of_cell l0
        have k0 := (hb47.cell (p := ⟨sb, so, none⟩) hsbl).trans l0'
        have k1 := (hb47.cell (p := ⟨sb, so + 1, none⟩) hsbl).trans l1
        have p0V := p0S.below hb47
        have p1V := p1S.below hb47
        have hm0I : (0 : Int) < ms.length := by omega
        have hm1I : (1 : Int) < ms.length := by omega
        have HM4 := miss4 (l := cvs ks) (r := r) (p := ⟨none, 0, L1⟩) (q := ⟨none, 0, L2⟩) (s := p) (t := q) HD.out HV.out ⟨hr2, hrm⟩ HLN.out.1 HLN.out.2 G1.out G2.out HLT.out HP.out.2.2.1 HP.out.2.2.2 HP.out.1 HP.out.2.1
        have HM4' : Hid _ := HM4
        clear HM4 l0 l1 l0' s1 s2 hLd hL p0S p1S
        obtain ⟨VR, hVR⟩ : ∃ VR, VR = w7 := ⟨_, rfl⟩
        subst hVR
        go_upto_region 9 with fail
        go_cut [12] (fun u wx => ∃ (X bM a b : Nat), u = .pointer (some ⟨X, 0, none⟩) ∧ wx.heap[X]? = some (.cells #[.int .i64 0, .int .i64 r, .slice none 0 0, .slice (some ⟨bM, 0, none⟩) 4 4] 41 (0, 0)) ∧ wx.heap[bM]? = some (.cells #[.slice (some ⟨a, 0, none⟩) 32 32, .slice p.sa 32 p.cap, .slice (some ⟨b, 0, none⟩) 32 32, .slice q.sa 32 q.cap] 54 (0, 0)) ∧ SliceAt wx (some ⟨a, 0, none⟩) 32 L1 ∧ SliceAt wx (some ⟨b, 0, none⟩) 32 L2 ∧ Below VR.heap.size VR wx)
        case first =>
          have hV0 : Below VR.heap.size VR VR.drew := (Below.refl _ _).drew
          refine wp_region_held_drew (S := fun w' => w'.cell? ⟨sb, so, none⟩ = some (.slice p.sa 32 p.cap) ∧ w'.cell? ⟨sb, so + 1, none⟩ = some (.slice q.sa 32 q.cap)) (by kernel_rfl) ⟨(hV0.cell (p := ⟨sb, so, none⟩) (block_lt_of_cell k0)).trans k0, (hV0.cell (p := ⟨sb, so + 1, none⟩) (block_lt_of_cell k1)).trans k1⟩ (fun hHeld => ?_)
          generalize VR.drew = V0 at hV0 hHeld ⊢
          refine take_dst (i := 0) (d := 73) (v := .int .i64 r) rfl rfl (by kernel_rfl) (by kernel_rfl) (by kernel_rfl) (fun _ _ _ h => h) (Or.inl ⟨by rfl, ?_⟩) hHeld ?_
          · (intro w0 hSw; (try dsimp only at hSw); go_simp)
          simp only [Act.put, List.setIfInBounds_toArray, List.set_cons_zero, List.set_cons_succ]
          refine take_dst (i := 1) (d := 74) (v := .int .i64 n) rfl rfl (by kernel_rfl) (by kernel_rfl) (by kernel_rfl) (fun _ _ _ h => h) (Or.inl ⟨by rfl, ?_⟩) hHeld ?_
          · (intro w0 hSw; (try dsimp only at hSw); go_simp)
          simp only [Act.put, List.setIfInBounds_toArray, List.set_cons_zero, List.set_cons_succ]
          refine take_dst (i := 3) (d := 76) (v := .slice (some ⟨sb, so, none⟩) ms.length mc) rfl rfl (by kernel_rfl) (by kernel_rfl) (by kernel_rfl) (fun _ _ _ h => h) (Or.inl ⟨by rfl, ?_⟩) hHeld ?_
          · (intro w0 hSw; (try dsimp only at hSw); go_simp)
          simp only [Act.put, List.setIfInBounds_toArray, List.set_cons_zero, List.set_cons_succ]
          refine take_dst (i := 4) (d := 77) (v := .pointer (some ⟨sb, so, none⟩)) rfl rfl (by kernel_rfl) (by kernel_rfl) (by kernel_rfl) (fun _ _ _ h => h) (Or.inl ⟨by rfl, ?_⟩) hHeld ?_
          · (intro w0 hSw; (try dsimp only at hSw); go_simp)
          simp only [Act.put, List.setIfInBounds_toArray, List.set_cons_zero, List.set_cons_succ]
          refine take_dst (i := 5) (d := 78) (v := .slice p.sa 32 p.cap) rfl rfl (by kernel_rfl) (by kernel_rfl) (by kernel_rfl) (fun _ _ _ h => h) (Or.inl ⟨by rfl, ?_⟩) hHeld ?_
          · (intro w0 hSw; (try dsimp only at hSw); go_simp)
          simp only [Act.put, List.setIfInBounds_toArray, List.set_cons_zero, List.set_cons_succ]
          refine take_dst (i := 6) (d := 79) (v := .int .i64 n) rfl rfl (by kernel_rfl) (by kernel_rfl) (by kernel_rfl) (fun _ _ _ h => h) (Or.inl ⟨by rfl, ?_⟩) hHeld ?_
          · (intro w0 hSw; (try dsimp only at hSw); go_simp)
          simp only [Act.put, List.setIfInBounds_toArray, List.set_cons_zero, List.set_cons_succ]
          refine take_dst (i := 8) (d := 81) (v := .slice (some ⟨sb, so, none⟩) ms.length mc) rfl rfl (by kernel_rfl) (by kernel_rfl) (by kernel_rfl) (fun _ _ _ h => h) (Or.inl ⟨by rfl, ?_⟩) hHeld ?_
          · (intro w0 hSw; (try dsimp only at hSw); go_simp)
          simp only [Act.put, List.setIfInBounds_toArray, List.set_cons_zero, List.set_cons_succ]
          refine take_dst (i := 9) (d := 82) (v := .pointer (some ⟨sb, so + 1, none⟩)) rfl rfl (by kernel_rfl) (by kernel_rfl) (by kernel_rfl) (fun _ _ _ h => h) (Or.inl ⟨by rfl, ?_⟩) hHeld ?_
          · (intro w0 hSw; (try dsimp only at hSw); go_simp)
          simp only [Act.put, List.setIfInBounds_toArray, List.set_cons_zero, List.set_cons_succ]
          refine take_dst (i := 10) (d := 83) (v := .slice q.sa 32 q.cap) rfl rfl (by kernel_rfl) (by kernel_rfl) (by kernel_rfl) (fun _ _ _ h => h) (Or.inl ⟨by rfl, ?_⟩) hHeld ?_
          · (intro w0 hSw; (try dsimp only at hSw); go_simp)
          simp only [Act.put, List.setIfInBounds_toArray, List.set_cons_zero, List.set_cons_succ]
          clear hHeld
          refine any_named (fun GO hGo hGi => ?_)
          refine act_named (fun A0 hA0 => ?_)
          have st_ABMXS : Hid (∀ (V : World) (a : Nat) (b : Nat) (bM : Nat) (bX : Nat), Below VR.heap.size VR V → (SliceAt V (some ⟨a, 0, none⟩) 32 L1) → (SliceAt V (some ⟨b, 0, none⟩) 32 L2) → (V.heap[bM]? = some (.cells #[.slice (some ⟨a, 0, none⟩) 32 32, .slice p.sa 32 p.cap, .slice (some ⟨b, 0, none⟩) 32 32, .slice q.sa 32 q.cap] 54 (0, 0))) → (VR.heap.size ≤ bX) → (V.heap[bX]? = some (.cells #[.int .i64 0, .int .i64 r, .slice none 0 0, .slice (some ⟨bM, 0, none⟩) 4 4] 41 (0, 0))) → (a ≠ bX) → (b ≠ bX) → (bM ≠ bX) → GO 0 #[true, true, true, true, true, true, true, true, true, true, true, true, true, true, true] (((((A0.put (some 75) (.slice (some ⟨a, 0, none⟩) 32 32)).put (some 80) (.slice (some ⟨b, 0, none⟩) 32 32)).put (some 84) (.slice (some ⟨bM, 0, none⟩) 4 4)).put (some 85) (.agg #[.int .i64 0, .int .i64 r, .slice none 0 0, .slice (some ⟨bM, 0, none⟩) 4 4])).put (some 12) (.pointer (some ⟨bX, 0, none⟩))) V) := by
            show ∀ V, _
            intro V a b bM bX hB sA sB qM gX qS hAX hBX hMX
            refine hGo.out _ _ _ _ ?_
            rw [← hA0.out]
            try simp only [Act.put, List.setIfInBounds_toArray, List.set_cons_zero, List.set_cons_succ]
            refine wpAnyH_done (by kernel_rfl) ?_ _
            go_wp2_with fail
            go_meet
            case rel => exact ⟨bX, bM, a, b, rfl, qS, qM, sA, sB, hB⟩
          have st_ABMX : Hid (∀ (V : World) (a : Nat) (b : Nat) (bM : Nat) (bX : Nat), Below VR.heap.size VR V → (SliceAt V (some ⟨a, 0, none⟩) 32 L1) → (a < V.heap.size) → (SliceAt V (some ⟨b, 0, none⟩) 32 L2) → (b < V.heap.size) → (V.heap[bM]? = some (.cells #[.slice (some ⟨a, 0, none⟩) 32 32, .slice p.sa 32 p.cap, .slice (some ⟨b, 0, none⟩) 32 32, .slice q.sa 32 q.cap] 54 (0, 0))) → (V.heap[bX]? = some (.cells #[.int .i64 0, .int .i64 0, .slice none 0 0, .slice none 0 0] 41 (0, 0))) → (VR.heap.size ≤ bX) → (a ≠ bX) → (b ≠ bX) → (bM ≠ bX) → GO 1 #[true, true, true, true, true, true, true, true, true, true, true, true, true, true, false] (((((A0.put (some 75) (.slice (some ⟨a, 0, none⟩) 32 32)).put (some 80) (.slice (some ⟨b, 0, none⟩) 32 32)).put (some 84) (.slice (some ⟨bM, 0, none⟩) 4 4)).put (some 85) (.agg #[.int .i64 0, .int .i64 r, .slice none 0 0, .slice (some ⟨bM, 0, none⟩) 4 4])).put (some 12) (.pointer (some ⟨bX, 0, none⟩))) V) := by
            show ∀ V, _
            intro V a b bM bX hB sA lA sB lB qM qX gX hAX hBX hMX
            refine hGo.out _ _ _ _ ?_
            rw [← hA0.out]
            try simp only [Act.put, List.setIfInBounds_toArray, List.set_cons_zero, List.set_cons_succ]
            refine wpAnyH_ready (rs := [14]) (by kernel_rfl) (by simp) (AllReadyH.cons rfl (fun K hK => ?_) AllReadyH.nil)
            have c0_ := cells_at qX 0 _ rfl
            have f0_ := frozen_at qX 0
            have c1_ := cells_at qX 1 _ rfl
            have f1_ := frozen_at qX 1
            have c2_ := cells_at qX 2 _ rfl
            have f2_ := frozen_at qX 2
            have c3_ := cells_at qX 3 _ rfl
            have f3_ := frozen_at qX 3
            refine step_store rfl rfl ((((V.setCell ⟨bX, 0, none⟩ (.int .i64 0)).setCell ⟨bX, 1, none⟩ (.int .i64 r)).setCell ⟨bX, 2, none⟩ (.slice none 0 0)).setCell ⟨bX, 3, none⟩ (.slice (some ⟨bM, 0, none⟩) 4 4)) (by go_simp) ?_
            have hBn := ((((hB.setCell (p := ⟨bX, 0, none⟩) gX (.int .i64 0)).setCell (p := ⟨bX, 1, none⟩) gX (.int .i64 r)).setCell (p := ⟨bX, 2, none⟩) gX (.slice none 0 0)).setCell (p := ⟨bX, 3, none⟩) gX (.slice (some ⟨bM, 0, none⟩) 4 4))
            have qS_n : ((((V.setCell ⟨bX, 0, none⟩ (.int .i64 0)).setCell ⟨bX, 1, none⟩ (.int .i64 r)).setCell ⟨bX, 2, none⟩ (.slice none 0 0)).setCell ⟨bX, 3, none⟩ (.slice (some ⟨bM, 0, none⟩) 4 4)).heap[bX]? = some (.cells #[.int .i64 0, .int .i64 r, .slice none 0 0, .slice (some ⟨bM, 0, none⟩) 4 4] 41 (0, 0)) := by simpa using (heap_setCell_same _ _ 3 _ _ (.slice (some ⟨bM, 0, none⟩) 4 4) (heap_setCell_same _ _ 2 _ _ (.slice none 0 0) (heap_setCell_same _ _ 1 _ _ (.int .i64 r) (heap_setCell_same _ _ 0 _ _ (.int .i64 0) qX))))
            have sA_n := (slice_put (slice_put (slice_put (slice_put sA bX 0 (.int .i64 0) hAX) bX 1 (.int .i64 r) hAX) bX 2 (.slice none 0 0) hAX) bX 3 (.slice (some ⟨bM, 0, none⟩) 4 4) hAX)
            have sB_n := (slice_put (slice_put (slice_put (slice_put sB bX 0 (.int .i64 0) hBX) bX 1 (.int .i64 r) hBX) bX 2 (.slice none 0 0) hBX) bX 3 (.slice (some ⟨bM, 0, none⟩) 4 4) hBX)
            have qM_n := (heap_far (j := 3) (v := .slice (some ⟨bM, 0, none⟩) 4 4) (heap_far (j := 2) (v := .slice none 0 0) (heap_far (j := 1) (v := .int .i64 r) (heap_far (j := 0) (v := .int .i64 0) qM hMX) hMX) hMX) hMX)
            generalize ((((V.setCell ⟨bX, 0, none⟩ (.int .i64 0)).setCell ⟨bX, 1, none⟩ (.int .i64 r)).setCell ⟨bX, 2, none⟩ (.slice none 0 0)).setCell ⟨bX, 3, none⟩ (.slice (some ⟨bM, 0, none⟩) 4 4)) = W' at hBn qS_n sA_n sB_n qM_n ⊢
            refine hK.out _ _ ⟨(hBn.cell (p := ⟨sb, so, none⟩) (block_lt_of_cell k0)).trans k0, (hBn.cell (p := ⟨sb, so + 1, none⟩) (block_lt_of_cell k1)).trans k1⟩ (fun hHeld => ?_)
            clear hHeld
            have h := st_ABMXS.out W' a b bM bX hBn sA_n sB_n qM_n gX qS_n hAX hBX hMX
            rw [← hA0.out] at h
            (try simp only [Act.put, List.setIfInBounds_toArray, List.set_cons_zero, List.set_cons_succ] at h)
            (try simp only [List.setIfInBounds_toArray, List.set_cons_zero, List.set_cons_succ])
            exact hGi.out _ _ _ _ h
          have st_ABM : Hid (∀ (V : World) (a : Nat) (b : Nat) (bM : Nat), Below VR.heap.size VR V → (SliceAt V (some ⟨a, 0, none⟩) 32 L1) → (a < V.heap.size) → (SliceAt V (some ⟨b, 0, none⟩) 32 L2) → (b < V.heap.size) → (V.heap[bM]? = some (.cells #[.slice (some ⟨a, 0, none⟩) 32 32, .slice p.sa 32 p.cap, .slice (some ⟨b, 0, none⟩) 32 32, .slice q.sa 32 q.cap] 54 (0, 0))) → GO 2 #[true, true, true, true, true, true, true, true, true, true, true, true, true, false, false] ((((A0.put (some 75) (.slice (some ⟨a, 0, none⟩) 32 32)).put (some 80) (.slice (some ⟨b, 0, none⟩) 32 32)).put (some 84) (.slice (some ⟨bM, 0, none⟩) 4 4)).put (some 85) (.agg #[.int .i64 0, .int .i64 r, .slice none 0 0, .slice (some ⟨bM, 0, none⟩) 4 4])) V) := by
            show ∀ V, _
            intro V a b bM hB sA lA sB lB qM
            refine hGo.out _ _ _ _ ?_
            rw [← hA0.out]
            try simp only [Act.put, List.setIfInBounds_toArray, List.set_cons_zero, List.set_cons_succ]
            refine wpAnyH_ready (rs := [13]) (by kernel_rfl) (by simp) (AllReadyH.cons rfl (fun K hK => ?_) AllReadyH.nil)
            refine step_run rfl 12 rfl (.pointer (some ⟨V.heap.size, 0, none⟩)) (V.alloc (.cells #[.int .i64 0, .int .i64 0, .slice none 0 0, .slice none 0 0] 41)) (by go_simp) ?_
            have hA : Below V.heap.size V (V.alloc (.cells #[.int .i64 0, .int .i64 0, .slice none 0 0, .slice none 0 0] 41)) := (Below.refl _ _).alloc (Nat.le_refl _) _
            have hBn := hB.trans (hA.mono hB.size)
            have qX_n := heap_alloc_new V (.cells #[.int .i64 0, .int .i64 0, .slice none 0 0, .slice none 0 0] 41)
            have gX_n := hB.size
            generalize hW' : V.alloc (.cells #[.int .i64 0, .int .i64 0, .slice none 0 0, .slice none 0 0] 41) = W' at hA hBn qX_n ⊢
            clear hW'
            obtain ⟨bX, hx_e⟩ : ∃ bX, bX = V.heap.size := ⟨_, rfl⟩
            rw [← hx_e] at qX_n gX_n ⊢
            have hAX_n : a ≠ bX := by omega
            have hBX_n : b ≠ bX := by omega
            have hMX_n : bM ≠ bX := by have := lt_of_heap qM; omega
            have hA' := hA
            clear hx_e
            refine hK.out _ _ ⟨(hBn.cell (p := ⟨sb, so, none⟩) (block_lt_of_cell k0)).trans k0, (hBn.cell (p := ⟨sb, so + 1, none⟩) (block_lt_of_cell k1)).trans k1⟩ (fun hHeld => ?_)
            clear hHeld
            have h := st_ABMX.out W' a b bM bX hBn (sA.below hA') (Nat.lt_of_lt_of_le lA hA'.size) (sB.below hA') (Nat.lt_of_lt_of_le lB hA'.size) ((hA'.block _ (lt_of_heap qM)).trans qM) qX_n gX_n hAX_n hBX_n hMX_n
            rw [← hA0.out] at h
            (try simp only [Act.put, List.setIfInBounds_toArray, List.set_cons_zero, List.set_cons_succ] at h)
            (try simp only [Act.put, List.setIfInBounds_toArray, List.set_cons_zero, List.set_cons_succ])
            exact hGi.out _ _ _ _ h
          have st_ABX : Hid (∀ (V : World) (a : Nat) (b : Nat) (bX : Nat), Below VR.heap.size VR V → (SliceAt V (some ⟨a, 0, none⟩) 32 L1) → (a < V.heap.size) → (SliceAt V (some ⟨b, 0, none⟩) 32 L2) → (b < V.heap.size) → (V.heap[bX]? = some (.cells #[.int .i64 0, .int .i64 0, .slice none 0 0, .slice none 0 0] 41 (0, 0))) → (VR.heap.size ≤ bX) → (a ≠ bX) → (b ≠ bX) → GO 3 #[true, true, true, true, true, true, true, true, true, true, true, false, false, true, false] (((A0.put (some 75) (.slice (some ⟨a, 0, none⟩) 32 32)).put (some 80) (.slice (some ⟨b, 0, none⟩) 32 32)).put (some 12) (.pointer (some ⟨bX, 0, none⟩))) V) := by
            show ∀ V, _
            intro V a b bX hB sA lA sB lB qX gX hAX hBX
            refine hGo.out _ _ _ _ ?_
            rw [← hA0.out]
            try simp only [Act.put, List.setIfInBounds_toArray, List.set_cons_zero, List.set_cons_succ]
            refine wpAnyH_ready (rs := [11]) (by kernel_rfl) (by simp) (AllReadyH.cons rfl (fun K hK => ?_) AllReadyH.nil)
            refine step_run rfl 84 rfl (.slice (some ⟨V.heap.size, 0, none⟩) 4 4) (V.alloc (.cells #[.slice (some ⟨a, 0, none⟩) 32 32, .slice p.sa 32 p.cap, .slice (some ⟨b, 0, none⟩) 32 32, .slice q.sa 32 q.cap] 54)) (by go_simp) ?_
            have hA : Below V.heap.size V (V.alloc (.cells #[.slice (some ⟨a, 0, none⟩) 32 32, .slice p.sa 32 p.cap, .slice (some ⟨b, 0, none⟩) 32 32, .slice q.sa 32 q.cap] 54)) := (Below.refl _ _).alloc (Nat.le_refl _) _
            have hBn := hB.trans (hA.mono hB.size)
            have qM_n := heap_alloc_new V (.cells #[.slice (some ⟨a, 0, none⟩) 32 32, .slice p.sa 32 p.cap, .slice (some ⟨b, 0, none⟩) 32 32, .slice q.sa 32 q.cap] 54)
            generalize hW' : V.alloc (.cells #[.slice (some ⟨a, 0, none⟩) 32 32, .slice p.sa 32 p.cap, .slice (some ⟨b, 0, none⟩) 32 32, .slice q.sa 32 q.cap] 54) = W' at hA hBn qM_n ⊢
            clear hW'
            obtain ⟨bM, hx_e⟩ : ∃ bM, bM = V.heap.size := ⟨_, rfl⟩
            rw [← hx_e] at qM_n ⊢
            have hMX_n : bM ≠ bX := by have := lt_of_heap qX; omega
            have hA' := hA
            clear hx_e
            refine hK.out _ _ ⟨(hBn.cell (p := ⟨sb, so, none⟩) (block_lt_of_cell k0)).trans k0, (hBn.cell (p := ⟨sb, so + 1, none⟩) (block_lt_of_cell k1)).trans k1⟩ (fun hHeld => ?_)
            simp only [Act.put, List.setIfInBounds_toArray, List.set_cons_zero, List.set_cons_succ]
            refine take_dst (i := 12) (d := 85) (v := .agg #[.int .i64 0, .int .i64 r, .slice none 0 0, .slice (some ⟨bM, 0, none⟩) 4 4]) rfl rfl (by kernel_rfl) (by kernel_rfl) (by kernel_rfl) (fun _ _ _ h => h) (Or.inl ⟨by rfl, ?_⟩) hHeld ?_
            · (intro w0 hSw; (try dsimp only at hSw); go_simp)
            simp only [Act.put, List.setIfInBounds_toArray, List.set_cons_zero, List.set_cons_succ]
            clear hHeld
            have h := st_ABMX.out W' a b bM bX hBn (sA.below hA') (Nat.lt_of_lt_of_le lA hA'.size) (sB.below hA') (Nat.lt_of_lt_of_le lB hA'.size) qM_n ((hA'.block _ (lt_of_heap qX)).trans qX) gX hAX hBX hMX_n
            rw [← hA0.out] at h
            (try simp only [Act.put, List.setIfInBounds_toArray, List.set_cons_zero, List.set_cons_succ] at h)
            (try simp only [Act.put, List.setIfInBounds_toArray, List.set_cons_zero, List.set_cons_succ])
            exact hGi.out _ _ _ _ h
          have st_AB : Hid (∀ (V : World) (a : Nat) (b : Nat), Below VR.heap.size VR V → (SliceAt V (some ⟨a, 0, none⟩) 32 L1) → (a < V.heap.size) → (SliceAt V (some ⟨b, 0, none⟩) 32 L2) → (b < V.heap.size) → GO 4 #[true, true, true, true, true, true, true, true, true, true, true, false, false, false, false] ((A0.put (some 75) (.slice (some ⟨a, 0, none⟩) 32 32)).put (some 80) (.slice (some ⟨b, 0, none⟩) 32 32)) V) := by
            show ∀ V, _
            intro V a b hB sA lA sB lB
            refine hGo.out _ _ _ _ ?_
            rw [← hA0.out]
            try simp only [Act.put, List.setIfInBounds_toArray, List.set_cons_zero, List.set_cons_succ]
            refine wpAnyH_ready (rs := [11, 13]) (by kernel_rfl) (by simp) (AllReadyH.cons rfl (fun K hK => ?_) (AllReadyH.cons rfl (fun K hK => ?_) AllReadyH.nil))
            · skip
              refine step_run rfl 84 rfl (.slice (some ⟨V.heap.size, 0, none⟩) 4 4) (V.alloc (.cells #[.slice (some ⟨a, 0, none⟩) 32 32, .slice p.sa 32 p.cap, .slice (some ⟨b, 0, none⟩) 32 32, .slice q.sa 32 q.cap] 54)) (by go_simp) ?_
              have hA : Below V.heap.size V (V.alloc (.cells #[.slice (some ⟨a, 0, none⟩) 32 32, .slice p.sa 32 p.cap, .slice (some ⟨b, 0, none⟩) 32 32, .slice q.sa 32 q.cap] 54)) := (Below.refl _ _).alloc (Nat.le_refl _) _
              have hBn := hB.trans (hA.mono hB.size)
              have qM_n := heap_alloc_new V (.cells #[.slice (some ⟨a, 0, none⟩) 32 32, .slice p.sa 32 p.cap, .slice (some ⟨b, 0, none⟩) 32 32, .slice q.sa 32 q.cap] 54)
              generalize hW' : V.alloc (.cells #[.slice (some ⟨a, 0, none⟩) 32 32, .slice p.sa 32 p.cap, .slice (some ⟨b, 0, none⟩) 32 32, .slice q.sa 32 q.cap] 54) = W' at hA hBn qM_n ⊢
              clear hW'
              obtain ⟨bM, hx_e⟩ : ∃ bM, bM = V.heap.size := ⟨_, rfl⟩
              rw [← hx_e] at qM_n ⊢
              have hA' := hA
              clear hx_e
              refine hK.out _ _ ⟨(hBn.cell (p := ⟨sb, so, none⟩) (block_lt_of_cell k0)).trans k0, (hBn.cell (p := ⟨sb, so + 1, none⟩) (block_lt_of_cell k1)).trans k1⟩ (fun hHeld => ?_)
              simp only [Act.put, List.setIfInBounds_toArray, List.set_cons_zero, List.set_cons_succ]
              refine take_dst (i := 12) (d := 85) (v := .agg #[.int .i64 0, .int .i64 r, .slice none 0 0, .slice (some ⟨bM, 0, none⟩) 4 4]) rfl rfl (by kernel_rfl) (by kernel_rfl) (by kernel_rfl) (fun _ _ _ h => h) (Or.inl ⟨by rfl, ?_⟩) hHeld ?_
              · (intro w0 hSw; (try dsimp only at hSw); go_simp)
              simp only [Act.put, List.setIfInBounds_toArray, List.set_cons_zero, List.set_cons_succ]
              clear hHeld
              have h := st_ABM.out W' a b bM hBn (sA.below hA') (Nat.lt_of_lt_of_le lA hA'.size) (sB.below hA') (Nat.lt_of_lt_of_le lB hA'.size) qM_n
              rw [← hA0.out] at h
              (try simp only [Act.put, List.setIfInBounds_toArray, List.set_cons_zero, List.set_cons_succ] at h)
              (try simp only [Act.put, List.setIfInBounds_toArray, List.set_cons_zero, List.set_cons_succ])
              exact hGi.out _ _ _ _ h
            · skip
              refine step_run rfl 12 rfl (.pointer (some ⟨V.heap.size, 0, none⟩)) (V.alloc (.cells #[.int .i64 0, .int .i64 0, .slice none 0 0, .slice none 0 0] 41)) (by go_simp) ?_
              have hA : Below V.heap.size V (V.alloc (.cells #[.int .i64 0, .int .i64 0, .slice none 0 0, .slice none 0 0] 41)) := (Below.refl _ _).alloc (Nat.le_refl _) _
              have hBn := hB.trans (hA.mono hB.size)
              have qX_n := heap_alloc_new V (.cells #[.int .i64 0, .int .i64 0, .slice none 0 0, .slice none 0 0] 41)
              have gX_n := hB.size
              generalize hW' : V.alloc (.cells #[.int .i64 0, .int .i64 0, .slice none 0 0, .slice none 0 0] 41) = W' at hA hBn qX_n ⊢
              clear hW'
              obtain ⟨bX, hx_e⟩ : ∃ bX, bX = V.heap.size := ⟨_, rfl⟩
              rw [← hx_e] at qX_n gX_n ⊢
              have hAX_n : a ≠ bX := by omega
              have hBX_n : b ≠ bX := by omega
              have hA' := hA
              clear hx_e
              refine hK.out _ _ ⟨(hBn.cell (p := ⟨sb, so, none⟩) (block_lt_of_cell k0)).trans k0, (hBn.cell (p := ⟨sb, so + 1, none⟩) (block_lt_of_cell k1)).trans k1⟩ (fun hHeld => ?_)
              clear hHeld
              have h := st_ABX.out W' a b bX hBn (sA.below hA') (Nat.lt_of_lt_of_le lA hA'.size) (sB.below hA') (Nat.lt_of_lt_of_le lB hA'.size) qX_n gX_n hAX_n hBX_n
              rw [← hA0.out] at h
              (try simp only [Act.put, List.setIfInBounds_toArray, List.set_cons_zero, List.set_cons_succ] at h)
              (try simp only [Act.put, List.setIfInBounds_toArray, List.set_cons_zero, List.set_cons_succ])
              exact hGi.out _ _ _ _ h
          have st_AX : Hid (∀ (V : World) (a : Nat) (bX : Nat), Below VR.heap.size VR V → (SliceAt V (some ⟨a, 0, none⟩) 32 L1) → (a < V.heap.size) → (V.heap[bX]? = some (.cells #[.int .i64 0, .int .i64 0, .slice none 0 0, .slice none 0 0] 41 (0, 0))) → (VR.heap.size ≤ bX) → (a ≠ bX) → GO 4 #[true, true, true, true, true, true, true, false, true, true, true, false, false, true, false] ((A0.put (some 75) (.slice (some ⟨a, 0, none⟩) 32 32)).put (some 12) (.pointer (some ⟨bX, 0, none⟩))) V) := by
            show ∀ V, _
            intro V a bX hB sA lA qX gX hAX
            refine hGo.out _ _ _ _ ?_
            rw [← hA0.out]
            try simp only [Act.put, List.setIfInBounds_toArray, List.set_cons_zero, List.set_cons_succ]
            refine wpAnyH_ready (rs := [7]) (by kernel_rfl) (by simp) (AllReadyH.cons rfl (fun K hK => ?_) AllReadyH.nil)
            refine step_calls_dst rfl 80 rfl 23 [.tmp 79, .const (.int .i64 2)] #[3, 3] rfl [.int .i64 n, .int .i64 2] rfl (enters_of Tryd.func23 (by kernel_rfl) rfl) (fun v w' => (∃ b, v = .slice (some ⟨b, 0, none⟩) 32 32 ∧ SliceAt w' (some ⟨b, 0, none⟩) 32 L2 ∧ V.heap.size ≤ b ∧ b < w'.heap.size) ∧ Below V.heap.size V w') ((HS2.out V).mono (fun e w2 h => ⟨_, h.1.choose_spec.1, ⟨_, rfl, h.1.choose_spec.2⟩, h.2⟩)) ?_
            rintro v W' ⟨⟨b, rfl, sB_n, hgB, lB_n⟩, hb⟩
            have hBn := hB.trans (hb.mono hB.size)
            have hBX_n : b ≠ bX := by have := lt_of_heap qX; omega
            refine hK.out _ _ ⟨(hBn.cell (p := ⟨sb, so, none⟩) (block_lt_of_cell k0)).trans k0, (hBn.cell (p := ⟨sb, so + 1, none⟩) (block_lt_of_cell k1)).trans k1⟩ (fun hHeld => ?_)
            clear hHeld
            have h := st_ABX.out W' a b bX hBn (sA.below hb) (Nat.lt_of_lt_of_le lA hb.size) sB_n lB_n ((hb.block _ (lt_of_heap qX)).trans qX) gX hAX hBX_n
            rw [← hA0.out] at h
            (try simp only [Act.put, List.setIfInBounds_toArray, List.set_cons_zero, List.set_cons_succ] at h)
            (try simp only [Act.put, List.setIfInBounds_toArray, List.set_cons_zero, List.set_cons_succ])
            exact hGi.out _ _ _ _ h
          have st_A : Hid (∀ (V : World) (a : Nat), Below VR.heap.size VR V → (SliceAt V (some ⟨a, 0, none⟩) 32 L1) → (a < V.heap.size) → GO 5 #[true, true, true, true, true, true, true, false, true, true, true, false, false, false, false] (A0.put (some 75) (.slice (some ⟨a, 0, none⟩) 32 32)) V) := by
            show ∀ V, _
            intro V a hB sA lA
            refine hGo.out _ _ _ _ ?_
            rw [← hA0.out]
            try simp only [Act.put, List.setIfInBounds_toArray, List.set_cons_zero, List.set_cons_succ]
            refine wpAnyH_ready (rs := [7, 13]) (by kernel_rfl) (by simp) (AllReadyH.cons rfl (fun K hK => ?_) (AllReadyH.cons rfl (fun K hK => ?_) AllReadyH.nil))
            · skip
              refine step_calls_dst rfl 80 rfl 23 [.tmp 79, .const (.int .i64 2)] #[3, 3] rfl [.int .i64 n, .int .i64 2] rfl (enters_of Tryd.func23 (by kernel_rfl) rfl) (fun v w' => (∃ b, v = .slice (some ⟨b, 0, none⟩) 32 32 ∧ SliceAt w' (some ⟨b, 0, none⟩) 32 L2 ∧ V.heap.size ≤ b ∧ b < w'.heap.size) ∧ Below V.heap.size V w') ((HS2.out V).mono (fun e w2 h => ⟨_, h.1.choose_spec.1, ⟨_, rfl, h.1.choose_spec.2⟩, h.2⟩)) ?_
              rintro v W' ⟨⟨b, rfl, sB_n, hgB, lB_n⟩, hb⟩
              have hBn := hB.trans (hb.mono hB.size)
              refine hK.out _ _ ⟨(hBn.cell (p := ⟨sb, so, none⟩) (block_lt_of_cell k0)).trans k0, (hBn.cell (p := ⟨sb, so + 1, none⟩) (block_lt_of_cell k1)).trans k1⟩ (fun hHeld => ?_)
              clear hHeld
              have h := st_AB.out W' a b hBn (sA.below hb) (Nat.lt_of_lt_of_le lA hb.size) sB_n lB_n
              rw [← hA0.out] at h
              (try simp only [Act.put, List.setIfInBounds_toArray, List.set_cons_zero, List.set_cons_succ] at h)
              (try simp only [Act.put, List.setIfInBounds_toArray, List.set_cons_zero, List.set_cons_succ])
              exact hGi.out _ _ _ _ h
            · skip
              refine step_run rfl 12 rfl (.pointer (some ⟨V.heap.size, 0, none⟩)) (V.alloc (.cells #[.int .i64 0, .int .i64 0, .slice none 0 0, .slice none 0 0] 41)) (by go_simp) ?_
              have hA : Below V.heap.size V (V.alloc (.cells #[.int .i64 0, .int .i64 0, .slice none 0 0, .slice none 0 0] 41)) := (Below.refl _ _).alloc (Nat.le_refl _) _
              have hBn := hB.trans (hA.mono hB.size)
              have qX_n := heap_alloc_new V (.cells #[.int .i64 0, .int .i64 0, .slice none 0 0, .slice none 0 0] 41)
              have gX_n := hB.size
              generalize hW' : V.alloc (.cells #[.int .i64 0, .int .i64 0, .slice none 0 0, .slice none 0 0] 41) = W' at hA hBn qX_n ⊢
              clear hW'
              obtain ⟨bX, hx_e⟩ : ∃ bX, bX = V.heap.size := ⟨_, rfl⟩
              rw [← hx_e] at qX_n gX_n ⊢
              have hAX_n : a ≠ bX := by omega
              have hA' := hA
              clear hx_e
              refine hK.out _ _ ⟨(hBn.cell (p := ⟨sb, so, none⟩) (block_lt_of_cell k0)).trans k0, (hBn.cell (p := ⟨sb, so + 1, none⟩) (block_lt_of_cell k1)).trans k1⟩ (fun hHeld => ?_)
              clear hHeld
              have h := st_AX.out W' a bX hBn (sA.below hA') (Nat.lt_of_lt_of_le lA hA'.size) qX_n gX_n hAX_n
              rw [← hA0.out] at h
              (try simp only [Act.put, List.setIfInBounds_toArray, List.set_cons_zero, List.set_cons_succ] at h)
              (try simp only [Act.put, List.setIfInBounds_toArray, List.set_cons_zero, List.set_cons_succ])
              exact hGi.out _ _ _ _ h
          have st_X : Hid (∀ (V : World) (bX : Nat), Below VR.heap.size VR V → (V.heap[bX]? = some (.cells #[.int .i64 0, .int .i64 0, .slice none 0 0, .slice none 0 0] 41 (0, 0))) → (VR.heap.size ≤ bX) → GO 5 #[true, true, false, true, true, true, true, false, true, true, true, false, false, true, false] (A0.put (some 12) (.pointer (some ⟨bX, 0, none⟩))) V) := by
            show ∀ V, _
            intro V bX hB qX gX
            refine hGo.out _ _ _ _ ?_
            rw [← hA0.out]
            try simp only [Act.put, List.setIfInBounds_toArray, List.set_cons_zero, List.set_cons_succ]
            refine wpAnyH_ready (rs := [2]) (by kernel_rfl) (by simp) (AllReadyH.cons rfl (fun K hK => ?_) AllReadyH.nil)
            refine step_calls_dst rfl 75 rfl 23 [.tmp 74, .const (.int .i64 1)] #[3, 3] rfl [.int .i64 n, .int .i64 1] rfl (enters_of Tryd.func23 (by kernel_rfl) rfl) (fun v w' => (∃ a, v = .slice (some ⟨a, 0, none⟩) 32 32 ∧ SliceAt w' (some ⟨a, 0, none⟩) 32 L1 ∧ V.heap.size ≤ a ∧ a < w'.heap.size) ∧ Below V.heap.size V w') ((HS1.out V).mono (fun e w2 h => ⟨_, h.1.choose_spec.1, ⟨_, rfl, h.1.choose_spec.2⟩, h.2⟩)) ?_
            rintro v W' ⟨⟨a, rfl, sA_n, hgA, lA_n⟩, hb⟩
            have hBn := hB.trans (hb.mono hB.size)
            have hAX_n : a ≠ bX := by have := lt_of_heap qX; omega
            refine hK.out _ _ ⟨(hBn.cell (p := ⟨sb, so, none⟩) (block_lt_of_cell k0)).trans k0, (hBn.cell (p := ⟨sb, so + 1, none⟩) (block_lt_of_cell k1)).trans k1⟩ (fun hHeld => ?_)
            clear hHeld
            have h := st_AX.out W' a bX hBn sA_n lA_n ((hb.block _ (lt_of_heap qX)).trans qX) gX hAX_n
            rw [← hA0.out] at h
            (try simp only [Act.put, List.setIfInBounds_toArray, List.set_cons_zero, List.set_cons_succ] at h)
            (try simp only [Act.put, List.setIfInBounds_toArray, List.set_cons_zero, List.set_cons_succ])
            exact hGi.out _ _ _ _ h
          have st_0 : Hid (∀ (V : World), Below VR.heap.size VR V → GO 6 #[true, true, false, true, true, true, true, false, true, true, true, false, false, false, false] A0 V) := by
            show ∀ V, _
            intro V  hB 
            refine hGo.out _ _ _ _ ?_
            rw [← hA0.out]
            try simp only [Act.put, List.setIfInBounds_toArray, List.set_cons_zero, List.set_cons_succ]
            refine wpAnyH_ready (rs := [2, 13]) (by kernel_rfl) (by simp) (AllReadyH.cons rfl (fun K hK => ?_) (AllReadyH.cons rfl (fun K hK => ?_) AllReadyH.nil))
            · skip
              refine step_calls_dst rfl 75 rfl 23 [.tmp 74, .const (.int .i64 1)] #[3, 3] rfl [.int .i64 n, .int .i64 1] rfl (enters_of Tryd.func23 (by kernel_rfl) rfl) (fun v w' => (∃ a, v = .slice (some ⟨a, 0, none⟩) 32 32 ∧ SliceAt w' (some ⟨a, 0, none⟩) 32 L1 ∧ V.heap.size ≤ a ∧ a < w'.heap.size) ∧ Below V.heap.size V w') ((HS1.out V).mono (fun e w2 h => ⟨_, h.1.choose_spec.1, ⟨_, rfl, h.1.choose_spec.2⟩, h.2⟩)) ?_
              rintro v W' ⟨⟨a, rfl, sA_n, hgA, lA_n⟩, hb⟩
              have hBn := hB.trans (hb.mono hB.size)
              refine hK.out _ _ ⟨(hBn.cell (p := ⟨sb, so, none⟩) (block_lt_of_cell k0)).trans k0, (hBn.cell (p := ⟨sb, so + 1, none⟩) (block_lt_of_cell k1)).trans k1⟩ (fun hHeld => ?_)
              clear hHeld
              have h := st_A.out W' a hBn sA_n lA_n
              rw [← hA0.out] at h
              (try simp only [Act.put, List.setIfInBounds_toArray, List.set_cons_zero, List.set_cons_succ] at h)
              (try simp only [Act.put, List.setIfInBounds_toArray, List.set_cons_zero, List.set_cons_succ])
              exact hGi.out _ _ _ _ h
            · skip
              refine step_run rfl 12 rfl (.pointer (some ⟨V.heap.size, 0, none⟩)) (V.alloc (.cells #[.int .i64 0, .int .i64 0, .slice none 0 0, .slice none 0 0] 41)) (by go_simp) ?_
              have hA : Below V.heap.size V (V.alloc (.cells #[.int .i64 0, .int .i64 0, .slice none 0 0, .slice none 0 0] 41)) := (Below.refl _ _).alloc (Nat.le_refl _) _
              have hBn := hB.trans (hA.mono hB.size)
              have qX_n := heap_alloc_new V (.cells #[.int .i64 0, .int .i64 0, .slice none 0 0, .slice none 0 0] 41)
              have gX_n := hB.size
              generalize hW' : V.alloc (.cells #[.int .i64 0, .int .i64 0, .slice none 0 0, .slice none 0 0] 41) = W' at hA hBn qX_n ⊢
              clear hW'
              obtain ⟨bX, hx_e⟩ : ∃ bX, bX = V.heap.size := ⟨_, rfl⟩
              rw [← hx_e] at qX_n gX_n ⊢
              have hA' := hA
              clear hx_e
              refine hK.out _ _ ⟨(hBn.cell (p := ⟨sb, so, none⟩) (block_lt_of_cell k0)).trans k0, (hBn.cell (p := ⟨sb, so + 1, none⟩) (block_lt_of_cell k1)).trans k1⟩ (fun hHeld => ?_)
              clear hHeld
              have h := st_X.out W' bX hBn qX_n gX_n
              rw [← hA0.out] at h
              (try simp only [Act.put, List.setIfInBounds_toArray, List.set_cons_zero, List.set_cons_succ] at h)
              (try simp only [Act.put, List.setIfInBounds_toArray, List.set_cons_zero, List.set_cons_succ])
              exact hGi.out _ _ _ _ h
          exact st_0.out V0 hV0
        case rest =>
          obtain ⟨X, bM, a, b, rfl, qX, qM, sA, sB, hb8⟩ := hcut
          have hB8 := hB7.trans (hb8.mono hB7.size)
          have qD8 := (hb8.block _ (lt_of_heap qD7)).trans qD7
          have hd8 := hd7.below hb8
          have hL8 : ListAt wc (some ⟨bM, 0, none⟩) 4 [⟨some ⟨a, 0, none⟩, 32, L1⟩, p, ⟨some ⟨b, 0, none⟩, 32, L2⟩, q] := list_lit4 (by rw [HLN.out.1, HLN.out.2, HPL.out.1, HPL.out.2]; exact qM) sA (p0V.below hb8) sB (p1V.below hb8)
          have HMi := dagMissing_any ks ka _ kc 0 r none 0 0 [] (some ⟨bM, 0, none⟩) 4 4 [⟨some ⟨a, 0, none⟩, 32, L1⟩, p, ⟨some ⟨b, 0, none⟩, 32, L2⟩, q] wc rfl rfl rfl hd8 (list_none _) hL8 (HT.out wc hB8)
          have HME : Hid (missE (cvs ks) 0 r [] [⟨some ⟨a, 0, none⟩, 32, L1⟩, p, ⟨some ⟨b, 0, none⟩, 32, L2⟩, q] = missE (cvs ks) 0 r [] [⟨none, 0, L1⟩, p, ⟨none, 0, L2⟩, q]) := missE_same rfl rfl
          have m0 := cells_at qD8 0 _ rfl
          have h0 := cells_at qX 0 _ rfl
          have h1 := cells_at qX 1 _ rfl
          have h2 := cells_at qX 2 _ rfl
          have h3 := cells_at qX 3 _ rfl
          clear k0 k1 hL8 sA sB qM
          go_wp2_with fail
          refine HMi.mono ?_
          rintro e w9 ⟨hM, hb9⟩
          have hB9 := hB8.trans (hb9.mono hB8.size)
          rcases hM with ⟨g, he⟩ | ⟨g, na, nc, ns, he, hns, hLn⟩
          · have HCO : Hid (Coll (cvs ks)) := by
              rcases HM4'.out.1 with h | h
              · rw [← HME.out] at h; exact absurd h g
              · exact h
            obtain ⟨x, hx⟩ : ∃ x, missE (cvs ks) 0 r [] [⟨some ⟨a, 0, none⟩, 32, L1⟩, p, ⟨some ⟨b, 0, none⟩, 32, L2⟩, q] = x := ⟨_, rfl⟩
            rw [hx] at he g
            have hxb : (x == 0) = false := by simpa using g
            clear hx g HME HM4' HMi
            subst he
            dsimp only
            obtain ⟨VQ, hVQ⟩ : ∃ VQ, VQ = w9 := ⟨_, rfl⟩
            subst hVQ
            go_upto_region 11 with fail
            go_cut [4] (fun u wx => u = .bool false ∧ Below VQ.heap.size VQ wx)
            case first =>
              have hV0 : Below VQ.heap.size VQ VQ.drew := (Below.refl _ _).drew
              refine wp_region_held_drew (S := fun w' => True) (by kernel_rfl) ⟨⟩ (fun hHeld => ?_)
              generalize VQ.drew = V0 at hV0 hHeld ⊢
              refine take_dst (i := 0) (d := 92) (v := .int .i64 x) rfl rfl (by kernel_rfl) (by kernel_rfl) (by kernel_rfl) (fun _ _ _ h => h) (Or.inl ⟨by rfl, ?_⟩) hHeld ?_
              · (intro w0 hSw; (try dsimp only at hSw); go_simp)
              simp only [Act.put, List.setIfInBounds_toArray, List.set_cons_zero, List.set_cons_succ]
              refine take_dst (i := 1) (d := 93) (v := .bool false) rfl rfl (by kernel_rfl) (by kernel_rfl) (by kernel_rfl) (fun _ _ _ h => h) (Or.inl ⟨by rfl, ?_⟩) hHeld ?_
              · (intro w0 hSw; (try dsimp only at hSw); go_simp)
              simp only [Act.put, List.setIfInBounds_toArray, List.set_cons_zero, List.set_cons_succ]
              refine take_dst (i := 2) (d := 94) (v := .bool false) rfl rfl (by kernel_rfl) (by kernel_rfl) (by kernel_rfl) (fun _ _ _ h => h) (Or.inl ⟨by rfl, ?_⟩) hHeld ?_
              · (intro w0 hSw; (try dsimp only at hSw); go_simp)
              simp only [Act.put, List.setIfInBounds_toArray, List.set_cons_zero, List.set_cons_succ]
              refine take_dst (i := 3) (d := 95) (v := undef) rfl rfl (by kernel_rfl) (by kernel_rfl) (by kernel_rfl) (fun _ _ _ h => h) (Or.inr ⟨by rfl, rfl⟩) hHeld ?_
              simp only [Act.put, List.setIfInBounds_toArray, List.set_cons_zero, List.set_cons_succ]
              refine take_dst (i := 4) (d := 96) (v := undef) rfl rfl (by kernel_rfl) (by kernel_rfl) (by kernel_rfl) (fun _ _ _ h => h) (Or.inr ⟨by rfl, rfl⟩) hHeld ?_
              simp only [Act.put, List.setIfInBounds_toArray, List.set_cons_zero, List.set_cons_succ]
              refine take_dst (i := 5) (d := 97) (v := undef) rfl rfl (by kernel_rfl) (by kernel_rfl) (by kernel_rfl) (fun _ _ _ h => h) (Or.inr ⟨by rfl, rfl⟩) hHeld ?_
              simp only [Act.put, List.setIfInBounds_toArray, List.set_cons_zero, List.set_cons_succ]
              refine take_dst (i := 6) (d := 98) (v := .bool false) rfl rfl (by kernel_rfl) (by kernel_rfl) (by kernel_rfl) (fun _ _ _ h => h) (Or.inl ⟨by rfl, ?_⟩) hHeld ?_
              · (intro w0 hSw; (try dsimp only at hSw); go_simp)
              simp only [Act.put, List.setIfInBounds_toArray, List.set_cons_zero, List.set_cons_succ]
              refine take_dst (i := 7) (d := 99) (v := .bool false) rfl rfl (by kernel_rfl) (by kernel_rfl) (by kernel_rfl) (fun _ _ _ h => h) (Or.inl ⟨by rfl, ?_⟩) hHeld ?_
              · (intro w0 hSw; (try dsimp only at hSw); go_simp)
              simp only [Act.put, List.setIfInBounds_toArray, List.set_cons_zero, List.set_cons_succ]
              refine take_dst (i := 8) (d := 100) (v := undef) rfl rfl (by kernel_rfl) (by kernel_rfl) (by kernel_rfl) (fun _ _ _ h => h) (Or.inr ⟨by rfl, rfl⟩) hHeld ?_
              simp only [Act.put, List.setIfInBounds_toArray, List.set_cons_zero, List.set_cons_succ]
              refine take_dst (i := 9) (d := 101) (v := undef) rfl rfl (by kernel_rfl) (by kernel_rfl) (by kernel_rfl) (fun _ _ _ h => h) (Or.inr ⟨by rfl, rfl⟩) hHeld ?_
              simp only [Act.put, List.setIfInBounds_toArray, List.set_cons_zero, List.set_cons_succ]
              refine take_dst (i := 10) (d := 102) (v := undef) rfl rfl (by kernel_rfl) (by kernel_rfl) (by kernel_rfl) (fun _ _ _ h => h) (Or.inr ⟨by rfl, rfl⟩) hHeld ?_
              simp only [Act.put, List.setIfInBounds_toArray, List.set_cons_zero, List.set_cons_succ]
              refine take_dst (i := 11) (d := 103) (v := undef) rfl rfl (by kernel_rfl) (by kernel_rfl) (by kernel_rfl) (fun _ _ _ h => h) (Or.inr ⟨by rfl, rfl⟩) hHeld ?_
              simp only [Act.put, List.setIfInBounds_toArray, List.set_cons_zero, List.set_cons_succ]
              refine take_dst (i := 12) (d := 104) (v := undef) rfl rfl (by kernel_rfl) (by kernel_rfl) (by kernel_rfl) (fun _ _ _ h => h) (Or.inr ⟨by rfl, rfl⟩) hHeld ?_
              simp only [Act.put, List.setIfInBounds_toArray, List.set_cons_zero, List.set_cons_succ]
              refine take_dst (i := 13) (d := 105) (v := undef) rfl rfl (by kernel_rfl) (by kernel_rfl) (by kernel_rfl) (fun _ _ _ h => h) (Or.inr ⟨by rfl, rfl⟩) hHeld ?_
              simp only [Act.put, List.setIfInBounds_toArray, List.set_cons_zero, List.set_cons_succ]
              refine take_dst (i := 14) (d := 106) (v := .bool false) rfl rfl (by kernel_rfl) (by kernel_rfl) (by kernel_rfl) (fun _ _ _ h => h) (Or.inl ⟨by rfl, ?_⟩) hHeld ?_
              · (intro w0 hSw; (try dsimp only at hSw); go_simp)
              simp only [Act.put, List.setIfInBounds_toArray, List.set_cons_zero, List.set_cons_succ]
              refine take_dst (i := 15) (d := 107) (v := .bool false) rfl rfl (by kernel_rfl) (by kernel_rfl) (by kernel_rfl) (fun _ _ _ h => h) (Or.inl ⟨by rfl, ?_⟩) hHeld ?_
              · (intro w0 hSw; (try dsimp only at hSw); go_simp)
              simp only [Act.put, List.setIfInBounds_toArray, List.set_cons_zero, List.set_cons_succ]
              refine take_dst (i := 16) (d := 108) (v := undef) rfl rfl (by kernel_rfl) (by kernel_rfl) (by kernel_rfl) (fun _ _ _ h => h) (Or.inr ⟨by rfl, rfl⟩) hHeld ?_
              simp only [Act.put, List.setIfInBounds_toArray, List.set_cons_zero, List.set_cons_succ]
              refine take_dst (i := 17) (d := 109) (v := undef) rfl rfl (by kernel_rfl) (by kernel_rfl) (by kernel_rfl) (fun _ _ _ h => h) (Or.inr ⟨by rfl, rfl⟩) hHeld ?_
              simp only [Act.put, List.setIfInBounds_toArray, List.set_cons_zero, List.set_cons_succ]
              refine take_dst (i := 18) (d := 110) (v := undef) rfl rfl (by kernel_rfl) (by kernel_rfl) (by kernel_rfl) (fun _ _ _ h => h) (Or.inr ⟨by rfl, rfl⟩) hHeld ?_
              simp only [Act.put, List.setIfInBounds_toArray, List.set_cons_zero, List.set_cons_succ]
              refine take_dst (i := 19) (d := 111) (v := undef) rfl rfl (by kernel_rfl) (by kernel_rfl) (by kernel_rfl) (fun _ _ _ h => h) (Or.inr ⟨by rfl, rfl⟩) hHeld ?_
              simp only [Act.put, List.setIfInBounds_toArray, List.set_cons_zero, List.set_cons_succ]
              refine take_dst (i := 20) (d := 112) (v := undef) rfl rfl (by kernel_rfl) (by kernel_rfl) (by kernel_rfl) (fun _ _ _ h => h) (Or.inr ⟨by rfl, rfl⟩) hHeld ?_
              simp only [Act.put, List.setIfInBounds_toArray, List.set_cons_zero, List.set_cons_succ]
              refine take_dst (i := 21) (d := 113) (v := undef) rfl rfl (by kernel_rfl) (by kernel_rfl) (by kernel_rfl) (fun _ _ _ h => h) (Or.inr ⟨by rfl, rfl⟩) hHeld ?_
              simp only [Act.put, List.setIfInBounds_toArray, List.set_cons_zero, List.set_cons_succ]
              refine take_dst (i := 22) (d := 114) (v := .bool false) rfl rfl (by kernel_rfl) (by kernel_rfl) (by kernel_rfl) (fun _ _ _ h => h) (Or.inl ⟨by rfl, ?_⟩) hHeld ?_
              · (intro w0 hSw; (try dsimp only at hSw); go_simp)
              simp only [Act.put, List.setIfInBounds_toArray, List.set_cons_zero, List.set_cons_succ]
              refine take_dst (i := 23) (d := 4) (v := .bool false) rfl rfl (by kernel_rfl) (by kernel_rfl) (by kernel_rfl) (fun _ _ _ h => h) (Or.inl ⟨by rfl, ?_⟩) hHeld ?_
              · (intro w0 hSw; (try dsimp only at hSw); go_simp)
              simp only [Act.put, List.setIfInBounds_toArray, List.set_cons_zero, List.set_cons_succ]
              clear hHeld
              refine any_named (fun GO hGo hGi => ?_)
              refine act_named (fun A0 hA0 => ?_)
              have st_0 : Hid (∀ (V : World), Below VQ.heap.size VQ V → GO 0 #[true, true, true, true, true, true, true, true, true, true, true, true, true, true, true, true, true, true, true, true, true, true, true, true] A0 V) := by
                show ∀ V, _
                intro V  hB 
                refine hGo.out _ _ _ _ ?_
                rw [← hA0.out]
                try simp only [Act.put, List.setIfInBounds_toArray, List.set_cons_zero, List.set_cons_succ]
                refine wpAnyH_done (by kernel_rfl) ?_ _
                go_wp2_with fail
                go_meet
                case rel => exact ⟨rfl, hB⟩
              exact st_0.out V0 hV0
            case rest =>
              obtain ⟨rfl, hbZ⟩ := hcut
              go_wp2_with fail
              go_ret
              exact ⟨cvs ks, HG.out, .inr ⟨rfl, HCO.out⟩, hB9.trans (hbZ.mono hB9.size)⟩
          · have hns2 : bss ns = [L1, L2] := hns.trans HM4'.out.2
            clear g hns HME HM4' HMi
            obtain ⟨u1, u2, hnse, hu1, hu2⟩ : ∃ u1 u2 : Part, ns = [u1, u2] ∧ u1.bs = L1 ∧ u2.bs = L2 := by
              match ns, hns2 with
              | [x, y], h => simp [bss] at h; exact ⟨x, y, rfl, h.1, h.2⟩
            subst hnse
            clear hns2
            subst he
            dsimp only
            obtain ⟨nb, no, hne, hnc⟩ : ∃ nb no, na = some ⟨nb, no, none⟩ ∧ ∀ j (h : j < [u1, u2].length), w9.cell? ⟨nb, no + j, none⟩ = some (.slice ([u1, u2][j]).sa ([u1, u2][j]).bs.length ([u1, u2][j]).cap) := by
              rcases hLn.parts.cells with h | h
              · cases h
              · exact h
            subst hne
            have c0 : w9.cell? ⟨nb, no, none⟩ = some (.slice u1.sa 32 u1.cap) := by have := hnc 0 (by simp); simp only [List.getElem_cons_zero, Nat.add_zero] at this; rw [hu1, HLN.out.1] at this; exact this
            have c1 : w9.cell? ⟨nb, no + 1, none⟩ = some (.slice u2.sa 32 u2.cap) := by have := hnc 1 (by simp); simp only [List.getElem_cons_succ, List.getElem_cons_zero] at this; rw [hu2, HLN.out.2] at this; exact this
            have t1 : SliceAt w9 u1.sa u1.cap L1 := by have := hLn.parts.each u1 (by simp); rw [hu1] at this; exact this
            have t2 : SliceAt w9 u2.sa u2.cap L2 := by have := hLn.parts.each u2 (by simp); rw [hu2] at this; exact this
            clear hnc hLn hu1 hu2
            obtain ⟨VQ, hVQ⟩ : ∃ VQ, VQ = w9 := ⟨_, rfl⟩
            subst hVQ
            have HSM1 : Hid (∀ (V : World) (a : Nat), Below VQ.heap.size VQ V → SliceAt V (some ⟨a, 0, none⟩) 32 L1 → Calls Tryd.prog 29 #[.slice u1.sa 32 u1.cap, .slice (some ⟨a, 0, none⟩) 32 32] V fun e w' => e = .returned (.bool true) ∧ V = w') := by
              show ∀ V, _
              intro V a hV hs
              have h := same_tx L1 L1 u1.sa (some ⟨a, 0, none⟩) 32 32 u1.cap 32 V HLN.out.1.symm HLN.out.1.symm (t1.below hV) hs
              rw [decide_eq_true rfl] at h
              exact h
            have HSM2 : Hid (∀ (V : World) (a : Nat), Below VQ.heap.size VQ V → SliceAt V (some ⟨a, 0, none⟩) 32 L2 → Calls Tryd.prog 29 #[.slice u2.sa 32 u2.cap, .slice (some ⟨a, 0, none⟩) 32 32] V fun e w' => e = .returned (.bool true) ∧ V = w') := by
              show ∀ V, _
              intro V a hV hs
              have h := same_tx L2 L2 u2.sa (some ⟨a, 0, none⟩) 32 32 u2.cap 32 V HLN.out.2.symm HLN.out.2.symm (t2.below hV) hs
              rw [decide_eq_true rfl] at h
              exact h
            go_upto_region 11 with fail
            go_cut [4] (fun u wx => u = .bool true ∧ Below VQ.heap.size VQ wx)
            case first =>
              have hV0 : Below VQ.heap.size VQ VQ.drew := (Below.refl _ _).drew
              refine wp_region_held_drew (S := fun w' => w'.cell? ⟨nb, no, none⟩ = some (.slice u1.sa 32 u1.cap) ∧ w'.cell? ⟨nb, no + 1, none⟩ = some (.slice u2.sa 32 u2.cap)) (by kernel_rfl) ⟨(hV0.cell (p := ⟨nb, no, none⟩) (block_lt_of_cell c0)).trans c0, (hV0.cell (p := ⟨nb, no + 1, none⟩) (block_lt_of_cell c1)).trans c1⟩ (fun hHeld => ?_)
              generalize VQ.drew = V0 at hV0 hHeld ⊢
              refine take_dst (i := 0) (d := 92) (v := .int .i64 0) rfl rfl (by kernel_rfl) (by kernel_rfl) (by kernel_rfl) (fun _ _ _ h => h) (Or.inl ⟨by rfl, ?_⟩) hHeld ?_
              · (intro w0 hSw; (try dsimp only at hSw); go_simp)
              simp only [Act.put, List.setIfInBounds_toArray, List.set_cons_zero, List.set_cons_succ]
              refine take_dst (i := 1) (d := 93) (v := .bool true) rfl rfl (by kernel_rfl) (by kernel_rfl) (by kernel_rfl) (fun _ _ _ h => h) (Or.inl ⟨by rfl, ?_⟩) hHeld ?_
              · (intro w0 hSw; (try dsimp only at hSw); go_simp)
              simp only [Act.put, List.setIfInBounds_toArray, List.set_cons_zero, List.set_cons_succ]
              refine take_dst (i := 2) (d := 94) (v := .bool true) rfl rfl (by kernel_rfl) (by kernel_rfl) (by kernel_rfl) (fun _ _ _ h => h) (Or.inl ⟨by rfl, ?_⟩) hHeld ?_
              · (intro w0 hSw; (try dsimp only at hSw); go_simp)
              simp only [Act.put, List.setIfInBounds_toArray, List.set_cons_zero, List.set_cons_succ]
              refine take_dst (i := 3) (d := 95) (v := .slice (some ⟨nb, no, none⟩) 2 nc) rfl rfl (by kernel_rfl) (by kernel_rfl) (by kernel_rfl) (fun _ _ _ h => h) (Or.inl ⟨by rfl, ?_⟩) hHeld ?_
              · (intro w0 hSw; (try dsimp only at hSw); go_simp)
              simp only [Act.put, List.setIfInBounds_toArray, List.set_cons_zero, List.set_cons_succ]
              refine take_dst (i := 4) (d := 96) (v := .int .i64 2) rfl rfl (by kernel_rfl) (by kernel_rfl) (by kernel_rfl) (fun _ _ _ h => h) (Or.inl ⟨by rfl, ?_⟩) hHeld ?_
              · (intro w0 hSw; (try dsimp only at hSw); go_simp)
              simp only [Act.put, List.setIfInBounds_toArray, List.set_cons_zero, List.set_cons_succ]
              refine take_dst (i := 5) (d := 97) (v := .bool true) rfl rfl (by kernel_rfl) (by kernel_rfl) (by kernel_rfl) (fun _ _ _ h => h) (Or.inl ⟨by rfl, ?_⟩) hHeld ?_
              · (intro w0 hSw; (try dsimp only at hSw); go_simp)
              simp only [Act.put, List.setIfInBounds_toArray, List.set_cons_zero, List.set_cons_succ]
              refine take_dst (i := 6) (d := 98) (v := .bool true) rfl rfl (by kernel_rfl) (by kernel_rfl) (by kernel_rfl) (fun _ _ _ h => h) (Or.inl ⟨by rfl, ?_⟩) hHeld ?_
              · (intro w0 hSw; (try dsimp only at hSw); go_simp)
              simp only [Act.put, List.setIfInBounds_toArray, List.set_cons_zero, List.set_cons_succ]
              refine take_dst (i := 7) (d := 99) (v := .bool true) rfl rfl (by kernel_rfl) (by kernel_rfl) (by kernel_rfl) (fun _ _ _ h => h) (Or.inl ⟨by rfl, ?_⟩) hHeld ?_
              · (intro w0 hSw; (try dsimp only at hSw); go_simp)
              simp only [Act.put, List.setIfInBounds_toArray, List.set_cons_zero, List.set_cons_succ]
              refine take_dst (i := 8) (d := 100) (v := .slice (some ⟨nb, no, none⟩) 2 nc) rfl rfl (by kernel_rfl) (by kernel_rfl) (by kernel_rfl) (fun _ _ _ h => h) (Or.inl ⟨by rfl, ?_⟩) hHeld ?_
              · (intro w0 hSw; (try dsimp only at hSw); go_simp)
              simp only [Act.put, List.setIfInBounds_toArray, List.set_cons_zero, List.set_cons_succ]
              refine take_dst (i := 9) (d := 101) (v := .pointer (some ⟨nb, no, none⟩)) rfl rfl (by kernel_rfl) (by kernel_rfl) (by kernel_rfl) (fun _ _ _ h => h) (Or.inl ⟨by rfl, ?_⟩) hHeld ?_
              · (intro w0 hSw; (try dsimp only at hSw); go_simp)
              simp only [Act.put, List.setIfInBounds_toArray, List.set_cons_zero, List.set_cons_succ]
              refine take_dst (i := 10) (d := 102) (v := .slice u1.sa 32 u1.cap) rfl rfl (by kernel_rfl) (by kernel_rfl) (by kernel_rfl) (fun _ _ _ h => h) (Or.inl ⟨by rfl, ?_⟩) hHeld ?_
              · (intro w0 hSw; (try dsimp only at hSw); go_simp)
              simp only [Act.put, List.setIfInBounds_toArray, List.set_cons_zero, List.set_cons_succ]
              refine take_dst (i := 11) (d := 103) (v := .int .i64 n) rfl rfl (by kernel_rfl) (by kernel_rfl) (by kernel_rfl) (fun _ _ _ h => h) (Or.inl ⟨by rfl, ?_⟩) hHeld ?_
              · (intro w0 hSw; (try dsimp only at hSw); go_simp)
              simp only [Act.put, List.setIfInBounds_toArray, List.set_cons_zero, List.set_cons_succ]
              clear hHeld
              refine any_named (fun GO hGo hGi => ?_)
              refine act_named (fun A0 hA0 => ?_)
              have st_AEBG : Hid (∀ (V : World) (a : Nat) (b : Nat), Below VQ.heap.size VQ V → (SliceAt V (some ⟨a, 0, none⟩) 32 L1) → (a < V.heap.size) → (SliceAt V (some ⟨b, 0, none⟩) 32 L2) → (b < V.heap.size) → GO 0 #[true, true, true, true, true, true, true, true, true, true, true, true, true, true, true, true, true, true, true, true, true, true, true, true] ((((((((((((A0.put (some 104) (.slice (some ⟨a, 0, none⟩) 32 32)).put (some 105) (.bool true)).put (some 106) (.bool true)).put (some 107) (.bool true)).put (some 108) (.slice (some ⟨nb, no, none⟩) 2 nc)).put (some 109) (.pointer (some ⟨nb, no + 1, none⟩))).put (some 110) (.slice u2.sa 32 u2.cap)).put (some 111) (.int .i64 n)).put (some 112) (.slice (some ⟨b, 0, none⟩) 32 32)).put (some 113) (.bool true)).put (some 114) (.bool true)).put (some 4) (.bool true)) V) := by
                show ∀ V, _
                intro V a b hB sA lA sB lB
                refine hGo.out _ _ _ _ ?_
                rw [← hA0.out]
                try simp only [Act.put, List.setIfInBounds_toArray, List.set_cons_zero, List.set_cons_succ]
                refine wpAnyH_done (by kernel_rfl) ?_ _
                go_wp2_with fail
                go_meet
                case rel => exact ⟨rfl, hB⟩
              have st_AEB : Hid (∀ (V : World) (a : Nat) (b : Nat), Below VQ.heap.size VQ V → (SliceAt V (some ⟨a, 0, none⟩) 32 L1) → (a < V.heap.size) → (SliceAt V (some ⟨b, 0, none⟩) 32 L2) → (b < V.heap.size) → GO 3 #[true, true, true, true, true, true, true, true, true, true, true, true, true, true, true, true, true, true, true, true, true, false, false, false] (((((((((A0.put (some 104) (.slice (some ⟨a, 0, none⟩) 32 32)).put (some 105) (.bool true)).put (some 106) (.bool true)).put (some 107) (.bool true)).put (some 108) (.slice (some ⟨nb, no, none⟩) 2 nc)).put (some 109) (.pointer (some ⟨nb, no + 1, none⟩))).put (some 110) (.slice u2.sa 32 u2.cap)).put (some 111) (.int .i64 n)).put (some 112) (.slice (some ⟨b, 0, none⟩) 32 32)) V) := by
                show ∀ V, _
                intro V a b hB sA lA sB lB
                refine hGo.out _ _ _ _ ?_
                rw [← hA0.out]
                try simp only [Act.put, List.setIfInBounds_toArray, List.set_cons_zero, List.set_cons_succ]
                refine wpAnyH_ready (rs := [21]) (by kernel_rfl) (by simp) (AllReadyH.cons rfl (fun K hK => ?_) AllReadyH.nil)
                refine step_calls_on (by rfl) 113 rfl 29 [.tmp 110, .tmp 112] #[54, 54] rfl [.slice u2.sa 32 u2.cap, .slice (some ⟨b, 0, none⟩) 32 32] rfl (enters_of Tryd.func29 (by kernel_rfl) rfl) (fun v w' => v = .bool true ∧ V = w') ((HSM2.out V b hB sB).mono (fun e w2 h => ⟨_, h.1, rfl, h.2⟩)) ?_
                rintro v W' ⟨rfl, hwq⟩
                subst hwq
                refine hK.out _ _ ⟨(hB.cell (p := ⟨nb, no, none⟩) (block_lt_of_cell c0)).trans c0, (hB.cell (p := ⟨nb, no + 1, none⟩) (block_lt_of_cell c1)).trans c1⟩ (fun hHeld => ?_)
                simp only [Act.put, List.setIfInBounds_toArray, List.set_cons_zero, List.set_cons_succ]
                refine take_dst (i := 22) (d := 114) (v := .bool true) rfl rfl (by kernel_rfl) (by kernel_rfl) (by kernel_rfl) (fun _ _ _ h => h) (Or.inl ⟨by rfl, ?_⟩) hHeld ?_
                · (intro w0 hSw; (try dsimp only at hSw); go_simp)
                simp only [Act.put, List.setIfInBounds_toArray, List.set_cons_zero, List.set_cons_succ]
                refine take_dst (i := 23) (d := 4) (v := .bool true) rfl rfl (by kernel_rfl) (by kernel_rfl) (by kernel_rfl) (fun _ _ _ h => h) (Or.inl ⟨by rfl, ?_⟩) hHeld ?_
                · (intro w0 hSw; (try dsimp only at hSw); go_simp)
                simp only [Act.put, List.setIfInBounds_toArray, List.set_cons_zero, List.set_cons_succ]
                clear hHeld
                have h := st_AEBG.out V a b hB sA lA sB lB
                rw [← hA0.out] at h
                (try simp only [Act.put, List.setIfInBounds_toArray, List.set_cons_zero, List.set_cons_succ] at h)
                (try simp only [Act.put, List.setIfInBounds_toArray, List.set_cons_zero, List.set_cons_succ])
                exact hGi.out _ _ _ _ h
              have st_AE : Hid (∀ (V : World) (a : Nat), Below VQ.heap.size VQ V → (SliceAt V (some ⟨a, 0, none⟩) 32 L1) → (a < V.heap.size) → GO 4 #[true, true, true, true, true, true, true, true, true, true, true, true, true, true, true, true, true, true, true, true, false, false, false, false] ((((((((A0.put (some 104) (.slice (some ⟨a, 0, none⟩) 32 32)).put (some 105) (.bool true)).put (some 106) (.bool true)).put (some 107) (.bool true)).put (some 108) (.slice (some ⟨nb, no, none⟩) 2 nc)).put (some 109) (.pointer (some ⟨nb, no + 1, none⟩))).put (some 110) (.slice u2.sa 32 u2.cap)).put (some 111) (.int .i64 n)) V) := by
                show ∀ V, _
                intro V a hB sA lA
                refine hGo.out _ _ _ _ ?_
                rw [← hA0.out]
                try simp only [Act.put, List.setIfInBounds_toArray, List.set_cons_zero, List.set_cons_succ]
                refine wpAnyH_ready (rs := [20]) (by kernel_rfl) (by simp) (AllReadyH.cons rfl (fun K hK => ?_) AllReadyH.nil)
                refine step_calls_on (by rfl) 112 rfl 23 [.tmp 111, .const (.int .i64 2)] #[3, 3] rfl [.int .i64 n, .int .i64 2] rfl (enters_of Tryd.func23 (by kernel_rfl) rfl) (fun v w' => (∃ b, v = .slice (some ⟨b, 0, none⟩) 32 32 ∧ SliceAt w' (some ⟨b, 0, none⟩) 32 L2 ∧ V.heap.size ≤ b ∧ b < w'.heap.size) ∧ Below V.heap.size V w') ((HS2.out V).mono (fun e w2 h => ⟨_, h.1.choose_spec.1, ⟨_, rfl, h.1.choose_spec.2⟩, h.2⟩)) ?_
                rintro v W' ⟨⟨b, rfl, sB_n, hgB, lB_n⟩, hb⟩
                have hBn := hB.trans (hb.mono hB.size)
                refine hK.out _ _ ⟨(hBn.cell (p := ⟨nb, no, none⟩) (block_lt_of_cell c0)).trans c0, (hBn.cell (p := ⟨nb, no + 1, none⟩) (block_lt_of_cell c1)).trans c1⟩ (fun hHeld => ?_)
                clear hHeld
                have h := st_AEB.out W' a b hBn (sA.below hb) (Nat.lt_of_lt_of_le lA hb.size) sB_n lB_n
                rw [← hA0.out] at h
                (try simp only [Act.put, List.setIfInBounds_toArray, List.set_cons_zero, List.set_cons_succ] at h)
                (try simp only [Act.put, List.setIfInBounds_toArray, List.set_cons_zero, List.set_cons_succ])
                exact hGi.out _ _ _ _ h
              have st_A : Hid (∀ (V : World) (a : Nat), Below VQ.heap.size VQ V → (SliceAt V (some ⟨a, 0, none⟩) 32 L1) → (a < V.heap.size) → GO 11 #[true, true, true, true, true, true, true, true, true, true, true, true, true, false, false, false, false, false, false, false, false, false, false, false] (A0.put (some 104) (.slice (some ⟨a, 0, none⟩) 32 32)) V) := by
                show ∀ V, _
                intro V a hB sA lA
                refine hGo.out _ _ _ _ ?_
                rw [← hA0.out]
                try simp only [Act.put, List.setIfInBounds_toArray, List.set_cons_zero, List.set_cons_succ]
                refine wpAnyH_ready (rs := [13]) (by kernel_rfl) (by simp) (AllReadyH.cons rfl (fun K hK => ?_) AllReadyH.nil)
                refine step_calls_on (by rfl) 105 rfl 29 [.tmp 102, .tmp 104] #[54, 54] rfl [.slice u1.sa 32 u1.cap, .slice (some ⟨a, 0, none⟩) 32 32] rfl (enters_of Tryd.func29 (by kernel_rfl) rfl) (fun v w' => v = .bool true ∧ V = w') ((HSM1.out V a hB sA).mono (fun e w2 h => ⟨_, h.1, rfl, h.2⟩)) ?_
                rintro v W' ⟨rfl, hwq⟩
                subst hwq
                refine hK.out _ _ ⟨(hB.cell (p := ⟨nb, no, none⟩) (block_lt_of_cell c0)).trans c0, (hB.cell (p := ⟨nb, no + 1, none⟩) (block_lt_of_cell c1)).trans c1⟩ (fun hHeld => ?_)
                simp only [Act.put, List.setIfInBounds_toArray, List.set_cons_zero, List.set_cons_succ]
                refine take_dst (i := 14) (d := 106) (v := .bool true) rfl rfl (by kernel_rfl) (by kernel_rfl) (by kernel_rfl) (fun _ _ _ h => h) (Or.inl ⟨by rfl, ?_⟩) hHeld ?_
                · (intro w0 hSw; (try dsimp only at hSw); go_simp)
                simp only [Act.put, List.setIfInBounds_toArray, List.set_cons_zero, List.set_cons_succ]
                refine take_dst (i := 15) (d := 107) (v := .bool true) rfl rfl (by kernel_rfl) (by kernel_rfl) (by kernel_rfl) (fun _ _ _ h => h) (Or.inl ⟨by rfl, ?_⟩) hHeld ?_
                · (intro w0 hSw; (try dsimp only at hSw); go_simp)
                simp only [Act.put, List.setIfInBounds_toArray, List.set_cons_zero, List.set_cons_succ]
                refine take_dst (i := 16) (d := 108) (v := .slice (some ⟨nb, no, none⟩) 2 nc) rfl rfl (by kernel_rfl) (by kernel_rfl) (by kernel_rfl) (fun _ _ _ h => h) (Or.inl ⟨by rfl, ?_⟩) hHeld ?_
                · (intro w0 hSw; (try dsimp only at hSw); go_simp)
                simp only [Act.put, List.setIfInBounds_toArray, List.set_cons_zero, List.set_cons_succ]
                refine take_dst (i := 17) (d := 109) (v := .pointer (some ⟨nb, no + 1, none⟩)) rfl rfl (by kernel_rfl) (by kernel_rfl) (by kernel_rfl) (fun _ _ _ h => h) (Or.inl ⟨by rfl, ?_⟩) hHeld ?_
                · (intro w0 hSw; (try dsimp only at hSw); go_simp)
                simp only [Act.put, List.setIfInBounds_toArray, List.set_cons_zero, List.set_cons_succ]
                refine take_dst (i := 18) (d := 110) (v := .slice u2.sa 32 u2.cap) rfl rfl (by kernel_rfl) (by kernel_rfl) (by kernel_rfl) (fun _ _ _ h => h) (Or.inl ⟨by rfl, ?_⟩) hHeld ?_
                · (intro w0 hSw; (try dsimp only at hSw); go_simp)
                simp only [Act.put, List.setIfInBounds_toArray, List.set_cons_zero, List.set_cons_succ]
                refine take_dst (i := 19) (d := 111) (v := .int .i64 n) rfl rfl (by kernel_rfl) (by kernel_rfl) (by kernel_rfl) (fun _ _ _ h => h) (Or.inl ⟨by rfl, ?_⟩) hHeld ?_
                · (intro w0 hSw; (try dsimp only at hSw); go_simp)
                simp only [Act.put, List.setIfInBounds_toArray, List.set_cons_zero, List.set_cons_succ]
                clear hHeld
                have h := st_AE.out V a hB sA lA
                rw [← hA0.out] at h
                (try simp only [Act.put, List.setIfInBounds_toArray, List.set_cons_zero, List.set_cons_succ] at h)
                (try simp only [Act.put, List.setIfInBounds_toArray, List.set_cons_zero, List.set_cons_succ])
                exact hGi.out _ _ _ _ h
              have st_0 : Hid (∀ (V : World), Below VQ.heap.size VQ V → GO 12 #[true, true, true, true, true, true, true, true, true, true, true, true, false, false, false, false, false, false, false, false, false, false, false, false] A0 V) := by
                show ∀ V, _
                intro V  hB 
                refine hGo.out _ _ _ _ ?_
                rw [← hA0.out]
                try simp only [Act.put, List.setIfInBounds_toArray, List.set_cons_zero, List.set_cons_succ]
                refine wpAnyH_ready (rs := [12]) (by kernel_rfl) (by simp) (AllReadyH.cons rfl (fun K hK => ?_) AllReadyH.nil)
                refine step_calls_on (by rfl) 104 rfl 23 [.tmp 103, .const (.int .i64 1)] #[3, 3] rfl [.int .i64 n, .int .i64 1] rfl (enters_of Tryd.func23 (by kernel_rfl) rfl) (fun v w' => (∃ a, v = .slice (some ⟨a, 0, none⟩) 32 32 ∧ SliceAt w' (some ⟨a, 0, none⟩) 32 L1 ∧ V.heap.size ≤ a ∧ a < w'.heap.size) ∧ Below V.heap.size V w') ((HS1.out V).mono (fun e w2 h => ⟨_, h.1.choose_spec.1, ⟨_, rfl, h.1.choose_spec.2⟩, h.2⟩)) ?_
                rintro v W' ⟨⟨a, rfl, sA_n, hgA, lA_n⟩, hb⟩
                have hBn := hB.trans (hb.mono hB.size)
                refine hK.out _ _ ⟨(hBn.cell (p := ⟨nb, no, none⟩) (block_lt_of_cell c0)).trans c0, (hBn.cell (p := ⟨nb, no + 1, none⟩) (block_lt_of_cell c1)).trans c1⟩ (fun hHeld => ?_)
                clear hHeld
                have h := st_A.out W' a hBn sA_n lA_n
                rw [← hA0.out] at h
                (try simp only [Act.put, List.setIfInBounds_toArray, List.set_cons_zero, List.set_cons_succ] at h)
                (try simp only [Act.put, List.setIfInBounds_toArray, List.set_cons_zero, List.set_cons_succ])
                exact hGi.out _ _ _ _ h
              exact st_0.out V0 hV0
            case rest =>
              obtain ⟨rfl, hbZ⟩ := hcut
              go_wp2_with fail
              go_ret
              exact ⟨cvs ks, HG.out, .inl rfl, hB9.trans (hbZ.mono hB9.size)⟩
set_option maxRecDepth 100000 in
theorem missingSome_walk (sa : Option Addr) (cap : Nat) (l : List Stp) (n : Int) (w : World) (hl : StepsAt w sa l) (hcl : l.length ≤ cap) (hc0 : sa = none → cap = 0) (hc1 : l.length * 24 ≤ 140737488351232) (hn1 : -9223372036854775808 ≤ n) (hn2 : n ≤ 9223372036854775807) (hT : Tabs w) :
    Calls Tryd.prog 5 #[.slice sa l.length cap, .int .i64 n] w fun e w' => e = .returned (.bool true) ∧ Below w.heap.size w w' := by
  have H := missingSome_any sa cap l n w hl hcl hc0 hc1 hn1 hn2 hT
  go_enter Tryd.func5, Tryd.ntmps5
  go_wp2_with fail
  refine H.mono ?_
  rintro e w1 ⟨cc, hG, hor, hb1⟩
  rcases hor with he | ⟨he, hco⟩
  · subst he
    dsimp only
    go_wp2_with fail
    go_ret
    exact ⟨rfl, hb1⟩
  · subst he
    dsimp only
    obtain ⟨K, I, h1, h2, h3, h4⟩ := hco
    have H2 := grownSum_true l sa cap w1 cc I K (hl.below hb1) hcl hc0 hc1 hG h1 h2 h3 h4 (hT.below hb1)
    clear H hG hcl hc0 hc1
    go_wp2_with fail
    refine H2.mono ?_
    rintro e w2 ⟨he, hb2⟩
    subst he
    dsimp only
    go_wp2_with fail
    go_ret
    exact ⟨rfl, hb1.trans (hb2.mono hb1.size)⟩
end Go.Proofs.YtnpjhpmgelaonabDoor
