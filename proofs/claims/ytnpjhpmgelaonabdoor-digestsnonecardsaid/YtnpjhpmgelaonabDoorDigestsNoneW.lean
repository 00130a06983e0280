/- DigestsNone: the walk. -/
import Derived.Test.YtnpjhpmgelaonabDoorGKGrown
import Derived.Test.YtnpjhpmgelaonabDoorDgNone
namespace Go.Proofs.YtnpjhpmgelaonabDoor
open Go.RowKit

set_option maxRecDepth 100000 in
set_option maxHeartbeats 4000000 in
theorem digestsNone_walk (sa : Option Addr) (cap : Nat) (l : List Stp) (n : Int) (w : World) (hl : StepsAt w sa l) (hcl : l.length ≤ cap) (hc0 : sa = none → cap = 0) (hc1 : l.length * 24 ≤ 140737488351232) (hn1 : -9223372036854775808 ≤ n) (hn2 : n ≤ 9223372036854775807) (hT : Tabs w) :
    Calls Tryd.prog 3 #[.slice sa l.length cap, .int .i64 n] w fun e w' => e = .returned (.bool true) ∧ Below w.heap.size w w' := by
  have hnil : sa = none → l.length = 0 ∧ cap = 0 := fun h => by have := hc0 h; omega
  have H := grown_any l sa _ cap w rfl hl hnil hc1 hT
  have HT : Hid (∀ W : World, Below w.heap.size w W → Tabs W) := by
    show ∀ W, _
    exact fun W hW => hT.below hW
  clear hT hnil hc0 hc1 hcl
  go_enter Tryd.func3, Tryd.ntmps3
  go_wp2_with fail
  refine H.mono ?_
  rintro e w1 ⟨ka, kc, ks, ba, bc, bl, he, hG, hd, hnew, ho, hoff, hV, hb1⟩
  subst he
  dsimp only
  have hpos : 0 < ks.length := by have := grown_some (by omega) hG; rw [cvs_length] at this; exact this
  have HD : Hid (dagF (cvs ks) = 0) := hG.dag
  have HG : Hid (GrownTo (s0 :: l) (min (l.length + 1) 24) (cvs ks)) := hG
  have hle : ks.length ≤ 24 := by have := hG.len; rw [cvs_length] at this; omega
  have hA1 := (Below.refl w1.heap.size w1).alloc (Nat.le_refl _) (.cells #[.slice ka ks.length kc] 25)
  have qD := heap_alloc_new w1 (.cells #[.slice ka ks.length kc] 25)
  have hd2 := hd.below hA1
  have hB2 := hb1.trans (hA1.mono hb1.size)
  have hgD : w.heap.size ≤ w1.heap.size := hb1.size
  have hdlt : ∀ b, DagIn ka ks b → b < w1.heap.size := fun b hb => by
    rcases hb with ⟨so, e⟩ | ⟨c', hc', hq⟩
    · exact dag_row_lt hd hpos b so e
    · exact (hd.each c' hc').block_lt b hq
  clear hG hV ho hoff hnew hd H hl
  go_upto_region 2 with fail
  generalize w1.alloc (.cells #[.slice ka ks.length kc] 25) = W2 at hA1 qD hd2 hB2 ⊢
  clear hA1
  generalize w1.heap.size = D at qD hgD hdlt ⊢
  have HR : Hid (∀ x ∈ cvs ks, 1 ≤ x.rd ∧ x.rd ≤ 24) := by
    show ∀ x, _
    intro x hx
    have h1 := HG.out.rounds x hx
    obtain ⟨j, hj, rfl⟩ := List.getElem_of_mem hx
    have h2 := f_round (dagF_f HD.out j hj)
    have e : cvAt (cvs ks) j = (cvs ks)[j] := by simp [cvAt, hj]
    rw [e] at h2
    omega
  have hpb := pk_bounds n 99 (by decide)
  obtain ⟨P, hP⟩ : ∃ P, P = pk n 99 := ⟨_, rfl⟩
  have HP : Hid (∀ V : World, Calls Tryd.prog 9 #[.int .i64 n, .int .i64 99] V fun e w' => e = .returned (.int .i64 P) ∧ V = w') := by
    show ∀ V, _
    intro V
    rw [hP]
    exact picked_any n 99 V hn1 hn2 (by decide) (by decide)
  rw [← hP] at hpb
  clear hP
  have hwi : IntKind.i64.wrap (100 + P) = 100 + P := by rw [IntKind.wrap_i64]; omega
  have e0 := cells_at qD 0 _ rfl
  obtain ⟨VR, hVR⟩ : ∃ VR, VR = W2 := ⟨_, rfl⟩
  subst hVR
  go_cut [7, 8] (fun u v wx => ∃ ma mc, u = .slice ma 0 mc ∧ v = .int .i64 0 ∧ Below VR.heap.size VR wx)
  case first =>
    have hV0 : Below VR.heap.size VR VR.drew := (Below.refl _ _).drew
    refine wp_region_held_drew (S := fun w' => w'.cell? ⟨D, 0, none⟩ = some (.slice ka ks.length kc)) (by kernel_rfl) ((hV0.cell (p := ⟨D, 0, none⟩) (block_lt_of_cell e0)).trans e0) (fun hHeld => ?_)
    generalize VR.drew = V0 at hV0 hHeld ⊢
    refine take_dst (i := 0) (d := 19) (v := .agg #[.slice ka ks.length kc]) rfl rfl (by kernel_rfl) (by kernel_rfl) (by kernel_rfl) (fun _ _ _ h => h) (Or.inl ⟨by rfl, ?_⟩) hHeld ?_
    · (intro w0 hSw; (try dsimp only at hSw); go_simp)
    simp only [Act.put, List.setIfInBounds_toArray, List.set_cons_zero, List.set_cons_succ]
    refine take_dst (i := 1) (d := 20) (v := .int .i64 n) rfl rfl (by kernel_rfl) (by kernel_rfl) (by kernel_rfl) (fun _ _ _ h => h) (Or.inl ⟨by rfl, ?_⟩) hHeld ?_
    · (intro w0 hSw; (try dsimp only at hSw); go_simp)
    simp only [Act.put, List.setIfInBounds_toArray, List.set_cons_zero, List.set_cons_succ]
    clear hHeld
    refine any_named (fun GO hGo hGi => ?_)
    refine act_named (fun A0 hA0 => ?_)
    have st_PQ : Hid (∀ (V : World) (ma : Option Addr) (mc : Nat), Below VR.heap.size VR V → GO 0 #[true, true, true, true, true, true, true, true, true, true] ((((((((A0.put (some 21) (.int .i64 P)).put (some 22) (.int .i64 (100 + P))).put (some 23) (.tuple #[.slice ma 0 mc, .int .i64 0])).put (some 18) (.tuple #[.slice ma 0 mc, .int .i64 0])).put (some 24) (.slice ma 0 mc)).put (some 25) (.int .i64 0)).put (some 7) (.slice ma 0 mc)).put (some 8) (.int .i64 0)) V) := by
      show ∀ V, _
      intro V ma mc hB 
      refine hGo.out _ _ _ _ ?_
      rw [← hA0.out]
      try simp only [Act.put, List.setIfInBounds_toArray, List.set_cons_zero, List.set_cons_succ]
      refine wpAnyH_done (by kernel_rfl) ?_ _
      go_wp2_with fail
      go_meet
      case rel => exact ⟨ma, mc, rfl, rfl, hB⟩
    have st_P : Hid (∀ (V : World), Below VR.heap.size VR V → GO 6 #[true, true, true, true, false, false, false, false, false, false] ((A0.put (some 21) (.int .i64 P)).put (some 22) (.int .i64 (100 + P))) V) := by
      show ∀ V, _
      intro V  hB 
      refine hGo.out _ _ _ _ ?_
      rw [← hA0.out]
      try simp only [Act.put, List.setIfInBounds_toArray, List.set_cons_zero, List.set_cons_succ]
      refine wpAnyH_ready (rs := [4]) (by kernel_rfl) (by simp) (AllReadyH.cons rfl (fun K hK => ?_) AllReadyH.nil)
      refine step_calls_dst rfl 23 rfl 8 [.tmp 19, .tmp 22] #[25, 3] rfl [.agg #[.slice ka ks.length kc], .int .i64 (100 + P)] rfl (enters_of Tryd.func8 (by kernel_rfl) rfl) (fun v w' => (∃ ma mc, v = .tuple #[.slice ma 0 mc, .int .i64 0]) ∧ Below V.heap.size V w') ((digests_none ks ka kc (100 + P) V (hd2.below hB) HD.out (fun x hx => by have := HR.out x hx; omega) (HT.out V (hB2.trans (hB.mono hB2.size)))).mono (fun e w2 h => ⟨_, h.1.choose_spec.choose_spec, ⟨_, _, rfl⟩, h.2⟩)) ?_
      rintro v W' ⟨⟨ma, mc, rfl⟩, hb⟩
      have hBn := hB.trans (hb.mono hB.size)
      refine hK.out _ _ ((hBn.cell (p := ⟨D, 0, none⟩) (block_lt_of_cell e0)).trans e0) (fun hHeld => ?_)
      simp only [Act.put, List.setIfInBounds_toArray, List.set_cons_zero, List.set_cons_succ]
      refine take_dst (i := 5) (d := 18) (v := .tuple #[.slice ma 0 mc, .int .i64 0]) rfl rfl (by kernel_rfl) (by kernel_rfl) (by kernel_rfl) (fun _ _ _ h => h) (Or.inl ⟨by rfl, ?_⟩) hHeld ?_
      · (intro w0 hSw; (try dsimp only at hSw); go_simp)
      simp only [Act.put, List.setIfInBounds_toArray, List.set_cons_zero, List.set_cons_succ]
      refine take_dst (i := 6) (d := 24) (v := .slice ma 0 mc) rfl rfl (by kernel_rfl) (by kernel_rfl) (by kernel_rfl) (fun _ _ _ h => h) (Or.inl ⟨by rfl, ?_⟩) hHeld ?_
      · (intro w0 hSw; (try dsimp only at hSw); go_simp)
      simp only [Act.put, List.setIfInBounds_toArray, List.set_cons_zero, List.set_cons_succ]
      refine take_dst (i := 7) (d := 25) (v := .int .i64 0) rfl rfl (by kernel_rfl) (by kernel_rfl) (by kernel_rfl) (fun _ _ _ h => h) (Or.inl ⟨by rfl, ?_⟩) hHeld ?_
      · (intro w0 hSw; (try dsimp only at hSw); go_simp)
      simp only [Act.put, List.setIfInBounds_toArray, List.set_cons_zero, List.set_cons_succ]
      refine take_dst (i := 8) (d := 7) (v := .slice ma 0 mc) rfl rfl (by kernel_rfl) (by kernel_rfl) (by kernel_rfl) (fun _ _ _ h => h) (Or.inl ⟨by rfl, ?_⟩) hHeld ?_
      · (intro w0 hSw; (try dsimp only at hSw); go_simp)
      simp only [Act.put, List.setIfInBounds_toArray, List.set_cons_zero, List.set_cons_succ]
      refine take_dst (i := 9) (d := 8) (v := .int .i64 0) rfl rfl (by kernel_rfl) (by kernel_rfl) (by kernel_rfl) (fun _ _ _ h => h) (Or.inl ⟨by rfl, ?_⟩) hHeld ?_
      · (intro w0 hSw; (try dsimp only at hSw); go_simp)
      simp only [Act.put, List.setIfInBounds_toArray, List.set_cons_zero, List.set_cons_succ]
      clear hHeld
      have h := st_PQ.out W' ma mc hBn
      rw [← hA0.out] at h
      (try simp only [Act.put, List.setIfInBounds_toArray, List.set_cons_zero, List.set_cons_succ] at h)
      (try simp only [Act.put, List.setIfInBounds_toArray, List.set_cons_zero, List.set_cons_succ])
      exact hGi.out _ _ _ _ h
    have st_0 : Hid (∀ (V : World), Below VR.heap.size VR V → GO 8 #[true, true, false, false, false, false, false, false, false, false] A0 V) := by
      show ∀ V, _
      intro V  hB 
      refine hGo.out _ _ _ _ ?_
      rw [← hA0.out]
      try simp only [Act.put, List.setIfInBounds_toArray, List.set_cons_zero, List.set_cons_succ]
      refine wpAnyH_ready (rs := [2]) (by kernel_rfl) (by simp) (AllReadyH.cons rfl (fun K hK => ?_) AllReadyH.nil)
      refine step_calls_dst rfl 21 rfl 9 [.tmp 20, .const (.int .i64 99)] #[3, 3] rfl [.int .i64 n, .int .i64 99] rfl (enters_of Tryd.func9 (by kernel_rfl) rfl) (fun v w' => v = .int .i64 P ∧ V = w') ((HP.out V).mono (fun e w2 h => ⟨_, h.1, rfl, h.2⟩)) ?_
      rintro v W' ⟨rfl, hwq⟩
      subst hwq
      refine hK.out _ _ ((hB.cell (p := ⟨D, 0, none⟩) (block_lt_of_cell e0)).trans e0) (fun hHeld => ?_)
      simp only [Act.put, List.setIfInBounds_toArray, List.set_cons_zero, List.set_cons_succ]
      refine take_dst (i := 3) (d := 22) (v := .int .i64 (100 + P)) rfl rfl (by kernel_rfl) (by kernel_rfl) (by kernel_rfl) (fun _ _ _ h => h) (Or.inl ⟨by rfl, ?_⟩) hHeld ?_
      · (intro w0 hSw; (try dsimp only at hSw); go_simp)
      simp only [Act.put, List.setIfInBounds_toArray, List.set_cons_zero, List.set_cons_succ]
      clear hHeld
      have h := st_P.out V hB
      rw [← hA0.out] at h
      (try simp only [Act.put, List.setIfInBounds_toArray, List.set_cons_zero, List.set_cons_succ] at h)
      (try simp only [Act.put, List.setIfInBounds_toArray, List.set_cons_zero, List.set_cons_succ])
      exact hGi.out _ _ _ _ h
    exact st_0.out V0 hV0
  case rest =>
    obtain ⟨ma, mc, rfl, rfl, hb3⟩ := hcut
    have hB3 := hB2.trans (hb3.mono hB2.size)
    have qD3 := (hb3.block _ (lt_of_heap qD)).trans qD
    have hd3 := hd2.below hb3
    have d0 := cells_at qD3 0 _ rfl
    go_wp2_with fail
    refine (digests_none ks ka kc 0 wc hd3 HD.out (fun x hx => by have := HR.out x hx; omega) (HT.out wc hB3)).mono ?_
    rintro e w4 ⟨⟨na, nc, rfl⟩, hb4⟩
    dsimp only
    have hB4 := hB3.trans (hb4.mono hB3.size)
    go_wp2_with fail
    refine (dagRound_any [] none 0 0 w4 rfl (dag_none w4) (HT.out w4 hB4)).mono ?_
    rintro e w5 ⟨hR, hb5⟩
    have hB5 := hB4.trans (hb5.mono hB4.size)
    rcases hR with ⟨hz, _⟩ | ⟨_, r, he, hN⟩
    · cases hz
    have hr1 : r = 1 := hN.one ⟨by decide, fun k a b => by omega, by decide⟩
    subst hr1
    subst he
    dsimp only
    clear hN
    go_wp2_with fail
    go_ret
    exact ⟨rfl, hB5⟩
end Go.Proofs.YtnpjhpmgelaonabDoor
