/- GrowSum: the walk. -/
import Derived.Test.YtnpjhpmgelaonaaDoorGKGrown
import Derived.Test.YtnpjhpmgelaonaaDoorQKSum
import Derived.Test.YtnpjhpmgelaonaaDoorQOneSumN
import Derived.Test.YtnpjhpmgelaonaaDoorQDagP
namespace Go.Proofs.YtnpjhpmgelaonaaDoor
open Go.RowKit

set_option maxRecDepth 100000 in
theorem head_row {w : World} {b : Nat} {x y u v : Value} {t : TypeId} (h : w.heap[b]? = some (.cells #[x, y, u, v] t (0, 0))) : ∀ j z, ([x, y, u, v] : List Value)[j]? = some z → w.cell? ((⟨b, 0, none⟩ : Addr).add j) = some z := by
  intro j z hz
  rw [add_off, Nat.zero_add]
  have h4 : j < 4 := by
    rcases Nat.lt_or_ge j 4 with g | g
    · exact g
    · rw [List.getElem?_eq_none (by simpa using g)] at hz; cases hz
  match j, h4 with
  | 0, _ => exact cells_at h 0 z (by simpa using hz)
  | 1, _ => exact cells_at h 1 z (by simpa using hz)
  | 2, _ => exact cells_at h 2 z (by simpa using hz)
  | 3, _ => exact cells_at h 3 z (by simpa using hz)
set_option maxRecDepth 100000 in
/-- Headers of a row, of which the first ones are told. -/
theorem hs_row {w : World} {B n cap : Nat} {sa : Option Addr} {hs : List Hd} {cs : List Value} (h : w.ownsRow B 33 4 (.slice sa n cap) n (hdv hs ++ cs)) (hn : hs.length < n) (hat : ∀ c ∈ hs, HdAt w c) : HsAt w sa hs := by
  refine ⟨?_, hat⟩
  rcases h.2 with ⟨_, h0⟩ | ⟨g, cap', cur, e, hr⟩
  · omega
  · cases e
    refine .inr ⟨g, 0, rfl, fun j hj => ?_⟩
    have e : ∀ i, i < 4 → w.cell? ⟨g, 0 + j * 4 + i, none⟩ = (hdAt hs j).cs[i]? := fun i hi => by
      rw [show 0 + j * 4 + i = j * 4 + i by omega, World.ownsRow.cellAt h (j * 4 + i) (by omega), List.getElem?_append_left (by rw [hdv_length]; omega), hdv_get hs j i hj hi, hdAt_get hs j hj]
    exact ⟨e 0 (by omega), e 1 (by omega), e 2 (by omega), e 3 (by omega)⟩
set_option maxRecDepth 100000 in
set_option maxHeartbeats 4000000 in
theorem growSum_true (sa : Option Addr) (cap : Nat) (l : List Stp) (n : Int) (w : World) (hl : StepsAt w sa l) (hcl : l.length ≤ cap) (hc0 : sa = none → cap = 0) (hc1 : l.length * 24 ≤ 140737488351232) (hn1 : -9223372036854775808 ≤ n) (hn2 : n ≤ 9223372036854775807) (cc : List CV) (hGc : GrownTo (s0 :: l) (min (l.length + 1) 24) cc) (hCo : Coll cc) (hT : Tabs w) :
    Calls Tryd.prog 18 #[.slice sa l.length cap, .int .i64 n] w fun e w' => e = .returned (.bool true) ∧ Below w.heap.size w w' := by
  have hnil : sa = none → l.length = 0 ∧ cap = 0 := fun h => by have := hc0 h; omega
  have H := grown_any l sa _ cap w rfl hl hnil hc1 hT
  have HT : Hid (∀ W : World, Below w.heap.size w W → Tabs W) := by
    show ∀ W, _
    exact fun W hW => hT.below hW
  have HGC : Hid _ := hGc
  have HCO : Hid (Coll cc) := hCo
  clear hT hnil hc0 hc1 hcl hGc hCo
  go_enter Tryd.func18, Tryd.ntmps18
  go_wp2_with fail
  refine H.mono ?_
  rintro e w1 ⟨ka, kc, ks, ba, bc, bl, he, hG, hd, hnew, ho, hoff, hV, hb1⟩
  subst he
  dsimp only
  have hpos : 0 < ks.length := by have := grown_some (by omega) hG; rw [cvs_length] at this; exact this
  have HD : Hid (dagF (cvs ks) = 0) := hG.dag
  have HG : Hid (GrownTo (s0 :: l) (min (l.length + 1) 24) (cvs ks)) := hG
  have hle : ks.length ≤ 24 := by have := hG.len; rw [cvs_length] at this; omega
  have hA1 := (Below.refl w1.heap.size w1).alloc (Nat.le_refl _) (.cells #[.slice ka ks.length kc] 27)
  have qD := heap_alloc_new w1 (.cells #[.slice ka ks.length kc] 27)
  have hd2 := hd.below hA1
  have hB2 := hb1.trans (hA1.mono hb1.size)
  have hgD : w.heap.size ≤ w1.heap.size := hb1.size
  have hdlt : ∀ b, DagIn ka ks b → b < w1.heap.size := fun b hb => by
    rcases hb with ⟨so, e⟩ | ⟨c', hc', hq⟩
    · exact dag_row_lt hd hpos b so e
    · exact (hd.each c' hc').block_lt b hq
  have ho2 := ho.below hA1
  have hblp : 0 < bl.length := (grown_facts hG hV).out.2.2.2.1
  have HFU : Hid (∀ x ∈ cvs ks, x.f = 0 ∧ U8C x) := (grown_facts hG hV).out.2.2.2.2.out
  clear hG hV ho hoff hnew hd H hl
  have HKI2 : Hid (Coll (cvs ks)) := by
    rw [HG.out.one HGC.out]; exact HCO.out
  have e0 := cells_at qD 0 _ rfl
  clear HGC HCO
  go_wp2_with fail
  generalize w1.alloc (.cells #[.slice ka ks.length kc] 27) = W2 at hA1 qD hd2 hB2 e0 ho2 ⊢
  clear hA1
  generalize w1.heap.size = D at qD e0 hgD hdlt ⊢
  refine (dagRound_any ks ka _ kc W2 rfl hd2 (HT.out W2 hB2)).mono ?_
  rintro e w3 ⟨hR, hb3⟩
  unfold RndAt at hR
  rcases hR with ⟨hz, _⟩ | ⟨_, r, he, hN⟩
  · rw [HD.out] at hz; cases hz
  have hrb := next_bound HD.out hN
  subst he
  dsimp only
  have hB3 := hB2.trans (hb3.mono hB2.size)
  have qD3 := (hb3.block _ (lt_of_heap qD)).trans qD
  have hd3 := hd2.below hb3
  have ho3 := ho2.below hb3
  clear hd2 qD e0 hb3 hdlt hN ho2
  have d0 := cells_at qD3 0 _ rfl
  have hwr : IntKind.i64.wrap (r - 1) = r - 1 := by rw [IntKind.wrap_i64]; omega
  go_wp2_with fail
  refine (dagDigests_own ks ka _ kc (r - 1) w3 rfl hd3 (HT.out w3 hB3)).mono ?_
  intro e w4 hO
  have hb4 := hO.below
  rcases hO.out with ⟨hz, _⟩ | ⟨_, ma, mc, ms, he, _, _, _⟩
  · rw [HD.out] at hz; cases hz
  subst he
  dsimp only
  clear hO d0
  go_wp2_with fail
  refine (picked_any n 4 w4 hn1 hn2 (by decide) (by decide)).mono ?_
  rintro e wq ⟨he, hwq⟩
  subst he hwq
  dsimp only
  generalize pk n 4 = PA
  have hA5 := (Below.refl w4.heap.size w4).alloc (Nat.le_refl _) (.cells #[.int .i64 PA, .int .i64 r, .slice none 0 0, .slice ma ms.length mc] 33)
  have qH := heap_alloc_new w4 (.cells #[.int .i64 PA, .int .i64 r, .slice none 0 0, .slice ma ms.length mc] 33)
  have hb35 := hb4.trans (hA5.mono hb4.size)
  have hB5 := hB3.trans (hb35.mono hB3.size)
  have qD5 := (hb35.block _ (lt_of_heap qD3)).trans qD3
  have hd5 := hd3.below hb35
  have ho5 := ho3.below hb35
  go_upto_region 5 with fail
  generalize w4.alloc (.cells #[.int .i64 PA, .int .i64 r, .slice none 0 0, .slice ma ms.length mc] 33) = VR at hA5 qH hb35 hB5 qD5 hd5 ho5 ⊢
  generalize w4.heap.size = HB at qH ⊢
  have d0 := cells_at qD5 0 _ rfl
  have h0 := cells_at qH 0 _ rfl
  have h1 := cells_at qH 1 _ rfl
  have h2 := cells_at qH 2 _ rfl
  have h3 := cells_at qH 3 _ rfl
  have HKN : Hid (∀ c ∈ ks, HdAt VR c.hd) := by
    show ∀ c, _
    intro c hc
    obtain ⟨g1, g2⟩ := HFU.out c.v (List.mem_map.2 ⟨c, hc, rfl⟩)
    exact hd_at (hd5.each c hc) g1 g2
  obtain ⟨ih, hih, hh0, hh1, hh2⟩ := info_parts infoHd
  have HSUM : Hid (∀ (V : World) (ta : Option Addr) (tc : Nat), Below VR.heap.size VR V → V.ownsRow VR.heap.size 33 4 (.slice ta (ks.length + 1) tc) (ks.length + 1) (hdv (ks.map Ct.hd) ++ [.int .i64 PA, .int .i64 r, .slice none 0 0, .slice ma ms.length mc]) → Calls Tryd.prog 26 #[.slice ta (ks.length + 1) tc, .slice ba bl.length bc] V fun e w' => e = .returned (.bool true) ∧ Below V.heap.size V w') := by
    show ∀ V, _
    intro V ta tc hV hrow
    obtain ⟨K, I, q1, q2, q3, q4⟩ := HKI2.out
    rw [cvs_length] at q2
    have hS := hs_row hrow (by simp) (fun c hc => by obtain ⟨x, hx, rfl⟩ := List.mem_map.1 hc; exact (HKN.out x hx).below hV)
    have hat : ∀ j, j < ks.length → hdAt (ks.map Ct.hd) j = (ks.getD j ⟨0, 0, none, 0, [], none, 0, [], none, 0, []⟩).hd := fun j hj => by
      rw [hdAt_get _ j (by simp; exact hj)]
      simp [hj]
    have hcv : ∀ j, j < ks.length → cvAt (cvs ks) j = (ks.getD j ⟨0, 0, none, 0, [], none, 0, [], none, 0, []⟩).v := fun j hj => by
      rw [cvAt_get ks j hj]; simp [hj]
    rw [hcv I q2, hcv K (by omega)] at q3 q4
    refine oneSum_more (ks.map Ct.hd) ta _ tc _ V I K (by simp) (by omega) (by simp; omega) q1 (by simp; exact q2) hS ?_ ?_ (HT.out V (hB5.trans (hV.mono hB5.size)))
    · rw [hat I q2, hat K (by omega)]
      rw [← Ct.d_v, ← Ct.d_v] at q3
      exact q3
    · rw [hat I q2, hat K (by omega)]
      exact q4
  clear hB3 hd3 qD3 ho3 hb4 hb35 hA5
  go_cut [4] (fun v wx => v = .bool true ∧ Below VR.heap.size VR wx)
  case first =>
    have hV0 : Below VR.heap.size VR VR.drew := (Below.refl _ _).drew
    refine wp_region_held_drew (S := fun w' => w'.cell? ⟨D, 0, none⟩ = some (.slice ka ks.length kc) ∧ w'.cell? ⟨HB, 0, none⟩ = some (.int .i64 PA) ∧ w'.cell? ⟨HB, 1, none⟩ = some (.int .i64 r) ∧ w'.cell? ⟨HB, 2, none⟩ = some (.slice none 0 0) ∧ w'.cell? ⟨HB, 3, none⟩ = some (.slice ma ms.length mc)) (by kernel_rfl) ⟨(hV0.cell (p := ⟨D, 0, none⟩) (block_lt_of_cell d0)).trans d0, (hV0.cell (p := ⟨HB, 0, none⟩) (block_lt_of_cell h0)).trans h0, (hV0.cell (p := ⟨HB, 1, none⟩) (block_lt_of_cell h1)).trans h1, (hV0.cell (p := ⟨HB, 2, none⟩) (block_lt_of_cell h2)).trans h2, (hV0.cell (p := ⟨HB, 3, none⟩) (block_lt_of_cell h3)).trans h3⟩ (fun hHeld => ?_)
    generalize VR.drew = V0 at hV0  hHeld ⊢
    refine take_dst (i := 0) (d := 34) (v := .agg #[.slice ka ks.length kc]) rfl rfl (by kernel_rfl) (by kernel_rfl) (by kernel_rfl) (fun _ _ _ h => h) (Or.inl ⟨by rfl, ?_⟩) hHeld ?_
    · (intro w0 hSw; (try dsimp only at hSw); go_simp)
    simp only [Act.put, List.setIfInBounds_toArray, List.set_cons_zero, List.set_cons_succ]
    refine take_dst (i := 2) (d := 36) (v := .agg #[.int .i64 PA, .int .i64 r, .slice none 0 0, .slice ma ms.length mc]) rfl rfl (by kernel_rfl) (by kernel_rfl) (by kernel_rfl) (fun _ _ _ h => h) (Or.inl ⟨by rfl, ?_⟩) hHeld ?_
    · (intro w0 hSw; (try dsimp only at hSw); go_simp)
    simp only [Act.put, List.setIfInBounds_toArray, List.set_cons_zero, List.set_cons_succ]
    refine take_dst (i := 5) (d := 39) (v := .slice ba bl.length bc) rfl rfl (by kernel_rfl) (by kernel_rfl) (by kernel_rfl) (fun _ _ _ h => h) (Or.inl ⟨by rfl, ?_⟩) hHeld ?_
    · (intro w0 hSw; (try dsimp only at hSw); go_simp)
    simp only [Act.put, List.setIfInBounds_toArray, List.set_cons_zero, List.set_cons_succ]
    clear hHeld
    refine any_named (fun GO hGo hGi => ?_)
    refine act_named (fun A0 hA0 => ?_)
    have st_CMPO : Hid (∀ (V : World) (v1 : Value) (bM : Nat) (ta : Option Addr) (tc : Nat), Below VR.heap.size VR V → (V.ownsRow VR.heap.size 33 4 (.slice ta (ks.length + 1) tc) (ks.length + 1) (hdv (ks.map Ct.hd) ++ [.int .i64 PA, .int .i64 r, .slice none 0 0, .slice ma ms.length mc])) → GO 0 #[true, true, true, true, true, true, true, true] (((((A0.put (some 35) (v1)).put (some 37) (.slice (some ⟨bM, 0, none⟩) 1 1)).put (some 38) (.slice ta (ks.length + 1) tc)).put (some 40) (.bool true)).put (some 4) (.bool true)) V) := by
      show ∀ V, _
      intro V v1 bM ta tc hB h3'
      refine hGo.out _ _ _ _ ?_
      rw [← hA0.out]
      try simp only [Act.put, List.setIfInBounds_toArray, List.set_cons_zero, List.set_cons_succ]
      refine wpAnyH_done (by kernel_rfl) ?_ _
      go_wp2_with fail
      go_meet
      case rel => exact ⟨rfl, hB⟩
    have st_CMP : Hid (∀ (V : World) (v1 : Value) (bM : Nat) (ta : Option Addr) (tc : Nat), Below VR.heap.size VR V → (V.ownsRow VR.heap.size 33 4 (.slice ta (ks.length + 1) tc) (ks.length + 1) (hdv (ks.map Ct.hd) ++ [.int .i64 PA, .int .i64 r, .slice none 0 0, .slice ma ms.length mc])) → GO 2 #[true, true, true, true, true, true, false, false] (((A0.put (some 35) (v1)).put (some 37) (.slice (some ⟨bM, 0, none⟩) 1 1)).put (some 38) (.slice ta (ks.length + 1) tc)) V) := by
      show ∀ V, _
      intro V v1 bM ta tc hB h3'
      refine hGo.out _ _ _ _ ?_
      rw [← hA0.out]
      try simp only [Act.put, List.setIfInBounds_toArray, List.set_cons_zero, List.set_cons_succ]
      refine wpAnyH_ready (rs := [6]) (by kernel_rfl) (by simp) (AllReadyH.cons rfl (fun K hK => ?_) AllReadyH.nil)
      refine step_calls_dst rfl 40 rfl 26 [.tmp 38, .tmp 39] #[53, 28] rfl [.slice ta (ks.length + 1) tc, .slice ba bl.length bc] rfl (enters_of Tryd.func26 (by kernel_rfl) rfl) (fun v w' => v = .bool true ∧ Below V.heap.size V w') ((HSUM.out V ta tc hB h3').mono (fun e w2 h => ⟨_, h.1, rfl, h.2⟩)) ?_
      rintro v W' ⟨rfl, hb⟩
      have hBn := hB.trans (hb.mono hB.size)
      refine hK.out _ _ ⟨(hBn.cell (p := ⟨D, 0, none⟩) (block_lt_of_cell d0)).trans d0, (hBn.cell (p := ⟨HB, 0, none⟩) (block_lt_of_cell h0)).trans h0, (hBn.cell (p := ⟨HB, 1, none⟩) (block_lt_of_cell h1)).trans h1, (hBn.cell (p := ⟨HB, 2, none⟩) (block_lt_of_cell h2)).trans h2, (hBn.cell (p := ⟨HB, 3, none⟩) (block_lt_of_cell h3)).trans h3⟩ (fun hHeld => ?_)
      simp only [Act.put, List.setIfInBounds_toArray, List.set_cons_zero, List.set_cons_succ]
      refine take_dst (i := 7) (d := 4) (v := .bool true) rfl rfl (by kernel_rfl) (by kernel_rfl) (by kernel_rfl) (fun _ _ _ h => h) (Or.inl ⟨by rfl, ?_⟩) hHeld ?_
      · (intro w0 hSw; (try dsimp only at hSw); go_simp)
      simp only [Act.put, List.setIfInBounds_toArray, List.set_cons_zero, List.set_cons_succ]
      clear hHeld
      have h := st_CMPO.out W' v1 bM ta tc hBn (owns_keep h3' hb)
      rw [← hA0.out] at h
      (try simp only [Act.put, List.setIfInBounds_toArray, List.set_cons_zero, List.set_cons_succ] at h)
      (try simp only [Act.put, List.setIfInBounds_toArray, List.set_cons_zero, List.set_cons_succ])
      exact hGi.out _ _ _ _ h
    have st_CM : Hid (∀ (V : World) (v1 : Value) (bM : Nat), Below VR.heap.size VR V → (V.ownsRow VR.heap.size 33 4 v1 ks.length (hdv (ks.map Ct.hd))) → (V.heap[bM]? = some (.cells #[.int .i64 PA, .int .i64 r, .slice none 0 0, .slice ma ms.length mc] 33 (0, 0))) → GO 3 #[true, true, true, true, false, true, false, false] ((A0.put (some 35) (v1)).put (some 37) (.slice (some ⟨bM, 0, none⟩) 1 1)) V) := by
      show ∀ V, _
      intro V v1 bM hB h1' qM
      refine hGo.out _ _ _ _ ?_
      rw [← hA0.out]
      try simp only [Act.put, List.setIfInBounds_toArray, List.set_cons_zero, List.set_cons_succ]
      refine wpAnyH_ready (rs := [4]) (by kernel_rfl) (by simp) (AllReadyH.cons rfl (fun K hK => ?_) AllReadyH.nil)
      refine step_append_at rfl _ _ 53 rfl VR.heap.size 33 ih (.agg #[.int .i64 0, .int .i64 0, .slice none 0 0, .slice none 0 0]) 4 64 Tryd.underlying53 hih hh0 hh1 hh2 rfl (by decide) v1 ks.length _ rfl h1' ⟨bM, 0, none⟩ 1 1 [.int .i64 PA, .int .i64 r, .slice none 0 0, .slice ma ms.length mc] rfl rfl (head_row qM) (hd_one ⟨PA, r, none, 0, [], ma, mc, ms⟩) (by unfold maxLen; omega) (by omega) hB.size ?_
      intro v3 W' ho3' G3
      obtain ⟨ta, tc, hve⟩ := owns_shape ho3'
      subst hve
      have h3'_n := ho3'
      have hBn := hB.trans (G3.below hB.size (fun q e => (h1'.lt q e).1))
      refine hK.out _ _ ⟨(hBn.cell (p := ⟨D, 0, none⟩) (block_lt_of_cell d0)).trans d0, (hBn.cell (p := ⟨HB, 0, none⟩) (block_lt_of_cell h0)).trans h0, (hBn.cell (p := ⟨HB, 1, none⟩) (block_lt_of_cell h1)).trans h1, (hBn.cell (p := ⟨HB, 2, none⟩) (block_lt_of_cell h2)).trans h2, (hBn.cell (p := ⟨HB, 3, none⟩) (block_lt_of_cell h3)).trans h3⟩ (fun hHeld => ?_)
      clear hHeld
      have h := st_CMP.out W' v1 bM ta tc hBn h3'_n
      rw [← hA0.out] at h
      (try simp only [Act.put, List.setIfInBounds_toArray, List.set_cons_zero, List.set_cons_succ] at h)
      (try simp only [Act.put, List.setIfInBounds_toArray, List.set_cons_zero, List.set_cons_succ])
      exact hGi.out _ _ _ _ h
    have st_C : Hid (∀ (V : World) (v1 : Value), Below VR.heap.size VR V → (V.ownsRow VR.heap.size 33 4 v1 ks.length (hdv (ks.map Ct.hd))) → GO 4 #[true, true, true, false, false, true, false, false] (A0.put (some 35) (v1)) V) := by
      show ∀ V, _
      intro V v1 hB h1'
      refine hGo.out _ _ _ _ ?_
      rw [← hA0.out]
      try simp only [Act.put, List.setIfInBounds_toArray, List.set_cons_zero, List.set_cons_succ]
      refine wpAnyH_ready (rs := [3]) (by kernel_rfl) (by simp) (AllReadyH.cons rfl (fun K hK => ?_) AllReadyH.nil)
      refine step_run rfl 37 rfl (.slice (some ⟨V.heap.size, 0, none⟩) 1 1) (V.alloc (.cells #[.int .i64 PA, .int .i64 r, .slice none 0 0, .slice ma ms.length mc] 33)) (by go_simp) ?_
      have hA : Below V.heap.size V (V.alloc (.cells #[.int .i64 PA, .int .i64 r, .slice none 0 0, .slice ma ms.length mc] 33)) := (Below.refl _ _).alloc (Nat.le_refl _) _
      have hBn := hB.trans (hA.mono hB.size)
      have qM_n := heap_alloc_new V (.cells #[.int .i64 PA, .int .i64 r, .slice none 0 0, .slice ma ms.length mc] 33)
      generalize hW' : V.alloc (.cells #[.int .i64 PA, .int .i64 r, .slice none 0 0, .slice ma ms.length mc] 33) = W' at hA hBn qM_n ⊢
      clear hW'
      obtain ⟨bM, hx_e⟩ : ∃ bM, bM = V.heap.size := ⟨_, rfl⟩
      rw [← hx_e] at qM_n ⊢
      have hA' := hA
      clear hx_e
      refine hK.out _ _ ⟨(hBn.cell (p := ⟨D, 0, none⟩) (block_lt_of_cell d0)).trans d0, (hBn.cell (p := ⟨HB, 0, none⟩) (block_lt_of_cell h0)).trans h0, (hBn.cell (p := ⟨HB, 1, none⟩) (block_lt_of_cell h1)).trans h1, (hBn.cell (p := ⟨HB, 2, none⟩) (block_lt_of_cell h2)).trans h2, (hBn.cell (p := ⟨HB, 3, none⟩) (block_lt_of_cell h3)).trans h3⟩ (fun hHeld => ?_)
      clear hHeld
      have h := st_CM.out W' v1 bM hBn (owns_keep h1' hA') qM_n
      rw [← hA0.out] at h
      (try simp only [Act.put, List.setIfInBounds_toArray, List.set_cons_zero, List.set_cons_succ] at h)
      (try simp only [Act.put, List.setIfInBounds_toArray, List.set_cons_zero, List.set_cons_succ])
      exact hGi.out _ _ _ _ h
    have st_M : Hid (∀ (V : World) (bM : Nat), Below VR.heap.size VR V → (V.heap[bM]? = some (.cells #[.int .i64 PA, .int .i64 r, .slice none 0 0, .slice ma ms.length mc] 33 (0, 0))) → GO 4 #[true, false, true, true, false, true, false, false] (A0.put (some 37) (.slice (some ⟨bM, 0, none⟩) 1 1)) V) := by
      show ∀ V, _
      intro V bM hB qM
      refine hGo.out _ _ _ _ ?_
      rw [← hA0.out]
      try simp only [Act.put, List.setIfInBounds_toArray, List.set_cons_zero, List.set_cons_succ]
      refine wpAnyH_ready (rs := [1]) (by kernel_rfl) (by simp) (AllReadyH.cons rfl (fun K hK => ?_) AllReadyH.nil)
      refine step_calls_dst rfl 35 rfl 27 [.tmp 34] #[27] rfl [.agg #[.slice ka ks.length kc]] rfl (enters_of Tryd.func27 (by kernel_rfl) rfl) (fun v w' => w'.ownsRow VR.heap.size 33 4 v ks.length (hdv (ks.map Ct.hd)) ∧ Below V.heap.size V w') ((headers_any ks ka _ kc V rfl (by omega) (hd5.below hB)).mono (fun e w2 h => by obtain ⟨v, he, ho⟩ := h.out; exact ⟨v, he, own_wide ho hB.size, h.below⟩)) ?_
      rintro v W' ⟨h1'_n, hb⟩
      have hBn := hB.trans (hb.mono hB.size)
      obtain ⟨v1, hv1e⟩ : ∃ v1, v1 = v := ⟨_, rfl⟩
      subst hv1e
      refine hK.out _ _ ⟨(hBn.cell (p := ⟨D, 0, none⟩) (block_lt_of_cell d0)).trans d0, (hBn.cell (p := ⟨HB, 0, none⟩) (block_lt_of_cell h0)).trans h0, (hBn.cell (p := ⟨HB, 1, none⟩) (block_lt_of_cell h1)).trans h1, (hBn.cell (p := ⟨HB, 2, none⟩) (block_lt_of_cell h2)).trans h2, (hBn.cell (p := ⟨HB, 3, none⟩) (block_lt_of_cell h3)).trans h3⟩ (fun hHeld => ?_)
      clear hHeld
      have h := st_CM.out W' v1 bM hBn h1'_n ((hb.block _ (lt_of_heap qM)).trans qM)
      rw [← hA0.out] at h
      (try simp only [Act.put, List.setIfInBounds_toArray, List.set_cons_zero, List.set_cons_succ] at h)
      (try simp only [Act.put, List.setIfInBounds_toArray, List.set_cons_zero, List.set_cons_succ])
      exact hGi.out _ _ _ _ h
    have st_0 : Hid (∀ (V : World), Below VR.heap.size VR V → GO 5 #[true, false, true, false, false, true, false, false] A0 V) := by
      show ∀ V, _
      intro V  hB 
      refine hGo.out _ _ _ _ ?_
      rw [← hA0.out]
      try simp only [Act.put, List.setIfInBounds_toArray, List.set_cons_zero, List.set_cons_succ]
      refine wpAnyH_ready (rs := [1, 3]) (by kernel_rfl) (by simp) (AllReadyH.cons rfl (fun K hK => ?_) (AllReadyH.cons rfl (fun K hK => ?_) AllReadyH.nil))
      · skip
        refine step_calls_dst rfl 35 rfl 27 [.tmp 34] #[27] rfl [.agg #[.slice ka ks.length kc]] rfl (enters_of Tryd.func27 (by kernel_rfl) rfl) (fun v w' => w'.ownsRow VR.heap.size 33 4 v ks.length (hdv (ks.map Ct.hd)) ∧ Below V.heap.size V w') ((headers_any ks ka _ kc V rfl (by omega) (hd5.below hB)).mono (fun e w2 h => by obtain ⟨v, he, ho⟩ := h.out; exact ⟨v, he, own_wide ho hB.size, h.below⟩)) ?_
        rintro v W' ⟨h1'_n, hb⟩
        have hBn := hB.trans (hb.mono hB.size)
        obtain ⟨v1, hv1e⟩ : ∃ v1, v1 = v := ⟨_, rfl⟩
        subst hv1e
        refine hK.out _ _ ⟨(hBn.cell (p := ⟨D, 0, none⟩) (block_lt_of_cell d0)).trans d0, (hBn.cell (p := ⟨HB, 0, none⟩) (block_lt_of_cell h0)).trans h0, (hBn.cell (p := ⟨HB, 1, none⟩) (block_lt_of_cell h1)).trans h1, (hBn.cell (p := ⟨HB, 2, none⟩) (block_lt_of_cell h2)).trans h2, (hBn.cell (p := ⟨HB, 3, none⟩) (block_lt_of_cell h3)).trans h3⟩ (fun hHeld => ?_)
        clear hHeld
        have h := st_C.out W' v1 hBn h1'_n
        rw [← hA0.out] at h
        (try simp only [Act.put, List.setIfInBounds_toArray, List.set_cons_zero, List.set_cons_succ] at h)
        (try simp only [Act.put, List.setIfInBounds_toArray, List.set_cons_zero, List.set_cons_succ])
        exact hGi.out _ _ _ _ h
      · skip
        refine step_run rfl 37 rfl (.slice (some ⟨V.heap.size, 0, none⟩) 1 1) (V.alloc (.cells #[.int .i64 PA, .int .i64 r, .slice none 0 0, .slice ma ms.length mc] 33)) (by go_simp) ?_
        have hA : Below V.heap.size V (V.alloc (.cells #[.int .i64 PA, .int .i64 r, .slice none 0 0, .slice ma ms.length mc] 33)) := (Below.refl _ _).alloc (Nat.le_refl _) _
        have hBn := hB.trans (hA.mono hB.size)
        have qM_n := heap_alloc_new V (.cells #[.int .i64 PA, .int .i64 r, .slice none 0 0, .slice ma ms.length mc] 33)
        generalize hW' : V.alloc (.cells #[.int .i64 PA, .int .i64 r, .slice none 0 0, .slice ma ms.length mc] 33) = W' at hA hBn qM_n ⊢
        clear hW'
        obtain ⟨bM, hx_e⟩ : ∃ bM, bM = V.heap.size := ⟨_, rfl⟩
        rw [← hx_e] at qM_n ⊢
        have hA' := hA
        clear hx_e
        refine hK.out _ _ ⟨(hBn.cell (p := ⟨D, 0, none⟩) (block_lt_of_cell d0)).trans d0, (hBn.cell (p := ⟨HB, 0, none⟩) (block_lt_of_cell h0)).trans h0, (hBn.cell (p := ⟨HB, 1, none⟩) (block_lt_of_cell h1)).trans h1, (hBn.cell (p := ⟨HB, 2, none⟩) (block_lt_of_cell h2)).trans h2, (hBn.cell (p := ⟨HB, 3, none⟩) (block_lt_of_cell h3)).trans h3⟩ (fun hHeld => ?_)
        clear hHeld
        have h := st_M.out W' bM hBn qM_n
        rw [← hA0.out] at h
        (try simp only [Act.put, List.setIfInBounds_toArray, List.set_cons_zero, List.set_cons_succ] at h)
        (try simp only [Act.put, List.setIfInBounds_toArray, List.set_cons_zero, List.set_cons_succ])
        exact hGi.out _ _ _ _ h
    exact st_0.out V0 hV0 
  case rest =>
    obtain ⟨rfl, hb9⟩ := hcut
    go_wp2_with fail
    go_ret
    exact ⟨rfl, hB5.trans (hb9.mono hB5.size)⟩
end Go.Proofs.YtnpjhpmgelaonaaDoor
