/- The walk of AddLast. -/
import Derived.Test.YtikolpdedmhljaaKHead
import Derived.Test.YtikolpdedmhljaaOpenP
import Derived.Test.YtikolpdedmhljaaSameTx
import Derived.Test.YtikolpdedmhljaaCalls
import Derived.Test.YtikolpdedmhljaaCallsG
namespace Go.Proofs.Ytikolpdedmhljaa
open Go.RowKit

set_option maxRecDepth 100000 in
theorem z_slice {w : World} {b n : Nat} {l : List Int} (h : w.heap[b]? = some (.cells (ub l).toArray 5 (0, 0))) (hn : n = l.length) (hm : n ≤ maxLen := by decide) : SliceAt w (some ⟨b, 0, none⟩) n l := by
  subst hn
  refine ⟨Nat.le_refl _, hm, .inr ⟨b, 0, rfl⟩, (fun e => by cases e), .inr ⟨b, 0, rfl, fun j hj => ?_⟩⟩
  rw [cell_of_row w b _ _ _ _ h, Nat.zero_add]
  simp [ub, hj]
def z21 : List Int := List.replicate 21 0
set_option maxRecDepth 100000 in
theorem make21 (w : World) : (Instr.makeSlice 41 (.int .i64 21) (.int .i64 21)).run Try.prog w = .ok (.slice (some ⟨w.heap.size, 0, none⟩) 21 21) (w.alloc (.cells (ub z21).toArray 5)) := by kernel_rfl
set_option maxRecDepth 100000 in
theorem slice21 (w : World) : SliceAt (w.alloc (.cells (ub z21).toArray 5)) (some ⟨w.heap.size, 0, none⟩) 21 z21 :=
  (sliceAt_of_owns (bs := z21) (World.ownsRow_lit (base := w.heap.size) (e := 5) (size := 1) w (ub z21).toArray 21 (Nat.le_refl _) (by decide) rfl)).2
set_option maxRecDepth 100000 in
theorem addF_short {nx : Int} {acc : List ByteArray} {t : ByteArray} (h : poolF nx acc = 0) (ht : txOk t = false) : addF nx acc t = 1 := by
  rw [addF, if_pos h, takesF, if_pos ht]
set_option maxRecDepth 100000 in
set_option maxHeartbeats 2000000 in
theorem addLast_walk (sa : Option Addr) (cap : Nat) (ss : List ByteArray) (s : ByteArray) (w : World) (hs : TextsAt w sa cap ss) (hsz : s.size ≤ maxLen) :
    Calls Try.prog 6 #[.slice sa ss.length cap, .string s] w fun e w' => e = .returned (.bool true) ∧ Below w.heap.size w w' := by
  obtain ⟨pn0, pn1⟩ := pk_bounds 1 99 (by decide)
  go_enter Try.func6, Try.ntmps6
  go_wp2_with fail
  refine (pool_raw ss sa _ cap 1 w rfl hs.txs (by unfold I64; omega)).mono ?_
  rintro e w1 ⟨v1, he, ho1, hb1⟩
  have hLl := poolL_len ss
  have hLk := poolL_ok ss
  generalize poolL ss = L at *
  have hN1 : 1 ≤ 1 + pk 1 99 := by omega
  have hN2 : 1 + pk 1 99 ≤ 99 := by omega
  clear pn0 pn1
  generalize 1 + pk 1 99 = nx at *
  subst he
  dsimp only
  obtain ⟨la, lc, hv, -, hT1, -⟩ := txsAt_of_owns ho1 (ok_size hLk)
  subst hv
  have hA1 : Below w1.heap.size w1 (w1.alloc (.cells #[.int .i64 nx, .slice la L.length lc] 24)) := (Below.refl _ _).alloc (Nat.le_refl _) _
  have p0 := heap_alloc_new w1 (.cells #[.int .i64 nx, .slice la L.length lc] 24)
  go_wp2_with (go_at_call 23; refine (tx_any s _ hsz).mono ?_; rintro e w9 ⟨rfl, rfl⟩)
  have hPF := poolF_zero (ss := L) hN1 (by omega) (by omega) hLk
  have HT : Hid ((txS s).size ≤ maxLen) := Nat.le_trans (txS_size s).2 maxTx
  have HO : Hid (inS (txS s) L = true → addF nx L (txS s) = 7) := addF_old hN1 (by omega) (by omega) hLk
  have HW : Hid (inS (txS s) L = false → addF nx L (txS s) = 0) := addF_new hN1 (by omega) (by omega) hLk
  have HW2 : Hid (inS (txS s) L = false → addF nx (L ++ [txS s]) (txS s) = 7) := fun h => addF_old hN1 (by omega) (by rw [List.length_append]; simp; omega) (poolOk_snoc hLk (txS_ok s) (not_in h)) (inS_true (by simp))
  generalize txS s = t at *
  generalize w1.alloc (.cells #[.int .i64 nx, .slice la L.length lc] 24) = W1 at hA1 p0 ⊢
  have hB1 := hb1.trans (hA1.mono hb1.size)
  have hTW := hT1.below hA1
  have HR : Hid (∀ W : World, Below W1.heap.size W1 W → Calls Try.prog 16 #[.agg #[.int .i64 nx, .slice la L.length lc], .string t] W fun e w' => AddAt W w' e nx L t) := by
    show ∀ _, _
    intro W hW
    exact poolAdd_any nx la _ lc L t W rfl (hTW.below hW) HT.out
  refine (HR.out W1 (Below.refl _ _)).mono ?_
  rintro e w2 ⟨v2, he, ho2, hb2⟩
  have HX0 : Hid (inS t L = true → addF nx L t = 7 ∧ (addS nx L t).length = 0) := fun h => ⟨HO.out h, by rw [addS, if_neg (by rw [HO.out h]; decide)]; rfl⟩
  have HX1 : Hid (inS t L = false → addF nx L t = 0 ∧ addN nx L t = nx ∧ addS nx L t = L ++ [t]) := fun h => ⟨HW.out h, by rw [addN, if_pos (HW.out h)], by rw [addS, if_pos (HW.out h)]⟩
  have HXz : Hid (∀ s ∈ addS nx L t, s.size ≤ maxLen) := by
    show ∀ _, _
    intro s hs
    unfold addS at hs
    split at hs
    · rcases List.mem_append.1 hs with g | g
      · exact ok_size hLk s g
      · rw [show s = t by simpa using g]; exact HT.out
    · cases hs
  generalize addF nx L t = XF at *
  generalize addN nx L t = XN at *
  generalize addS nx L t = XS at *
  subst he
  dsimp only
  obtain ⟨xa, xc, hv, -, hX2, -⟩ := txsAt_of_owns ho2 HXz.out
  subst hv
  have hA2 : Below w2.heap.size w2 (w2.alloc (.cells #[.int .i64 XN, .slice xa XS.length xc] 24)) := (Below.refl _ _).alloc (Nat.le_refl _) _
  have hbW := hb2.trans (hA2.mono hb2.size)
  have q0 := (hbW.block _ (lt_of_heap p0)).trans p0
  have qX := heap_alloc_new w2 (.cells #[.int .i64 XN, .slice xa XS.length xc] 24)
  go_wp2_with fail
  generalize w2.alloc (.cells #[.int .i64 XN, .slice xa XS.length xc] 24) = W2 at hA2 hbW q0 qX ⊢
  have c0 : W2.cell? ⟨w1.heap.size, 0, none⟩ = some (.int .i64 nx) := cells_at q0 0 _ rfl
  have c1 : W2.cell? ⟨w1.heap.size, 1, none⟩ = some (.slice la L.length lc) := cells_at q0 1 _ rfl
  have hTX := hTW.below hbW
  have hB2 := hB1.trans (hbW.mono hB1.size)
  have hXX := hX2.below hA2
  go_loop [9, 10] (fun o j => ∃ k : Nat, k ≤ L.length ∧ o = .bool (inS t (L.take k)) ∧ j = .int .i64 k) (fun o j => L.length - (intOf j).toNat)
  case atStart => exact ⟨0, Nat.zero_le _, rfl, rfl⟩
  case round =>
    obtain ⟨k, hk, rfl, rfl⟩ := hrel
    by_cases hlt : k < L.length
    · have hltI : (k : Int) < L.length := by omega
      obtain ⟨sb, so, rfl, hc⟩ : ∃ sb so, la = some ⟨sb, so, none⟩ ∧ ∀ j, j < L.length → W2.cell? ⟨sb, so + j, none⟩ = some (.string (L.getD j ByteArray.empty)) := by
        rcases hTX.strs.cells with h | h
        · rw [h] at hlt; simp at hlt
        · exact h
      have ck := hc k hlt
      have hst : Hid (inS t (L.take (k + 1)) = (inS t (L.take k) || decide (L.getD k ByteArray.empty = t))) := by
        show _ = _
        rw [take_more hlt, inS, inS, List.any_append]
        simp
      clear hc
      generalize L.getD k ByteArray.empty = x at *
      cases ho : inS t (L.take k) with
      | true =>
        rw [ho] at hst
        go_wp2_with fail
        go_round
        case rel => exact ⟨k + 1, by omega, by rw [hst.out]; rfl, by go_num⟩
        case measure => simp [intOf]; omega
      | false =>
        rw [ho] at hst
        by_cases he : x.toList = t.toList
        · have hE : Hid (inS t (L.take (k + 1)) = true) := by show _ = _; rw [hst.out, ba_ext he]; simp
          have heb : (x.toList == t.toList) = true := by simp [he]
          clear he hst
          go_wp2_with fail
          go_round
          case rel => exact ⟨k + 1, by omega, by rw [hE.out], by go_num⟩
          case measure => simp [intOf]; omega
        · have hE : Hid (inS t (L.take (k + 1)) = false) := by show _ = _; rw [hst.out, decide_eq_false (fun e => he (by rw [e]))]; rfl
          have heb : (x.toList == t.toList) = false := by simp [he]
          clear he hst
          go_wp2_with fail
          go_round
          case rel => exact ⟨k + 1, by omega, by rw [hE.out], by go_num⟩
          case measure => simp [intOf]; omega
    · obtain rfl : k = L.length := by omega
      rw [List.take_of_length_le (Nat.le_refl _)]
      have hltI : ¬ (L.length : Int) < L.length := by omega
      go_wp2_with fail
      refine (add_bad nx la _ lc L ⟨#[]⟩ W2 1 rfl hTX (by decide) (addF_short hPF (by decide)) (by decide)).mono ?_
      rintro e w3 ⟨ya, yc, he, hb3⟩
      subst he
      dsimp only
      have hA3 : Below w3.heap.size w3 (w3.alloc (.cells #[.int .i64 0, .slice ya 0 yc] 24)) := (Below.refl _ _).alloc (Nat.le_refl _) _
      have hbX := hb3.trans (hA3.mono hb3.size)
      have s0 := (hbX.block _ (lt_of_heap q0)).trans q0
      have sX := (hbX.block _ (lt_of_heap qX)).trans qX
      clear c0 c1
      go_upto_region 10 with fail
      generalize w3.alloc (.cells #[.int .i64 0, .slice ya 0 yc] 24) = W3 at hA3 hbX s0 sX ⊢
      have hT3 := hTX.below hbX
      have hB3 := hB2.trans (hbX.mono hB2.size)
      have c0 : W3.cell? ⟨w1.heap.size, 0, none⟩ = some (.int .i64 nx) := cells_at s0 0 _ rfl
      have c1 : W3.cell? ⟨w1.heap.size, 1, none⟩ = some (.slice la L.length lc) := cells_at s0 1 _ rfl
      go_cut [14] (fun v wx => v = .int .i64 1 ∧ Below W3.heap.size W3 wx)
      case first =>
        have hmk := fun w => make21 w
        have HD : Hid (∀ W : World, Below W3.heap.size W3 W → Calls Try.prog 16 #[.agg #[.int .i64 nx, .slice la L.length lc], .string (bstr z21)] W fun e w' => ∃ xa xc, e = .returned (.tuple #[.agg #[.int .i64 0, .slice xa 0 xc], .int .i64 1]) ∧ Below W.heap.size W w') := by
          show ∀ _, _
          intro W hW
          exact add_bad nx la _ lc L _ W 1 rfl (hT3.below hW) (by decide +kernel) (addF_short hPF (by decide +kernel)) (by decide)
        have hV0 : Below W3.heap.size W3 W3.drew := (Below.refl _ _).drew
        have qV0 : W3.drew.heap[w1.heap.size]? = some (.cells #[.int .i64 nx, .slice la L.length lc] 24 (0, 0)) := s0
        refine wp_region_held_drew (S := fun w' => w'.cell? ⟨w1.heap.size, 0, none⟩ = some (.int .i64 nx) ∧ w'.cell? ⟨w1.heap.size, 1, none⟩ = some (.slice la L.length lc)) (by kernel_rfl) ⟨cells_at qV0 0 _ rfl, cells_at qV0 1 _ rfl⟩ (fun hHeld => ?_)
        generalize W3.drew = V0 at hV0 qV0 hHeld ⊢
        refine take_dst (i := 0) (d := 50) (v := .agg #[.int .i64 nx, .slice la L.length lc]) rfl rfl (by kernel_rfl) (by kernel_rfl) (by kernel_rfl) (fun _ _ _ h => h) (Or.inl ⟨by rfl, ?_⟩) hHeld ?_
        · (intro w0 hSw; (try dsimp only at hSw); go_simp)
        simp only [Act.put, List.setIfInBounds_toArray, List.set_cons_zero, List.set_cons_succ]
        refine wpAnyH_ready (rs := [1, 7]) (by kernel_rfl) (by simp) (AllReadyH.cons rfl (fun K hK => ?_) (AllReadyH.cons rfl (fun K hK => ?_) AllReadyH.nil))
        · skip
          refine step_run rfl 51 rfl (.slice (some ⟨V0.heap.size, 0, none⟩) 21 21) (V0.alloc (.cells (ub z21).toArray 5)) (by go_simp) ?_
          have hA_1 : Below V0.heap.size V0 (V0.alloc (.cells (ub z21).toArray 5)) := (Below.refl _ _).alloc (Nat.le_refl _) _
          have qN_1 := heap_alloc_new V0 (.cells (ub z21).toArray 5)
          have hn_1 : w1.heap.size ≠ V0.heap.size := by have := lt_of_heap qV0; omega
          have hl_1 : W3.heap.size ≤ V0.heap.size := hV0.size
          have q_2 := (hA_1.block _ (lt_of_heap qV0)).trans qV0
          have hB_2 := hV0.trans (hA_1.mono hV0.size)
          refine hK.out _ _ ⟨cells_at q_2 0 _ rfl, cells_at q_2 1 _ rfl⟩ (fun hHeld => ?_)
          simp only [Act.put, List.setIfInBounds_toArray, List.set_cons_zero, List.set_cons_succ]
          generalize V0.alloc (.cells (ub z21).toArray 5) = V1 at hA_1 qN_1 q_2 hB_2 ⊢
          clear hA_1
          generalize V0.heap.size = b1 at qN_1 hn_1 hl_1 ⊢
          refine wpAnyH_ready (rs := [2, 7]) (by kernel_rfl) (by simp) (AllReadyH.cons rfl (fun K hK => ?_) (AllReadyH.cons rfl (fun K hK => ?_) AllReadyH.nil))
          · skip
            have cv_3 := run_text V1 (some ⟨b1, 0, none⟩) 21 21 z21 rfl (z_slice qN_1 rfl)
            refine step_run rfl 52 rfl (.string (bstr z21)) V1 (by go_simp) ?_
            clear cv_3
            refine hK.out _ _ ⟨cells_at q_2 0 _ rfl, cells_at q_2 1 _ rfl⟩ (fun hHeld => ?_)
            simp only [Act.put, List.setIfInBounds_toArray, List.set_cons_zero, List.set_cons_succ]
            refine wpAnyH_ready (rs := [3, 7]) (by kernel_rfl) (by simp) (AllReadyH.cons rfl (fun K hK => ?_) (AllReadyH.cons rfl (fun K hK => ?_) AllReadyH.nil))
            · skip
              refine step_calls_dst rfl 53 rfl 16 [.tmp 50, .tmp 52] #[24, 9] rfl [.agg #[.int .i64 nx, .slice la L.length lc], .string (bstr z21)] rfl (enters_of Try.func16 (by kernel_rfl) rfl) (fun v w' => (∃ za zc, v = .tuple #[.agg #[.int .i64 0, .slice za 0 zc], .int .i64 1]) ∧ Below V1.heap.size V1 w') ((HD.out V1 hB_2).mono (fun e w2 h => by obtain ⟨za, zc, h1, h2⟩ := h; exact ⟨_, h1, ⟨za, zc, rfl⟩, h2⟩)) ?_
              rintro v V4 ⟨⟨za, zc, rfl⟩, hb_4⟩
              have q_5 := (hb_4.block _ (lt_of_heap q_2)).trans q_2
              have qZ_5 := (hb_4.block _ (lt_of_heap qN_1)).trans qN_1
              have hB_5 := hB_2.trans (hb_4.mono hB_2.size)
              refine hK.out _ _ ⟨cells_at q_5 0 _ rfl, cells_at q_5 1 _ rfl⟩ (fun hHeld => ?_)
              simp only [Act.put, List.setIfInBounds_toArray, List.set_cons_zero, List.set_cons_succ]
              refine take_dst (i := 4) (d := 49) (v := .tuple #[.agg #[.int .i64 0, .slice za 0 zc], .int .i64 1]) rfl rfl (by kernel_rfl) (by kernel_rfl) (by kernel_rfl) (fun _ _ _ h => h) (Or.inl ⟨by rfl, ?_⟩) hHeld ?_
              · (intro w0 hSw; (try dsimp only at hSw); go_simp)
              simp only [Act.put, List.setIfInBounds_toArray, List.set_cons_zero, List.set_cons_succ]
              refine take_dst (i := 5) (d := 54) (v := .agg #[.int .i64 0, .slice za 0 zc]) rfl rfl (by kernel_rfl) (by kernel_rfl) (by kernel_rfl) (fun _ _ _ h => h) (Or.inl ⟨by rfl, ?_⟩) hHeld ?_
              · (intro w0 hSw; (try dsimp only at hSw); go_simp)
              simp only [Act.put, List.setIfInBounds_toArray, List.set_cons_zero, List.set_cons_succ]
              refine take_dst (i := 6) (d := 55) (v := .int .i64 1) rfl rfl (by kernel_rfl) (by kernel_rfl) (by kernel_rfl) (fun _ _ _ h => h) (Or.inl ⟨by rfl, ?_⟩) hHeld ?_
              · (intro w0 hSw; (try dsimp only at hSw); go_simp)
              simp only [Act.put, List.setIfInBounds_toArray, List.set_cons_zero, List.set_cons_succ]
              refine wpAnyH_ready (rs := [7]) (by kernel_rfl) (by simp) (AllReadyH.cons rfl (fun K hK => ?_) AllReadyH.nil)
              refine step_run rfl 13 rfl (.pointer (some ⟨V4.heap.size, 0, none⟩)) (V4.alloc (.cells #[.int .i64 0, .slice none 0 0] 24)) (by go_simp) ?_
              have hA_6 : Below V4.heap.size V4 (V4.alloc (.cells #[.int .i64 0, .slice none 0 0] 24)) := (Below.refl _ _).alloc (Nat.le_refl _) _
              have qN_6 := heap_alloc_new V4 (.cells #[.int .i64 0, .slice none 0 0] 24)
              have hn_6 : w1.heap.size ≠ V4.heap.size := by have := lt_of_heap q_5; omega
              have hl_6 : W3.heap.size ≤ V4.heap.size := hB_5.size
              have q_7 := (hA_6.block _ (lt_of_heap q_5)).trans q_5
              have qZ_7 := (hA_6.block _ (lt_of_heap qZ_5)).trans qZ_5
              have hB_7 := hB_5.trans (hA_6.mono hB_5.size)
              refine hK.out _ _ ⟨cells_at q_7 0 _ rfl, cells_at q_7 1 _ rfl⟩ (fun hHeld => ?_)
              simp only [Act.put, List.setIfInBounds_toArray, List.set_cons_zero, List.set_cons_succ]
              generalize V4.alloc (.cells #[.int .i64 0, .slice none 0 0] 24) = V6 at hA_6 qN_6 q_7 qZ_7 hB_7 ⊢
              clear hA_6
              generalize V4.heap.size = b6 at qN_6 hn_6 hl_6 ⊢
              have z0_8 := cells_at qN_6 0 _ rfl
              have y0_8 := frozen_at qN_6 0
              have z1_8 := cells_at qN_6 1 _ rfl
              have y1_8 := frozen_at qN_6 1
              refine wpAnyH_ready (rs := [8]) (by kernel_rfl) (by simp) (AllReadyH.cons rfl (fun K hK => ?_) AllReadyH.nil)
              refine step_store rfl rfl ((V6.setCell ⟨b6, 0, none⟩ (.int .i64 0)).setCell ⟨b6, 1, none⟩ (.slice za 0 zc)) (by go_simp) ?_
              have qB_8 : ((V6.setCell ⟨b6, 0, none⟩ (.int .i64 0)).setCell ⟨b6, 1, none⟩ (.slice za 0 zc)).heap[b6]? = some (.cells #[.int .i64 0, .slice za 0 zc] 24 (0, 0)) := by simpa using (heap_setCell_same _ _ 1 _ _ (.slice za 0 zc) (heap_setCell_same _ _ 0 _ _ (.int .i64 0) qN_6))
              have q_8 := (heap_far (j := 1) (v := .slice za 0 zc) (heap_far (j := 0) (v := .int .i64 0) q_7 hn_6) hn_6)
              have hB_8 := ((hB_7.setCell (p := ⟨b6, 0, none⟩) hl_6 (.int .i64 0)).setCell (p := ⟨b6, 1, none⟩) hl_6 (.slice za 0 zc))
              refine hK.out _ _ ⟨cells_at q_8 0 _ rfl, cells_at q_8 1 _ rfl⟩ (fun hHeld => ?_)
              generalize ((V6.setCell ⟨b6, 0, none⟩ (.int .i64 0)).setCell ⟨b6, 1, none⟩ (.slice za 0 zc)) = V8 at qB_8 q_8 hB_8 hHeld ⊢
              refine take_dst (i := 9) (d := 14) (v := .int .i64 1) rfl rfl (by kernel_rfl) (by kernel_rfl) (by kernel_rfl) (fun _ _ _ h => h) (Or.inl ⟨by rfl, ?_⟩) hHeld ?_
              · (intro w0 hSw; (try dsimp only at hSw); go_simp)
              simp only [Act.put, List.setIfInBounds_toArray, List.set_cons_zero, List.set_cons_succ]
              refine wpAnyH_done (by kernel_rfl) ?_ _
              go_wp2_with fail
              go_meet
              case rel => exact ⟨rfl, hB_8⟩
            · skip
              refine step_run rfl 13 rfl (.pointer (some ⟨V1.heap.size, 0, none⟩)) (V1.alloc (.cells #[.int .i64 0, .slice none 0 0] 24)) (by go_simp) ?_
              have hA_9 : Below V1.heap.size V1 (V1.alloc (.cells #[.int .i64 0, .slice none 0 0] 24)) := (Below.refl _ _).alloc (Nat.le_refl _) _
              have qN_9 := heap_alloc_new V1 (.cells #[.int .i64 0, .slice none 0 0] 24)
              have hn_9 : w1.heap.size ≠ V1.heap.size := by have := lt_of_heap q_2; omega
              have hl_9 : W3.heap.size ≤ V1.heap.size := hB_2.size
              have q_10 := (hA_9.block _ (lt_of_heap q_2)).trans q_2
              have qZ_10 := (hA_9.block _ (lt_of_heap qN_1)).trans qN_1
              have hB_10 := hB_2.trans (hA_9.mono hB_2.size)
              refine hK.out _ _ ⟨cells_at q_10 0 _ rfl, cells_at q_10 1 _ rfl⟩ (fun hHeld => ?_)
              simp only [Act.put, List.setIfInBounds_toArray, List.set_cons_zero, List.set_cons_succ]
              generalize V1.alloc (.cells #[.int .i64 0, .slice none 0 0] 24) = V9 at hA_9 qN_9 q_10 qZ_10 hB_10 ⊢
              clear hA_9
              generalize V1.heap.size = b9 at qN_9 hn_9 hl_9 ⊢
              refine wpAnyH_ready (rs := [3]) (by kernel_rfl) (by simp) (AllReadyH.cons rfl (fun K hK => ?_) AllReadyH.nil)
              refine step_calls_dst rfl 53 rfl 16 [.tmp 50, .tmp 52] #[24, 9] rfl [.agg #[.int .i64 nx, .slice la L.length lc], .string (bstr z21)] rfl (enters_of Try.func16 (by kernel_rfl) rfl) (fun v w' => (∃ za zc, v = .tuple #[.agg #[.int .i64 0, .slice za 0 zc], .int .i64 1]) ∧ Below V9.heap.size V9 w') ((HD.out V9 hB_10).mono (fun e w2 h => by obtain ⟨za, zc, h1, h2⟩ := h; exact ⟨_, h1, ⟨za, zc, rfl⟩, h2⟩)) ?_
              rintro v V11 ⟨⟨za, zc, rfl⟩, hb_11⟩
              have q_12 := (hb_11.block _ (lt_of_heap q_10)).trans q_10
              have qZ_12 := (hb_11.block _ (lt_of_heap qZ_10)).trans qZ_10
              have qB_12 := (hb_11.block _ (lt_of_heap qN_9)).trans qN_9
              have hB_12 := hB_10.trans (hb_11.mono hB_10.size)
              refine hK.out _ _ ⟨cells_at q_12 0 _ rfl, cells_at q_12 1 _ rfl⟩ (fun hHeld => ?_)
              simp only [Act.put, List.setIfInBounds_toArray, List.set_cons_zero, List.set_cons_succ]
              refine take_dst (i := 4) (d := 49) (v := .tuple #[.agg #[.int .i64 0, .slice za 0 zc], .int .i64 1]) rfl rfl (by kernel_rfl) (by kernel_rfl) (by kernel_rfl) (fun _ _ _ h => h) (Or.inl ⟨by rfl, ?_⟩) hHeld ?_
              · (intro w0 hSw; (try dsimp only at hSw); go_simp)
              simp only [Act.put, List.setIfInBounds_toArray, List.set_cons_zero, List.set_cons_succ]
              refine take_dst (i := 5) (d := 54) (v := .agg #[.int .i64 0, .slice za 0 zc]) rfl rfl (by kernel_rfl) (by kernel_rfl) (by kernel_rfl) (fun _ _ _ h => h) (Or.inl ⟨by rfl, ?_⟩) hHeld ?_
              · (intro w0 hSw; (try dsimp only at hSw); go_simp)
              simp only [Act.put, List.setIfInBounds_toArray, List.set_cons_zero, List.set_cons_succ]
              refine take_dst (i := 6) (d := 55) (v := .int .i64 1) rfl rfl (by kernel_rfl) (by kernel_rfl) (by kernel_rfl) (fun _ _ _ h => h) (Or.inl ⟨by rfl, ?_⟩) hHeld ?_
              · (intro w0 hSw; (try dsimp only at hSw); go_simp)
              simp only [Act.put, List.setIfInBounds_toArray, List.set_cons_zero, List.set_cons_succ]
              have z0_13 := cells_at qB_12 0 _ rfl
              have y0_13 := frozen_at qB_12 0
              have z1_13 := cells_at qB_12 1 _ rfl
              have y1_13 := frozen_at qB_12 1
              refine wpAnyH_ready (rs := [8]) (by kernel_rfl) (by simp) (AllReadyH.cons rfl (fun K hK => ?_) AllReadyH.nil)
              refine step_store rfl rfl ((V11.setCell ⟨b9, 0, none⟩ (.int .i64 0)).setCell ⟨b9, 1, none⟩ (.slice za 0 zc)) (by go_simp) ?_
              have qB_13 : ((V11.setCell ⟨b9, 0, none⟩ (.int .i64 0)).setCell ⟨b9, 1, none⟩ (.slice za 0 zc)).heap[b9]? = some (.cells #[.int .i64 0, .slice za 0 zc] 24 (0, 0)) := by simpa using (heap_setCell_same _ _ 1 _ _ (.slice za 0 zc) (heap_setCell_same _ _ 0 _ _ (.int .i64 0) qB_12))
              have q_13 := (heap_far (j := 1) (v := .slice za 0 zc) (heap_far (j := 0) (v := .int .i64 0) q_12 hn_9) hn_9)
              have hB_13 := ((hB_12.setCell (p := ⟨b9, 0, none⟩) hl_9 (.int .i64 0)).setCell (p := ⟨b9, 1, none⟩) hl_9 (.slice za 0 zc))
              refine hK.out _ _ ⟨cells_at q_13 0 _ rfl, cells_at q_13 1 _ rfl⟩ (fun hHeld => ?_)
              generalize ((V11.setCell ⟨b9, 0, none⟩ (.int .i64 0)).setCell ⟨b9, 1, none⟩ (.slice za 0 zc)) = V13 at qB_13 q_13 hB_13 hHeld ⊢
              refine take_dst (i := 9) (d := 14) (v := .int .i64 1) rfl rfl (by kernel_rfl) (by kernel_rfl) (by kernel_rfl) (fun _ _ _ h => h) (Or.inl ⟨by rfl, ?_⟩) hHeld ?_
              · (intro w0 hSw; (try dsimp only at hSw); go_simp)
              simp only [Act.put, List.setIfInBounds_toArray, List.set_cons_zero, List.set_cons_succ]
              refine wpAnyH_done (by kernel_rfl) ?_ _
              go_wp2_with fail
              go_meet
              case rel => exact ⟨rfl, hB_13⟩
          · skip
            refine step_run rfl 13 rfl (.pointer (some ⟨V1.heap.size, 0, none⟩)) (V1.alloc (.cells #[.int .i64 0, .slice none 0 0] 24)) (by go_simp) ?_
            have hA_14 : Below V1.heap.size V1 (V1.alloc (.cells #[.int .i64 0, .slice none 0 0] 24)) := (Below.refl _ _).alloc (Nat.le_refl _) _
            have qN_14 := heap_alloc_new V1 (.cells #[.int .i64 0, .slice none 0 0] 24)
            have hn_14 : w1.heap.size ≠ V1.heap.size := by have := lt_of_heap q_2; omega
            have hl_14 : W3.heap.size ≤ V1.heap.size := hB_2.size
            have q_15 := (hA_14.block _ (lt_of_heap q_2)).trans q_2
            have qZ_15 := (hA_14.block _ (lt_of_heap qN_1)).trans qN_1
            have hB_15 := hB_2.trans (hA_14.mono hB_2.size)
            refine hK.out _ _ ⟨cells_at q_15 0 _ rfl, cells_at q_15 1 _ rfl⟩ (fun hHeld => ?_)
            simp only [Act.put, List.setIfInBounds_toArray, List.set_cons_zero, List.set_cons_succ]
            generalize V1.alloc (.cells #[.int .i64 0, .slice none 0 0] 24) = V14 at hA_14 qN_14 q_15 qZ_15 hB_15 ⊢
            clear hA_14
            generalize V1.heap.size = b14 at qN_14 hn_14 hl_14 ⊢
            refine wpAnyH_ready (rs := [2]) (by kernel_rfl) (by simp) (AllReadyH.cons rfl (fun K hK => ?_) AllReadyH.nil)
            have cv_16 := run_text V14 (some ⟨b1, 0, none⟩) 21 21 z21 rfl (z_slice qZ_15 rfl)
            refine step_run rfl 52 rfl (.string (bstr z21)) V14 (by go_simp) ?_
            clear cv_16
            refine hK.out _ _ ⟨cells_at q_15 0 _ rfl, cells_at q_15 1 _ rfl⟩ (fun hHeld => ?_)
            simp only [Act.put, List.setIfInBounds_toArray, List.set_cons_zero, List.set_cons_succ]
            refine wpAnyH_ready (rs := [3]) (by kernel_rfl) (by simp) (AllReadyH.cons rfl (fun K hK => ?_) AllReadyH.nil)
            refine step_calls_dst rfl 53 rfl 16 [.tmp 50, .tmp 52] #[24, 9] rfl [.agg #[.int .i64 nx, .slice la L.length lc], .string (bstr z21)] rfl (enters_of Try.func16 (by kernel_rfl) rfl) (fun v w' => (∃ za zc, v = .tuple #[.agg #[.int .i64 0, .slice za 0 zc], .int .i64 1]) ∧ Below V14.heap.size V14 w') ((HD.out V14 hB_15).mono (fun e w2 h => by obtain ⟨za, zc, h1, h2⟩ := h; exact ⟨_, h1, ⟨za, zc, rfl⟩, h2⟩)) ?_
            rintro v V17 ⟨⟨za, zc, rfl⟩, hb_17⟩
            have q_18 := (hb_17.block _ (lt_of_heap q_15)).trans q_15
            have qZ_18 := (hb_17.block _ (lt_of_heap qZ_15)).trans qZ_15
            have qB_18 := (hb_17.block _ (lt_of_heap qN_14)).trans qN_14
            have hB_18 := hB_15.trans (hb_17.mono hB_15.size)
            refine hK.out _ _ ⟨cells_at q_18 0 _ rfl, cells_at q_18 1 _ rfl⟩ (fun hHeld => ?_)
            simp only [Act.put, List.setIfInBounds_toArray, List.set_cons_zero, List.set_cons_succ]
            refine take_dst (i := 4) (d := 49) (v := .tuple #[.agg #[.int .i64 0, .slice za 0 zc], .int .i64 1]) rfl rfl (by kernel_rfl) (by kernel_rfl) (by kernel_rfl) (fun _ _ _ h => h) (Or.inl ⟨by rfl, ?_⟩) hHeld ?_
            · (intro w0 hSw; (try dsimp only at hSw); go_simp)
            simp only [Act.put, List.setIfInBounds_toArray, List.set_cons_zero, List.set_cons_succ]
            refine take_dst (i := 5) (d := 54) (v := .agg #[.int .i64 0, .slice za 0 zc]) rfl rfl (by kernel_rfl) (by kernel_rfl) (by kernel_rfl) (fun _ _ _ h => h) (Or.inl ⟨by rfl, ?_⟩) hHeld ?_
            · (intro w0 hSw; (try dsimp only at hSw); go_simp)
            simp only [Act.put, List.setIfInBounds_toArray, List.set_cons_zero, List.set_cons_succ]
            refine take_dst (i := 6) (d := 55) (v := .int .i64 1) rfl rfl (by kernel_rfl) (by kernel_rfl) (by kernel_rfl) (fun _ _ _ h => h) (Or.inl ⟨by rfl, ?_⟩) hHeld ?_
            · (intro w0 hSw; (try dsimp only at hSw); go_simp)
            simp only [Act.put, List.setIfInBounds_toArray, List.set_cons_zero, List.set_cons_succ]
            have z0_19 := cells_at qB_18 0 _ rfl
            have y0_19 := frozen_at qB_18 0
            have z1_19 := cells_at qB_18 1 _ rfl
            have y1_19 := frozen_at qB_18 1
            refine wpAnyH_ready (rs := [8]) (by kernel_rfl) (by simp) (AllReadyH.cons rfl (fun K hK => ?_) AllReadyH.nil)
            refine step_store rfl rfl ((V17.setCell ⟨b14, 0, none⟩ (.int .i64 0)).setCell ⟨b14, 1, none⟩ (.slice za 0 zc)) (by go_simp) ?_
            have qB_19 : ((V17.setCell ⟨b14, 0, none⟩ (.int .i64 0)).setCell ⟨b14, 1, none⟩ (.slice za 0 zc)).heap[b14]? = some (.cells #[.int .i64 0, .slice za 0 zc] 24 (0, 0)) := by simpa using (heap_setCell_same _ _ 1 _ _ (.slice za 0 zc) (heap_setCell_same _ _ 0 _ _ (.int .i64 0) qB_18))
            have q_19 := (heap_far (j := 1) (v := .slice za 0 zc) (heap_far (j := 0) (v := .int .i64 0) q_18 hn_14) hn_14)
            have hB_19 := ((hB_18.setCell (p := ⟨b14, 0, none⟩) hl_14 (.int .i64 0)).setCell (p := ⟨b14, 1, none⟩) hl_14 (.slice za 0 zc))
            refine hK.out _ _ ⟨cells_at q_19 0 _ rfl, cells_at q_19 1 _ rfl⟩ (fun hHeld => ?_)
            generalize ((V17.setCell ⟨b14, 0, none⟩ (.int .i64 0)).setCell ⟨b14, 1, none⟩ (.slice za 0 zc)) = V19 at qB_19 q_19 hB_19 hHeld ⊢
            refine take_dst (i := 9) (d := 14) (v := .int .i64 1) rfl rfl (by kernel_rfl) (by kernel_rfl) (by kernel_rfl) (fun _ _ _ h => h) (Or.inl ⟨by rfl, ?_⟩) hHeld ?_
            · (intro w0 hSw; (try dsimp only at hSw); go_simp)
            simp only [Act.put, List.setIfInBounds_toArray, List.set_cons_zero, List.set_cons_succ]
            refine wpAnyH_done (by kernel_rfl) ?_ _
            go_wp2_with fail
            go_meet
            case rel => exact ⟨rfl, hB_19⟩
        · skip
          refine step_run rfl 13 rfl (.pointer (some ⟨V0.heap.size, 0, none⟩)) (V0.alloc (.cells #[.int .i64 0, .slice none 0 0] 24)) (by go_simp) ?_
          have hA_20 : Below V0.heap.size V0 (V0.alloc (.cells #[.int .i64 0, .slice none 0 0] 24)) := (Below.refl _ _).alloc (Nat.le_refl _) _
          have qN_20 := heap_alloc_new V0 (.cells #[.int .i64 0, .slice none 0 0] 24)
          have hn_20 : w1.heap.size ≠ V0.heap.size := by have := lt_of_heap qV0; omega
          have hl_20 : W3.heap.size ≤ V0.heap.size := hV0.size
          have q_21 := (hA_20.block _ (lt_of_heap qV0)).trans qV0
          have hB_21 := hV0.trans (hA_20.mono hV0.size)
          refine hK.out _ _ ⟨cells_at q_21 0 _ rfl, cells_at q_21 1 _ rfl⟩ (fun hHeld => ?_)
          simp only [Act.put, List.setIfInBounds_toArray, List.set_cons_zero, List.set_cons_succ]
          generalize V0.alloc (.cells #[.int .i64 0, .slice none 0 0] 24) = V20 at hA_20 qN_20 q_21 hB_21 ⊢
          clear hA_20
          generalize V0.heap.size = b20 at qN_20 hn_20 hl_20 ⊢
          refine wpAnyH_ready (rs := [1]) (by kernel_rfl) (by simp) (AllReadyH.cons rfl (fun K hK => ?_) AllReadyH.nil)
          refine step_run rfl 51 rfl (.slice (some ⟨V20.heap.size, 0, none⟩) 21 21) (V20.alloc (.cells (ub z21).toArray 5)) (by go_simp) ?_
          have hA_22 : Below V20.heap.size V20 (V20.alloc (.cells (ub z21).toArray 5)) := (Below.refl _ _).alloc (Nat.le_refl _) _
          have qN_22 := heap_alloc_new V20 (.cells (ub z21).toArray 5)
          have hn_22 : w1.heap.size ≠ V20.heap.size := by have := lt_of_heap q_21; omega
          have hl_22 : W3.heap.size ≤ V20.heap.size := hB_21.size
          have q_23 := (hA_22.block _ (lt_of_heap q_21)).trans q_21
          have qB_23 := (hA_22.block _ (lt_of_heap qN_20)).trans qN_20
          have hB_23 := hB_21.trans (hA_22.mono hB_21.size)
          refine hK.out _ _ ⟨cells_at q_23 0 _ rfl, cells_at q_23 1 _ rfl⟩ (fun hHeld => ?_)
          simp only [Act.put, List.setIfInBounds_toArray, List.set_cons_zero, List.set_cons_succ]
          generalize V20.alloc (.cells (ub z21).toArray 5) = V22 at hA_22 qN_22 q_23 qB_23 hB_23 ⊢
          clear hA_22
          generalize V20.heap.size = b22 at qN_22 hn_22 hl_22 ⊢
          refine wpAnyH_ready (rs := [2]) (by kernel_rfl) (by simp) (AllReadyH.cons rfl (fun K hK => ?_) AllReadyH.nil)
          have cv_24 := run_text V22 (some ⟨b22, 0, none⟩) 21 21 z21 rfl (z_slice qN_22 rfl)
          refine step_run rfl 52 rfl (.string (bstr z21)) V22 (by go_simp) ?_
          clear cv_24
          refine hK.out _ _ ⟨cells_at q_23 0 _ rfl, cells_at q_23 1 _ rfl⟩ (fun hHeld => ?_)
          simp only [Act.put, List.setIfInBounds_toArray, List.set_cons_zero, List.set_cons_succ]
          refine wpAnyH_ready (rs := [3]) (by kernel_rfl) (by simp) (AllReadyH.cons rfl (fun K hK => ?_) AllReadyH.nil)
          refine step_calls_dst rfl 53 rfl 16 [.tmp 50, .tmp 52] #[24, 9] rfl [.agg #[.int .i64 nx, .slice la L.length lc], .string (bstr z21)] rfl (enters_of Try.func16 (by kernel_rfl) rfl) (fun v w' => (∃ za zc, v = .tuple #[.agg #[.int .i64 0, .slice za 0 zc], .int .i64 1]) ∧ Below V22.heap.size V22 w') ((HD.out V22 hB_23).mono (fun e w2 h => by obtain ⟨za, zc, h1, h2⟩ := h; exact ⟨_, h1, ⟨za, zc, rfl⟩, h2⟩)) ?_
          rintro v V25 ⟨⟨za, zc, rfl⟩, hb_25⟩
          have q_26 := (hb_25.block _ (lt_of_heap q_23)).trans q_23
          have qZ_26 := (hb_25.block _ (lt_of_heap qN_22)).trans qN_22
          have qB_26 := (hb_25.block _ (lt_of_heap qB_23)).trans qB_23
          have hB_26 := hB_23.trans (hb_25.mono hB_23.size)
          refine hK.out _ _ ⟨cells_at q_26 0 _ rfl, cells_at q_26 1 _ rfl⟩ (fun hHeld => ?_)
          simp only [Act.put, List.setIfInBounds_toArray, List.set_cons_zero, List.set_cons_succ]
          refine take_dst (i := 4) (d := 49) (v := .tuple #[.agg #[.int .i64 0, .slice za 0 zc], .int .i64 1]) rfl rfl (by kernel_rfl) (by kernel_rfl) (by kernel_rfl) (fun _ _ _ h => h) (Or.inl ⟨by rfl, ?_⟩) hHeld ?_
          · (intro w0 hSw; (try dsimp only at hSw); go_simp)
          simp only [Act.put, List.setIfInBounds_toArray, List.set_cons_zero, List.set_cons_succ]
          refine take_dst (i := 5) (d := 54) (v := .agg #[.int .i64 0, .slice za 0 zc]) rfl rfl (by kernel_rfl) (by kernel_rfl) (by kernel_rfl) (fun _ _ _ h => h) (Or.inl ⟨by rfl, ?_⟩) hHeld ?_
          · (intro w0 hSw; (try dsimp only at hSw); go_simp)
          simp only [Act.put, List.setIfInBounds_toArray, List.set_cons_zero, List.set_cons_succ]
          refine take_dst (i := 6) (d := 55) (v := .int .i64 1) rfl rfl (by kernel_rfl) (by kernel_rfl) (by kernel_rfl) (fun _ _ _ h => h) (Or.inl ⟨by rfl, ?_⟩) hHeld ?_
          · (intro w0 hSw; (try dsimp only at hSw); go_simp)
          simp only [Act.put, List.setIfInBounds_toArray, List.set_cons_zero, List.set_cons_succ]
          have z0_27 := cells_at qB_26 0 _ rfl
          have y0_27 := frozen_at qB_26 0
          have z1_27 := cells_at qB_26 1 _ rfl
          have y1_27 := frozen_at qB_26 1
          refine wpAnyH_ready (rs := [8]) (by kernel_rfl) (by simp) (AllReadyH.cons rfl (fun K hK => ?_) AllReadyH.nil)
          refine step_store rfl rfl ((V25.setCell ⟨b20, 0, none⟩ (.int .i64 0)).setCell ⟨b20, 1, none⟩ (.slice za 0 zc)) (by go_simp) ?_
          have qB_27 : ((V25.setCell ⟨b20, 0, none⟩ (.int .i64 0)).setCell ⟨b20, 1, none⟩ (.slice za 0 zc)).heap[b20]? = some (.cells #[.int .i64 0, .slice za 0 zc] 24 (0, 0)) := by simpa using (heap_setCell_same _ _ 1 _ _ (.slice za 0 zc) (heap_setCell_same _ _ 0 _ _ (.int .i64 0) qB_26))
          have q_27 := (heap_far (j := 1) (v := .slice za 0 zc) (heap_far (j := 0) (v := .int .i64 0) q_26 hn_20) hn_20)
          have hB_27 := ((hB_26.setCell (p := ⟨b20, 0, none⟩) hl_20 (.int .i64 0)).setCell (p := ⟨b20, 1, none⟩) hl_20 (.slice za 0 zc))
          refine hK.out _ _ ⟨cells_at q_27 0 _ rfl, cells_at q_27 1 _ rfl⟩ (fun hHeld => ?_)
          generalize ((V25.setCell ⟨b20, 0, none⟩ (.int .i64 0)).setCell ⟨b20, 1, none⟩ (.slice za 0 zc)) = V27 at qB_27 q_27 hB_27 hHeld ⊢
          refine take_dst (i := 9) (d := 14) (v := .int .i64 1) rfl rfl (by kernel_rfl) (by kernel_rfl) (by kernel_rfl) (fun _ _ _ h => h) (Or.inl ⟨by rfl, ?_⟩) hHeld ?_
          · (intro w0 hSw; (try dsimp only at hSw); go_simp)
          simp only [Act.put, List.setIfInBounds_toArray, List.set_cons_zero, List.set_cons_succ]
          refine wpAnyH_done (by kernel_rfl) ?_ _
          go_wp2_with fail
          go_meet
          case rel => exact ⟨rfl, hB_27⟩
      case rest =>
        obtain ⟨rfl, hbc⟩ := hcut
        have h0 := (hbc.block _ (lt_of_heap s0)).trans s0
        have hX := (hbc.block _ (lt_of_heap sX)).trans sX
        clear c0 c1
        have c0 : wc.cell? ⟨w1.heap.size, 0, none⟩ = some (.int .i64 nx) := cells_at h0 0 _ rfl
        have c1 : wc.cell? ⟨w1.heap.size, 1, none⟩ = some (.slice la L.length lc) := cells_at h0 1 _ rfl
        have hB4 := hB3.trans (hbc.mono hB3.size)
        have hT4 := hT3.below hbc
        have hX4 := (hXX.below hbX).below hbc
        have HC := poolCheck_any nx la _ lc L wc rfl hT4
        rw [hPF] at HC
        cases hi : inS t L with
        | true =>
          obtain ⟨rfl, hl0⟩ := HX0.out hi
          obtain rfl := List.eq_nil_of_length_eq_zero hl0
          clear HX0 HX1 HO HW HW2 hl0 hi
          go_wp2_with (go_at_call 13; refine HC.mono ?_; rintro e w5 ⟨he, hb5⟩; subst he; have i0 := (hb5.block _ (lt_of_heap hX)).trans hX; have x1 : w5.cell? ⟨w2.heap.size, 1, none⟩ = some (.slice xa 0 xc) := cells_at i0 1 _ rfl)
          go_ret
          exact ⟨by rfl, hB4.trans (hb5.mono hB4.size)⟩
        | false =>
          obtain ⟨rfl, rfl, rfl⟩ := HX1.out hi
          have hE := HW2.out hi
          clear HX0 HX1 HO HW HW2 hi
          go_wp2_with (go_at_call 13; refine HC.mono ?_; rintro e w5 ⟨he, hb5⟩; subst he; have i0 := (hb5.block _ (lt_of_heap hX)).trans hX; have j0 := (hb5.block _ (lt_of_heap h0)).trans h0; have x0 : w5.cell? ⟨w2.heap.size, 0, none⟩ = some (.int .i64 XN) := cells_at i0 0 _ rfl; have x1 : w5.cell? ⟨w2.heap.size, 1, none⟩ = some (.slice xa (L.length + 1) xc) := (cells_at i0 1 _ rfl).trans (by simp))
          generalize hM : L ++ [t] = M at *
          have hMl : Hid (L.length + 1 = M.length) := by show _ = _; rw [← hM]; simp
          have hMt : Hid (M.take L.length = L ∧ M.getD L.length ByteArray.empty = t) := by rw [← hM]; exact ⟨by simp, by simp [List.getD]⟩
          have hlm : L.length < M.length := by rw [← hM]; simp
          clear hM
          refine (add_bad XN xa (L.length + 1) xc M t w5 7 hMl.out (hX4.below hb5) HT.out hE (by decide)).mono ?_
          rintro e w6 ⟨ua, uc, he, hb6⟩
          subst he
          dsimp only
          have hA6 : Below w6.heap.size w6 (w6.alloc (.cells #[.int .i64 0, .slice ua 0 uc] 24)) := (Below.refl _ _).alloc (Nat.le_refl _) _
          have hb56 := (hb5.trans (hb6.mono hb5.size)).trans (hA6.mono (Nat.le_trans hb5.size hb6.size))
          replace h0 := (hb56.block _ (lt_of_heap h0)).trans h0
          replace hX := (hb56.block _ (lt_of_heap hX)).trans hX
          rw [← hMl.out] at hX
          have hX6 := hX4.below hb56
          have hT6 := hT4.below hb56
          have hB6 := hB4.trans (hb56.mono hB4.size)
          clear c0 c1 x0 x1 i0 j0
          go_upto_region 16 with fail
          generalize w6.alloc (.cells #[.int .i64 0, .slice ua 0 uc] 24) = W6 at hA6 hb56 h0 hX hX6 hT6 hB6 ⊢
          obtain ⟨xb, xo, rfl, hck⟩ : ∃ sb so, xa = some ⟨sb, so, none⟩ ∧ ∀ j, j < M.length → W6.cell? ⟨sb, so + j, none⟩ = some (.string (M.getD j ByteArray.empty)) := by
            rcases hX6.strs.cells with h | h
            · rw [h] at hlm; simp at hlm
            · exact h
          have xk := hck L.length hlm
          rw [hMt.out.2] at xk
          have hcx : (L.length : Int) ≤ xc := by have := hX6.le; omega
          have hcl : (L.length : Int) < (L.length : Int) + 1 := by omega
          have hL0 : (0 : Int) ≤ L.length := by omega
          have hwr : IntKind.i64.wrap ((L.length : Int) + 1) = (L.length : Int) + 1 := by rw [IntKind.wrap_i64]; omega
          have HST := sameTexts_any L L (some ⟨xb, xo, none⟩) la L.length L.length xc lc W6.drew rfl rfl (by omega) (by omega) (by have := ((hX6.strs.below (Below.refl _ _).drew).take L.length); rw [hMt.out.1] at this; exact this) (hT6.strs.below (Below.refl _ _).drew)
          rw [decide_eq_true rfl] at HST
          generalize XN = nx at *
          refine wp_region_held_drew (S := (fun w' => w'.cell? ⟨w1.heap.size, 0, none⟩ = some (.int .i64 nx) ∧ w'.cell? ⟨w1.heap.size, 1, none⟩ = some (.slice la L.length lc) ∧ w'.cell? ⟨w2.heap.size, 0, none⟩ = some (.int .i64 nx) ∧ w'.cell? ⟨w2.heap.size, 1, none⟩ = some (.slice (some ⟨xb, xo, none⟩) (L.length + 1) xc) ∧ w'.cell? ⟨xb, xo + L.length, none⟩ = some (.string t))) (by kernel_rfl) ⟨cells_at h0 0 _ rfl, cells_at h0 1 _ rfl, cells_at hX 0 _ rfl, cells_at hX 1 _ rfl, xk⟩ (fun hHeld => ?_)
          refine take_dst (i := 0) (d := 82) (v := .int .i64 0) rfl rfl (by kernel_rfl) (by kernel_rfl) (by kernel_rfl) (fun _ _ _ h => h) (Or.inl ⟨by rfl, ?_⟩) hHeld ?_
          · (intro w0 hSw; (try dsimp only at hSw); go_simp)
          simp only [Act.put, List.setIfInBounds_toArray, List.set_cons_zero, List.set_cons_succ]
          refine take_dst (i := 1) (d := 83) (v := .bool true) rfl rfl (by kernel_rfl) (by kernel_rfl) (by kernel_rfl) (fun _ _ _ h => h) (Or.inl ⟨by rfl, ?_⟩) hHeld ?_
          · (intro w0 hSw; (try dsimp only at hSw); go_simp)
          simp only [Act.put, List.setIfInBounds_toArray, List.set_cons_zero, List.set_cons_succ]
          refine take_dst (i := 2) (d := 84) (v := .bool true) rfl rfl (by kernel_rfl) (by kernel_rfl) (by kernel_rfl) (fun _ _ _ h => h) (Or.inl ⟨by rfl, ?_⟩) hHeld ?_
          · (intro w0 hSw; (try dsimp only at hSw); go_simp)
          simp only [Act.put, List.setIfInBounds_toArray, List.set_cons_zero, List.set_cons_succ]
          refine take_dst (i := 3) (d := 85) (v := .int .i64 7) rfl rfl (by kernel_rfl) (by kernel_rfl) (by kernel_rfl) (fun _ _ _ h => h) (Or.inl ⟨by rfl, ?_⟩) hHeld ?_
          · (intro w0 hSw; (try dsimp only at hSw); go_simp)
          simp only [Act.put, List.setIfInBounds_toArray, List.set_cons_zero, List.set_cons_succ]
          refine take_dst (i := 4) (d := 86) (v := .bool true) rfl rfl (by kernel_rfl) (by kernel_rfl) (by kernel_rfl) (fun _ _ _ h => h) (Or.inl ⟨by rfl, ?_⟩) hHeld ?_
          · (intro w0 hSw; (try dsimp only at hSw); go_simp)
          simp only [Act.put, List.setIfInBounds_toArray, List.set_cons_zero, List.set_cons_succ]
          refine take_dst (i := 5) (d := 87) (v := .bool true) rfl rfl (by kernel_rfl) (by kernel_rfl) (by kernel_rfl) (fun _ _ _ h => h) (Or.inl ⟨by rfl, ?_⟩) hHeld ?_
          · (intro w0 hSw; (try dsimp only at hSw); go_simp)
          simp only [Act.put, List.setIfInBounds_toArray, List.set_cons_zero, List.set_cons_succ]
          refine take_dst (i := 6) (d := 88) (v := .bool true) rfl rfl (by kernel_rfl) (by kernel_rfl) (by kernel_rfl) (fun _ _ _ h => h) (Or.inl ⟨by rfl, ?_⟩) hHeld ?_
          · (intro w0 hSw; (try dsimp only at hSw); go_simp)
          simp only [Act.put, List.setIfInBounds_toArray, List.set_cons_zero, List.set_cons_succ]
          refine take_dst (i := 7) (d := 89) (v := .pointer (some ⟨w2.heap.size, 0, none⟩)) rfl rfl (by kernel_rfl) (by kernel_rfl) (by kernel_rfl) (fun _ _ _ h => h) (Or.inl ⟨by rfl, ?_⟩) hHeld ?_
          · (intro w0 hSw; (try dsimp only at hSw); go_simp)
          simp only [Act.put, List.setIfInBounds_toArray, List.set_cons_zero, List.set_cons_succ]
          refine take_dst (i := 8) (d := 90) (v := .int .i64 nx) rfl rfl (by kernel_rfl) (by kernel_rfl) (by kernel_rfl) (fun _ _ _ h => h) (Or.inl ⟨by rfl, ?_⟩) hHeld ?_
          · (intro w0 hSw; (try dsimp only at hSw); go_simp)
          simp only [Act.put, List.setIfInBounds_toArray, List.set_cons_zero, List.set_cons_succ]
          refine take_dst (i := 9) (d := 91) (v := .pointer (some ⟨w1.heap.size, 0, none⟩)) rfl rfl (by kernel_rfl) (by kernel_rfl) (by kernel_rfl) (fun _ _ _ h => h) (Or.inl ⟨by rfl, ?_⟩) hHeld ?_
          · (intro w0 hSw; (try dsimp only at hSw); go_simp)
          simp only [Act.put, List.setIfInBounds_toArray, List.set_cons_zero, List.set_cons_succ]
          refine take_dst (i := 10) (d := 92) (v := .int .i64 nx) rfl rfl (by kernel_rfl) (by kernel_rfl) (by kernel_rfl) (fun _ _ _ h => h) (Or.inl ⟨by rfl, ?_⟩) hHeld ?_
          · (intro w0 hSw; (try dsimp only at hSw); go_simp)
          simp only [Act.put, List.setIfInBounds_toArray, List.set_cons_zero, List.set_cons_succ]
          refine take_dst (i := 11) (d := 93) (v := .bool true) rfl rfl (by kernel_rfl) (by kernel_rfl) (by kernel_rfl) (fun _ _ _ h => h) (Or.inl ⟨by rfl, ?_⟩) hHeld ?_
          · (intro w0 hSw; (try dsimp only at hSw); go_simp)
          simp only [Act.put, List.setIfInBounds_toArray, List.set_cons_zero, List.set_cons_succ]
          refine take_dst (i := 12) (d := 94) (v := .bool true) rfl rfl (by kernel_rfl) (by kernel_rfl) (by kernel_rfl) (fun _ _ _ h => h) (Or.inl ⟨by rfl, ?_⟩) hHeld ?_
          · (intro w0 hSw; (try dsimp only at hSw); go_simp)
          simp only [Act.put, List.setIfInBounds_toArray, List.set_cons_zero, List.set_cons_succ]
          refine take_dst (i := 13) (d := 95) (v := .bool true) rfl rfl (by kernel_rfl) (by kernel_rfl) (by kernel_rfl) (fun _ _ _ h => h) (Or.inl ⟨by rfl, ?_⟩) hHeld ?_
          · (intro w0 hSw; (try dsimp only at hSw); go_simp)
          simp only [Act.put, List.setIfInBounds_toArray, List.set_cons_zero, List.set_cons_succ]
          refine take_dst (i := 14) (d := 96) (v := .pointer (some ⟨w2.heap.size, 1, none⟩)) rfl rfl (by kernel_rfl) (by kernel_rfl) (by kernel_rfl) (fun _ _ _ h => h) (Or.inl ⟨by rfl, ?_⟩) hHeld ?_
          · (intro w0 hSw; (try dsimp only at hSw); go_simp)
          simp only [Act.put, List.setIfInBounds_toArray, List.set_cons_zero, List.set_cons_succ]
          refine take_dst (i := 15) (d := 97) (v := .slice (some ⟨xb, xo, none⟩) (L.length + 1) xc) rfl rfl (by kernel_rfl) (by kernel_rfl) (by kernel_rfl) (fun _ _ _ h => h) (Or.inl ⟨by rfl, ?_⟩) hHeld ?_
          · (intro w0 hSw; (try dsimp only at hSw); go_simp)
          simp only [Act.put, List.setIfInBounds_toArray, List.set_cons_zero, List.set_cons_succ]
          refine take_dst (i := 16) (d := 98) (v := .int .i64 ((L.length : Int) + 1)) rfl rfl (by kernel_rfl) (by kernel_rfl) (by kernel_rfl) (fun _ _ _ h => h) (Or.inl ⟨by rfl, ?_⟩) hHeld ?_
          · (intro w0 hSw; (try dsimp only at hSw); go_simp)
          simp only [Act.put, List.setIfInBounds_toArray, List.set_cons_zero, List.set_cons_succ]
          refine take_dst (i := 17) (d := 99) (v := .pointer (some ⟨w1.heap.size, 1, none⟩)) rfl rfl (by kernel_rfl) (by kernel_rfl) (by kernel_rfl) (fun _ _ _ h => h) (Or.inl ⟨by rfl, ?_⟩) hHeld ?_
          · (intro w0 hSw; (try dsimp only at hSw); go_simp)
          simp only [Act.put, List.setIfInBounds_toArray, List.set_cons_zero, List.set_cons_succ]
          refine take_dst (i := 18) (d := 100) (v := .slice la L.length lc) rfl rfl (by kernel_rfl) (by kernel_rfl) (by kernel_rfl) (fun _ _ _ h => h) (Or.inl ⟨by rfl, ?_⟩) hHeld ?_
          · (intro w0 hSw; (try dsimp only at hSw); go_simp)
          simp only [Act.put, List.setIfInBounds_toArray, List.set_cons_zero, List.set_cons_succ]
          refine take_dst (i := 19) (d := 101) (v := .int .i64 L.length) rfl rfl (by kernel_rfl) (by kernel_rfl) (by kernel_rfl) (fun _ _ _ h => h) (Or.inl ⟨by rfl, ?_⟩) hHeld ?_
          · (intro w0 hSw; (try dsimp only at hSw); go_simp)
          simp only [Act.put, List.setIfInBounds_toArray, List.set_cons_zero, List.set_cons_succ]
          refine take_dst (i := 20) (d := 102) (v := .int .i64 ((L.length : Int) + 1)) rfl rfl (by kernel_rfl) (by kernel_rfl) (by kernel_rfl) (fun _ _ _ h => h) (Or.inl ⟨by rfl, ?_⟩) hHeld ?_
          · (intro w0 hSw; (try dsimp only at hSw); go_simp)
          simp only [Act.put, List.setIfInBounds_toArray, List.set_cons_zero, List.set_cons_succ]
          refine take_dst (i := 21) (d := 103) (v := .bool true) rfl rfl (by kernel_rfl) (by kernel_rfl) (by kernel_rfl) (fun _ _ _ h => h) (Or.inl ⟨by rfl, ?_⟩) hHeld ?_
          · (intro w0 hSw; (try dsimp only at hSw); go_simp)
          simp only [Act.put, List.setIfInBounds_toArray, List.set_cons_zero, List.set_cons_succ]
          refine take_dst (i := 22) (d := 104) (v := .bool true) rfl rfl (by kernel_rfl) (by kernel_rfl) (by kernel_rfl) (fun _ _ _ h => h) (Or.inl ⟨by rfl, ?_⟩) hHeld ?_
          · (intro w0 hSw; (try dsimp only at hSw); go_simp)
          simp only [Act.put, List.setIfInBounds_toArray, List.set_cons_zero, List.set_cons_succ]
          refine take_dst (i := 23) (d := 105) (v := .bool true) rfl rfl (by kernel_rfl) (by kernel_rfl) (by kernel_rfl) (fun _ _ _ h => h) (Or.inl ⟨by rfl, ?_⟩) hHeld ?_
          · (intro w0 hSw; (try dsimp only at hSw); go_simp)
          simp only [Act.put, List.setIfInBounds_toArray, List.set_cons_zero, List.set_cons_succ]
          refine take_dst (i := 24) (d := 106) (v := .pointer (some ⟨w2.heap.size, 1, none⟩)) rfl rfl (by kernel_rfl) (by kernel_rfl) (by kernel_rfl) (fun _ _ _ h => h) (Or.inl ⟨by rfl, ?_⟩) hHeld ?_
          · (intro w0 hSw; (try dsimp only at hSw); go_simp)
          simp only [Act.put, List.setIfInBounds_toArray, List.set_cons_zero, List.set_cons_succ]
          refine take_dst (i := 25) (d := 107) (v := .slice (some ⟨xb, xo, none⟩) (L.length + 1) xc) rfl rfl (by kernel_rfl) (by kernel_rfl) (by kernel_rfl) (fun _ _ _ h => h) (Or.inl ⟨by rfl, ?_⟩) hHeld ?_
          · (intro w0 hSw; (try dsimp only at hSw); go_simp)
          simp only [Act.put, List.setIfInBounds_toArray, List.set_cons_zero, List.set_cons_succ]
          refine take_dst (i := 26) (d := 108) (v := .pointer (some ⟨w1.heap.size, 1, none⟩)) rfl rfl (by kernel_rfl) (by kernel_rfl) (by kernel_rfl) (fun _ _ _ h => h) (Or.inl ⟨by rfl, ?_⟩) hHeld ?_
          · (intro w0 hSw; (try dsimp only at hSw); go_simp)
          simp only [Act.put, List.setIfInBounds_toArray, List.set_cons_zero, List.set_cons_succ]
          refine take_dst (i := 27) (d := 109) (v := .slice la L.length lc) rfl rfl (by kernel_rfl) (by kernel_rfl) (by kernel_rfl) (fun _ _ _ h => h) (Or.inl ⟨by rfl, ?_⟩) hHeld ?_
          · (intro w0 hSw; (try dsimp only at hSw); go_simp)
          simp only [Act.put, List.setIfInBounds_toArray, List.set_cons_zero, List.set_cons_succ]
          refine take_dst (i := 28) (d := 110) (v := .int .i64 L.length) rfl rfl (by kernel_rfl) (by kernel_rfl) (by kernel_rfl) (fun _ _ _ h => h) (Or.inl ⟨by rfl, ?_⟩) hHeld ?_
          · (intro w0 hSw; (try dsimp only at hSw); go_simp)
          simp only [Act.put, List.setIfInBounds_toArray, List.set_cons_zero, List.set_cons_succ]
          refine take_dst (i := 29) (d := 111) (v := .pointer (some ⟨xb, xo + L.length, none⟩)) rfl rfl (by kernel_rfl) (by kernel_rfl) (by kernel_rfl) (fun _ _ _ h => h) (Or.inl ⟨by rfl, ?_⟩) hHeld ?_
          · (intro w0 hSw; (try dsimp only at hSw); go_simp)
          simp only [Act.put, List.setIfInBounds_toArray, List.set_cons_zero, List.set_cons_succ]
          refine take_dst (i := 30) (d := 112) (v := .string t) rfl rfl (by kernel_rfl) (by kernel_rfl) (by kernel_rfl) (fun _ _ _ h => h) (Or.inl ⟨by rfl, ?_⟩) hHeld ?_
          · (intro w0 hSw; (try dsimp only at hSw); go_simp)
          simp only [Act.put, List.setIfInBounds_toArray, List.set_cons_zero, List.set_cons_succ]
          refine take_dst (i := 31) (d := 113) (v := .string t) rfl rfl (by kernel_rfl) (by kernel_rfl) (by kernel_rfl) (fun _ _ _ h => h) (Or.inl ⟨by rfl, ?_⟩) hHeld ?_
          · (intro w0 hSw; (try dsimp only at hSw); go_simp)
          simp only [Act.put, List.setIfInBounds_toArray, List.set_cons_zero, List.set_cons_succ]
          refine take_dst (i := 32) (d := 114) (v := .bool true) rfl rfl (by kernel_rfl) (by kernel_rfl) (by kernel_rfl) (fun _ _ _ h => h) (Or.inl ⟨by rfl, ?_⟩) hHeld ?_
          · (intro w0 hSw; (try dsimp only at hSw); go_simp)
          simp only [Act.put, List.setIfInBounds_toArray, List.set_cons_zero, List.set_cons_succ]
          refine take_dst (i := 33) (d := 115) (v := .bool true) rfl rfl (by kernel_rfl) (by kernel_rfl) (by kernel_rfl) (fun _ _ _ h => h) (Or.inl ⟨by rfl, ?_⟩) hHeld ?_
          · (intro w0 hSw; (try dsimp only at hSw); go_simp)
          simp only [Act.put, List.setIfInBounds_toArray, List.set_cons_zero, List.set_cons_succ]
          refine take_dst (i := 34) (d := 116) (v := .bool true) rfl rfl (by kernel_rfl) (by kernel_rfl) (by kernel_rfl) (fun _ _ _ h => h) (Or.inl ⟨by rfl, ?_⟩) hHeld ?_
          · (intro w0 hSw; (try dsimp only at hSw); go_simp)
          simp only [Act.put, List.setIfInBounds_toArray, List.set_cons_zero, List.set_cons_succ]
          refine take_dst (i := 35) (d := 117) (v := .pointer (some ⟨w2.heap.size, 1, none⟩)) rfl rfl (by kernel_rfl) (by kernel_rfl) (by kernel_rfl) (fun _ _ _ h => h) (Or.inl ⟨by rfl, ?_⟩) hHeld ?_
          · (intro w0 hSw; (try dsimp only at hSw); go_simp)
          simp only [Act.put, List.setIfInBounds_toArray, List.set_cons_zero, List.set_cons_succ]
          refine take_dst (i := 36) (d := 118) (v := .slice (some ⟨xb, xo, none⟩) (L.length + 1) xc) rfl rfl (by kernel_rfl) (by kernel_rfl) (by kernel_rfl) (fun _ _ _ h => h) (Or.inl ⟨by rfl, ?_⟩) hHeld ?_
          · (intro w0 hSw; (try dsimp only at hSw); go_simp)
          simp only [Act.put, List.setIfInBounds_toArray, List.set_cons_zero, List.set_cons_succ]
          refine take_dst (i := 37) (d := 119) (v := .pointer (some ⟨w1.heap.size, 1, none⟩)) rfl rfl (by kernel_rfl) (by kernel_rfl) (by kernel_rfl) (fun _ _ _ h => h) (Or.inl ⟨by rfl, ?_⟩) hHeld ?_
          · (intro w0 hSw; (try dsimp only at hSw); go_simp)
          simp only [Act.put, List.setIfInBounds_toArray, List.set_cons_zero, List.set_cons_succ]
          refine take_dst (i := 38) (d := 120) (v := .slice la L.length lc) rfl rfl (by kernel_rfl) (by kernel_rfl) (by kernel_rfl) (fun _ _ _ h => h) (Or.inl ⟨by rfl, ?_⟩) hHeld ?_
          · (intro w0 hSw; (try dsimp only at hSw); go_simp)
          simp only [Act.put, List.setIfInBounds_toArray, List.set_cons_zero, List.set_cons_succ]
          refine take_dst (i := 39) (d := 121) (v := .int .i64 L.length) rfl rfl (by kernel_rfl) (by kernel_rfl) (by kernel_rfl) (fun _ _ _ h => h) (Or.inl ⟨by rfl, ?_⟩) hHeld ?_
          · (intro w0 hSw; (try dsimp only at hSw); go_simp)
          simp only [Act.put, List.setIfInBounds_toArray, List.set_cons_zero, List.set_cons_succ]
          refine take_dst (i := 40) (d := 122) (v := .slice (some ⟨xb, xo, none⟩) L.length xc) rfl rfl (by kernel_rfl) (by kernel_rfl) (by kernel_rfl) (fun _ _ _ h => h) (Or.inl ⟨by rfl, ?_⟩) hHeld ?_
          · (intro w0 hSw; (try dsimp only at hSw); go_simp)
          simp only [Act.put, List.setIfInBounds_toArray, List.set_cons_zero, List.set_cons_succ]
          refine take_dst (i := 41) (d := 123) (v := .pointer (some ⟨w1.heap.size, 1, none⟩)) rfl rfl (by kernel_rfl) (by kernel_rfl) (by kernel_rfl) (fun _ _ _ h => h) (Or.inl ⟨by rfl, ?_⟩) hHeld ?_
          · (intro w0 hSw; (try dsimp only at hSw); go_simp)
          simp only [Act.put, List.setIfInBounds_toArray, List.set_cons_zero, List.set_cons_succ]
          refine take_dst (i := 42) (d := 124) (v := .slice la L.length lc) rfl rfl (by kernel_rfl) (by kernel_rfl) (by kernel_rfl) (fun _ _ _ h => h) (Or.inl ⟨by rfl, ?_⟩) hHeld ?_
          · (intro w0 hSw; (try dsimp only at hSw); go_simp)
          simp only [Act.put, List.setIfInBounds_toArray, List.set_cons_zero, List.set_cons_succ]
          refine wpAnyH_ready (rs := [43]) (by kernel_rfl) (by simp) (AllReadyH.cons rfl (fun KK hK => ?_) AllReadyH.nil)
          refine step_calls_on (by rfl) 125 rfl 24 [.tmp 122, .tmp 124] #[22, 22] rfl [.slice (some ⟨xb, xo, none⟩) L.length xc, .slice la L.length lc] rfl (enters_of Try.func24 (by kernel_rfl) rfl) (fun v w' => v = .bool true ∧ Below W6.heap.size W6 w') (HST.mono (fun e w2 h => ⟨_, h.1, rfl, below_drew h.2⟩)) ?_
          rintro v w7 ⟨rfl, hb7⟩
          have i0 := (hb7.block _ (lt_of_heap h0)).trans h0
          have iX := (hb7.block _ (lt_of_heap hX)).trans hX
          refine hK.out _ _ ⟨cells_at i0 0 _ rfl, cells_at i0 1 _ rfl, cells_at iX 0 _ rfl, cells_at iX 1 _ rfl, (hb7.cell (p := ⟨xb, xo + L.length, none⟩) (block_lt_of_cell xk)).trans xk⟩ (fun hHeld => ?_)
          simp only [Act.put, List.setIfInBounds_toArray, List.set_cons_zero, List.set_cons_succ]
          refine take_dst (i := 44) (d := 126) (v := .bool true) rfl rfl (by kernel_rfl) (by kernel_rfl) (by kernel_rfl) (fun _ _ _ h => h) (Or.inl ⟨by rfl, ?_⟩) hHeld ?_
          · (intro w0 hSw; (try dsimp only at hSw); go_simp)
          simp only [Act.put, List.setIfInBounds_toArray, List.set_cons_zero, List.set_cons_succ]
          refine take_dst (i := 45) (d := 4) (v := .bool true) rfl rfl (by kernel_rfl) (by kernel_rfl) (by kernel_rfl) (fun _ _ _ h => h) (Or.inl ⟨by rfl, ?_⟩) hHeld ?_
          · (intro w0 hSw; (try dsimp only at hSw); go_simp)
          simp only [Act.put, List.setIfInBounds_toArray, List.set_cons_zero, List.set_cons_succ]
          refine wpAnyH_done (by kernel_rfl) ?_ _
          go_wp2_with fail
          go_ret
          exact ⟨by rfl, hB6.trans (hb7.mono hB6.size)⟩
end Go.Proofs.Ytikolpdedmhljaa
