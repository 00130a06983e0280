/- The walk of SealFirst. -/
import Derived.Test.YtikolpdedmhljaaKHead
import Derived.Test.YtikolpdedmhljaaOpenP
import Derived.Test.YtikolpdedmhljaaCBatch
import Derived.Test.YtikolpdedmhljaaSameTx
import Derived.Test.YtikolpdedmhljaaCalls
namespace Go.Proofs.Ytikolpdedmhljaa
open Go.RowKit

set_option maxRecDepth 100000 in
theorem batchF_zero {au nu : Int} {ss : List ByteArray} (h1 : 0 ≤ au ∧ au < 4) (h2 : 1 ≤ nu ∧ nu ≤ 1048576) (h3 : 1 ≤ ss.length) (h4 : ss.length ≤ 4) (h5 : poolOk ss = true) : batchF au nu ss = 0 := by
  rw [batchF, if_neg (by omega), if_neg (by omega), if_pos]
  rw [List.all_eq_true]
  exact (poolOk_iff.1 h5).1
set_option maxRecDepth 100000 in
theorem poolOk_take {ss : List ByteArray} (h : poolOk ss = true) (k : Nat) : poolOk (ss.take k) = true := by
  obtain ⟨h1, h2⟩ := poolOk_iff.1 h
  exact poolOk_iff.2 ⟨fun s hs => h1 s (List.mem_of_mem_take hs), h2.sublist (List.take_sublist k ss)⟩
set_option maxRecDepth 100000 in
set_option maxHeartbeats 1000000 in
theorem sealFirst_walk (sa : Option Addr) (cap : Nat) (ss : List ByteArray) (au : Int) (nr : Int) (w : World) (hs : TextsAt w sa cap ss) (ha1 : -9223372036854775808 ≤ au) (ha2 : au ≤ 9223372036854775807) (hn1 : -9223372036854775808 ≤ nr) (hn2 : nr ≤ 9223372036854775807) :
    Calls Try.prog 7 #[.slice sa ss.length cap, .int .i64 au, .int .i64 nr] w fun e w' => e = .returned (.bool true) ∧ Below w.heap.size w w' := by
  obtain ⟨pn0, pn1⟩ := pk_bounds nr 99 (by decide)
  obtain ⟨pa0, pa1⟩ := pk_bounds au 4 (by decide)
  go_enter Try.func7, Try.ntmps7
  go_wp2_with fail
  refine (pool_raw ss sa _ cap nr w rfl hs.txs ⟨hn1, hn2⟩).mono ?_
  rintro e w1 ⟨v1, he, ho1, hb1⟩
  have hLl := poolL_len ss
  have hLk := poolL_ok ss
  generalize poolL ss = L at *
  have hN1 : 1 ≤ 1 + pk nr 99 := by omega
  have hN2 : 1 + pk nr 99 ≤ 99 := by omega
  clear pn0 pn1
  generalize 1 + pk nr 99 = nx at *
  subst he
  dsimp only
  obtain ⟨la, lc, hv, -, hT1, -⟩ := txsAt_of_owns ho1 (ok_size hLk)
  subst hv
  have hA1 : Below w1.heap.size w1 (w1.alloc (.cells #[.int .i64 nx, .slice la L.length lc] 24)) := (Below.refl _ _).alloc (Nat.le_refl _) _
  have p0 := heap_alloc_new w1 (.cells #[.int .i64 nx, .slice la L.length lc] 24)
  have hw : IntKind.i64.wrap (nx + 1) = nx + 1 := by rw [IntKind.wrap_i64]; omega
  go_wp2_with (go_at_call 25; refine (picked_any _ _ _ ha1 ha2 (by omega) (by omega)).mono ?_; rintro e w9 ⟨rfl, rfl⟩)
  have HN : Hid (0 ≤ pk au 4 ∧ pk au 4 < 4) := ⟨pa0, pa1⟩
  generalize pk au 4 = nd at *
  clear pa0 pa1
  generalize w1.alloc (.cells #[.int .i64 nx, .slice la L.length lc] 24) = W1 at hA1 p0 ⊢
  have hB1 := hb1.trans (hA1.mono hb1.size)
  have hTW := hT1.below hA1
  have HE2 := sealF_node (nx := nx) (au := 4) (ss := L) hN1 (by omega) (by omega) hLk (by omega)
  by_cases hL0 : L.length = 0
  · have hE := sealF_none (nx := nx) (au := nd) hN1 (by omega) hLk hL0 HN.out
    obtain rfl := List.eq_nil_of_length_eq_zero hL0
    clear hL0
    refine (seal_bad nx la 0 lc [] nd W1 8 rfl hTW hE (by omega)).mono ?_
    rintro e w2 ⟨xa, xc, ba, bc, he, hb2⟩
    subst he
    dsimp only
    have hA2 : Below w2.heap.size w2 ((w2.alloc (.cells #[.int .i64 0, .slice xa 0 xc] 24)).alloc (.cells #[.int .i64 0, .int .i64 0, .slice ba 0 bc] 34)) := ((Below.refl _ _).alloc (Nat.le_refl _) _).alloc (by simp) _
    have hbW := hb2.trans (hA2.mono hb2.size)
    have q0 := (hbW.block _ (lt_of_heap p0)).trans p0
    have c0 : ((w2.alloc (.cells #[.int .i64 0, .slice xa 0 xc] 24)).alloc (.cells #[.int .i64 0, .int .i64 0, .slice ba 0 bc] 34)).cell? ⟨w1.heap.size, 0, none⟩ = some (.int .i64 nx) := cells_at q0 0 _ rfl
    have c1 : ((w2.alloc (.cells #[.int .i64 0, .slice xa 0 xc] 24)).alloc (.cells #[.int .i64 0, .int .i64 0, .slice ba 0 bc] 34)).cell? ⟨w1.heap.size, 1, none⟩ = some (.slice la 0 lc) := cells_at q0 1 _ rfl
    have qB := heap_alloc2_new w2 (.cells #[.int .i64 0, .slice xa 0 xc] 24) (.cells #[.int .i64 0, .int .i64 0, .slice ba 0 bc] 34)
    go_wp2_with fail
    generalize (w2.alloc (.cells #[.int .i64 0, .slice xa 0 xc] 24)).alloc (.cells #[.int .i64 0, .int .i64 0, .slice ba 0 bc] 34) = W2 at hA2 hbW q0 c0 c1 qB ⊢
    have hB2 := hB1.trans (hbW.mono hB1.size)
    refine (seal_bad nx la 0 lc [] 4 W2 2 rfl (hTW.below hbW) HE2 (by omega)).mono ?_
    rintro e w3 ⟨ya, yc, za, zc, he, hb3⟩
    subst he
    dsimp only
    have hA3 : Below w3.heap.size w3 ((w3.alloc (.cells #[.int .i64 0, .slice ya 0 yc] 24)).alloc (.cells #[.int .i64 0, .int .i64 0, .slice za 0 zc] 34)) := ((Below.refl _ _).alloc (Nat.le_refl _) _).alloc (by simp) _
    have hbX := hb3.trans (hA3.mono hb3.size)
    have s0 := (hbX.block _ (lt_of_heap q0)).trans q0
    have sB := (hbX.block _ (lt_of_heap qB)).trans qB
    have e1 : ((w3.alloc (.cells #[.int .i64 0, .slice ya 0 yc] 24)).alloc (.cells #[.int .i64 0, .int .i64 0, .slice za 0 zc] 34)).cell? ⟨w1.heap.size, 1, none⟩ = some (.slice la 0 lc) := cells_at s0 1 _ rfl
    have b2 : ((w3.alloc (.cells #[.int .i64 0, .slice ya 0 yc] 24)).alloc (.cells #[.int .i64 0, .int .i64 0, .slice za 0 zc] 34)).cell? ⟨w2.heap.size + 1, 2, none⟩ = some (.slice ba 0 bc) := cells_at sB 2 _ rfl
    clear c0 c1
    go_wp2_with fail
    go_ret
    exact ⟨by rfl, hB2.trans (hbX.mono hB2.size)⟩
  · have hE := sealF_zero (nx := nx) (au := nd) hN1 (by omega) (by omega) hLk hL0 HN.out
    refine (seal_good nx la _ lc L nd W1 rfl hTW hE (ok_size hLk)).mono ?_
    rintro e w2 ⟨xa, xc, ba, bc, he, hX2, hY2, hb2⟩
    generalize hE4 : (L.take 4).length = E4 at *
    generalize hD4 : (L.drop 4).length = D4 at *
    have HE4 : Hid ((L.take 4).length = E4) := hE4
    have HD4 : Hid ((L.drop 4).length = D4) := hD4
    clear hE4 hD4
    subst he
    dsimp only
    have hA2 : Below w2.heap.size w2 ((w2.alloc (.cells #[.int .i64 (nx + 1), .slice xa D4 xc] 24)).alloc (.cells #[.int .i64 nd, .int .i64 nx, .slice ba E4 bc] 34)) := ((Below.refl _ _).alloc (Nat.le_refl _) _).alloc (by simp) _
    have hbW := hb2.trans (hA2.mono hb2.size)
    have q0 := (hbW.block _ (lt_of_heap p0)).trans p0
    have c0 := cells_at q0 0 _ rfl
    have c1 := cells_at q0 1 _ rfl
    have qX := heap_alloc2_old w2 (.cells #[.int .i64 (nx + 1), .slice xa D4 xc] 24) (.cells #[.int .i64 nd, .int .i64 nx, .slice ba E4 bc] 34)
    have qB := heap_alloc2_new w2 (.cells #[.int .i64 (nx + 1), .slice xa D4 xc] 24) (.cells #[.int .i64 nd, .int .i64 nx, .slice ba E4 bc] 34)
    go_wp2_with fail
    generalize (w2.alloc (.cells #[.int .i64 (nx + 1), .slice xa D4 xc] 24)).alloc (.cells #[.int .i64 nd, .int .i64 nx, .slice ba E4 bc] 34) = W2 at hA2 hbW q0 c0 c1 qX qB ⊢
    have hB2 := hB1.trans (hbW.mono hB1.size)
    refine (seal_bad nx la _ lc L 4 W2 2 rfl (hTW.below hbW) HE2 (by omega)).mono ?_
    rintro e w3 ⟨ya, yc, za, zc, he, hb3⟩
    subst he
    dsimp only
    have hA3 : Below w3.heap.size w3 ((w3.alloc (.cells #[.int .i64 0, .slice ya 0 yc] 24)).alloc (.cells #[.int .i64 0, .int .i64 0, .slice za 0 zc] 34)) := ((Below.refl _ _).alloc (Nat.le_refl _) _).alloc (by simp) _
    have hbX := hb3.trans (hA3.mono hb3.size)
    have s0 := (hbX.block _ (lt_of_heap q0)).trans q0
    have sX := (hbX.block _ (lt_of_heap qX)).trans qX
    have sB := (hbX.block _ (lt_of_heap qB)).trans qB
    have e0 := cells_at s0 0 _ rfl
    have e1 := cells_at s0 1 _ rfl
    clear c0 c1
    have hL0I : ((L.length : Int) == 0) = false := beq_eq_false_iff_ne.2 (by omega)
    obtain ⟨K, hK⟩ : ∃ K, K = min L.length 4 := ⟨_, rfl⟩
    have hle := hT1.le
    have hTK : Hid (L.take 4 = L.take K ∧ (L.take 4).length = K) := by
      refine ⟨?_, by rw [List.length_take]; omega⟩
      rw [hK]
      by_cases h : L.length ≤ 4
      · rw [Nat.min_eq_left h, List.take_of_length_le h, List.take_of_length_le (Nat.le_refl _)]
      · rw [Nat.min_eq_right (by omega)]
    have hDK : Hid (L.drop 4 = L.drop K ∧ (L.drop 4).length = L.length - K) := by
      refine ⟨?_, by rw [List.length_drop]; omega⟩
      rw [hK]
      by_cases h : L.length ≤ 4
      · rw [Nat.min_eq_left h, List.drop_of_length_le h, List.drop_of_length_le (Nat.le_refl _)]
      · rw [Nat.min_eq_right (by omega)]
    have hK1 : K ≤ L.length := by omega
    have hKI : (K : Int) ≤ lc := by omega
    have hK0 : (0 : Int) ≤ K := by omega
    have hKl : (K : Int) ≤ L.length := by omega
    go_upto_region 9 with fail
    generalize (w3.alloc (.cells #[.int .i64 0, .slice ya 0 yc] 24)).alloc (.cells #[.int .i64 0, .int .i64 0, .slice za 0 zc] 34) = W3 at hA3 hbX s0 sX sB e0 e1 ⊢
    have hB3 := hB2.trans (hbX.mono hB2.size)
    have hX3 := (hX2.below hA2).below hbX
    have hY3 := (hY2.below hA2).below hbX
    have hT3 := (hTW.below hbW).below hbX
    obtain ⟨sb, so, rfl⟩ : ∃ sb so, la = some ⟨sb, so, none⟩ := by
      rcases hT1.strs.cells with h | ⟨sb, so, h, _⟩
      · rw [h] at hL0; simp at hL0
      · exact ⟨sb, so, h⟩
    have hK4 : 1 ≤ K ∧ K ≤ 4 := by omega
    have HT4 : Hid ((L.take 4).length = K) := hTK.out.2
    have HCB : Hid (∀ W : World, Below W3.heap.size W3 W → Calls Try.prog 26 #[.agg #[.int .i64 nd, .int .i64 nx, .slice ba E4 bc]] W fun e w' => e = .returned (.int .i64 0) ∧ Below W.heap.size W w') := by
      show ∀ _, _
      intro W hW
      have := checkBatch_any nd nx ba E4 bc (L.take 4) W HE4.out.symm (by rw [← HE4.out, hTK.out.2]; unfold maxLen; omega) (hY3.strs.below hW)
      rw [batchF_zero HN.out (by omega) (by rw [hTK.out.2]; omega) (by rw [hTK.out.2]; omega) (poolOk_take hLk 4)] at this
      exact this
    have HS1 : Hid (∀ W : World, Below W3.heap.size W3 W → Calls Try.prog 24 #[.slice ba E4 bc, .slice (some ⟨sb, so, none⟩) K lc] W fun e w' => e = .returned (.bool true) ∧ Below W.heap.size W w') := by
      show ∀ _, _
      intro W hW
      have := sameTexts_any (L.take 4) (L.take K) ba (some ⟨sb, so, none⟩) E4 K bc lc W HE4.out.symm (by rw [List.length_take]; omega) (by rw [← HE4.out, hTK.out.2]; omega) (by omega) (hY3.strs.below hW) ((hT3.strs.below hW).take K)
      rw [decide_eq_true hTK.out.1] at this
      exact this
    have HS2 : Hid (∀ (W : World) (A : Option Addr) (m c : Nat), Below W3.heap.size W3 W → m = L.length - K → (A = some ⟨sb, so + K, none⟩ ∨ L.length = K) → Calls Try.prog 24 #[.slice xa D4 xc, .slice A m c] W fun e w' => e = .returned (.bool true) ∧ Below W.heap.size W w') := by
      show ∀ _, _
      intro W A m c hW hm hA2
      have hst : StrsAt W A (L.drop K) := by
        rcases hA2 with rfl | h
        · exact (hT3.strs.below hW).drop K
        · rw [List.drop_of_length_le (by omega)]; exact ⟨.inl rfl, fun s h => by cases h⟩
      have := sameTexts_any (L.drop 4) (L.drop K) xa A D4 m xc c W HD4.out.symm (by rw [List.length_drop]; exact hm) (by rw [← HD4.out, hDK.out.2]; omega) (by omega) (hX3.strs.below hW) hst
      rw [decide_eq_true hDK.out.1] at this
      exact this
    clear hX3 hY3 hT3 hX2 hY2 hT1 hTW hE HE2 hL0 hTK hDK
    go_cut [15] (fun v wx => v = .int .i64 (K : Int) ∧ W3 = wx)
    case first =>
      by_cases h : L.length ≤ 4
      · have h4 : (L.length : Int) ≤ 4 := by omega
        have hE : Hid ((L.length : Int) = K) := by show _ = _; omega
        clear hK h hK1 hKI hKl hK4
        go_wp2_with fail
        go_meet
        case rel => exact ⟨by rw [← hE.out], rfl⟩
      · have h4 : ¬ (L.length : Int) ≤ 4 := by omega
        have hE : Hid ((4 : Int) = K) := by show _ = _; omega
        clear hK h hK1 hKI hKl hK4
        go_wp2_with fail
        go_meet
        case rel => exact ⟨by rw [← hE.out], rfl⟩
    case rest =>
      obtain ⟨rfl, rfl⟩ := hcut
      clear hK
      have x0 : W3.cell? ⟨w2.heap.size, 0, none⟩ = some (.int .i64 (nx + 1)) := cells_at sX 0 _ rfl
      have x1 : W3.cell? ⟨w2.heap.size, 1, none⟩ = some (.slice xa D4 xc) := cells_at sX 1 _ rfl
      have b0 : W3.cell? ⟨w2.heap.size + 1, 0, none⟩ = some (.int .i64 nd) := cells_at sB 0 _ rfl
      have b1 : W3.cell? ⟨w2.heap.size + 1, 1, none⟩ = some (.int .i64 nx) := cells_at sB 1 _ rfl
      have b2 : W3.cell? ⟨w2.heap.size + 1, 2, none⟩ = some (.slice ba E4 bc) := cells_at sB 2 _ rfl
      go_upto_region 10 with fail
      have hlcK : lc - K = lc - K := rfl
      clear hlcK
      by_cases hcap : lc = K
      · skip
        refine wp_region_held_drew (S := (fun w' => w'.cell? ⟨w1.heap.size, 0, none⟩ = some (.int .i64 nx) ∧ w'.cell? ⟨w1.heap.size, 1, none⟩ = some (.slice (some ⟨sb, so, none⟩) L.length lc) ∧ w'.cell? ⟨w2.heap.size, 0, none⟩ = some (.int .i64 (nx + 1)) ∧ w'.cell? ⟨w2.heap.size, 1, none⟩ = some (.slice xa D4 xc) ∧ w'.cell? ⟨w2.heap.size + 1, 0, none⟩ = some (.int .i64 nd) ∧ w'.cell? ⟨w2.heap.size + 1, 1, none⟩ = some (.int .i64 nx) ∧ w'.cell? ⟨w2.heap.size + 1, 2, none⟩ = some (.slice ba E4 bc))) (by kernel_rfl) ⟨e0, e1, x0, x1, b0, b1, b2⟩ (fun hHeld => ?_)
        refine take_dst (i := 0) (d := 52) (v := .int .i64 0) rfl rfl (by kernel_rfl) (by kernel_rfl) (by kernel_rfl) (fun _ _ _ h => h) (Or.inl ⟨by rfl, ?_⟩) hHeld ?_
        · (intro w0 hSw; (try dsimp only at hSw); go_simp)
        simp only [Act.put, List.setIfInBounds_toArray, List.set_cons_zero, List.set_cons_succ]
        refine take_dst (i := 1) (d := 53) (v := .bool true) rfl rfl (by kernel_rfl) (by kernel_rfl) (by kernel_rfl) (fun _ _ _ h => h) (Or.inl ⟨by rfl, ?_⟩) hHeld ?_
        · (intro w0 hSw; (try dsimp only at hSw); go_simp)
        simp only [Act.put, List.setIfInBounds_toArray, List.set_cons_zero, List.set_cons_succ]
        refine take_dst (i := 2) (d := 54) (v := .bool true) rfl rfl (by kernel_rfl) (by kernel_rfl) (by kernel_rfl) (fun _ _ _ h => h) (Or.inl ⟨by rfl, ?_⟩) hHeld ?_
        · (intro w0 hSw; (try dsimp only at hSw); go_simp)
        simp only [Act.put, List.setIfInBounds_toArray, List.set_cons_zero, List.set_cons_succ]
        refine take_dst (i := 3) (d := 55) (v := .agg #[.int .i64 nd, .int .i64 nx, .slice ba E4 bc]) rfl rfl (by kernel_rfl) (by kernel_rfl) (by kernel_rfl) (fun _ _ _ h => h) (Or.inl ⟨by rfl, ?_⟩) hHeld ?_
        · (intro w0 hSw; (try dsimp only at hSw); go_simp)
        simp only [Act.put, List.setIfInBounds_toArray, List.set_cons_zero, List.set_cons_succ]
        refine wpAnyH_ready (rs := [4]) (by kernel_rfl) (by simp) (AllReadyH.cons rfl (fun KK hK => ?_) AllReadyH.nil)
        refine step_calls_on (by rfl) 56 rfl 26 [.tmp 55] #[34] rfl [.agg #[.int .i64 nd, .int .i64 nx, .slice ba E4 bc]] rfl (enters_of Try.func26 (by kernel_rfl) rfl) (fun v w' => v = .int .i64 0 ∧ Below W3.heap.size W3 w') ((HCB.out _ ((Below.refl _ _).drew)).mono (fun e w2 h => ⟨_, h.1, rfl, below_drew h.2⟩)) ?_
        rintro v w4 ⟨rfl, hb4⟩
        have t04 := (hb4.block _ (lt_of_heap s0)).trans s0
        have tX4 := (hb4.block _ (lt_of_heap sX)).trans sX
        have tB4 := (hb4.block _ (lt_of_heap sB)).trans sB
        refine hK.out _ _ ⟨cells_at t04 0 _ rfl, cells_at t04 1 _ rfl, cells_at tX4 0 _ rfl, cells_at tX4 1 _ rfl, cells_at tB4 0 _ rfl, cells_at tB4 1 _ rfl, cells_at tB4 2 _ rfl⟩ (fun hHeld => ?_)
        simp only [Act.put, List.setIfInBounds_toArray, List.set_cons_zero, List.set_cons_succ]
        refine take_dst (i := 5) (d := 57) (v := .bool true) rfl rfl (by kernel_rfl) (by kernel_rfl) (by kernel_rfl) (fun _ _ _ h => h) (Or.inl ⟨by rfl, ?_⟩) hHeld ?_
        · (intro w0 hSw; (try dsimp only at hSw); go_simp)
        simp only [Act.put, List.setIfInBounds_toArray, List.set_cons_zero, List.set_cons_succ]
        refine take_dst (i := 6) (d := 58) (v := .bool true) rfl rfl (by kernel_rfl) (by kernel_rfl) (by kernel_rfl) (fun _ _ _ h => h) (Or.inl ⟨by rfl, ?_⟩) hHeld ?_
        · (intro w0 hSw; (try dsimp only at hSw); go_simp)
        simp only [Act.put, List.setIfInBounds_toArray, List.set_cons_zero, List.set_cons_succ]
        refine take_dst (i := 7) (d := 59) (v := .bool true) rfl rfl (by kernel_rfl) (by kernel_rfl) (by kernel_rfl) (fun _ _ _ h => h) (Or.inl ⟨by rfl, ?_⟩) hHeld ?_
        · (intro w0 hSw; (try dsimp only at hSw); go_simp)
        simp only [Act.put, List.setIfInBounds_toArray, List.set_cons_zero, List.set_cons_succ]
        refine take_dst (i := 8) (d := 60) (v := .pointer (some ⟨w2.heap.size + 1, 0, none⟩)) rfl rfl (by kernel_rfl) (by kernel_rfl) (by kernel_rfl) (fun _ _ _ h => h) (Or.inl ⟨by rfl, ?_⟩) hHeld ?_
        · (intro w0 hSw; (try dsimp only at hSw); go_simp)
        simp only [Act.put, List.setIfInBounds_toArray, List.set_cons_zero, List.set_cons_succ]
        refine take_dst (i := 9) (d := 61) (v := .int .i64 nd) rfl rfl (by kernel_rfl) (by kernel_rfl) (by kernel_rfl) (fun _ _ _ h => h) (Or.inl ⟨by rfl, ?_⟩) hHeld ?_
        · (intro w0 hSw; (try dsimp only at hSw); go_simp)
        simp only [Act.put, List.setIfInBounds_toArray, List.set_cons_zero, List.set_cons_succ]
        refine take_dst (i := 10) (d := 62) (v := .int .i64 nd) rfl rfl (by kernel_rfl) (by kernel_rfl) (by kernel_rfl) (fun _ _ _ h => h) (Or.inl ⟨by rfl, ?_⟩) hHeld ?_
        · (intro w0 hSw; (try dsimp only at hSw); go_simp)
        simp only [Act.put, List.setIfInBounds_toArray, List.set_cons_zero, List.set_cons_succ]
        refine take_dst (i := 11) (d := 63) (v := .bool true) rfl rfl (by kernel_rfl) (by kernel_rfl) (by kernel_rfl) (fun _ _ _ h => h) (Or.inl ⟨by rfl, ?_⟩) hHeld ?_
        · (intro w0 hSw; (try dsimp only at hSw); go_simp)
        simp only [Act.put, List.setIfInBounds_toArray, List.set_cons_zero, List.set_cons_succ]
        refine take_dst (i := 12) (d := 64) (v := .bool true) rfl rfl (by kernel_rfl) (by kernel_rfl) (by kernel_rfl) (fun _ _ _ h => h) (Or.inl ⟨by rfl, ?_⟩) hHeld ?_
        · (intro w0 hSw; (try dsimp only at hSw); go_simp)
        simp only [Act.put, List.setIfInBounds_toArray, List.set_cons_zero, List.set_cons_succ]
        refine take_dst (i := 13) (d := 65) (v := .bool true) rfl rfl (by kernel_rfl) (by kernel_rfl) (by kernel_rfl) (fun _ _ _ h => h) (Or.inl ⟨by rfl, ?_⟩) hHeld ?_
        · (intro w0 hSw; (try dsimp only at hSw); go_simp)
        simp only [Act.put, List.setIfInBounds_toArray, List.set_cons_zero, List.set_cons_succ]
        refine take_dst (i := 14) (d := 66) (v := .pointer (some ⟨w2.heap.size + 1, 1, none⟩)) rfl rfl (by kernel_rfl) (by kernel_rfl) (by kernel_rfl) (fun _ _ _ h => h) (Or.inl ⟨by rfl, ?_⟩) hHeld ?_
        · (intro w0 hSw; (try dsimp only at hSw); go_simp)
        simp only [Act.put, List.setIfInBounds_toArray, List.set_cons_zero, List.set_cons_succ]
        refine take_dst (i := 15) (d := 67) (v := .int .i64 nx) rfl rfl (by kernel_rfl) (by kernel_rfl) (by kernel_rfl) (fun _ _ _ h => h) (Or.inl ⟨by rfl, ?_⟩) hHeld ?_
        · (intro w0 hSw; (try dsimp only at hSw); go_simp)
        simp only [Act.put, List.setIfInBounds_toArray, List.set_cons_zero, List.set_cons_succ]
        refine take_dst (i := 16) (d := 68) (v := .pointer (some ⟨w1.heap.size, 0, none⟩)) rfl rfl (by kernel_rfl) (by kernel_rfl) (by kernel_rfl) (fun _ _ _ h => h) (Or.inl ⟨by rfl, ?_⟩) hHeld ?_
        · (intro w0 hSw; (try dsimp only at hSw); go_simp)
        simp only [Act.put, List.setIfInBounds_toArray, List.set_cons_zero, List.set_cons_succ]
        refine take_dst (i := 17) (d := 69) (v := .int .i64 nx) rfl rfl (by kernel_rfl) (by kernel_rfl) (by kernel_rfl) (fun _ _ _ h => h) (Or.inl ⟨by rfl, ?_⟩) hHeld ?_
        · (intro w0 hSw; (try dsimp only at hSw); go_simp)
        simp only [Act.put, List.setIfInBounds_toArray, List.set_cons_zero, List.set_cons_succ]
        refine take_dst (i := 18) (d := 70) (v := .bool true) rfl rfl (by kernel_rfl) (by kernel_rfl) (by kernel_rfl) (fun _ _ _ h => h) (Or.inl ⟨by rfl, ?_⟩) hHeld ?_
        · (intro w0 hSw; (try dsimp only at hSw); go_simp)
        simp only [Act.put, List.setIfInBounds_toArray, List.set_cons_zero, List.set_cons_succ]
        refine take_dst (i := 19) (d := 71) (v := .bool true) rfl rfl (by kernel_rfl) (by kernel_rfl) (by kernel_rfl) (fun _ _ _ h => h) (Or.inl ⟨by rfl, ?_⟩) hHeld ?_
        · (intro w0 hSw; (try dsimp only at hSw); go_simp)
        simp only [Act.put, List.setIfInBounds_toArray, List.set_cons_zero, List.set_cons_succ]
        refine take_dst (i := 20) (d := 72) (v := .bool true) rfl rfl (by kernel_rfl) (by kernel_rfl) (by kernel_rfl) (fun _ _ _ h => h) (Or.inl ⟨by rfl, ?_⟩) hHeld ?_
        · (intro w0 hSw; (try dsimp only at hSw); go_simp)
        simp only [Act.put, List.setIfInBounds_toArray, List.set_cons_zero, List.set_cons_succ]
        refine take_dst (i := 21) (d := 73) (v := .pointer (some ⟨w2.heap.size, 0, none⟩)) rfl rfl (by kernel_rfl) (by kernel_rfl) (by kernel_rfl) (fun _ _ _ h => h) (Or.inl ⟨by rfl, ?_⟩) hHeld ?_
        · (intro w0 hSw; (try dsimp only at hSw); go_simp)
        simp only [Act.put, List.setIfInBounds_toArray, List.set_cons_zero, List.set_cons_succ]
        refine take_dst (i := 22) (d := 74) (v := .int .i64 (nx + 1)) rfl rfl (by kernel_rfl) (by kernel_rfl) (by kernel_rfl) (fun _ _ _ h => h) (Or.inl ⟨by rfl, ?_⟩) hHeld ?_
        · (intro w0 hSw; (try dsimp only at hSw); go_simp)
        simp only [Act.put, List.setIfInBounds_toArray, List.set_cons_zero, List.set_cons_succ]
        refine take_dst (i := 23) (d := 75) (v := .pointer (some ⟨w1.heap.size, 0, none⟩)) rfl rfl (by kernel_rfl) (by kernel_rfl) (by kernel_rfl) (fun _ _ _ h => h) (Or.inl ⟨by rfl, ?_⟩) hHeld ?_
        · (intro w0 hSw; (try dsimp only at hSw); go_simp)
        simp only [Act.put, List.setIfInBounds_toArray, List.set_cons_zero, List.set_cons_succ]
        refine take_dst (i := 24) (d := 76) (v := .int .i64 nx) rfl rfl (by kernel_rfl) (by kernel_rfl) (by kernel_rfl) (fun _ _ _ h => h) (Or.inl ⟨by rfl, ?_⟩) hHeld ?_
        · (intro w0 hSw; (try dsimp only at hSw); go_simp)
        simp only [Act.put, List.setIfInBounds_toArray, List.set_cons_zero, List.set_cons_succ]
        refine take_dst (i := 25) (d := 77) (v := .int .i64 (nx + 1)) rfl rfl (by kernel_rfl) (by kernel_rfl) (by kernel_rfl) (fun _ _ _ h => h) (Or.inl ⟨by rfl, ?_⟩) hHeld ?_
        · (intro w0 hSw; (try dsimp only at hSw); go_simp)
        simp only [Act.put, List.setIfInBounds_toArray, List.set_cons_zero, List.set_cons_succ]
        refine take_dst (i := 26) (d := 78) (v := .bool true) rfl rfl (by kernel_rfl) (by kernel_rfl) (by kernel_rfl) (fun _ _ _ h => h) (Or.inl ⟨by rfl, ?_⟩) hHeld ?_
        · (intro w0 hSw; (try dsimp only at hSw); go_simp)
        simp only [Act.put, List.setIfInBounds_toArray, List.set_cons_zero, List.set_cons_succ]
        refine take_dst (i := 27) (d := 79) (v := .bool true) rfl rfl (by kernel_rfl) (by kernel_rfl) (by kernel_rfl) (fun _ _ _ h => h) (Or.inl ⟨by rfl, ?_⟩) hHeld ?_
        · (intro w0 hSw; (try dsimp only at hSw); go_simp)
        simp only [Act.put, List.setIfInBounds_toArray, List.set_cons_zero, List.set_cons_succ]
        refine take_dst (i := 28) (d := 80) (v := .bool true) rfl rfl (by kernel_rfl) (by kernel_rfl) (by kernel_rfl) (fun _ _ _ h => h) (Or.inl ⟨by rfl, ?_⟩) hHeld ?_
        · (intro w0 hSw; (try dsimp only at hSw); go_simp)
        simp only [Act.put, List.setIfInBounds_toArray, List.set_cons_zero, List.set_cons_succ]
        refine take_dst (i := 29) (d := 81) (v := .pointer (some ⟨w2.heap.size + 1, 2, none⟩)) rfl rfl (by kernel_rfl) (by kernel_rfl) (by kernel_rfl) (fun _ _ _ h => h) (Or.inl ⟨by rfl, ?_⟩) hHeld ?_
        · (intro w0 hSw; (try dsimp only at hSw); go_simp)
        simp only [Act.put, List.setIfInBounds_toArray, List.set_cons_zero, List.set_cons_succ]
        refine take_dst (i := 30) (d := 82) (v := .slice ba E4 bc) rfl rfl (by kernel_rfl) (by kernel_rfl) (by kernel_rfl) (fun _ _ _ h => h) (Or.inl ⟨by rfl, ?_⟩) hHeld ?_
        · (intro w0 hSw; (try dsimp only at hSw); go_simp)
        simp only [Act.put, List.setIfInBounds_toArray, List.set_cons_zero, List.set_cons_succ]
        refine take_dst (i := 31) (d := 83) (v := .pointer (some ⟨w1.heap.size, 1, none⟩)) rfl rfl (by kernel_rfl) (by kernel_rfl) (by kernel_rfl) (fun _ _ _ h => h) (Or.inl ⟨by rfl, ?_⟩) hHeld ?_
        · (intro w0 hSw; (try dsimp only at hSw); go_simp)
        simp only [Act.put, List.setIfInBounds_toArray, List.set_cons_zero, List.set_cons_succ]
        refine take_dst (i := 32) (d := 84) (v := .slice (some ⟨sb, so, none⟩) L.length lc) rfl rfl (by kernel_rfl) (by kernel_rfl) (by kernel_rfl) (fun _ _ _ h => h) (Or.inl ⟨by rfl, ?_⟩) hHeld ?_
        · (intro w0 hSw; (try dsimp only at hSw); go_simp)
        simp only [Act.put, List.setIfInBounds_toArray, List.set_cons_zero, List.set_cons_succ]
        refine take_dst (i := 33) (d := 85) (v := .int .i64 K) rfl rfl (by kernel_rfl) (by kernel_rfl) (by kernel_rfl) (fun _ _ _ h => h) (Or.inl ⟨by rfl, ?_⟩) hHeld ?_
        · (intro w0 hSw; (try dsimp only at hSw); go_simp)
        simp only [Act.put, List.setIfInBounds_toArray, List.set_cons_zero, List.set_cons_succ]
        refine take_dst (i := 34) (d := 86) (v := .slice (some ⟨sb, so, none⟩) K lc) rfl rfl (by kernel_rfl) (by kernel_rfl) (by kernel_rfl) (fun _ _ _ h => h) (Or.inl ⟨by rfl, ?_⟩) hHeld ?_
        · (intro w0 hSw; (try dsimp only at hSw); go_simp)
        simp only [Act.put, List.setIfInBounds_toArray, List.set_cons_zero, List.set_cons_succ]
        refine wpAnyH_ready (rs := [35]) (by kernel_rfl) (by simp) (AllReadyH.cons rfl (fun KK hK => ?_) AllReadyH.nil)
        refine step_calls_on (by rfl) 87 rfl 24 [.tmp 82, .tmp 86] #[22, 22] rfl [.slice ba E4 bc, .slice (some ⟨sb, so, none⟩) K lc] rfl (enters_of Try.func24 (by kernel_rfl) rfl) (fun v w' => v = .bool true ∧ Below w4.heap.size w4 w') ((HS1.out w4 hb4).mono (fun e w2 h => ⟨_, h.1, rfl, h.2⟩)) ?_
        rintro v w5 ⟨rfl, hb5⟩
        have t05 := (hb5.block _ (lt_of_heap t04)).trans t04
        have tX5 := (hb5.block _ (lt_of_heap tX4)).trans tX4
        have tB5 := (hb5.block _ (lt_of_heap tB4)).trans tB4
        refine hK.out _ _ ⟨cells_at t05 0 _ rfl, cells_at t05 1 _ rfl, cells_at tX5 0 _ rfl, cells_at tX5 1 _ rfl, cells_at tB5 0 _ rfl, cells_at tB5 1 _ rfl, cells_at tB5 2 _ rfl⟩ (fun hHeld => ?_)
        simp only [Act.put, List.setIfInBounds_toArray, List.set_cons_zero, List.set_cons_succ]
        refine take_dst (i := 36) (d := 88) (v := .bool true) rfl rfl (by kernel_rfl) (by kernel_rfl) (by kernel_rfl) (fun _ _ _ h => h) (Or.inl ⟨by rfl, ?_⟩) hHeld ?_
        · (intro w0 hSw; (try dsimp only at hSw); go_simp)
        simp only [Act.put, List.setIfInBounds_toArray, List.set_cons_zero, List.set_cons_succ]
        refine take_dst (i := 37) (d := 89) (v := .bool true) rfl rfl (by kernel_rfl) (by kernel_rfl) (by kernel_rfl) (fun _ _ _ h => h) (Or.inl ⟨by rfl, ?_⟩) hHeld ?_
        · (intro w0 hSw; (try dsimp only at hSw); go_simp)
        simp only [Act.put, List.setIfInBounds_toArray, List.set_cons_zero, List.set_cons_succ]
        refine take_dst (i := 38) (d := 90) (v := .pointer (some ⟨w2.heap.size, 1, none⟩)) rfl rfl (by kernel_rfl) (by kernel_rfl) (by kernel_rfl) (fun _ _ _ h => h) (Or.inl ⟨by rfl, ?_⟩) hHeld ?_
        · (intro w0 hSw; (try dsimp only at hSw); go_simp)
        simp only [Act.put, List.setIfInBounds_toArray, List.set_cons_zero, List.set_cons_succ]
        refine take_dst (i := 39) (d := 91) (v := .slice xa D4 xc) rfl rfl (by kernel_rfl) (by kernel_rfl) (by kernel_rfl) (fun _ _ _ h => h) (Or.inl ⟨by rfl, ?_⟩) hHeld ?_
        · (intro w0 hSw; (try dsimp only at hSw); go_simp)
        simp only [Act.put, List.setIfInBounds_toArray, List.set_cons_zero, List.set_cons_succ]
        refine take_dst (i := 40) (d := 92) (v := .pointer (some ⟨w1.heap.size, 1, none⟩)) rfl rfl (by kernel_rfl) (by kernel_rfl) (by kernel_rfl) (fun _ _ _ h => h) (Or.inl ⟨by rfl, ?_⟩) hHeld ?_
        · (intro w0 hSw; (try dsimp only at hSw); go_simp)
        simp only [Act.put, List.setIfInBounds_toArray, List.set_cons_zero, List.set_cons_succ]
        refine take_dst (i := 41) (d := 93) (v := .slice (some ⟨sb, so, none⟩) L.length lc) rfl rfl (by kernel_rfl) (by kernel_rfl) (by kernel_rfl) (fun _ _ _ h => h) (Or.inl ⟨by rfl, ?_⟩) hHeld ?_
        · (intro w0 hSw; (try dsimp only at hSw); go_simp)
        simp only [Act.put, List.setIfInBounds_toArray, List.set_cons_zero, List.set_cons_succ]
        refine take_dst (i := 42) (d := 94) (v := .int .i64 K) rfl rfl (by kernel_rfl) (by kernel_rfl) (by kernel_rfl) (fun _ _ _ h => h) (Or.inl ⟨by rfl, ?_⟩) hHeld ?_
        · (intro w0 hSw; (try dsimp only at hSw); go_simp)
        simp only [Act.put, List.setIfInBounds_toArray, List.set_cons_zero, List.set_cons_succ]
        refine take_dst (i := 43) (d := 95) (v := .slice (some ⟨sb, so, none⟩) (L.length - K) (lc - K)) rfl rfl (by kernel_rfl) (by kernel_rfl) (by kernel_rfl) (fun _ _ _ h => h) (Or.inl ⟨by rfl, ?_⟩) hHeld ?_
        · (intro w0 hSw; (try dsimp only at hSw); go_simp)
        simp only [Act.put, List.setIfInBounds_toArray, List.set_cons_zero, List.set_cons_succ]
        refine wpAnyH_ready (rs := [44]) (by kernel_rfl) (by simp) (AllReadyH.cons rfl (fun KK hK => ?_) AllReadyH.nil)
        refine step_calls_on (by rfl) 96 rfl 24 [.tmp 91, .tmp 95] #[22, 22] rfl [.slice xa D4 xc, .slice (some ⟨sb, so, none⟩) (L.length - K) (lc - K)] rfl (enters_of Try.func24 (by kernel_rfl) rfl) (fun v w' => v = .bool true ∧ Below w5.heap.size w5 w') ((HS2.out w5 _ _ _ (hb4.trans (hb5.mono hb4.size)) rfl (.inr (by omega))).mono (fun e w2 h => ⟨_, h.1, rfl, h.2⟩)) ?_
        rintro v w6 ⟨rfl, hb6⟩
        have t06 := (hb6.block _ (lt_of_heap t05)).trans t05
        have tX6 := (hb6.block _ (lt_of_heap tX5)).trans tX5
        have tB6 := (hb6.block _ (lt_of_heap tB5)).trans tB5
        refine hK.out _ _ ⟨cells_at t06 0 _ rfl, cells_at t06 1 _ rfl, cells_at tX6 0 _ rfl, cells_at tX6 1 _ rfl, cells_at tB6 0 _ rfl, cells_at tB6 1 _ rfl, cells_at tB6 2 _ rfl⟩ (fun hHeld => ?_)
        simp only [Act.put, List.setIfInBounds_toArray, List.set_cons_zero, List.set_cons_succ]
        refine take_dst (i := 45) (d := 97) (v := .bool true) rfl rfl (by kernel_rfl) (by kernel_rfl) (by kernel_rfl) (fun _ _ _ h => h) (Or.inl ⟨by rfl, ?_⟩) hHeld ?_
        · (intro w0 hSw; (try dsimp only at hSw); go_simp)
        simp only [Act.put, List.setIfInBounds_toArray, List.set_cons_zero, List.set_cons_succ]
        refine take_dst (i := 46) (d := 6) (v := .bool true) rfl rfl (by kernel_rfl) (by kernel_rfl) (by kernel_rfl) (fun _ _ _ h => h) (Or.inl ⟨by rfl, ?_⟩) hHeld ?_
        · (intro w0 hSw; (try dsimp only at hSw); go_simp)
        simp only [Act.put, List.setIfInBounds_toArray, List.set_cons_zero, List.set_cons_succ]
        refine wpAnyH_done (by kernel_rfl) ?_ _
        go_wp2_with fail
        go_ret
        exact ⟨by rfl, hB3.trans (((hb4.trans (hb5.mono hb4.size)).trans (hb6.mono (Nat.le_trans hb4.size hb5.size))).mono hB3.size)⟩
      · skip
        refine wp_region_held_drew (S := (fun w' => w'.cell? ⟨w1.heap.size, 0, none⟩ = some (.int .i64 nx) ∧ w'.cell? ⟨w1.heap.size, 1, none⟩ = some (.slice (some ⟨sb, so, none⟩) L.length lc) ∧ w'.cell? ⟨w2.heap.size, 0, none⟩ = some (.int .i64 (nx + 1)) ∧ w'.cell? ⟨w2.heap.size, 1, none⟩ = some (.slice xa D4 xc) ∧ w'.cell? ⟨w2.heap.size + 1, 0, none⟩ = some (.int .i64 nd) ∧ w'.cell? ⟨w2.heap.size + 1, 1, none⟩ = some (.int .i64 nx) ∧ w'.cell? ⟨w2.heap.size + 1, 2, none⟩ = some (.slice ba E4 bc))) (by kernel_rfl) ⟨e0, e1, x0, x1, b0, b1, b2⟩ (fun hHeld => ?_)
        refine take_dst (i := 0) (d := 52) (v := .int .i64 0) rfl rfl (by kernel_rfl) (by kernel_rfl) (by kernel_rfl) (fun _ _ _ h => h) (Or.inl ⟨by rfl, ?_⟩) hHeld ?_
        · (intro w0 hSw; (try dsimp only at hSw); go_simp)
        simp only [Act.put, List.setIfInBounds_toArray, List.set_cons_zero, List.set_cons_succ]
        refine take_dst (i := 1) (d := 53) (v := .bool true) rfl rfl (by kernel_rfl) (by kernel_rfl) (by kernel_rfl) (fun _ _ _ h => h) (Or.inl ⟨by rfl, ?_⟩) hHeld ?_
        · (intro w0 hSw; (try dsimp only at hSw); go_simp)
        simp only [Act.put, List.setIfInBounds_toArray, List.set_cons_zero, List.set_cons_succ]
        refine take_dst (i := 2) (d := 54) (v := .bool true) rfl rfl (by kernel_rfl) (by kernel_rfl) (by kernel_rfl) (fun _ _ _ h => h) (Or.inl ⟨by rfl, ?_⟩) hHeld ?_
        · (intro w0 hSw; (try dsimp only at hSw); go_simp)
        simp only [Act.put, List.setIfInBounds_toArray, List.set_cons_zero, List.set_cons_succ]
        refine take_dst (i := 3) (d := 55) (v := .agg #[.int .i64 nd, .int .i64 nx, .slice ba E4 bc]) rfl rfl (by kernel_rfl) (by kernel_rfl) (by kernel_rfl) (fun _ _ _ h => h) (Or.inl ⟨by rfl, ?_⟩) hHeld ?_
        · (intro w0 hSw; (try dsimp only at hSw); go_simp)
        simp only [Act.put, List.setIfInBounds_toArray, List.set_cons_zero, List.set_cons_succ]
        refine wpAnyH_ready (rs := [4]) (by kernel_rfl) (by simp) (AllReadyH.cons rfl (fun KK hK => ?_) AllReadyH.nil)
        refine step_calls_on (by rfl) 56 rfl 26 [.tmp 55] #[34] rfl [.agg #[.int .i64 nd, .int .i64 nx, .slice ba E4 bc]] rfl (enters_of Try.func26 (by kernel_rfl) rfl) (fun v w' => v = .int .i64 0 ∧ Below W3.heap.size W3 w') ((HCB.out _ ((Below.refl _ _).drew)).mono (fun e w2 h => ⟨_, h.1, rfl, below_drew h.2⟩)) ?_
        rintro v w4 ⟨rfl, hb4⟩
        have t04 := (hb4.block _ (lt_of_heap s0)).trans s0
        have tX4 := (hb4.block _ (lt_of_heap sX)).trans sX
        have tB4 := (hb4.block _ (lt_of_heap sB)).trans sB
        refine hK.out _ _ ⟨cells_at t04 0 _ rfl, cells_at t04 1 _ rfl, cells_at tX4 0 _ rfl, cells_at tX4 1 _ rfl, cells_at tB4 0 _ rfl, cells_at tB4 1 _ rfl, cells_at tB4 2 _ rfl⟩ (fun hHeld => ?_)
        simp only [Act.put, List.setIfInBounds_toArray, List.set_cons_zero, List.set_cons_succ]
        refine take_dst (i := 5) (d := 57) (v := .bool true) rfl rfl (by kernel_rfl) (by kernel_rfl) (by kernel_rfl) (fun _ _ _ h => h) (Or.inl ⟨by rfl, ?_⟩) hHeld ?_
        · (intro w0 hSw; (try dsimp only at hSw); go_simp)
        simp only [Act.put, List.setIfInBounds_toArray, List.set_cons_zero, List.set_cons_succ]
        refine take_dst (i := 6) (d := 58) (v := .bool true) rfl rfl (by kernel_rfl) (by kernel_rfl) (by kernel_rfl) (fun _ _ _ h => h) (Or.inl ⟨by rfl, ?_⟩) hHeld ?_
        · (intro w0 hSw; (try dsimp only at hSw); go_simp)
        simp only [Act.put, List.setIfInBounds_toArray, List.set_cons_zero, List.set_cons_succ]
        refine take_dst (i := 7) (d := 59) (v := .bool true) rfl rfl (by kernel_rfl) (by kernel_rfl) (by kernel_rfl) (fun _ _ _ h => h) (Or.inl ⟨by rfl, ?_⟩) hHeld ?_
        · (intro w0 hSw; (try dsimp only at hSw); go_simp)
        simp only [Act.put, List.setIfInBounds_toArray, List.set_cons_zero, List.set_cons_succ]
        refine take_dst (i := 8) (d := 60) (v := .pointer (some ⟨w2.heap.size + 1, 0, none⟩)) rfl rfl (by kernel_rfl) (by kernel_rfl) (by kernel_rfl) (fun _ _ _ h => h) (Or.inl ⟨by rfl, ?_⟩) hHeld ?_
        · (intro w0 hSw; (try dsimp only at hSw); go_simp)
        simp only [Act.put, List.setIfInBounds_toArray, List.set_cons_zero, List.set_cons_succ]
        refine take_dst (i := 9) (d := 61) (v := .int .i64 nd) rfl rfl (by kernel_rfl) (by kernel_rfl) (by kernel_rfl) (fun _ _ _ h => h) (Or.inl ⟨by rfl, ?_⟩) hHeld ?_
        · (intro w0 hSw; (try dsimp only at hSw); go_simp)
        simp only [Act.put, List.setIfInBounds_toArray, List.set_cons_zero, List.set_cons_succ]
        refine take_dst (i := 10) (d := 62) (v := .int .i64 nd) rfl rfl (by kernel_rfl) (by kernel_rfl) (by kernel_rfl) (fun _ _ _ h => h) (Or.inl ⟨by rfl, ?_⟩) hHeld ?_
        · (intro w0 hSw; (try dsimp only at hSw); go_simp)
        simp only [Act.put, List.setIfInBounds_toArray, List.set_cons_zero, List.set_cons_succ]
        refine take_dst (i := 11) (d := 63) (v := .bool true) rfl rfl (by kernel_rfl) (by kernel_rfl) (by kernel_rfl) (fun _ _ _ h => h) (Or.inl ⟨by rfl, ?_⟩) hHeld ?_
        · (intro w0 hSw; (try dsimp only at hSw); go_simp)
        simp only [Act.put, List.setIfInBounds_toArray, List.set_cons_zero, List.set_cons_succ]
        refine take_dst (i := 12) (d := 64) (v := .bool true) rfl rfl (by kernel_rfl) (by kernel_rfl) (by kernel_rfl) (fun _ _ _ h => h) (Or.inl ⟨by rfl, ?_⟩) hHeld ?_
        · (intro w0 hSw; (try dsimp only at hSw); go_simp)
        simp only [Act.put, List.setIfInBounds_toArray, List.set_cons_zero, List.set_cons_succ]
        refine take_dst (i := 13) (d := 65) (v := .bool true) rfl rfl (by kernel_rfl) (by kernel_rfl) (by kernel_rfl) (fun _ _ _ h => h) (Or.inl ⟨by rfl, ?_⟩) hHeld ?_
        · (intro w0 hSw; (try dsimp only at hSw); go_simp)
        simp only [Act.put, List.setIfInBounds_toArray, List.set_cons_zero, List.set_cons_succ]
        refine take_dst (i := 14) (d := 66) (v := .pointer (some ⟨w2.heap.size + 1, 1, none⟩)) rfl rfl (by kernel_rfl) (by kernel_rfl) (by kernel_rfl) (fun _ _ _ h => h) (Or.inl ⟨by rfl, ?_⟩) hHeld ?_
        · (intro w0 hSw; (try dsimp only at hSw); go_simp)
        simp only [Act.put, List.setIfInBounds_toArray, List.set_cons_zero, List.set_cons_succ]
        refine take_dst (i := 15) (d := 67) (v := .int .i64 nx) rfl rfl (by kernel_rfl) (by kernel_rfl) (by kernel_rfl) (fun _ _ _ h => h) (Or.inl ⟨by rfl, ?_⟩) hHeld ?_
        · (intro w0 hSw; (try dsimp only at hSw); go_simp)
        simp only [Act.put, List.setIfInBounds_toArray, List.set_cons_zero, List.set_cons_succ]
        refine take_dst (i := 16) (d := 68) (v := .pointer (some ⟨w1.heap.size, 0, none⟩)) rfl rfl (by kernel_rfl) (by kernel_rfl) (by kernel_rfl) (fun _ _ _ h => h) (Or.inl ⟨by rfl, ?_⟩) hHeld ?_
        · (intro w0 hSw; (try dsimp only at hSw); go_simp)
        simp only [Act.put, List.setIfInBounds_toArray, List.set_cons_zero, List.set_cons_succ]
        refine take_dst (i := 17) (d := 69) (v := .int .i64 nx) rfl rfl (by kernel_rfl) (by kernel_rfl) (by kernel_rfl) (fun _ _ _ h => h) (Or.inl ⟨by rfl, ?_⟩) hHeld ?_
        · (intro w0 hSw; (try dsimp only at hSw); go_simp)
        simp only [Act.put, List.setIfInBounds_toArray, List.set_cons_zero, List.set_cons_succ]
        refine take_dst (i := 18) (d := 70) (v := .bool true) rfl rfl (by kernel_rfl) (by kernel_rfl) (by kernel_rfl) (fun _ _ _ h => h) (Or.inl ⟨by rfl, ?_⟩) hHeld ?_
        · (intro w0 hSw; (try dsimp only at hSw); go_simp)
        simp only [Act.put, List.setIfInBounds_toArray, List.set_cons_zero, List.set_cons_succ]
        refine take_dst (i := 19) (d := 71) (v := .bool true) rfl rfl (by kernel_rfl) (by kernel_rfl) (by kernel_rfl) (fun _ _ _ h => h) (Or.inl ⟨by rfl, ?_⟩) hHeld ?_
        · (intro w0 hSw; (try dsimp only at hSw); go_simp)
        simp only [Act.put, List.setIfInBounds_toArray, List.set_cons_zero, List.set_cons_succ]
        refine take_dst (i := 20) (d := 72) (v := .bool true) rfl rfl (by kernel_rfl) (by kernel_rfl) (by kernel_rfl) (fun _ _ _ h => h) (Or.inl ⟨by rfl, ?_⟩) hHeld ?_
        · (intro w0 hSw; (try dsimp only at hSw); go_simp)
        simp only [Act.put, List.setIfInBounds_toArray, List.set_cons_zero, List.set_cons_succ]
        refine take_dst (i := 21) (d := 73) (v := .pointer (some ⟨w2.heap.size, 0, none⟩)) rfl rfl (by kernel_rfl) (by kernel_rfl) (by kernel_rfl) (fun _ _ _ h => h) (Or.inl ⟨by rfl, ?_⟩) hHeld ?_
        · (intro w0 hSw; (try dsimp only at hSw); go_simp)
        simp only [Act.put, List.setIfInBounds_toArray, List.set_cons_zero, List.set_cons_succ]
        refine take_dst (i := 22) (d := 74) (v := .int .i64 (nx + 1)) rfl rfl (by kernel_rfl) (by kernel_rfl) (by kernel_rfl) (fun _ _ _ h => h) (Or.inl ⟨by rfl, ?_⟩) hHeld ?_
        · (intro w0 hSw; (try dsimp only at hSw); go_simp)
        simp only [Act.put, List.setIfInBounds_toArray, List.set_cons_zero, List.set_cons_succ]
        refine take_dst (i := 23) (d := 75) (v := .pointer (some ⟨w1.heap.size, 0, none⟩)) rfl rfl (by kernel_rfl) (by kernel_rfl) (by kernel_rfl) (fun _ _ _ h => h) (Or.inl ⟨by rfl, ?_⟩) hHeld ?_
        · (intro w0 hSw; (try dsimp only at hSw); go_simp)
        simp only [Act.put, List.setIfInBounds_toArray, List.set_cons_zero, List.set_cons_succ]
        refine take_dst (i := 24) (d := 76) (v := .int .i64 nx) rfl rfl (by kernel_rfl) (by kernel_rfl) (by kernel_rfl) (fun _ _ _ h => h) (Or.inl ⟨by rfl, ?_⟩) hHeld ?_
        · (intro w0 hSw; (try dsimp only at hSw); go_simp)
        simp only [Act.put, List.setIfInBounds_toArray, List.set_cons_zero, List.set_cons_succ]
        refine take_dst (i := 25) (d := 77) (v := .int .i64 (nx + 1)) rfl rfl (by kernel_rfl) (by kernel_rfl) (by kernel_rfl) (fun _ _ _ h => h) (Or.inl ⟨by rfl, ?_⟩) hHeld ?_
        · (intro w0 hSw; (try dsimp only at hSw); go_simp)
        simp only [Act.put, List.setIfInBounds_toArray, List.set_cons_zero, List.set_cons_succ]
        refine take_dst (i := 26) (d := 78) (v := .bool true) rfl rfl (by kernel_rfl) (by kernel_rfl) (by kernel_rfl) (fun _ _ _ h => h) (Or.inl ⟨by rfl, ?_⟩) hHeld ?_
        · (intro w0 hSw; (try dsimp only at hSw); go_simp)
        simp only [Act.put, List.setIfInBounds_toArray, List.set_cons_zero, List.set_cons_succ]
        refine take_dst (i := 27) (d := 79) (v := .bool true) rfl rfl (by kernel_rfl) (by kernel_rfl) (by kernel_rfl) (fun _ _ _ h => h) (Or.inl ⟨by rfl, ?_⟩) hHeld ?_
        · (intro w0 hSw; (try dsimp only at hSw); go_simp)
        simp only [Act.put, List.setIfInBounds_toArray, List.set_cons_zero, List.set_cons_succ]
        refine take_dst (i := 28) (d := 80) (v := .bool true) rfl rfl (by kernel_rfl) (by kernel_rfl) (by kernel_rfl) (fun _ _ _ h => h) (Or.inl ⟨by rfl, ?_⟩) hHeld ?_
        · (intro w0 hSw; (try dsimp only at hSw); go_simp)
        simp only [Act.put, List.setIfInBounds_toArray, List.set_cons_zero, List.set_cons_succ]
        refine take_dst (i := 29) (d := 81) (v := .pointer (some ⟨w2.heap.size + 1, 2, none⟩)) rfl rfl (by kernel_rfl) (by kernel_rfl) (by kernel_rfl) (fun _ _ _ h => h) (Or.inl ⟨by rfl, ?_⟩) hHeld ?_
        · (intro w0 hSw; (try dsimp only at hSw); go_simp)
        simp only [Act.put, List.setIfInBounds_toArray, List.set_cons_zero, List.set_cons_succ]
        refine take_dst (i := 30) (d := 82) (v := .slice ba E4 bc) rfl rfl (by kernel_rfl) (by kernel_rfl) (by kernel_rfl) (fun _ _ _ h => h) (Or.inl ⟨by rfl, ?_⟩) hHeld ?_
        · (intro w0 hSw; (try dsimp only at hSw); go_simp)
        simp only [Act.put, List.setIfInBounds_toArray, List.set_cons_zero, List.set_cons_succ]
        refine take_dst (i := 31) (d := 83) (v := .pointer (some ⟨w1.heap.size, 1, none⟩)) rfl rfl (by kernel_rfl) (by kernel_rfl) (by kernel_rfl) (fun _ _ _ h => h) (Or.inl ⟨by rfl, ?_⟩) hHeld ?_
        · (intro w0 hSw; (try dsimp only at hSw); go_simp)
        simp only [Act.put, List.setIfInBounds_toArray, List.set_cons_zero, List.set_cons_succ]
        refine take_dst (i := 32) (d := 84) (v := .slice (some ⟨sb, so, none⟩) L.length lc) rfl rfl (by kernel_rfl) (by kernel_rfl) (by kernel_rfl) (fun _ _ _ h => h) (Or.inl ⟨by rfl, ?_⟩) hHeld ?_
        · (intro w0 hSw; (try dsimp only at hSw); go_simp)
        simp only [Act.put, List.setIfInBounds_toArray, List.set_cons_zero, List.set_cons_succ]
        refine take_dst (i := 33) (d := 85) (v := .int .i64 K) rfl rfl (by kernel_rfl) (by kernel_rfl) (by kernel_rfl) (fun _ _ _ h => h) (Or.inl ⟨by rfl, ?_⟩) hHeld ?_
        · (intro w0 hSw; (try dsimp only at hSw); go_simp)
        simp only [Act.put, List.setIfInBounds_toArray, List.set_cons_zero, List.set_cons_succ]
        refine take_dst (i := 34) (d := 86) (v := .slice (some ⟨sb, so, none⟩) K lc) rfl rfl (by kernel_rfl) (by kernel_rfl) (by kernel_rfl) (fun _ _ _ h => h) (Or.inl ⟨by rfl, ?_⟩) hHeld ?_
        · (intro w0 hSw; (try dsimp only at hSw); go_simp)
        simp only [Act.put, List.setIfInBounds_toArray, List.set_cons_zero, List.set_cons_succ]
        refine wpAnyH_ready (rs := [35]) (by kernel_rfl) (by simp) (AllReadyH.cons rfl (fun KK hK => ?_) AllReadyH.nil)
        refine step_calls_on (by rfl) 87 rfl 24 [.tmp 82, .tmp 86] #[22, 22] rfl [.slice ba E4 bc, .slice (some ⟨sb, so, none⟩) K lc] rfl (enters_of Try.func24 (by kernel_rfl) rfl) (fun v w' => v = .bool true ∧ Below w4.heap.size w4 w') ((HS1.out w4 hb4).mono (fun e w2 h => ⟨_, h.1, rfl, h.2⟩)) ?_
        rintro v w5 ⟨rfl, hb5⟩
        have t05 := (hb5.block _ (lt_of_heap t04)).trans t04
        have tX5 := (hb5.block _ (lt_of_heap tX4)).trans tX4
        have tB5 := (hb5.block _ (lt_of_heap tB4)).trans tB4
        refine hK.out _ _ ⟨cells_at t05 0 _ rfl, cells_at t05 1 _ rfl, cells_at tX5 0 _ rfl, cells_at tX5 1 _ rfl, cells_at tB5 0 _ rfl, cells_at tB5 1 _ rfl, cells_at tB5 2 _ rfl⟩ (fun hHeld => ?_)
        simp only [Act.put, List.setIfInBounds_toArray, List.set_cons_zero, List.set_cons_succ]
        refine take_dst (i := 36) (d := 88) (v := .bool true) rfl rfl (by kernel_rfl) (by kernel_rfl) (by kernel_rfl) (fun _ _ _ h => h) (Or.inl ⟨by rfl, ?_⟩) hHeld ?_
        · (intro w0 hSw; (try dsimp only at hSw); go_simp)
        simp only [Act.put, List.setIfInBounds_toArray, List.set_cons_zero, List.set_cons_succ]
        refine take_dst (i := 37) (d := 89) (v := .bool true) rfl rfl (by kernel_rfl) (by kernel_rfl) (by kernel_rfl) (fun _ _ _ h => h) (Or.inl ⟨by rfl, ?_⟩) hHeld ?_
        · (intro w0 hSw; (try dsimp only at hSw); go_simp)
        simp only [Act.put, List.setIfInBounds_toArray, List.set_cons_zero, List.set_cons_succ]
        refine take_dst (i := 38) (d := 90) (v := .pointer (some ⟨w2.heap.size, 1, none⟩)) rfl rfl (by kernel_rfl) (by kernel_rfl) (by kernel_rfl) (fun _ _ _ h => h) (Or.inl ⟨by rfl, ?_⟩) hHeld ?_
        · (intro w0 hSw; (try dsimp only at hSw); go_simp)
        simp only [Act.put, List.setIfInBounds_toArray, List.set_cons_zero, List.set_cons_succ]
        refine take_dst (i := 39) (d := 91) (v := .slice xa D4 xc) rfl rfl (by kernel_rfl) (by kernel_rfl) (by kernel_rfl) (fun _ _ _ h => h) (Or.inl ⟨by rfl, ?_⟩) hHeld ?_
        · (intro w0 hSw; (try dsimp only at hSw); go_simp)
        simp only [Act.put, List.setIfInBounds_toArray, List.set_cons_zero, List.set_cons_succ]
        refine take_dst (i := 40) (d := 92) (v := .pointer (some ⟨w1.heap.size, 1, none⟩)) rfl rfl (by kernel_rfl) (by kernel_rfl) (by kernel_rfl) (fun _ _ _ h => h) (Or.inl ⟨by rfl, ?_⟩) hHeld ?_
        · (intro w0 hSw; (try dsimp only at hSw); go_simp)
        simp only [Act.put, List.setIfInBounds_toArray, List.set_cons_zero, List.set_cons_succ]
        refine take_dst (i := 41) (d := 93) (v := .slice (some ⟨sb, so, none⟩) L.length lc) rfl rfl (by kernel_rfl) (by kernel_rfl) (by kernel_rfl) (fun _ _ _ h => h) (Or.inl ⟨by rfl, ?_⟩) hHeld ?_
        · (intro w0 hSw; (try dsimp only at hSw); go_simp)
        simp only [Act.put, List.setIfInBounds_toArray, List.set_cons_zero, List.set_cons_succ]
        refine take_dst (i := 42) (d := 94) (v := .int .i64 K) rfl rfl (by kernel_rfl) (by kernel_rfl) (by kernel_rfl) (fun _ _ _ h => h) (Or.inl ⟨by rfl, ?_⟩) hHeld ?_
        · (intro w0 hSw; (try dsimp only at hSw); go_simp)
        simp only [Act.put, List.setIfInBounds_toArray, List.set_cons_zero, List.set_cons_succ]
        refine take_dst (i := 43) (d := 95) (v := .slice (some ⟨sb, so + K, none⟩) (L.length - K) (lc - K)) rfl rfl (by kernel_rfl) (by kernel_rfl) (by kernel_rfl) (fun _ _ _ h => h) (Or.inl ⟨by rfl, ?_⟩) hHeld ?_
        · (intro w0 hSw; (try dsimp only at hSw); go_simp)
        simp only [Act.put, List.setIfInBounds_toArray, List.set_cons_zero, List.set_cons_succ]
        refine wpAnyH_ready (rs := [44]) (by kernel_rfl) (by simp) (AllReadyH.cons rfl (fun KK hK => ?_) AllReadyH.nil)
        refine step_calls_on (by rfl) 96 rfl 24 [.tmp 91, .tmp 95] #[22, 22] rfl [.slice xa D4 xc, .slice (some ⟨sb, so + K, none⟩) (L.length - K) (lc - K)] rfl (enters_of Try.func24 (by kernel_rfl) rfl) (fun v w' => v = .bool true ∧ Below w5.heap.size w5 w') ((HS2.out w5 _ _ _ (hb4.trans (hb5.mono hb4.size)) rfl (.inl rfl)).mono (fun e w2 h => ⟨_, h.1, rfl, h.2⟩)) ?_
        rintro v w6 ⟨rfl, hb6⟩
        have t06 := (hb6.block _ (lt_of_heap t05)).trans t05
        have tX6 := (hb6.block _ (lt_of_heap tX5)).trans tX5
        have tB6 := (hb6.block _ (lt_of_heap tB5)).trans tB5
        refine hK.out _ _ ⟨cells_at t06 0 _ rfl, cells_at t06 1 _ rfl, cells_at tX6 0 _ rfl, cells_at tX6 1 _ rfl, cells_at tB6 0 _ rfl, cells_at tB6 1 _ rfl, cells_at tB6 2 _ rfl⟩ (fun hHeld => ?_)
        simp only [Act.put, List.setIfInBounds_toArray, List.set_cons_zero, List.set_cons_succ]
        refine take_dst (i := 45) (d := 97) (v := .bool true) rfl rfl (by kernel_rfl) (by kernel_rfl) (by kernel_rfl) (fun _ _ _ h => h) (Or.inl ⟨by rfl, ?_⟩) hHeld ?_
        · (intro w0 hSw; (try dsimp only at hSw); go_simp)
        simp only [Act.put, List.setIfInBounds_toArray, List.set_cons_zero, List.set_cons_succ]
        refine take_dst (i := 46) (d := 6) (v := .bool true) rfl rfl (by kernel_rfl) (by kernel_rfl) (by kernel_rfl) (fun _ _ _ h => h) (Or.inl ⟨by rfl, ?_⟩) hHeld ?_
        · (intro w0 hSw; (try dsimp only at hSw); go_simp)
        simp only [Act.put, List.setIfInBounds_toArray, List.set_cons_zero, List.set_cons_succ]
        refine wpAnyH_done (by kernel_rfl) ?_ _
        go_wp2_with fail
        go_ret
        exact ⟨by rfl, hB3.trans (((hb4.trans (hb5.mono hb4.size)).trans (hb6.mono (Nat.le_trans hb4.size hb5.size))).mono hB3.size)⟩
end Go.Proofs.Ytikolpdedmhljaa
