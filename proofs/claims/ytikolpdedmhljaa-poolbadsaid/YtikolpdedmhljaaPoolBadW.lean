/- The walk of PoolBad. -/
import Derived.Test.YtikolpdedmhljaaKHead
import Derived.Test.YtikolpdedmhljaaOpenP
import Derived.Test.YtikolpdedmhljaaTxG
import Derived.Test.YtikolpdedmhljaaCallsG
namespace Go.Proofs.Ytikolpdedmhljaa
open Go.RowKit

set_option maxRecDepth 100000 in
theorem poolF_low {L : List ByteArray} : poolF 0 L = 12 := by rw [poolF, if_pos (.inl (by omega))]
set_option maxRecDepth 100000 in
theorem poolF_high {L : List ByteArray} : poolF 1048578 L = 12 := by rw [poolF, if_pos (.inl (by omega))]
set_option maxRecDepth 100000 in
theorem poolF_notx {nx : Int} : poolF nx [⟨#[]⟩] = 12 := by
  rw [poolF]
  split
  · rfl
  · rw [if_neg (by decide)]
set_option maxRecDepth 100000 in
theorem poolF_twice {nx : Int} {L : List ByteArray} {x : ByteArray} (h : x ∈ L) : poolF nx (L ++ [x]) = 12 := by
  rw [poolF]
  split
  · rfl
  · rw [if_neg]
    intro e
    have := (poolOk_iff.1 e).2
    rw [List.nodup_append] at this
    exact this.2.2 x h x (by simp) rfl
set_option maxRecDepth 100000 in
set_option maxHeartbeats 1000000 in
theorem poolBad_walk (sa : Option Addr) (cap : Nat) (ss : List ByteArray) (wh : Int) (w : World) (hs : TextsAt w sa cap ss) (hw1 : -9223372036854775808 ≤ wh) (hw2 : wh ≤ 9223372036854775807) :
    Calls Try.prog 10 #[.slice sa ss.length cap, .int .i64 wh] w fun e w' => e = .returned (.bool true) ∧ Below w.heap.size w w' := by
  obtain ⟨pw0, pw1⟩ := pk_bounds wh 4 (by decide)
  obtain ⟨pn0, pn1⟩ := pk_bounds 3 99 (by decide)
  have hle := hs.le
  have hre := hs.reach
  have hO := head_owns w ⟨#[97]⟩
  have hA : Below w.heap.size w (w.alloc (.cells #[.string ⟨#[97]⟩] 9)) := (Below.refl _ _).alloc (Nat.le_refl _) _
  have HT : Hid (TxsAt (w.alloc (.cells #[.string ⟨#[97]⟩] 9)) sa cap ss) := hs.txs.below hA
  have HZ : Hid _ := head_size (x := ⟨#[97]⟩) (by decide) hs.strs.size
  go_enter Try.func10, Try.ntmps10
  go_wp2_with (at_builtin; refine wpList_append_txs rfl _ _ rfl w.heap.size _ 1 [⟨#[97]⟩] rfl hO sa ss.length cap ss rfl rfl HT.out (by omega) hA.size ?_; intro v1 w1 ho1 hg1; obtain ⟨ra, rc, hv1, -, hT1, -⟩ := txsAt_of_owns ho1 HZ.out; subst hv1)
  have hB1 : Below w.heap.size w w1 := Below.grown hA hg1 hA.size (fun q e => (hO.lt q e).1)
  refine (pool_raw ([⟨#[97]⟩] ++ ss) ra _ rc 3 w1 (by simp) hT1 (by unfold I64; omega)).mono ?_
  rintro e w2 ⟨v2, he, ho2, hb2⟩
  have hLn : (poolL ([⟨#[97]⟩] ++ ss)).length ≠ 0 := by have := poolL_pos ⟨#[97]⟩ ss; simp only [List.cons_append, List.nil_append]; omega
  have hLl := poolL_len ([⟨#[97]⟩] ++ ss)
  have hLk := poolL_ok ([⟨#[97]⟩] ++ ss)
  generalize poolL ([⟨#[97]⟩] ++ ss) = L at *
  have hN1 : 1 ≤ 1 + pk 3 99 := by omega
  have hN2 : 1 + pk 3 99 ≤ 99 := by omega
  clear pn0 pn1
  generalize 1 + pk 3 99 = nx at *
  subst he
  dsimp only
  obtain ⟨la, lc, hv, -, hT2, -⟩ := txsAt_of_owns ho2 (ok_size hLk)
  subst hv
  have hB2 := hB1.trans (hb2.mono hB1.size)
  have hA2 : Below w2.heap.size w2 (w2.alloc (.cells #[.int .i64 nx, .slice la L.length lc] 24)) := (Below.refl _ _).alloc (Nat.le_refl _) _
  have p0 := heap_alloc_new w2 (.cells #[.int .i64 nx, .slice la L.length lc] 24)
  have hLI : ((L.length : Int) == 0) = false := beq_eq_false_iff_ne.2 (by omega)
  obtain ⟨sb, so, rfl, hck⟩ : ∃ sb so, la = some ⟨sb, so, none⟩ ∧ ∀ j, j < L.length → w2.cell? ⟨sb, so + j, none⟩ = some (.string (L.getD j ByteArray.empty)) := by
    rcases hT2.strs.cells with h | h
    · rw [h] at hLn; simp at hLn
    · exact h
  have hsb : sb < w2.heap.size := block_lt_of_cell (hck 0 (by omega))
  have hC := poolCheck_any nx _ _ lc L (w2.alloc (.cells #[.int .i64 nx, .slice (some ⟨sb, so, none⟩) L.length lc] 24)) rfl (hT2.below hA2)
  rw [poolF_zero hN1 (by omega) (by omega) hLk] at hC
  have HK := fun W : World => picked_any wh 4 W hw1 hw2 (by omega) (by omega)
  have HD : Hid (pk wh 4 = 0 ∨ pk wh 4 = 1 ∨ pk wh 4 = 2 ∨ pk wh 4 = 3) := by show _ ∨ _; omega
  clear pw0 pw1
  generalize pk wh 4 = d at *
  go_wp2_with fail
  generalize w2.alloc (.cells #[.int .i64 nx, .slice (some ⟨sb, so, none⟩) L.length lc] 24) = W2 at hA2 p0 hC ⊢
  refine hC.mono ?_
  rintro e w3 ⟨he, hb3⟩
  subst he
  dsimp only
  have hbW := hA2.trans (hb3.mono hA2.size)
  have hB3 := hB2.trans (hbW.mono hB2.size)
  have q0 := (hb3.block _ (lt_of_heap p0)).trans p0
  have hT3 := hT2.below hbW
  have c0 : w3.cell? ⟨w2.heap.size, 0, none⟩ = some (.int .i64 nx) := cells_at q0 0 _ rfl
  have c1 : w3.cell? ⟨w2.heap.size, 1, none⟩ = some (.slice (some ⟨sb, so, none⟩) L.length lc) := cells_at q0 1 _ rfl
  have f0 := frozen_at q0 0
  have f1 := frozen_at q0 1
  have hne : ∀ sb' so', (some ⟨sb, so, none⟩ : Option Addr) = some ⟨sb', so', none⟩ → w2.heap.size ≠ sb' := fun a b e => by cases e; omega
  have HNE : Hid _ := hne
  clear hne hC hck
  rcases HD.out with rfl | rfl | rfl | rfl
  · clear HD
    have d0 := cells_at (heap_setCell_same _ _ 0 _ _ (.int .i64 0) q0) 0 _ rfl
    have d1 := cells_at (heap_setCell_same _ _ 0 _ _ (.int .i64 0) q0) 1 _ rfl
    have hT := hT3.setCell w2.heap.size 0 (.int .i64 0) HNE.out
    have r := heap_setCell_same _ _ 0 _ _ (.int .i64 0) q0
    have hB := hB3.setCell (p := ⟨w2.heap.size, 0, none⟩) hB2.size (.int .i64 0)
    go_wp2_with (go_at_call 25; refine (HK _).mono ?_; rintro e w9 ⟨rfl, rfl⟩)
    generalize w3.setCell ⟨w2.heap.size, 0, none⟩ (.int .i64 0) = WT at d0 d1 hT r hB ⊢
    refine (add_bad 0 (some ⟨sb, so, none⟩) L.length lc L ⟨#[122, 122]⟩ WT 12 rfl hT (by decide) (by rw [addF, if_neg (by rw [poolF_low]; decide)]) (by decide)).mono ?_
    rintro e wa ⟨xa, xc, he, hba⟩
    subst he
    dsimp only
    have hA1 : Below wa.heap.size wa (wa.alloc (.cells #[.int .i64 0, .slice xa 0 xc] 24)) := (Below.refl _ _).alloc (Nat.le_refl _) _
    have hb1 := hba.trans (hA1.mono hba.size)
    have ra := (hb1.block _ (lt_of_heap r)).trans r
    have a0 := cells_at ra 0 _ rfl
    have a1 := cells_at ra 1 _ rfl
    go_wp2_with fail
    generalize wa.alloc (.cells #[.int .i64 0, .slice xa 0 xc] 24) = Wa at hA1 hb1 ra a0 a1 ⊢
    refine (seal_bad 0 (some ⟨sb, so, none⟩) L.length lc L 0 Wa 12 rfl (hT.below hb1) (by rw [sealF, if_neg (by rw [poolF_low]; decide)]) (by decide)).mono ?_
    rintro e wb ⟨ya, yc, za, zc, he, hbb⟩
    subst he
    dsimp only
    have hA2 : Below wb.heap.size wb ((wb.alloc (.cells #[.int .i64 0, .slice ya 0 yc] 24)).alloc (.cells #[.int .i64 0, .int .i64 0, .slice za 0 zc] 34)) := ((Below.refl _ _).alloc (Nat.le_refl _) _).alloc (by simp) _
    have hb2 := hbb.trans (hA2.mono hbb.size)
    have rb := (hb2.block _ (lt_of_heap ra)).trans ra
    clear a0 a1
    have a0 := cells_at rb 0 _ rfl
    have a1 := cells_at rb 1 _ rfl
    go_wp2_with fail
    generalize (wb.alloc (.cells #[.int .i64 0, .slice ya 0 yc] 24)).alloc (.cells #[.int .i64 0, .int .i64 0, .slice za 0 zc] 34) = Wb at hA2 hb2 rb a0 a1 ⊢
    have hcc := poolCheck_any 0 (some ⟨sb, so, none⟩) L.length lc L Wb rfl ((hT.below hb1).below hb2)
    rw [poolF_low] at hcc
    refine hcc.mono ?_
    rintro e wd ⟨he, hbd⟩
    subst he
    dsimp only
    go_wp2_with fail
    go_ret
    have hBb := hB.trans ((hb1.trans (hb2.mono hb1.size)).mono hB.size)
    exact ⟨by rfl, hBb.trans (hbd.mono hBb.size)⟩
  · clear HD
    have d0 := cells_at (heap_setCell_same _ _ 0 _ _ (.int .i64 1048578) q0) 0 _ rfl
    have d1 := cells_at (heap_setCell_same _ _ 0 _ _ (.int .i64 1048578) q0) 1 _ rfl
    have hT := hT3.setCell w2.heap.size 0 (.int .i64 1048578) HNE.out
    have r := heap_setCell_same _ _ 0 _ _ (.int .i64 1048578) q0
    have hB := hB3.setCell (p := ⟨w2.heap.size, 0, none⟩) hB2.size (.int .i64 1048578)
    go_wp2_with (go_at_call 25; refine (HK _).mono ?_; rintro e w9 ⟨rfl, rfl⟩)
    generalize w3.setCell ⟨w2.heap.size, 0, none⟩ (.int .i64 1048578) = WT at d0 d1 hT r hB ⊢
    refine (add_bad 1048578 (some ⟨sb, so, none⟩) L.length lc L ⟨#[122, 122]⟩ WT 12 rfl hT (by decide) (by rw [addF, if_neg (by rw [poolF_high]; decide)]) (by decide)).mono ?_
    rintro e wa ⟨xa, xc, he, hba⟩
    subst he
    dsimp only
    have hA1 : Below wa.heap.size wa (wa.alloc (.cells #[.int .i64 0, .slice xa 0 xc] 24)) := (Below.refl _ _).alloc (Nat.le_refl _) _
    have hb1 := hba.trans (hA1.mono hba.size)
    have ra := (hb1.block _ (lt_of_heap r)).trans r
    have a0 := cells_at ra 0 _ rfl
    have a1 := cells_at ra 1 _ rfl
    go_wp2_with fail
    generalize wa.alloc (.cells #[.int .i64 0, .slice xa 0 xc] 24) = Wa at hA1 hb1 ra a0 a1 ⊢
    refine (seal_bad 1048578 (some ⟨sb, so, none⟩) L.length lc L 0 Wa 12 rfl (hT.below hb1) (by rw [sealF, if_neg (by rw [poolF_high]; decide)]) (by decide)).mono ?_
    rintro e wb ⟨ya, yc, za, zc, he, hbb⟩
    subst he
    dsimp only
    have hA2 : Below wb.heap.size wb ((wb.alloc (.cells #[.int .i64 0, .slice ya 0 yc] 24)).alloc (.cells #[.int .i64 0, .int .i64 0, .slice za 0 zc] 34)) := ((Below.refl _ _).alloc (Nat.le_refl _) _).alloc (by simp) _
    have hb2 := hbb.trans (hA2.mono hbb.size)
    have rb := (hb2.block _ (lt_of_heap ra)).trans ra
    clear a0 a1
    have a0 := cells_at rb 0 _ rfl
    have a1 := cells_at rb 1 _ rfl
    go_wp2_with fail
    generalize (wb.alloc (.cells #[.int .i64 0, .slice ya 0 yc] 24)).alloc (.cells #[.int .i64 0, .int .i64 0, .slice za 0 zc] 34) = Wb at hA2 hb2 rb a0 a1 ⊢
    have hcc := poolCheck_any 1048578 (some ⟨sb, so, none⟩) L.length lc L Wb rfl ((hT.below hb1).below hb2)
    rw [poolF_high] at hcc
    refine hcc.mono ?_
    rintro e wd ⟨he, hbd⟩
    subst he
    dsimp only
    go_wp2_with fail
    go_ret
    have hBb := hB.trans ((hb1.trans (hb2.mono hb1.size)).mono hB.size)
    exact ⟨by rfl, hBb.trans (hbd.mono hBb.size)⟩
  · clear HD
    go_wp2_with (go_at_call 25; refine (HK _).mono ?_; rintro e w9 ⟨rfl, rfl⟩)
    have hx : L.getD 0 ByteArray.empty ∈ L := by rw [getD_at (by omega)]; exact List.getElem_mem (by omega)
    have HX : Hid (L.getD 0 ByteArray.empty ∈ L) := hx
    obtain ⟨i, hi, hz0, hz1, hz2⟩ := info_parts infoStr
    have hLp : 0 < L.length := by omega
    have hLI2 : (0 : Int) < L.length := by omega
    have xk : w3.cell? ⟨sb, so, none⟩ = some (.string (L.getD 0 ByteArray.empty)) := by
      rcases hT3.strs.cells with h | ⟨b, o, e, h⟩
      · rw [h] at hLp; simp at hLp
      · cases e; exact h 0 hLp
    have hxz : (L.getD 0 ByteArray.empty).size ≤ maxLen := ok_size hLk _ HX.out
    clear hx
    generalize L.getD 0 ByteArray.empty = x at *
    have hTd := hT3.below ((Below.refl _ _).drew)
    have qd : w3.drew.heap[w2.heap.size]? = some (.cells #[.int .i64 nx, .slice (some ⟨sb, so, none⟩) L.length lc] 24 (0, 0)) := q0
    have hdB : Below w3.heap.size w3 (w3.drew.alloc (.cells #[.string x] 9)) := (Below.refl _ _).drew.alloc (Nat.le_refl _) _
    have hTB := hT3.below hdB
    have qdB := (hdB.block _ (lt_of_heap q0)).trans q0
    have zdB : (w3.drew.alloc (.cells #[.string x] 9)).heap[w3.heap.size]? = some (.cells #[.string x] 9 (0, 0)) := heap_alloc_new w3.drew (.cells #[.string x] 9)
    have xkB : (w3.drew.alloc (.cells #[.string x] 9)).cell? ⟨sb, so, none⟩ = some (.string x) := (hdB.cell (p := ⟨sb, so, none⟩) (block_lt_of_cell xk)).trans xk
    have cA1 : (w3.alloc (.cells #[.string x] 9)).cell? ⟨w2.heap.size, 1, none⟩ = some (.slice (some ⟨sb, so, none⟩) L.length lc) := cells_at (heap_keep q0) 1 _ rfl
    have cAk : (w3.alloc (.cells #[.string x] 9)).cell? ⟨sb, so, none⟩ = some (.string x) := xkB
    have hP3 : w2.heap.size < w3.heap.size := lt_of_heap q0
    have hs3 : sb < w3.heap.size := block_lt_of_cell xk
    go_region_law (first
      | (refine step_append_at rfl _ _ 22 rfl w3.heap.size 9 i (.string ByteArray.empty) 1 16 Try.underlying22 hi hz0 hz1 hz2 rfl (by decide) v1A (0 + L.length) _ rfl (World.ownsRow.alloc ho4A _) ⟨w4A.heap.size, 0, none⟩ 1 1 [.string x] rfl rfl (cells_new _ _ _) (sv_one [x]) (by unfold maxLen; omega) (by omega) (le_alloc hbA.size _) ?_; intro v5 w5 ho5 G5; have qF := G5.row qAA (fun e => by have := (ho4A.lt _ e).1; omega); have pF : w5.cell? ⟨w2.heap.size, 1, none⟩ = some (.slice (some ⟨sb, so, none⟩) L.length lc) := cells_at qF 1 _ rfl; have fF := frozen_at qF 1; have hB5 : Below w.heap.size w w5 := hB3.trans (((hbA.alloc hbA.size (.cells #[.string x] 9)).trans (G5.below (base := w3.heap.size) (le_alloc hbA.size _) (fun q e => (ho4A.lt q e).1))).mono hB3.size); obtain ⟨ma, mc, hq⟩ := owns_shape ho5; subst hq)
      | (refine step_append_at rfl _ _ 22 rfl w3.heap.size 9 i (.string ByteArray.empty) 1 16 Try.underlying22 hi hz0 hz1 hz2 rfl (by decide) v1B (0 + L.length) _ rfl ho4B ⟨w3.heap.size, 0, none⟩ 1 1 [.string x] rfl rfl (by intro j u hu; obtain rfl : j = 0 := (by rcases j with _ | j; rfl; simp at hu); exact (cells_at zB 0 _ rfl).trans (by simpa using hu)) (sv_one [x]) (by unfold maxLen; omega) (by omega) hbB.size ?_; intro v5 w5 ho5 G5; have qF := G5.row qB (fun e => by have := (ho4B.lt _ e).1; omega); have pF : w5.cell? ⟨w2.heap.size, 1, none⟩ = some (.slice (some ⟨sb, so, none⟩) L.length lc) := cells_at qF 1 _ rfl; have fF := frozen_at qF 1; have hB5 : Below w.heap.size w w5 := hB3.trans ((hbB.trans (G5.below (base := w3.heap.size) hbB.size (fun q e => (ho4B.lt q e).1))).mono hB3.size); obtain ⟨ma, mc, hq⟩ := owns_shape ho5; subst hq)
      | (refine step_append_at rfl _ _ 22 rfl w3.heap.size 9 i (.string ByteArray.empty) 1 16 Try.underlying22 hi hz0 hz1 hz2 rfl (by decide) _ 0 [] rfl (World.ownsRow_nil _ _ _ _) ⟨sb, so, none⟩ L.length lc (sv L) rfl (by rw [sv_length]; omega) (txs_cells hTB) (sv_one L) (by unfold maxLen; omega) (by omega) (le_alloc (Nat.le_refl _) _) ?_; intro v1B w4B ho4B G4B; have qB := G4B.row qdB (fun e => by cases e); have pB : w4B.cell? ⟨w2.heap.size, 1, none⟩ = some (.slice (some ⟨sb, so, none⟩) L.length lc) := cells_at qB 1 _ rfl; have xB : w4B.cell? ⟨sb, so, none⟩ = some (.string x) := (World.cell?_of_block (G4B.grown.block sb (block_lt_of_cell xkB) (fun e => by cases e))).trans xkB; have zB := G4B.row zdB (fun e => by cases e); have hbB := hdB.trans (G4B.below (base := w3.heap.size) (le_alloc (Nat.le_refl _) _) (fun q e => by cases e)))
      | (refine step_append_at rfl _ _ 22 rfl w3.heap.size 9 i (.string ByteArray.empty) 1 16 Try.underlying22 hi hz0 hz1 hz2 rfl (by decide) _ 0 [] rfl (World.ownsRow_nil _ _ _ _) ⟨sb, so, none⟩ L.length lc (sv L) rfl (by rw [sv_length]; omega) (txs_cells hTd) (sv_one L) (by unfold maxLen; omega) (by omega) (Nat.le_refl _) ?_; intro v1A w4A ho4A G4A; have qA := G4A.row qd (fun e => by cases e); have pA : w4A.cell? ⟨w2.heap.size, 1, none⟩ = some (.slice (some ⟨sb, so, none⟩) L.length lc) := cells_at qA 1 _ rfl; have xA : w4A.cell? ⟨sb, so, none⟩ = some (.string x) := (World.cell?_of_block (G4A.grown.block sb (block_lt_of_cell xk) (fun e => by cases e))).trans xk; have hbA : Below w3.heap.size w3 w4A := below_drew (G4A.below (base := w3.heap.size) (Nat.le_refl _) (fun q e => by cases e)); have qAA := heap_keep (o := (.cells #[.string x] 9)) qA; have pAA : (w4A.alloc (.cells #[.string x] 9)).cell? ⟨w2.heap.size, 1, none⟩ = some (.slice (some ⟨sb, so, none⟩) L.length lc) := cells_at qAA 1 _ rfl))
    all_goals
      rw [Nat.zero_add] at ho5
      have r : (w5.setCell ⟨w2.heap.size, 1, none⟩ (.slice ma (L.length + 1) mc)).heap[w2.heap.size]? = some (.cells #[.int .i64 nx, .slice ma (L.length + 1) mc] 24 (0, 0)) := by simpa using heap_setCell_same _ _ 1 _ _ (.slice ma (L.length + 1) mc) qF
      have hT : TxsAt (w5.setCell ⟨w2.heap.size, 1, none⟩ (.slice ma (L.length + 1) mc)) ma mc (L ++ [x]) := by
        obtain ⟨xa', xc', he', -, ht', hf'⟩ := txsAt_of_owns (ss := L ++ [x]) (by rw [sv_app]; simpa [sv] using ho5) (fun s hs => by
          rcases List.mem_append.1 hs with g | g
          · exact ok_size hLk s g
          · rw [show s = x by simpa using g]; exact hxz)
        simp only [Value.slice.injEq] at he'
        obtain ⟨rfl, _, rfl⟩ := he'
        exact ht'.setCell _ _ _ (fun sb so e => by have := hf' sb so e; omega)
      have hB := hB5.setCell (p := ⟨w2.heap.size, 1, none⟩) hB2.size (.slice ma (L.length + 1) mc)
      have hNN : Hid (L.length + 1 = (L ++ [x]).length) := by show _ = _; simp
      have hPF : poolF nx (L ++ [x]) = 12 := poolF_twice HX.out
      clear pF fF qF c0 c1 cA1 cAk
      generalize L ++ [x] = M at *
      have d0 := cells_at r 0 _ rfl
      have d1 := cells_at r 1 _ rfl
      generalize hNd : L.length + 1 = N at *
      clear hNd
      go_wp2_with fail
      generalize w5.setCell ⟨w2.heap.size, 1, none⟩ (.slice ma N mc) = WT at *
      refine (add_bad nx ma N mc M ⟨#[122, 122]⟩ WT 12 hNN.out hT (by decide) (by rw [addF, if_neg (by rw [hPF]; decide)]) (by decide)).mono ?_
      rintro e wa ⟨xa, xc, he, hba⟩
      subst he
      dsimp only
      have hA1 : Below wa.heap.size wa (wa.alloc (.cells #[.int .i64 0, .slice xa 0 xc] 24)) := (Below.refl _ _).alloc (Nat.le_refl _) _
      have hb1 := hba.trans (hA1.mono hba.size)
      have ra := (hb1.block _ (lt_of_heap r)).trans r
      have a0 := cells_at ra 0 _ rfl
      have a1 := cells_at ra 1 _ rfl
      go_wp2_with fail
      generalize wa.alloc (.cells #[.int .i64 0, .slice xa 0 xc] 24) = Wa at hA1 hb1 ra a0 a1 ⊢
      refine (seal_bad nx ma N mc M 0 Wa 12 hNN.out (hT.below hb1) (by rw [sealF, if_neg (by rw [hPF]; decide)]) (by decide)).mono ?_
      rintro e wb ⟨ya, yc, za, zc, he, hbb⟩
      subst he
      dsimp only
      have hA2 : Below wb.heap.size wb ((wb.alloc (.cells #[.int .i64 0, .slice ya 0 yc] 24)).alloc (.cells #[.int .i64 0, .int .i64 0, .slice za 0 zc] 34)) := ((Below.refl _ _).alloc (Nat.le_refl _) _).alloc (by simp) _
      have hb2 := hbb.trans (hA2.mono hbb.size)
      have rb := (hb2.block _ (lt_of_heap ra)).trans ra
      clear a0 a1
      have a0 := cells_at rb 0 _ rfl
      have a1 := cells_at rb 1 _ rfl
      go_wp2_with fail
      generalize (wb.alloc (.cells #[.int .i64 0, .slice ya 0 yc] 24)).alloc (.cells #[.int .i64 0, .int .i64 0, .slice za 0 zc] 34) = Wb at hA2 hb2 rb a0 a1 ⊢
      have hcc := poolCheck_any nx ma N mc M Wb hNN.out ((hT.below hb1).below hb2)
      rw [hPF] at hcc
      refine hcc.mono ?_
      rintro e wd ⟨he, hbd⟩
      subst he
      dsimp only
      go_wp2_with fail
      go_ret
      have hBb := hB.trans ((hb1.trans (hb2.mono hb1.size)).mono hB.size)
      exact ⟨by rfl, hBb.trans (hbd.mono hBb.size)⟩
  · clear HD
    have q0A := heap_keep (o := .cells #[.string ⟨#[]⟩] 9) q0
    have g1 := frozen_at q0A 1
    have e1 := cells_at q0A 1 _ rfl
    have r := heap_setCell_same _ _ 1 _ _ (.slice (some ⟨w3.heap.size, 0, none⟩) 1 1) q0A
    have d0 := cells_at r 0 _ rfl
    have d1 := cells_at r 1 _ rfl
    have hN3 : w2.heap.size ≠ w3.heap.size := by have := lt_of_heap q0; omega
    have hT : TxsAt ((w3.alloc (.cells #[.string ⟨#[]⟩] 9)).setCell ⟨w2.heap.size, 1, none⟩ (.slice (some ⟨w3.heap.size, 0, none⟩) 1 1)) (some ⟨w3.heap.size, 0, none⟩) 1 [⟨#[]⟩] := by
      refine ⟨by simp, by decide, (fun e => by cases e), ⟨.inr ⟨w3.heap.size, 0, rfl, fun j hj => ?_⟩, fun s hs => ?_⟩⟩
      · obtain rfl : j = 0 := by simp at hj; omega
        exact (World.cell?_setCell_far _ _ _ _ hN3).trans (laid_cell w3 #[.string ⟨#[]⟩] 9 0 _ rfl)
      · rw [show s = ⟨#[]⟩ by simpa using hs]; decide
    have hB := (hB3.alloc hB3.size (.cells #[.string ⟨#[]⟩] 9)).setCell (p := ⟨w2.heap.size, 1, none⟩) hB2.size (.slice (some ⟨w3.heap.size, 0, none⟩) 1 1)
    go_wp2_with (go_at_call 25; refine (HK _).mono ?_; rintro e w9 ⟨rfl, rfl⟩)
    generalize (w3.alloc (.cells #[.string ⟨#[]⟩] 9)).setCell ⟨w2.heap.size, 1, none⟩ (.slice (some ⟨w3.heap.size, 0, none⟩) 1 1) = WT at d0 d1 hT r hB ⊢
    refine (add_bad nx (some ⟨w3.heap.size, 0, none⟩) 1 1 [⟨#[]⟩] ⟨#[122, 122]⟩ WT 12 rfl hT (by decide) (by rw [addF, if_neg (by rw [poolF_notx]; decide)]) (by decide)).mono ?_
    rintro e wa ⟨xa, xc, he, hba⟩
    subst he
    dsimp only
    have hA1 : Below wa.heap.size wa (wa.alloc (.cells #[.int .i64 0, .slice xa 0 xc] 24)) := (Below.refl _ _).alloc (Nat.le_refl _) _
    have hb1 := hba.trans (hA1.mono hba.size)
    have ra := (hb1.block _ (lt_of_heap r)).trans r
    have a0 := cells_at ra 0 _ rfl
    have a1 := cells_at ra 1 _ rfl
    go_wp2_with fail
    generalize wa.alloc (.cells #[.int .i64 0, .slice xa 0 xc] 24) = Wa at hA1 hb1 ra a0 a1 ⊢
    refine (seal_bad nx (some ⟨w3.heap.size, 0, none⟩) 1 1 [⟨#[]⟩] 0 Wa 12 rfl (hT.below hb1) (by rw [sealF, if_neg (by rw [poolF_notx]; decide)]) (by decide)).mono ?_
    rintro e wb ⟨ya, yc, za, zc, he, hbb⟩
    subst he
    dsimp only
    have hA2 : Below wb.heap.size wb ((wb.alloc (.cells #[.int .i64 0, .slice ya 0 yc] 24)).alloc (.cells #[.int .i64 0, .int .i64 0, .slice za 0 zc] 34)) := ((Below.refl _ _).alloc (Nat.le_refl _) _).alloc (by simp) _
    have hb2 := hbb.trans (hA2.mono hbb.size)
    have rb := (hb2.block _ (lt_of_heap ra)).trans ra
    clear a0 a1
    have a0 := cells_at rb 0 _ rfl
    have a1 := cells_at rb 1 _ rfl
    go_wp2_with fail
    generalize (wb.alloc (.cells #[.int .i64 0, .slice ya 0 yc] 24)).alloc (.cells #[.int .i64 0, .int .i64 0, .slice za 0 zc] 34) = Wb at hA2 hb2 rb a0 a1 ⊢
    have hcc := poolCheck_any nx (some ⟨w3.heap.size, 0, none⟩) 1 1 [⟨#[]⟩] Wb rfl ((hT.below hb1).below hb2)
    rw [poolF_notx] at hcc
    refine hcc.mono ?_
    rintro e wd ⟨he, hbd⟩
    subst he
    dsimp only
    go_wp2_with fail
    go_ret
    have hBb := hB.trans ((hb1.trans (hb2.mono hb1.size)).mono hB.size)
    exact ⟨by rfl, hBb.trans (hbd.mono hBb.size)⟩
end Go.Proofs.Ytikolpdedmhljaa
