/- The law sheaveskeep.InsertOnce answers true for every argument, and each argument reads behind the call as it read before: the tied card. Its conditions: the three tables of package blake hold what the program's text lays (the card ties that); the form's own reach. -/
import Derived.Test.YtnpjhpmgelaonaaDoorInsertOnceM30
import Derived.Test.YtnpjhpmgelaonaaDoorRows
import Derived.Test.YtnpjhpmgelaonaaDoorK
import Derived.Test.YtnpjhpmgelaonaaDoorInsertOnceM12
import Derived.Lib.LaidTab
import Derived.OpenShut
import Derived.Stop.LaidErr
import Derived.Test.YtnpjhpmgelaonaaDoorLib
import Derived.ProofKit
import Derived.Test.YtnpjhpmgelaonaaDoorCards
import Derived.Test.YtnpjhpmgelaonaaDoorTie
import Derived.WalkKit
import Derived.Deep.DeepHandedRow
import Derived.SevenTiedAt
import Derived.Below
namespace Go.Proofs.YtnpjhpmgelaonaaDoor
open Go.RowKit

set_option maxRecDepth 100000 in
set_option maxHeartbeats 4000000 in
theorem insertOnce_walk (sa : Option Addr) (cap : Nat) (l : List Stp) (n : Int) (w : World) (hl : StepsAt w sa l) (hcl : l.length ≤ cap) (hc0 : sa = none → cap = 0) (hc1 : l.length * 24 ≤ 140737488351232) (hn1 : -9223372036854775808 ≤ n) (hn2 : n ≤ 9223372036854775807) (hT : Tabs w) :
    Calls Tryd.prog 4 #[.slice sa l.length cap, .int .i64 n] w fun e w' => e = .returned (.bool true) ∧ Below w.heap.size w w' := by
  have hnil : sa = none → l.length = 0 ∧ cap = 0 := fun h => by have := hc0 h; omega
  have H := grown_any l sa _ cap w rfl hl hnil hc1 hT
  clear hnil hc0 hc1 hcl
  have HT : Hid (∀ W : World, Below w.heap.size w W → Tabs W) := by
    show ∀ W, _
    exact fun W hW => hT.below hW
  clear hT
  go_enter Tryd.func4, Tryd.ntmps4
  go_wp2_with fail
  refine H.mono ?_
  rintro e w1 ⟨ka, kc, ks, ba, bc, bl, he, hG, hd, hnew, ho, hoff, hV, hb1⟩
  subst he
  dsimp only
  have hpos : 0 < ks.length := by have := grown_some (by omega) hG; rw [cvs_length] at this; exact this
  have HD : Hid (dagF (cvs ks) = 0) := hG.dag
  have hle : ks.length ≤ 24 := by have := hG.len; rw [cvs_length] at this; omega
  have hA1 := (Below.refl w1.heap.size w1).alloc (Nat.le_refl _) (.cells #[.slice ka ks.length kc] 27)
  have qD := heap_alloc_new w1 (.cells #[.slice ka ks.length kc] 27)
  have hd2 := hd.below hA1
  have hB2 := hb1.trans (hA1.mono hb1.size)
  clear hG hV ho hoff hnew hd H hl
  have hposI : ¬ ((ks.length : Int) = 0) := by omega
  go_upto_region 4 with fail
  generalize w1.alloc (.cells #[.slice ka ks.length kc] 27) = W2 at hA1 qD hd2 hB2 ⊢
  generalize w1.heap.size = D at qD ⊢
  obtain ⟨I, hI⟩ : ∃ I : Nat, pk n ks.length = (I : Int) := ⟨(pk n ks.length).toNat, by have := (pk_bounds n ks.length (by omega)).1; omega⟩
  have hIl : I < ks.length := by have := (pk_bounds n ks.length (by omega)).2; omega
  have HP : Hid (∀ V : World, Calls Tryd.prog 12 #[.int .i64 n, .int .i64 ks.length] V fun e w' => e = .returned (.int .i64 I) ∧ V = w') := by
    show ∀ V, _
    intro V
    rw [← hI]
    exact picked_any n ks.length V hn1 hn2 (by omega) (by omega)
  obtain ⟨kb, ko, rfl, hcc⟩ : ∃ kb ko, ka = some ⟨kb, ko, none⟩ ∧ _ := by
    rcases hd2.certs.cells with h | h
    · rw [h] at hpos; simp at hpos
    · exact h
  obtain ⟨c0, c1, c2, c3, c4⟩ := hcc I hIl
  have hCt := hd2.each (ks[I]) (List.getElem_mem hIl)
  have HCE : Hid (cvAt (cvs ks) I = (ks[I]).v) := cvAt_get ks I hIl
  clear hcc hI
  generalize ks[I] = c at c0 c1 c2 c3 c4 hCt HCE
  have hIlI : (I : Int) < ks.length := by omega
  have e0 := cells_at qD 0 _ rfl
  obtain ⟨VR, hVR⟩ : ∃ VR, VR = W2 := ⟨_, rfl⟩
  subst hVR
  go_cut [7] (fun v wx => ∃ X, v = .pointer (some ⟨X, 0, none⟩) ∧ VR.heap.size ≤ X ∧ wx.heap[X]? = some (.cells #[.int .i64 c.au, .int .i64 c.rd, .slice c.ba c.bl.length c.bc, .slice c.pa c.pl.length c.pc, .slice c.va c.vl.length c.vc] 36 (0, 0)) ∧ Below VR.heap.size VR wx)
  case first =>
    have hV0 : Below VR.heap.size VR VR.drew := (Below.refl _ _).drew
    refine wp_region_held_drew (S := fun w' => w'.cell? ⟨D, 0, none⟩ = some (.slice (some ⟨kb, ko, none⟩) ks.length kc) ∧ w'.cell? ⟨kb, ko + I * 5, none⟩ = some (.int .i64 c.au) ∧ w'.cell? ⟨kb, ko + I * 5 + 1, none⟩ = some (.int .i64 c.rd) ∧ w'.cell? ⟨kb, ko + I * 5 + 2, none⟩ = some (.slice c.ba c.bl.length c.bc) ∧ w'.cell? ⟨kb, ko + I * 5 + 3, none⟩ = some (.slice c.pa c.pl.length c.pc) ∧ w'.cell? ⟨kb, ko + I * 5 + 4, none⟩ = some (.slice c.va c.vl.length c.vc)) (by kernel_rfl) ⟨(hV0.cell (p := ⟨D, 0, none⟩) (block_lt_of_cell e0)).trans e0, (hV0.cell (p := ⟨kb, ko + I * 5, none⟩) (block_lt_of_cell c0)).trans c0, (hV0.cell (p := ⟨kb, ko + I * 5 + 1, none⟩) (block_lt_of_cell c1)).trans c1, (hV0.cell (p := ⟨kb, ko + I * 5 + 2, none⟩) (block_lt_of_cell c2)).trans c2, (hV0.cell (p := ⟨kb, ko + I * 5 + 3, none⟩) (block_lt_of_cell c3)).trans c3, (hV0.cell (p := ⟨kb, ko + I * 5 + 4, none⟩) (block_lt_of_cell c4)).trans c4⟩ (fun hHeld => ?_)
    generalize VR.drew = V0 at hV0 hHeld ⊢
    refine take_dst (i := 0) (d := 22) (v := .pointer (some ⟨D, 0, none⟩)) rfl rfl (by kernel_rfl) (by kernel_rfl) (by kernel_rfl) (fun _ _ _ h => h) (Or.inl ⟨by rfl, ?_⟩) hHeld ?_
    · (intro w0 hSw; (try dsimp only at hSw); go_simp)
    simp only [Act.put, List.setIfInBounds_toArray, List.set_cons_zero, List.set_cons_succ]
    refine take_dst (i := 1) (d := 23) (v := .slice (some ⟨kb, ko, none⟩) ks.length kc) rfl rfl (by kernel_rfl) (by kernel_rfl) (by kernel_rfl) (fun _ _ _ h => h) (Or.inl ⟨by rfl, ?_⟩) hHeld ?_
    · (intro w0 hSw; (try dsimp only at hSw); go_simp)
    simp only [Act.put, List.setIfInBounds_toArray, List.set_cons_zero, List.set_cons_succ]
    refine take_dst (i := 2) (d := 24) (v := .int .i64 n) rfl rfl (by kernel_rfl) (by kernel_rfl) (by kernel_rfl) (fun _ _ _ h => h) (Or.inl ⟨by rfl, ?_⟩) hHeld ?_
    · (intro w0 hSw; (try dsimp only at hSw); go_simp)
    simp only [Act.put, List.setIfInBounds_toArray, List.set_cons_zero, List.set_cons_succ]
    refine take_dst (i := 3) (d := 25) (v := .pointer (some ⟨D, 0, none⟩)) rfl rfl (by kernel_rfl) (by kernel_rfl) (by kernel_rfl) (fun _ _ _ h => h) (Or.inl ⟨by rfl, ?_⟩) hHeld ?_
    · (intro w0 hSw; (try dsimp only at hSw); go_simp)
    simp only [Act.put, List.setIfInBounds_toArray, List.set_cons_zero, List.set_cons_succ]
    refine take_dst (i := 4) (d := 26) (v := .slice (some ⟨kb, ko, none⟩) ks.length kc) rfl rfl (by kernel_rfl) (by kernel_rfl) (by kernel_rfl) (fun _ _ _ h => h) (Or.inl ⟨by rfl, ?_⟩) hHeld ?_
    · (intro w0 hSw; (try dsimp only at hSw); go_simp)
    simp only [Act.put, List.setIfInBounds_toArray, List.set_cons_zero, List.set_cons_succ]
    refine take_dst (i := 5) (d := 27) (v := .int .i64 (ks.length : Int)) rfl rfl (by kernel_rfl) (by kernel_rfl) (by kernel_rfl) (fun _ _ _ h => h) (Or.inl ⟨by rfl, ?_⟩) hHeld ?_
    · (intro w0 hSw; (try dsimp only at hSw); go_simp)
    simp only [Act.put, List.setIfInBounds_toArray, List.set_cons_zero, List.set_cons_succ]
    clear hHeld
    refine any_named (fun GO hGo hGi => ?_)
    refine act_named (fun A0 hA0 => ?_)
    have st_CXS : Hid (∀ (V : World) (bX : Nat), Below VR.heap.size VR V → (VR.heap.size ≤ bX) → (V.heap[bX]? = some (.cells #[.int .i64 c.au, .int .i64 c.rd, .slice c.ba c.bl.length c.bc, .slice c.pa c.pl.length c.pc, .slice c.va c.vl.length c.vc] 36 (0, 0))) → GO 0 #[true, true, true, true, true, true, true, true, true, true, true] ((((A0.put (some 28) (.int .i64 (I : Int))).put (some 29) (.pointer (some ⟨kb, ko + I * 5, none⟩))).put (some 30) (.agg #[.int .i64 c.au, .int .i64 c.rd, .slice c.ba c.bl.length c.bc, .slice c.pa c.pl.length c.pc, .slice c.va c.vl.length c.vc])).put (some 7) (.pointer (some ⟨bX, 0, none⟩))) V) := by
      show ∀ V, _
      intro V bX hB gX qS
      refine hGo.out _ _ _ _ ?_
      rw [← hA0.out]
      try simp only [Act.put, List.setIfInBounds_toArray, List.set_cons_zero, List.set_cons_succ]
      refine wpAnyH_done (by kernel_rfl) ?_ _
      go_wp2_with fail
      go_meet
      case rel => exact ⟨bX, rfl, gX, qS, hB⟩
    have st_CX : Hid (∀ (V : World) (bX : Nat), Below VR.heap.size VR V → (V.heap[bX]? = some (.cells #[.int .i64 0, .int .i64 0, .slice none 0 0, .slice none 0 0, .slice none 0 0] 36 (0, 0))) → (VR.heap.size ≤ bX) → GO 1 #[true, true, true, true, true, true, true, true, true, true, false] ((((A0.put (some 28) (.int .i64 (I : Int))).put (some 29) (.pointer (some ⟨kb, ko + I * 5, none⟩))).put (some 30) (.agg #[.int .i64 c.au, .int .i64 c.rd, .slice c.ba c.bl.length c.bc, .slice c.pa c.pl.length c.pc, .slice c.va c.vl.length c.vc])).put (some 7) (.pointer (some ⟨bX, 0, none⟩))) V) := by
      show ∀ V, _
      intro V bX hB qX gX
      refine hGo.out _ _ _ _ ?_
      rw [← hA0.out]
      try simp only [Act.put, List.setIfInBounds_toArray, List.set_cons_zero, List.set_cons_succ]
      refine wpAnyH_ready (rs := [10]) (by kernel_rfl) (by simp) (AllReadyH.cons rfl (fun K hK => ?_) AllReadyH.nil)
      have c0_ := cells_at qX 0 _ rfl
      have f0_ := frozen_at qX 0
      have c1_ := cells_at qX 1 _ rfl
      have f1_ := frozen_at qX 1
      have c2_ := cells_at qX 2 _ rfl
      have f2_ := frozen_at qX 2
      have c3_ := cells_at qX 3 _ rfl
      have f3_ := frozen_at qX 3
      have c4_ := cells_at qX 4 _ rfl
      have f4_ := frozen_at qX 4
      refine step_store rfl rfl (((((V.setCell ⟨bX, 0, none⟩ (.int .i64 c.au)).setCell ⟨bX, 1, none⟩ (.int .i64 c.rd)).setCell ⟨bX, 2, none⟩ (.slice c.ba c.bl.length c.bc)).setCell ⟨bX, 3, none⟩ (.slice c.pa c.pl.length c.pc)).setCell ⟨bX, 4, none⟩ (.slice c.va c.vl.length c.vc)) (by go_simp) ?_
      have hBn := (((((hB.setCell (p := ⟨bX, 0, none⟩) gX (.int .i64 c.au)).setCell (p := ⟨bX, 1, none⟩) gX (.int .i64 c.rd)).setCell (p := ⟨bX, 2, none⟩) gX (.slice c.ba c.bl.length c.bc)).setCell (p := ⟨bX, 3, none⟩) gX (.slice c.pa c.pl.length c.pc)).setCell (p := ⟨bX, 4, none⟩) gX (.slice c.va c.vl.length c.vc))
      have qS_n : (((((V.setCell ⟨bX, 0, none⟩ (.int .i64 c.au)).setCell ⟨bX, 1, none⟩ (.int .i64 c.rd)).setCell ⟨bX, 2, none⟩ (.slice c.ba c.bl.length c.bc)).setCell ⟨bX, 3, none⟩ (.slice c.pa c.pl.length c.pc)).setCell ⟨bX, 4, none⟩ (.slice c.va c.vl.length c.vc)).heap[bX]? = some (.cells #[.int .i64 c.au, .int .i64 c.rd, .slice c.ba c.bl.length c.bc, .slice c.pa c.pl.length c.pc, .slice c.va c.vl.length c.vc] 36 (0, 0)) := by simpa using (heap_setCell_same _ _ 4 _ _ (.slice c.va c.vl.length c.vc) (heap_setCell_same _ _ 3 _ _ (.slice c.pa c.pl.length c.pc) (heap_setCell_same _ _ 2 _ _ (.slice c.ba c.bl.length c.bc) (heap_setCell_same _ _ 1 _ _ (.int .i64 c.rd) (heap_setCell_same _ _ 0 _ _ (.int .i64 c.au) qX)))))
      generalize (((((V.setCell ⟨bX, 0, none⟩ (.int .i64 c.au)).setCell ⟨bX, 1, none⟩ (.int .i64 c.rd)).setCell ⟨bX, 2, none⟩ (.slice c.ba c.bl.length c.bc)).setCell ⟨bX, 3, none⟩ (.slice c.pa c.pl.length c.pc)).setCell ⟨bX, 4, none⟩ (.slice c.va c.vl.length c.vc)) = W' at hBn qS_n ⊢
      refine hK.out _ _ ⟨(hBn.cell (p := ⟨D, 0, none⟩) (block_lt_of_cell e0)).trans e0, (hBn.cell (p := ⟨kb, ko + I * 5, none⟩) (block_lt_of_cell c0)).trans c0, (hBn.cell (p := ⟨kb, ko + I * 5 + 1, none⟩) (block_lt_of_cell c1)).trans c1, (hBn.cell (p := ⟨kb, ko + I * 5 + 2, none⟩) (block_lt_of_cell c2)).trans c2, (hBn.cell (p := ⟨kb, ko + I * 5 + 3, none⟩) (block_lt_of_cell c3)).trans c3, (hBn.cell (p := ⟨kb, ko + I * 5 + 4, none⟩) (block_lt_of_cell c4)).trans c4⟩ (fun hHeld => ?_)
      clear hHeld
      have h := st_CXS.out W' bX hBn gX qS_n
      rw [← hA0.out] at h
      (try simp only [Act.put, List.setIfInBounds_toArray, List.set_cons_zero, List.set_cons_succ] at h)
      (try simp only [List.setIfInBounds_toArray, List.set_cons_zero, List.set_cons_succ])
      exact hGi.out _ _ _ _ h
    have st_C : Hid (∀ (V : World), Below VR.heap.size VR V → GO 2 #[true, true, true, true, true, true, true, true, true, false, false] (((A0.put (some 28) (.int .i64 (I : Int))).put (some 29) (.pointer (some ⟨kb, ko + I * 5, none⟩))).put (some 30) (.agg #[.int .i64 c.au, .int .i64 c.rd, .slice c.ba c.bl.length c.bc, .slice c.pa c.pl.length c.pc, .slice c.va c.vl.length c.vc])) V) := by
      show ∀ V, _
      intro V  hB 
      refine hGo.out _ _ _ _ ?_
      rw [← hA0.out]
      try simp only [Act.put, List.setIfInBounds_toArray, List.set_cons_zero, List.set_cons_succ]
      refine wpAnyH_ready (rs := [9]) (by kernel_rfl) (by simp) (AllReadyH.cons rfl (fun K hK => ?_) AllReadyH.nil)
      refine step_run rfl 7 rfl (.pointer (some ⟨V.heap.size, 0, none⟩)) (V.alloc (.cells #[.int .i64 0, .int .i64 0, .slice none 0 0, .slice none 0 0, .slice none 0 0] 36)) (by go_simp) ?_
      have hA : Below V.heap.size V (V.alloc (.cells #[.int .i64 0, .int .i64 0, .slice none 0 0, .slice none 0 0, .slice none 0 0] 36)) := (Below.refl _ _).alloc (Nat.le_refl _) _
      have hBn := hB.trans (hA.mono hB.size)
      have qX_n := heap_alloc_new V (.cells #[.int .i64 0, .int .i64 0, .slice none 0 0, .slice none 0 0, .slice none 0 0] 36)
      have gX_n := hB.size
      generalize hW' : V.alloc (.cells #[.int .i64 0, .int .i64 0, .slice none 0 0, .slice none 0 0, .slice none 0 0] 36) = W' at hA hBn qX_n ⊢
      clear hW'
      obtain ⟨bX, hx_e⟩ : ∃ bX, bX = V.heap.size := ⟨_, rfl⟩
      rw [← hx_e] at qX_n gX_n ⊢
      have hA' := hA
      clear hx_e
      refine hK.out _ _ ⟨(hBn.cell (p := ⟨D, 0, none⟩) (block_lt_of_cell e0)).trans e0, (hBn.cell (p := ⟨kb, ko + I * 5, none⟩) (block_lt_of_cell c0)).trans c0, (hBn.cell (p := ⟨kb, ko + I * 5 + 1, none⟩) (block_lt_of_cell c1)).trans c1, (hBn.cell (p := ⟨kb, ko + I * 5 + 2, none⟩) (block_lt_of_cell c2)).trans c2, (hBn.cell (p := ⟨kb, ko + I * 5 + 3, none⟩) (block_lt_of_cell c3)).trans c3, (hBn.cell (p := ⟨kb, ko + I * 5 + 4, none⟩) (block_lt_of_cell c4)).trans c4⟩ (fun hHeld => ?_)
      clear hHeld
      have h := st_CX.out W' bX hBn qX_n gX_n
      rw [← hA0.out] at h
      (try simp only [Act.put, List.setIfInBounds_toArray, List.set_cons_zero, List.set_cons_succ] at h)
      (try simp only [Act.put, List.setIfInBounds_toArray, List.set_cons_zero, List.set_cons_succ])
      exact hGi.out _ _ _ _ h
    have st_X : Hid (∀ (V : World) (bX : Nat), Below VR.heap.size VR V → (V.heap[bX]? = some (.cells #[.int .i64 0, .int .i64 0, .slice none 0 0, .slice none 0 0, .slice none 0 0] 36 (0, 0))) → (VR.heap.size ≤ bX) → GO 4 #[true, true, true, true, true, true, false, false, false, true, false] (A0.put (some 7) (.pointer (some ⟨bX, 0, none⟩))) V) := by
      show ∀ V, _
      intro V bX hB qX gX
      refine hGo.out _ _ _ _ ?_
      rw [← hA0.out]
      try simp only [Act.put, List.setIfInBounds_toArray, List.set_cons_zero, List.set_cons_succ]
      refine wpAnyH_ready (rs := [6]) (by kernel_rfl) (by simp) (AllReadyH.cons rfl (fun K hK => ?_) AllReadyH.nil)
      refine step_calls_dst rfl 28 rfl 12 [.tmp 24, .tmp 27] #[3, 3] rfl [.int .i64 n, .int .i64 (ks.length : Int)] rfl (enters_of Tryd.func12 (by kernel_rfl) rfl) (fun v w' => v = .int .i64 (I : Int) ∧ V = w') ((HP.out V).mono (fun e w2 h => ⟨_, h.1, rfl, h.2⟩)) ?_
      rintro v W' ⟨rfl, hwq⟩
      subst hwq
      refine hK.out _ _ ⟨(hB.cell (p := ⟨D, 0, none⟩) (block_lt_of_cell e0)).trans e0, (hB.cell (p := ⟨kb, ko + I * 5, none⟩) (block_lt_of_cell c0)).trans c0, (hB.cell (p := ⟨kb, ko + I * 5 + 1, none⟩) (block_lt_of_cell c1)).trans c1, (hB.cell (p := ⟨kb, ko + I * 5 + 2, none⟩) (block_lt_of_cell c2)).trans c2, (hB.cell (p := ⟨kb, ko + I * 5 + 3, none⟩) (block_lt_of_cell c3)).trans c3, (hB.cell (p := ⟨kb, ko + I * 5 + 4, none⟩) (block_lt_of_cell c4)).trans c4⟩ (fun hHeld => ?_)
      simp only [Act.put, List.setIfInBounds_toArray, List.set_cons_zero, List.set_cons_succ]
      refine take_dst (i := 7) (d := 29) (v := .pointer (some ⟨kb, ko + I * 5, none⟩)) rfl rfl (by kernel_rfl) (by kernel_rfl) (by kernel_rfl) (fun _ _ _ h => h) (Or.inl ⟨by rfl, ?_⟩) hHeld ?_
      · (intro w0 hSw; (try dsimp only at hSw); go_simp)
      simp only [Act.put, List.setIfInBounds_toArray, List.set_cons_zero, List.set_cons_succ]
      refine take_dst (i := 8) (d := 30) (v := .agg #[.int .i64 c.au, .int .i64 c.rd, .slice c.ba c.bl.length c.bc, .slice c.pa c.pl.length c.pc, .slice c.va c.vl.length c.vc]) rfl rfl (by kernel_rfl) (by kernel_rfl) (by kernel_rfl) (fun _ _ _ h => h) (Or.inl ⟨by rfl, ?_⟩) hHeld ?_
      · (intro w0 hSw; (try dsimp only at hSw); go_simp)
      simp only [Act.put, List.setIfInBounds_toArray, List.set_cons_zero, List.set_cons_succ]
      clear hHeld
      have h := st_CX.out V bX hB qX gX
      rw [← hA0.out] at h
      (try simp only [Act.put, List.setIfInBounds_toArray, List.set_cons_zero, List.set_cons_succ] at h)
      (try simp only [Act.put, List.setIfInBounds_toArray, List.set_cons_zero, List.set_cons_succ])
      exact hGi.out _ _ _ _ h
    have st_0 : Hid (∀ (V : World), Below VR.heap.size VR V → GO 5 #[true, true, true, true, true, true, false, false, false, false, false] A0 V) := by
      show ∀ V, _
      intro V  hB 
      refine hGo.out _ _ _ _ ?_
      rw [← hA0.out]
      try simp only [Act.put, List.setIfInBounds_toArray, List.set_cons_zero, List.set_cons_succ]
      refine wpAnyH_ready (rs := [6, 9]) (by kernel_rfl) (by simp) (AllReadyH.cons rfl (fun K hK => ?_) (AllReadyH.cons rfl (fun K hK => ?_) AllReadyH.nil))
      · skip
        refine step_calls_dst rfl 28 rfl 12 [.tmp 24, .tmp 27] #[3, 3] rfl [.int .i64 n, .int .i64 (ks.length : Int)] rfl (enters_of Tryd.func12 (by kernel_rfl) rfl) (fun v w' => v = .int .i64 (I : Int) ∧ V = w') ((HP.out V).mono (fun e w2 h => ⟨_, h.1, rfl, h.2⟩)) ?_
        rintro v W' ⟨rfl, hwq⟩
        subst hwq
        refine hK.out _ _ ⟨(hB.cell (p := ⟨D, 0, none⟩) (block_lt_of_cell e0)).trans e0, (hB.cell (p := ⟨kb, ko + I * 5, none⟩) (block_lt_of_cell c0)).trans c0, (hB.cell (p := ⟨kb, ko + I * 5 + 1, none⟩) (block_lt_of_cell c1)).trans c1, (hB.cell (p := ⟨kb, ko + I * 5 + 2, none⟩) (block_lt_of_cell c2)).trans c2, (hB.cell (p := ⟨kb, ko + I * 5 + 3, none⟩) (block_lt_of_cell c3)).trans c3, (hB.cell (p := ⟨kb, ko + I * 5 + 4, none⟩) (block_lt_of_cell c4)).trans c4⟩ (fun hHeld => ?_)
        simp only [Act.put, List.setIfInBounds_toArray, List.set_cons_zero, List.set_cons_succ]
        refine take_dst (i := 7) (d := 29) (v := .pointer (some ⟨kb, ko + I * 5, none⟩)) rfl rfl (by kernel_rfl) (by kernel_rfl) (by kernel_rfl) (fun _ _ _ h => h) (Or.inl ⟨by rfl, ?_⟩) hHeld ?_
        · (intro w0 hSw; (try dsimp only at hSw); go_simp)
        simp only [Act.put, List.setIfInBounds_toArray, List.set_cons_zero, List.set_cons_succ]
        refine take_dst (i := 8) (d := 30) (v := .agg #[.int .i64 c.au, .int .i64 c.rd, .slice c.ba c.bl.length c.bc, .slice c.pa c.pl.length c.pc, .slice c.va c.vl.length c.vc]) rfl rfl (by kernel_rfl) (by kernel_rfl) (by kernel_rfl) (fun _ _ _ h => h) (Or.inl ⟨by rfl, ?_⟩) hHeld ?_
        · (intro w0 hSw; (try dsimp only at hSw); go_simp)
        simp only [Act.put, List.setIfInBounds_toArray, List.set_cons_zero, List.set_cons_succ]
        clear hHeld
        have h := st_C.out V hB
        rw [← hA0.out] at h
        (try simp only [Act.put, List.setIfInBounds_toArray, List.set_cons_zero, List.set_cons_succ] at h)
        (try simp only [Act.put, List.setIfInBounds_toArray, List.set_cons_zero, List.set_cons_succ])
        exact hGi.out _ _ _ _ h
      · skip
        refine step_run rfl 7 rfl (.pointer (some ⟨V.heap.size, 0, none⟩)) (V.alloc (.cells #[.int .i64 0, .int .i64 0, .slice none 0 0, .slice none 0 0, .slice none 0 0] 36)) (by go_simp) ?_
        have hA : Below V.heap.size V (V.alloc (.cells #[.int .i64 0, .int .i64 0, .slice none 0 0, .slice none 0 0, .slice none 0 0] 36)) := (Below.refl _ _).alloc (Nat.le_refl _) _
        have hBn := hB.trans (hA.mono hB.size)
        have qX_n := heap_alloc_new V (.cells #[.int .i64 0, .int .i64 0, .slice none 0 0, .slice none 0 0, .slice none 0 0] 36)
        have gX_n := hB.size
        generalize hW' : V.alloc (.cells #[.int .i64 0, .int .i64 0, .slice none 0 0, .slice none 0 0, .slice none 0 0] 36) = W' at hA hBn qX_n ⊢
        clear hW'
        obtain ⟨bX, hx_e⟩ : ∃ bX, bX = V.heap.size := ⟨_, rfl⟩
        rw [← hx_e] at qX_n gX_n ⊢
        have hA' := hA
        clear hx_e
        refine hK.out _ _ ⟨(hBn.cell (p := ⟨D, 0, none⟩) (block_lt_of_cell e0)).trans e0, (hBn.cell (p := ⟨kb, ko + I * 5, none⟩) (block_lt_of_cell c0)).trans c0, (hBn.cell (p := ⟨kb, ko + I * 5 + 1, none⟩) (block_lt_of_cell c1)).trans c1, (hBn.cell (p := ⟨kb, ko + I * 5 + 2, none⟩) (block_lt_of_cell c2)).trans c2, (hBn.cell (p := ⟨kb, ko + I * 5 + 3, none⟩) (block_lt_of_cell c3)).trans c3, (hBn.cell (p := ⟨kb, ko + I * 5 + 4, none⟩) (block_lt_of_cell c4)).trans c4⟩ (fun hHeld => ?_)
        clear hHeld
        have h := st_X.out W' bX hBn qX_n gX_n
        rw [← hA0.out] at h
        (try simp only [Act.put, List.setIfInBounds_toArray, List.set_cons_zero, List.set_cons_succ] at h)
        (try simp only [Act.put, List.setIfInBounds_toArray, List.set_cons_zero, List.set_cons_succ])
        exact hGi.out _ _ _ _ h
    exact st_0.out V0 hV0
  case rest =>
    obtain ⟨X, rfl, gX, qX, hb3⟩ := hcut
    have hB3 := hB2.trans (hb3.mono hB2.size)
    have qD3 := (hb3.block _ (lt_of_heap qD)).trans qD
    have hd3 := hd2.below hb3
    have hCt3 := hCt.below hb3
    have HF : Hid (c.v.f = 0 ∧ 0 ≤ cOf (cvs ks) c.v.au c.v.rd) := by
      refine ⟨?_, ?_⟩
      · rw [← HCE.out]; exact dagF_f HD.out I (by rw [cvs_length]; exact hIl)
      · rw [← HCE.out]; exact cOf_at (by rw [cvs_length]; exact hIl)
    have HI1 : Hid (insE (cvs ks) c.v = 7) := insE_twice HD.out HF.out.1 HF.out.2
    have d0 := cells_at qD3 0 _ rfl
    have x0 := cells_at qX 0 _ rfl
    have x1 := cells_at qX 1 _ rfl
    have x2 := cells_at qX 2 _ rfl
    have x3 := cells_at qX 3 _ rfl
    have x4 := cells_at qX 4 _ rfl
    clear c0 c1 c2 c3 c4 hd2 qD hCt e0 hposI
    have HInv := dagInsert_any ks (some ⟨kb, ko, none⟩) _ kc c wc rfl hd3 hCt3 (HT.out wc hB3)
    go_wp2_with fail
    refine HInv.mono ?_
    rintro e w4 ⟨hI4, hb4⟩
    have he := in_err hI4 HI1.out (by decide)
    subst he
    dsimp only
    have hB4 := hB3.trans (hb4.mono hB3.size)
    have qX4 := (hb4.block _ (lt_of_heap qX)).trans qX
    have qD4 := (hb4.block _ (lt_of_heap qD3)).trans qD3
    have hA4 := (Below.refl w4.heap.size w4).alloc (Nat.le_refl _) (.cells #[.slice none 0 0] 27)
    have hA5 := hA4.alloc hA4.size (.cells #[.int .i64 c.au, .int .i64 c.rd, .slice c.ba c.bl.length c.bc, .slice c.pa c.pl.length c.pc, .slice c.va c.vl.length c.vc] 36)
    have qY := heap_alloc_new (w4.alloc (.cells #[.slice none 0 0] 27)) (.cells #[.int .i64 c.au, .int .i64 c.rd, .slice c.ba c.bl.length c.bc, .slice c.pa c.pl.length c.pc, .slice c.va c.vl.length c.vc] 36)
    have qX5 := (hA4.block _ (lt_of_heap qX4)).trans qX4
    have y0 := cells_at qX5 0 _ rfl
    have y1 := cells_at qX5 1 _ rfl
    have y2 := cells_at qX5 2 _ rfl
    have y3 := cells_at qX5 3 _ rfl
    have y4 := cells_at qX5 4 _ rfl
    clear d0 x0 x1 x2 x3 x4 HInv hI4
    go_wp2_with fail
    generalize (w4.alloc (.cells #[.slice none 0 0] 27)).alloc (.cells #[.int .i64 c.au, .int .i64 c.rd, .slice c.ba c.bl.length c.bc, .slice c.pa c.pl.length c.pc, .slice c.va c.vl.length c.vc] 36) = W5 at hA5 qY ⊢
    rw [size_alloc] at qY
    have hB5 := hB4.trans (hA5.mono hB4.size)
    have qD5 := (hA5.block _ (lt_of_heap qD4)).trans qD4
    have hd5 := (hd3.below hb4).below hA5
    have hCt5 := (hCt3.below hb4).below hA5
    have hYn : D < w4.heap.size + 1 := by have := lt_of_heap qD4; omega
    have hDi : ∀ b, CtIn c b → b < w4.heap.size + 1 := fun b hb => by have := (hCt3.below hb4).block_lt b hb; omega
    have hdi : ∀ b, DagIn (some ⟨kb, ko, none⟩) ks b → b < w4.heap.size + 1 := fun b hb => by
      rcases hb with ⟨so, e⟩ | ⟨c', hc', hq⟩
      · have := dag_row_lt (hd3.below hb4) hpos b so e; omega
      · have := ((hd3.below hb4).each c' hc').block_lt b hq; omega
    have hY5 : w4.heap.size + 1 < W5.heap.size := lt_of_heap qY
    have hYw : w.heap.size ≤ w4.heap.size + 1 := by have := hB4.size; omega
    generalize w4.heap.size + 1 = Y at qY hYn hDi hdi hY5 hYw ⊢
    clear qX4 qX5 y0 y1 y2 y3 y4 hA4 hA5 hd3 hCt3 hb4 hb3 qX qD3 qD4
    refine (some_any n 99 W5 ⟨hn1, hn2⟩).mono ?_
    rintro e w6 ⟨he, ho6, hb6⟩
    subst he
    dsimp only
    have qY6 := (hb6.block _ (lt_of_heap qY)).trans qY
    have hs6 := (sliceAt_of_owns ho6).2
    have hSB := hb6.size
    have hS5 := (ho6.lt _ rfl).2
    have hB6 := hB5.trans (hb6.mono hB5.size)
    have qD6 := (hb6.block _ (lt_of_heap qD5)).trans qD5
    have hd6 := hd5.below hb6
    have hCt6 := hCt5.below hb6
    obtain ⟨SB, hSBe⟩ : ∃ SB, SB = W5.heap.size := ⟨_, rfl⟩
    rw [← hSBe] at hs6 hSB hS5 hY5 ⊢
    clear hSBe ho6 hb6 hd5 hCt5 qD5 hB5 qY
    have hA6 := (Below.refl w6.heap.size w6).alloc (Nat.le_refl _) (.cells #[.slice (some ⟨SB, 0, none⟩) 32 32] 41)
    have qN := heap_alloc_new w6 (.cells #[.slice (some ⟨SB, 0, none⟩) 32 32] 41)
    have qY7 := (hA6.block _ (lt_of_heap qY6)).trans qY6
    have z2 := cells_at qY7 2 _ rfl
    have zf := frozen_at qY7 2
    have hY6 := lt_of_heap qY6
    go_upto_region 8 with fail
    have hB7 := (hB6.setCell (p := ⟨Y, 2, none⟩) hYw (.slice (some ⟨w6.heap.size, 0, none⟩) 1 1))
    have qYs : (w6.setCell ⟨Y, 2, none⟩ (.slice (some ⟨w6.heap.size, 0, none⟩) 1 1)).heap[Y]? = some (.cells #[.int .i64 c.au, .int .i64 c.rd, .slice (some ⟨w6.heap.size, 0, none⟩) 1 1, .slice c.pa c.pl.length c.pc, .slice c.va c.vl.length c.vc] 36 (0, 0)) := by simpa using heap_setCell_same _ _ 2 _ _ (.slice (some ⟨w6.heap.size, 0, none⟩) 1 1) qY6
    have qDs := heap_far (j := 2) (v := .slice (some ⟨w6.heap.size, 0, none⟩) 1 1) qD6 (show D ≠ Y by omega)
    have hds := dag_setCell hd6 Y 2 (.slice (some ⟨w6.heap.size, 0, none⟩) 1 1) (fun sb so e => by have := hdi sb (.inl ⟨so, e⟩); omega) (fun c' hc' q hq => by have := hdi q (.inr ⟨c', hc', hq⟩); omega)
    have hCs : CtAt (w6.setCell ⟨Y, 2, none⟩ (.slice (some ⟨w6.heap.size, 0, none⟩) 1 1)) c := hCt6.keep (by simp) (fun q hq => heap_setCell_other _ ⟨Y, 2, none⟩ q _ (by have := hDi q hq; show q ≠ Y; omega))
    have hss := slice_keep (w' := w6.setCell ⟨Y, 2, none⟩ (.slice (some ⟨w6.heap.size, 0, none⟩) 1 1)) hs6 (fun b so _ e => heap_setCell_other _ ⟨Y, 2, none⟩ b _ (by cases e; show SB ≠ Y; omega))
    have hNs : (w6.setCell ⟨Y, 2, none⟩ (.slice (some ⟨w6.heap.size, 0, none⟩) 1 1)).heap.size = w6.heap.size := by simp
    have hA7 := (Below.refl (w6.setCell ⟨Y, 2, none⟩ (.slice (some ⟨w6.heap.size, 0, none⟩) 1 1)).heap.size (w6.setCell ⟨Y, 2, none⟩ (.slice (some ⟨w6.heap.size, 0, none⟩) 1 1))).alloc (Nat.le_refl _) (.cells #[.slice (some ⟨SB, 0, none⟩) 32 32] 41)
    have qN7 := heap_alloc_new (w6.setCell ⟨Y, 2, none⟩ (.slice (some ⟨w6.heap.size, 0, none⟩) 1 1)) (.cells #[.slice (some ⟨SB, 0, none⟩) 32 32] 41)
    rw [hNs] at qN7
    have hB8 := hB7.trans (hA7.mono hB7.size)
    have qY8 := (hA7.block _ (lt_of_heap qYs)).trans qYs
    have qD8 := (hA7.block _ (lt_of_heap qDs)).trans qDs
    have hd8 := hds.below hA7
    have hC8 := hCs.below hA7
    have hs8 := hss.below hA7
    clear qN z2 zf hA6 qY6 qY7 hB6 hB7 hA7 hds hCs hss qDs qYs qD6 hd6 hCt6 hs6 hNs
    generalize (w6.setCell ⟨Y, 2, none⟩ (.slice (some ⟨w6.heap.size, 0, none⟩) 1 1)).alloc (.cells #[.slice (some ⟨SB, 0, none⟩) 32 32] 41) = W8 at qN7 hB8 qY8 qD8 hd8 hC8 hs8 ⊢
    generalize w6.heap.size = NB at qN7 qY8 ⊢
    have hL8 : ListAt W8 (some ⟨NB, 0, none⟩) 1 [⟨some ⟨SB, 0, none⟩, 32, someL n 99⟩] := list_lit1 (by rw [someL_length]; exact qN7) hs8
    have hC9 : CtAt W8 ⟨c.au, c.rd, some ⟨NB, 0, none⟩, 1, [⟨some ⟨SB, 0, none⟩, 32, someL n 99⟩], c.pa, c.pc, c.pl, c.va, c.vc, c.vl⟩ := ⟨⟨hL8, hC8.hat.lp, fun sb so e => (by cases e; exact lt_of_heap qN7), hC8.hat.rp⟩, hC8.ints, hC8.vle⟩
    have HI2 : Hid (insE (cvs ks) (⟨c.au, c.rd, some ⟨NB, 0, none⟩, 1, [⟨some ⟨SB, 0, none⟩, 32, someL n 99⟩], c.pa, c.pc, c.pl, c.va, c.vc, c.vl⟩ : Ct).v = 7) :=
      insE_twice HD.out (certF_one HF.out.1 (someL_length n 99)) HF.out.2
    have HIn2 := dagInsert_any ks (some ⟨kb, ko, none⟩) _ kc _ W8 rfl hd8 hC9 (HT.out W8 hB8)
    have d0 := cells_at qD8 0 _ rfl
    have x0 := cells_at qY8 0 _ rfl
    have x1 := cells_at qY8 1 _ rfl
    have x2 := cells_at qY8 2 _ rfl
    have x3 := cells_at qY8 3 _ rfl
    have x4 := cells_at qY8 4 _ rfl
    clear hL8 hC8 hs8 hC9 qN7 hd8
    go_wp2_with fail
    refine HIn2.mono ?_
    rintro e w9 ⟨hI9, hb9⟩
    have he := in_err hI9 HI2.out (by decide)
    subst he
    dsimp only
    clear hI9 HIn2
    have hB9 := hB8.trans (hb9.mono hB8.size)
    go_wp2_with fail
    go_ret
    exact ⟨rfl, hB9.alloc hB9.size _⟩
end Go.Proofs.YtnpjhpmgelaonaaDoor

namespace Go.Proofs.YtnpjhpmgelaonaaDoor
open Go.RowKit

set_option maxRecDepth 100000 in
/-- An array of arrays of integers that reads as a table of rows holds the rows' numbers, cell for cell. -/
theorem cells_of_tab2 {H : Type} {enc : TypeId × Value → H} {P : Program} {w : World} {base : Nat} {sp : Nat → Bool} {held : Bool} {fuel : Nat} {t e i : TypeId} {n m : Nat} {k : IntKind} {cs : List Value} {rows : List (List Int)} {p : List MemPlace}
    (ht : P.underlying t = some (.array n e)) (he : P.underlying e = some (.array m i)) (hi : P.underlying i = some (.int k)) (hci : P.cellsOf i = 1) (hce : P.cellsOf e = m) (hm : 0 < m)
    (h : DataW.trod enc P w base sp held fuel t cs = some (.agg (rows.map (Lib.tabData k)), p)) (q : Nat) (hq : q < n * m) : cs[q]? = ((rows.getD (q / m) []).map (Value.int k))[q % m]? := by
  obtain ⟨xs, f, rfl, hx, hl, hn, hr⟩ := DataW.trod_array ht h
  have hin : q / m < n := Nat.div_lt_of_lt_mul (by rw [Nat.mul_comm]; exact hq)
  have hrow := hr (q / m) hin
  have hxs : xs.map (·.1) = rows.map (Lib.tabData k) := by
    have := congrArg Prod.fst hx
    simpa using this.symm
  have hg : (xs.map (·.1))[q / m]? = some (xs[q / m]'(by omega)).1 := by simp [hn, hin]
  rw [hxs] at hg
  simp only [List.getElem?_map, Option.map_eq_some_iff] at hg
  obtain ⟨r, hr1, hr2⟩ := hg
  rw [List.getElem?_eq_getElem (by omega), hce] at hrow
  have hrow' : DataW.trod enc P w base sp held f e ((cs.drop (q / m * m)).take m) = some (Lib.tabData k r, (xs[q / m]'(by omega)).2) := by
    rw [hrow, hr2]
  have hc := Lib.cells_of_tab he hi hci hce hrow'
  have hj : q % m < m := Nat.mod_lt _ hm
  have e1 : ((cs.drop (q / m * m)).take m)[q % m]? = cs[q]? := by
    rw [List.getElem?_take, if_pos hj, List.getElem?_drop, Nat.mul_comm, Nat.div_add_mod]
  rw [← e1, hc]
  simp [List.getD, hr1]

set_option maxRecDepth 100000 in
theorem tFirst : (Tryd.prog.globals[0]?).map (·.type) = some 109 := by kernel_rfl
set_option maxRecDepth 100000 in
theorem tOrders : (Tryd.prog.globals[1]?).map (·.type) = some 119 := by kernel_rfl
set_option maxRecDepth 100000 in
theorem tLanes : (Tryd.prog.globals[2]?).map (·.type) = some 121 := by kernel_rfl
set_option maxRecDepth 100000 in
theorem cU32 : Tryd.prog.cellsOf 108 = 1 := by kernel_rfl
set_option maxRecDepth 100000 in
theorem c8U32 : Tryd.prog.cellsOf 109 = 8 := by kernel_rfl
set_option maxRecDepth 100000 in
theorem c16U8 : Tryd.prog.cellsOf 118 = 16 := by kernel_rfl
set_option maxRecDepth 100000 in
theorem c4U8 : Tryd.prog.cellsOf 120 = 4 := by kernel_rfl
def ordRows : List (List Int) := [[0, 1, 2, 3, 4, 5, 6, 7, 8, 9, 10, 11, 12, 13, 14, 15], [14, 10, 4, 8, 9, 15, 13, 6, 1, 12, 0, 2, 11, 7, 5, 3], [11, 8, 12, 0, 5, 2, 15, 13, 10, 14, 3, 6, 7, 1, 9, 4], [7, 9, 3, 1, 13, 12, 11, 14, 2, 6, 5, 10, 4, 0, 15, 8], [9, 0, 5, 7, 2, 4, 10, 15, 14, 1, 11, 12, 6, 8, 3, 13], [2, 12, 6, 10, 0, 11, 8, 3, 4, 13, 7, 5, 15, 14, 1, 9], [12, 5, 1, 15, 14, 13, 4, 10, 0, 7, 6, 3, 9, 2, 8, 11], [13, 11, 7, 14, 12, 1, 3, 9, 5, 0, 15, 4, 8, 6, 2, 10], [6, 15, 14, 9, 11, 3, 0, 8, 12, 2, 13, 7, 1, 4, 10, 5], [10, 2, 8, 4, 7, 6, 1, 5, 15, 11, 9, 14, 3, 12, 13, 0]]
def laneRows : List (List Int) := [[0, 4, 8, 12], [1, 5, 9, 13], [2, 6, 10, 14], [3, 7, 11, 15], [0, 5, 10, 15], [1, 6, 11, 12], [2, 7, 8, 13], [3, 4, 9, 14]]
set_option maxRecDepth 100000 in
theorem ordRows_flat : ∀ q, q < 160 → (ordRows.getD (q / 16) [])[q % 16]? = some ((ordF.getD q 0 : Nat) : Int) := by decide +kernel
set_option maxRecDepth 100000 in
theorem laneRows_flat : ∀ q, q < 32 → (laneRows.getD (q / 4) [])[q % 4]? = some ((laneF.getD q 0 : Nat) : Int) := by decide +kernel
set_option maxRecDepth 100000 in
theorem dFirst : Rows.laid_sheaves_blake_firstWords (H := Unit) = Lib.tabData .u32 fw := rfl
set_option maxRecDepth 100000 in
theorem dOrders : Rows.laid_sheaves_blake_orders (H := Unit) = .agg (ordRows.map (Lib.tabData .u8)) := rfl
set_option maxRecDepth 100000 in
theorem dLanes : Rows.laid_sheaves_blake_lanes (H := Unit) = .agg (laneRows.map (Lib.tabData .u8)) := rfl

set_option maxRecDepth 100000 in
theorem tabs_of_laid {W : World} {n1 n2 n3 : String} (gFirst : Tryd.prog.globalNamed n1 = some 0) (gOrders : Tryd.prog.globalNamed n2 = some 1) (gLanes : Tryd.prog.globalNamed n3 = some 2)
    (h : laidMetH Tryd.prog [(n1, Rows.laid_sheaves_blake_firstWords), (n2, Rows.laid_sheaves_blake_orders), (n3, Rows.laid_sheaves_blake_lanes)] W) : Tabs W := by
  have h1 : laidMet Tryd.prog [(n1, Rows.laid_sheaves_blake_firstWords), (n2, Rows.laid_sheaves_blake_orders), (n3, Rows.laid_sheaves_blake_lanes)] W := h
  clear h
  have h2 := h1.tail
  have h3 := h2.tail
  rw [dFirst] at h1
  rw [dOrders] at h2
  rw [dLanes] at h3
  have t1 := Lib.tabIs_of_head gFirst tFirst Tryd.underlying109 Tryd.underlying108 cU32 c8U32 h1
  refine ⟨fun i hi => t1.cell gFirst i hi, fun i hi => ?_, fun i hi => ?_⟩
  · obtain ⟨ps, ⟨g', t', cs, fuel, p, q, hg', ht', hvar, hd, _, _⟩, _⟩ := h2
    obtain rfl := Option.some.inj (gOrders.symm.trans hg')
    obtain rfl := Option.some.inj (tOrders.symm.trans ht')
    have hc := World.var?_cell gOrders hvar i
    have he := cells_of_tab2 Tryd.underlying119 Tryd.underlying118 Tryd.underlying5 cU8 c16U8 (by decide) hd i hi
    rw [hc]
    have := ordRows_flat i hi
    simp only [List.getElem?_map, this, Option.map_some] at he
    simpa using he
  · obtain ⟨ps, ⟨g', t', cs, fuel, p, q, hg', ht', hvar, hd, _, _⟩, _⟩ := h3
    obtain rfl := Option.some.inj (gLanes.symm.trans hg')
    obtain rfl := Option.some.inj (tLanes.symm.trans ht')
    have hc := World.var?_cell gLanes hvar i
    have he := cells_of_tab2 Tryd.underlying121 Tryd.underlying120 Tryd.underlying5 cU8 c4U8 (by decide) hd i hi
    rw [hc]
    have := laneRows_flat i hi
    simp only [List.getElem?_map, this, Option.map_some] at he
    simpa using he
end Go.Proofs.YtnpjhpmgelaonaaDoor

namespace Go.Proofs.YtnpjhpmgelaonaaDoor
open Go.ChangeShapes Go.WideShapes Go.ChangeAt Go.RowKit

/-- What the initialisers of the three tables lay, in the first blocks. -/
def layBlock (c : Array Value) : Obj → Obj
  | .cells _ t frozen => .cells c t frozen
  | o => o
def layTabs (w : World) : World :=
  { w with heap := ((w.heap.modify 0 (layBlock (ua fw))).modify 1 (layBlock (ub (ordF.map Int.ofNat)).toArray)).modify 2 (layBlock (ub (laneF.map Int.ofNat)).toArray) }
end Go.Proofs.YtnpjhpmgelaonaaDoor

namespace Go.Proofs.YtnpjhpmgelaonaaDoor.insertOnce
open Go.ChangeShapes Go.WideShapes Go.ChangeAt Go.RowKit

set_option maxRecDepth 100000 in
/-- What the walk gives, for every argument and every world that holds the tables. -/
theorem contract (H : Type) (enc : TypeId × Value → H) (W : World) (base : Nat) (args : Array Value) (ds gs : List (DataW H)) (before : List MemPlace)
    (hval : ∀ (j : Nat) t v, Tryd.f4.params[j]? = some t → args[j]? = some v → Value.okWide Tryd.prog W .any base t v)
    (hW : DataW.Whole enc Tryd.prog Tryd.f4.params.toList Rows.insertOnceSpec.vars false W args.toList ds gs before) (hsz : (DataW.weightsEach Tryd.prog (Tryd.f4.params.toList ++ (OpenSpec.ofChange Rows.insertOnceSpec).bare.plain.varTypes Tryd.prog) (ds ++ gs)).all (· ≤ reachBytes) = true) (hL : laidMetH Tryd.prog Rows.insertOnceRow.laid W) :
    Calls Tryd.prog 4 args W fun e W' => ∃ v, e = .returned v ∧ Rows.insertOnceSpec.post enc Tryd.prog Tryd.f4 false true false false W args v W' := by
  have hW' := hW
  obtain ⟨p, q, hA0, hV, rfl, hfz, hnd⟩ := hW
  have hA : DataW.TrodAll enc Tryd.prog W 0 (fun _ => true) true Tryd.f4.params.toList args.toList ds p := hA0
  rw [Tryd.params4] at hA hval hsz
  obtain ⟨v0, vs0, d0, ds0, p0, q0, hargs, rfl, rfl, h0, r0⟩ := trodAll_cons hA
  obtain ⟨v1, vs1, d1, ds1, p1, q1, rfl, rfl, rfl, h1, r1⟩ := trodAll_cons r0
  obtain ⟨rfl, rfl, rfl⟩ := trodAll_nil r1
  obtain rfl : args = #[v0, v1] := by cases args; simp_all
  obtain ⟨rfl, rfl⟩ := trodVars_none hV
  have k0 := h0
  have lt0 : ∀ x ∈ p0, x.block < W.heap.size := by obtain ⟨m, hm⟩ := k0; exact DataW.trod_lt m _ _ _ hm
  obtain ⟨sa0, cap0, l0, rfl, q0_0, q0_1, q0_2, q0_3⟩ := open_steps (hval 0 22 v0 rfl rfl) h0 (fit_each hsz (j := 0) rfl rfl)
  obtain ⟨a1, rfl, rfl, rfl, w1⟩ := open_int Tryd.underlying3 (hval 1 3 v1 rfl rfl) h1
  obtain ⟨lo1, hi1⟩ := bounds_i64 w1
  clear hA0
  have hT : Tabs W := tabs_of_laid (by kernel_rfl) (by kernel_rfl) (by kernel_rfl) hL
  refine (insertOnce_walk sa0 cap0 l0 a1 W q0_0 q0_1 q0_2 q0_3 lo1 hi1 hT).mono fun e W' ⟨he, bel⟩ => ?_
  subst he
  exact ⟨_, rfl, _, _, _, [], _, [], hW', trodAll_mk1 (shut_bool Tryd.underlying4 _), (trodAll_cons_mk (Below.trod laidOut (by kernel_rfl) (of_decide_eq_true (by kernel_rfl)) k0 bel lt0) (trodAll_cons_mk (shut_int Tryd.underlying3 w1) trodAll_mk0)), rfl, bel.frame _, fun h => by cases h⟩

set_option maxRecDepth 100000 in
theorem laid_met (os : Os) : laidMet Tryd.prog Rows.insertOnceRow.laid ((layTabs (World.holding Tryd.prog os ⟨#[], #[], []⟩)).forCall (fun _ _ => 0) ⟨#[], #[.slice none 0 0, .int .i64 0], []⟩).memory :=
  laidMet_of_run' 8 (by kernel_rfl) (by kernel_rfl)
set_option maxRecDepth 100000 in
theorem reads (os : Os) {H : Type} (enc : TypeId × Value → H) : ∃ places, DataW.whole enc Tryd.prog ((layTabs (World.holding Tryd.prog os ⟨#[], #[], []⟩)).forCall (fun _ _ => 0) ⟨#[], #[.slice none 0 0, .int .i64 0], []⟩).memory Tryd.f4.params.toList Rows.insertOnceSpec.vars false (#[.slice none 0 0, .int .i64 0] : Array Value).toList 8 = some ([.nil, .lit (.int .i64 0)], [], places) :=
  ⟨[], by kernel_rfl⟩

set_option maxRecDepth 100000 in
theorem lifted (os : Os) (started : os.Started) (H : Type) (enc : TypeId × Value → H) (F : Stop.Interp) :
    ReturnsInHanded {} Tryd.checked os 4 .any ((OpenSpec.ofChange Rows.insertOnceSpec).preRow enc Tryd.prog Tryd.f4 Rows.insertOnceRow.domain false Rows.insertOnceRow.laid) (((OpenSpec.ofChange Rows.insertOnceSpec).at F).post enc Tryd.prog Tryd.f4 false true false false) := by
  obtain ⟨places, hx⟩ := reads os enc
  refine returnsInHanded_of_row (C := Tryd.checked) (s := OpenSpec.ofChange Rows.insertOnceSpec) own started (by kernel_rfl) Tryd.func4
    (witness_row_at (enc := enc) (C := Tryd.checked) false (layTabs (World.holding Tryd.prog os ⟨#[], #[], []⟩)) #[.slice none 0 0, .int .i64 0] rfl (by kernel_rfl) (by kernel_rfl) (by kernel_rfl)
      (OpenSpec.preRow_of_cond 8 hx (by kernel_rfl) (fun k hk => by cases hk) (by kernel_rfl) (laid_met os))) ?_
  intro W base args ds gs before hval hW _ _ hsz hL _ _
  exact contract H enc W base args ds gs before hval hW hsz hL

set_option maxRecDepth 100000 in
theorem said : Rows.InsertOnceSaid :=
  OpenClaim.holds_of_cond 4 Tryd.f4 rfl rfl rfl rfl rfl rfl rfl ⟨rfl, rfl, rfl, rfl, rfl⟩ rfl rfl rfl rfl rfl (by kernel_rfl) Tryd.func4 (by kernel_rfl)
    (of_decide_eq_true (by kernel_rfl)) (by unfold Func.isWrapper; first | (rw [if_pos (by decide +kernel)]; kernel_rfl) | (rw [if_neg (by decide +kernel)]; exact ⟨rfl, rfl⟩))
    (fun os started H enc _ F => by rw [OpenClaim.pre_eq_preRow]; exact lifted os started H enc F)

set_option maxRecDepth 100000 in
theorem plain (f : FuncId) (fn : Func) (hf : Tryd.pinned.checked.prog.funcNamed Rows.insertOnceRow.func = some f) (hfn : Tryd.pinned.checked.prog.funcs[f]? = some fn) :
    false = Tryd.pinned.checked.prog.looks [] ∧ ∀ (j : Nat) t, fn.params[j]? = some t → Tryd.pinned.checked.prog.wantsStandIn t = false := by
  obtain rfl : f = 4 := Option.some.inj ((show Tryd.prog.funcNamed Rows.insertOnceRow.func = some 4 by kernel_rfl).symm.trans hf) |>.symm
  obtain rfl : fn = Tryd.f4 := (Option.some.inj (Tryd.func4.symm.trans hfn)).symm
  refine ⟨by kernel_rfl, fun j t ht => ?_⟩
  rw [Tryd.params4] at ht
  have hm : t = 22 ∨ t = 3 := by simpa using Array.mem_of_getElem? ht
  rcases hm with rfl | rfl
  · exact (show Tryd.prog.wantsStandIn 22 = false by kernel_rfl)
  · exact (show Tryd.prog.wantsStandIn 3 = false by kernel_rfl)

set_option maxRecDepth 100000 in
/-- THE CARD. -/
theorem card : Rows.InsertOnceCardSaid :=
  Claim7.holds_tied_plain_at .later [] _ _ _ _ said (fun _ h => by cases h) (by kernel_rfl) (fun _ h => by cases h) insertOnce_row_tie rfl ⟨rfl, rfl⟩ (by kernel_rfl) rfl plain (by kernel_rfl)
end Go.Proofs.YtnpjhpmgelaonaaDoor.insertOnce
namespace Go.Proofs.YtnpjhpmgelaonaaDoor
set_option maxRecDepth 100000 in
theorem insertOnce_holds : Rows.InsertOnceCardSaid := insertOnce.card
#print axioms insertOnce_holds
end Go.Proofs.YtnpjhpmgelaonaaDoor
