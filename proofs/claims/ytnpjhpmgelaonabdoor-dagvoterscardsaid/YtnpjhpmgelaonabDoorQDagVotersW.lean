/- DagVoters: the walk. -/
import Derived.Test.YtnpjhpmgelaonabDoorGKGrown
import Derived.Test.YtnpjhpmgelaonabDoorQEqvL
import Derived.Test.YtnpjhpmgelaonabDoorQKDigs
import Derived.Test.YtnpjhpmgelaonabDoorQHdCt
import Derived.Test.YtnpjhpmgelaonabDoorQSameL
import Derived.Test.YtnpjhpmgelaonabDoorQVForm
namespace Go.Proofs.YtnpjhpmgelaonabDoor
open Go.RowKit

set_option maxRecDepth 100000 in
theorem own_someE {w : World} {B n : Nat} {e : TypeId} {sz : Nat} {v : Value} {xs : List Value} (h : w.ownsRow B e sz v n xs) (hn : 0 < n) : ∃ g cap cur, v = .slice (some ⟨g, 0, none⟩) n cap ∧ B ≤ g ∧ w.heap[g]? = some (.cells cur e (0, 0)) ∧ n ≤ cap ∧ cap ≤ maxLen := by
  rcases h.2 with ⟨_, h0⟩ | ⟨g, cap, cur, rfl, h1, h2, h3, h4, _⟩
  · omega
  · exact ⟨g, cap, cur, rfl, h1, h2, h3, h4⟩
set_option maxRecDepth 100000 in
/-- A row of certificates, with other voters at the i'th place. -/
theorem dag_set {w W : World} {B xb xc i g vc : Nat} {cur : Array Value} {ks : List Ct} {vl : List Int} (hrow : w.ownsRow B 46 5 (.slice (some ⟨xb, 0, none⟩) ks.length xc) ks.length (ctv ks)) (hW : W = w.setCell ⟨xb, i * 5 + 4, none⟩ (.slice (some ⟨g, 0, none⟩) vl.length vc)) (hi : i < ks.length) (hc : ks.length ≤ xc) (hm : xc ≤ maxLen) (hl : ks.length ≤ 1000) (hvl : vl.length ≤ 4)
    (_hq : w.heap[xb]? = some (.cells cur 46 (0, 0))) (hct : ∀ c ∈ ks, CtAt w c ∧ ∀ b, CtIn c b → b ≠ xb) (hiv : IntsAt w (some ⟨g, 0, none⟩) vl) (hg : g ≠ xb) : DagAt W (some ⟨xb, 0, none⟩) xc (setC ks i (some ⟨g, 0, none⟩) vc vl) := by
  subst hW
  have hcell : ∀ j (hj : j < ks.length), ∀ o, o < 5 → w.cell? ⟨xb, 0 + j * 5 + o, none⟩ = (ks[j]).cs[o]? := fun j hj o ho => by
    rw [show 0 + j * 5 + o = j * 5 + o by omega, World.ownsRow.cellAt hrow (j * 5 + o) (by omega), ctv_get ks j o hj ho]
  refine ⟨by rw [setC_length]; exact hc, by unfold maxLen at hm; omega, by rw [setC_length]; omega, .inr ⟨xb, 0, rfl⟩, ⟨.inr ⟨xb, 0, rfl, fun j hj => ?_⟩⟩, fun c hc' => ?_⟩
  · have hj2 : j < ks.length := by rw [setC_length] at hj; exact hj
    have e : ∀ o, o < 5 → (j = i → o ≠ 4) → (w.setCell ⟨xb, i * 5 + 4, none⟩ (.slice (some ⟨g, 0, none⟩) vl.length vc)).cell? ⟨xb, 0 + j * 5 + o, none⟩ = (ks[j]).cs[o]? := fun o ho hne => by
      refine (World.cell?_setCell_other w ⟨xb, i * 5 + 4, none⟩ ⟨xb, 0 + j * 5 + o, none⟩ _ ?_).trans (hcell j hj2 o ho)
      intro h
      injection h with h1 h2
      have : ¬ (j = i ∧ o = 4) := fun g => hne g.1 g.2
      omega
    rw [setC_get ks i _ _ _ j hj2]
    by_cases hji : j = i
    · subst hji
      rw [if_pos rfl]
      refine ⟨e 0 (by omega) (by omega), e 1 (by omega) (by omega), e 2 (by omega) (by omega), e 3 (by omega) (by omega), ?_⟩
      rw [show 0 + j * 5 + 4 = j * 5 + 4 by omega]
      exact World.cell?_setCell_same _ _ _ (u := .slice (ks[j]).va (ks[j]).vl.length (ks[j]).vc) (by have := hcell j hj2 4 (by omega); rw [show 0 + j * 5 + 4 = j * 5 + 4 by omega] at this; exact this)
    · rw [if_neg hji]
      exact ⟨e 0 (by omega) (fun h => absurd h hji), e 1 (by omega) (fun h => absurd h hji), e 2 (by omega) (fun h => absurd h hji), e 3 (by omega) (fun h => absurd h hji), e 4 (by omega) (fun h => absurd h hji)⟩
  · obtain ⟨j, hj, rfl⟩ := List.getElem_of_mem hc'
    rw [setC_length] at hj
    rw [setC_get ks i _ _ _ j hj]
    obtain ⟨h1, h2⟩ := hct (ks[j]) (List.getElem_mem hj)
    have h3 := ct_put h1 xb (i * 5 + 4) (.slice (some ⟨g, 0, none⟩) vl.length vc) h2
    split
    · exact ⟨h3.hat, ints_keep hiv (fun b so _ e => heap_setCell_other _ ⟨xb, i * 5 + 4, none⟩ b _ (by cases e; exact hg)), Nat.le_trans hvl (by decide)⟩
    · exact h3
set_option maxRecDepth 100000 in
set_option maxHeartbeats 4000000 in
theorem dagVoters_walk (sa : Option Addr) (cap : Nat) (l : List Stp) (n : Int) (v : Int) (w : World) (hl : StepsAt w sa l) (hcl : l.length ≤ cap) (hc0 : sa = none → cap = 0) (hc1 : l.length * 24 ≤ 140737488351232) (hn1 : -9223372036854775808 ≤ n) (hn2 : n ≤ 9223372036854775807) (hv1 : -9223372036854775808 ≤ v) (hv2 : v ≤ 9223372036854775807) (hT : Tabs w) :
    Calls Tryd.prog 6 #[.slice sa l.length cap, .int .i64 n, .int .i64 v] w fun e w' => e = .returned (.bool true) ∧ Below w.heap.size w w' := by
  have hnil : sa = none → l.length = 0 ∧ cap = 0 := fun h => by have := hc0 h; omega
  have H := grown_any l sa _ cap w rfl hl hnil hc1 hT
  have HT : Hid (∀ W : World, Below w.heap.size w W → Tabs W) := by
    show ∀ W, _
    exact fun W hW => hT.below hW
  clear hT hnil hc0 hc1 hcl
  go_enter Tryd.func6, Tryd.ntmps6
  go_wp2_with fail
  refine H.mono ?_
  rintro e w1 ⟨ka, kc, ks, ba, bc, bl, he, hG, hd, hnew, ho, hoff, hV, hb1⟩
  subst he
  dsimp only
  have hpos : 0 < ks.length := by have := grown_some (by omega) hG; rw [cvs_length] at this; exact this
  have HD : Hid (dagF (cvs ks) = 0) := hG.dag
  have HG : Hid (GrownTo (s0 :: l) (min (l.length + 1) 24) (cvs ks)) := hG
  have hle : ks.length ≤ 24 := by have := hG.len; rw [cvs_length] at this; omega
  have hA1 := (Below.refl w1.heap.size w1).alloc (Nat.le_refl _) (.cells #[.slice ka ks.length kc] 25)
  have qD := heap_alloc_new w1 (.cells #[.slice ka ks.length kc] 25)
  have hd2 := hd.below hA1
  have hB2 := hb1.trans (hA1.mono hb1.size)
  have hgD : w.heap.size ≤ w1.heap.size := hb1.size
  have hdlt : ∀ b, DagIn ka ks b → b < w1.heap.size := fun b hb => by
    rcases hb with ⟨so, e⟩ | ⟨c', hc', hq⟩
    · exact dag_row_lt hd hpos b so e
    · exact (hd.each c' hc').block_lt b hq
  clear hG hV ho hoff hnew hd H hl
  have HHF : Hid (∀ c ∈ ks, headerF c.au c.rd c.bl c.pl = 0) := by
    show ∀ c, _
    intro c hc
    obtain ⟨j, hj, rfl⟩ := List.getElem_of_mem hc
    have h2 := dagF_f HD.out j (by rw [cvs_length]; exact hj)
    rw [cvAt_get ks j hj] at h2
    rw [Ct.hf_v]; exact certF_head (vl := (ks[j]).vl) h2
  have hposI : ¬ ((ks.length : Int) = 0) := by omega
  go_upto_region 4 with fail
  generalize w1.alloc (.cells #[.slice ka ks.length kc] 25) = W2 at hA1 qD hd2 hB2 ⊢
  clear hA1
  generalize w1.heap.size = D at qD hgD hdlt ⊢
  obtain ⟨I, hI⟩ : ∃ I : Nat, pk n ks.length = (I : Int) := ⟨(pk n ks.length).toNat, by have := (pk_bounds n ks.length (by omega)).1; omega⟩
  have hIl : I < ks.length := by have := (pk_bounds n ks.length (by omega)).2; omega
  have HP : Hid (∀ V : World, Calls Tryd.prog 9 #[.int .i64 n, .int .i64 ks.length] V fun e w' => e = .returned (.int .i64 I) ∧ V = w') := by
    show ∀ V, _
    intro V
    rw [← hI]
    exact picked_any n ks.length V hn1 hn2 (by omega) (by omega)
  clear hI
  obtain ⟨kb, ko, hkae, hcc⟩ : ∃ kb ko, ka = some ⟨kb, ko, none⟩ ∧ _ := by
    rcases hd2.certs.cells with h | h
    · rw [h] at hpos; simp at hpos
    · exact h
  clear hcc
  subst hkae
  have e0 := cells_at qD 0 _ rfl
  go_wp2_with fail
  refine (HP.out W2).mono ?_
  rintro e wq ⟨he, hwq⟩
  subst he hwq
  dsimp only
  obtain ⟨i, hi, hz0, hz1, hz2⟩ := info_parts infoCert
  have hA3 := (Below.refl W2.heap.size W2).alloc (Nat.le_refl _) (.cells #[.slice (some ⟨kb, ko, none⟩) ks.length kc] 25)
  have qX := heap_alloc_new W2 (.cells #[.slice (some ⟨kb, ko, none⟩) ks.length kc] 25)
  have qD3 := (hA3.block _ (lt_of_heap qD)).trans qD
  have hd3 := hd2.below hA3
  have hB3 := hB2.trans (hA3.mono hB2.size)
  have f0 := cells_at qD3 0 _ rfl
  have hcs := certs_cells hd3.certs
  go_upto_region 6 with fail
  generalize W2.alloc (.cells #[.slice (some ⟨kb, ko, none⟩) ks.length kc] 25) = W3 at hA3 qX qD3 hd3 hB3 f0 hcs ⊢
  clear hA3 e0
  have hgX : w.heap.size ≤ W2.heap.size := hB2.size
  have hDX : D ≠ W2.heap.size := Nat.ne_of_lt (lt_of_heap qD)
  have hdX : ∀ b, DagIn (some ⟨kb, ko, none⟩) ks b → b < W2.heap.size := fun b hb => by
    rcases hb with ⟨so, e⟩ | ⟨c', hc', hq⟩
    · exact dag_row_lt hd2 hpos b so e
    · exact (hd2.each c' hc').block_lt b hq
  generalize W2.heap.size = X at qX hgX hDX hdX ⊢
  have hX3 : X < W3.heap.size := lt_of_heap qX
  go_upto_region 7 with (at_builtin; refine wpList_append_own_at _ rfl _ _ 23 rfl W3.heap.size 46 i (.agg #[.int .i64 0, .int .i64 0, .slice none 0 0, .slice none 0 0, .slice none 0 0]) 5 88 Tryd.underlying23 hi hz0 hz1 hz2 rfl (by decide) _ 0 [] rfl (World.ownsRow_nil _ _ _ _) ⟨kb, ko, none⟩ ks.length kc (ctv ks) rfl (ctv_length _) hcs (ct_ones _) (by unfold maxLen; omega) (by omega) (Nat.le_refl _) ?_; intro v1 w4 ho4 hg4 _ hat4; have hb4 : Below W3.heap.size W3 w4 := Below.grown (Below.refl _ _) hg4 (Nat.le_refl _) (fun q e => by cases e); have qX4 := (hb4.block _ hX3).trans qX; have j0 := cells_at qX4 0 _ rfl; have jf := frozen_at qX4 0; rw [Nat.zero_add, List.nil_append] at ho4; obtain ⟨xb, xc, cur, hve, hxg, hxq, hxc, hxm⟩ := own_someE ho4 hpos; subst hve)
  have qD4 := (hb4.block _ (lt_of_heap qD3)).trans qD3
  have hd4 := hd3.below hb4
  have hB4 := hB3.trans (hb4.mono hB3.size)
  have hXb : X ≠ xb := by omega
  have hDb : D ≠ xb := by have := lt_of_heap qD3; omega
  have hdlb : ∀ b, DagIn (some ⟨kb, ko, none⟩) ks b → b ≠ xb ∧ b ≠ X := fun b hb => by
    rcases hb with ⟨so, e⟩ | ⟨c', hc', hq⟩
    · have h1 := dag_row_lt hd3 hpos b so e
      have h2 := hdX b (.inl ⟨so, e⟩)
      exact ⟨by omega, by omega⟩
    · have h1 := (hd3.each c' hc').block_lt b hq
      have h2 := hdX b (.inr ⟨c', hc', hq⟩)
      exact ⟨by omega, by omega⟩
  have qX5 : (w4.setCell ⟨X, 0, none⟩ (.slice (some ⟨xb, 0, none⟩) ks.length xc)).heap[X]? = some (.cells #[.slice (some ⟨xb, 0, none⟩) ks.length xc] 25 (0, 0)) := by simpa using heap_setCell_same _ _ 0 _ _ (.slice (some ⟨xb, 0, none⟩) ks.length xc) qX4
  have qD5 := heap_far (j := 0) (v := .slice (some ⟨xb, 0, none⟩) ks.length xc) qD4 hDX
  have hd5 := dag_setCell hd4 X 0 (.slice (some ⟨xb, 0, none⟩) ks.length xc) (fun sb so e => (hdlb sb (.inl ⟨so, e⟩)).2.symm) (fun c' hc' q hq => (hdlb q (.inr ⟨c', hc', hq⟩)).2)
  have ho5 := ownsRow_setCell_other ho4 (a := ⟨X, 0, none⟩) (by show (some xb : Option Nat) ≠ some X; intro h; injection h with h; exact hXb h.symm) (.slice (some ⟨xb, 0, none⟩) ks.length xc)
  have hB5 := hB4.setCell (p := ⟨X, 0, none⟩) hgX (.slice (some ⟨xb, 0, none⟩) ks.length xc)
  clear hg4 hat4 hb4 qX4 qD4 hd4 hB4 ho4 hd2 hd3 qD qD3 f0 hcs qX j0 jf hB3 hxq
  generalize w4.setCell ⟨X, 0, none⟩ (.slice (some ⟨xb, 0, none⟩) ks.length xc) = VR at qX5 qD5 hd5 ho5 hB5 ⊢
  have k0 := cells_at qX5 0 _ rfl
  obtain ⟨x0, x1, x2, xs, -, -, -, -, hvf, -, hv4⟩ := votersL_form v
  have HVF : Hid (votersF (votersL v) = 0) := hvf
  clear x0 x1 x2 xs hvf
  have HV : Hid (∀ V : World, Calls Tryd.prog 12 #[.int .i64 v] V fun e w' => ∃ u, e = .returned u ∧ w'.ownsRow V.heap.size 3 1 u (votersL v).length (iv (votersL v)) ∧ Below V.heap.size V w') := by
    show ∀ V, _
    exact fun V => voters_any v V ⟨hv1, hv2⟩
  have hvp : 0 < (votersL v).length := by
    obtain ⟨_, _, _, _, e, _⟩ := votersL_form v
    rw [e]; simp
  generalize votersL v = VL at HVF HV hv4 hvp
  have hIlI : (I : Int) < ks.length := by omega
  go_cut [9] (fun u wx => u = .int .i64 (I : Int) ∧ ∃ (V0 : World) (g vc : Nat), Below VR.heap.size VR V0 ∧ V0.ownsRow VR.heap.size 3 1 (.slice (some ⟨g, 0, none⟩) VL.length vc) VL.length (iv VL) ∧ wx = V0.setCell ⟨xb, I * 5 + 4, none⟩ (.slice (some ⟨g, 0, none⟩) VL.length vc))
  case first =>
    have hV0 : Below VR.heap.size VR VR.drew := (Below.refl _ _).drew
    refine wp_region_held_drew (S := fun w' => w'.cell? ⟨X, 0, none⟩ = some (.slice (some ⟨xb, 0, none⟩) ks.length xc)) (by kernel_rfl) ((hV0.cell (p := ⟨X, 0, none⟩) (block_lt_of_cell k0)).trans k0) (fun hHeld => ?_)
    generalize VR.drew = V0 at hV0 hHeld ⊢
    refine take_dst (i := 0) (d := 38) (v := .pointer (some ⟨X, 0, none⟩)) rfl rfl (by kernel_rfl) (by kernel_rfl) (by kernel_rfl) (fun _ _ _ h => h) (Or.inl ⟨by rfl, ?_⟩) hHeld ?_
    · (intro w0 hSw; (try dsimp only at hSw); go_simp)
    simp only [Act.put, List.setIfInBounds_toArray, List.set_cons_zero, List.set_cons_succ]
    refine take_dst (i := 1) (d := 39) (v := .slice (some ⟨xb, 0, none⟩) ks.length xc) rfl rfl (by kernel_rfl) (by kernel_rfl) (by kernel_rfl) (fun _ _ _ h => h) (Or.inl ⟨by rfl, ?_⟩) hHeld ?_
    · (intro w0 hSw; (try dsimp only at hSw); go_simp)
    simp only [Act.put, List.setIfInBounds_toArray, List.set_cons_zero, List.set_cons_succ]
    refine take_dst (i := 2) (d := 40) (v := .int .i64 (I : Int)) rfl rfl (by kernel_rfl) (by kernel_rfl) (by kernel_rfl) (fun _ _ _ h => h) (Or.inl ⟨by rfl, ?_⟩) hHeld ?_
    · (intro w0 hSw; (try dsimp only at hSw); go_simp)
    simp only [Act.put, List.setIfInBounds_toArray, List.set_cons_zero, List.set_cons_succ]
    refine take_dst (i := 3) (d := 41) (v := .int .i64 v) rfl rfl (by kernel_rfl) (by kernel_rfl) (by kernel_rfl) (fun _ _ _ h => h) (Or.inl ⟨by rfl, ?_⟩) hHeld ?_
    · (intro w0 hSw; (try dsimp only at hSw); go_simp)
    simp only [Act.put, List.setIfInBounds_toArray, List.set_cons_zero, List.set_cons_succ]
    clear hHeld
    refine any_named (fun GO hGo hGi => ?_)
    refine act_named (fun A0 hA0 => ?_)
    have st_C : Hid (∀ (V : World) (g : Nat) (vc : Nat), Below VR.heap.size VR V → (V.ownsRow VR.heap.size 3 1 (.slice (some ⟨g, 0, none⟩) VL.length vc) VL.length (iv VL)) → GO 1 #[true, true, true, true, true, true, true, false] (((A0.put (some 42) (.slice (some ⟨g, 0, none⟩) VL.length vc)).put (some 43) (.pointer (some ⟨xb, I * 5, none⟩))).put (some 44) (.pointer (some ⟨xb, I * 5 + 4, none⟩))) V) := by
      show ∀ V, _
      intro V g vc hB hv
      refine hGo.out _ _ _ _ ?_
      rw [← hA0.out]
      try simp only [Act.put, List.setIfInBounds_toArray, List.set_cons_zero, List.set_cons_succ]
      have hoV := owns_keep ho5 hB
      obtain ⟨xb', xc', cur, hve, _, hxq, _, _⟩ := own_someE hoV hpos
      cases hve
      have pc0 : V.cell? ⟨xb, I * 5 + 4, none⟩ = some (.slice (ks[I]).va (ks[I]).vl.length (ks[I]).vc) := by rw [World.ownsRow.cellAt hoV (I * 5 + 4) (by omega), ctv_get ks I 4 hIl (by omega)]; rfl
      have pf0 := frozen_at hxq (I * 5 + 4)
      refine wpAnyH_ready (rs := [7]) (by kernel_rfl) (by simp) (AllReadyH.cons rfl (fun K hK => ?_) AllReadyH.nil)
      refine step_store rfl rfl (V.setCell ⟨xb, I * 5 + 4, none⟩ (.slice (some ⟨g, 0, none⟩) VL.length vc)) (by go_simp) ?_
      refine hK.out _ _ ((World.cell?_setCell_far V ⟨xb, I * 5 + 4, none⟩ ⟨X, 0, none⟩ _ (show xb ≠ X from hXb.symm)).trans ((hB.cell (p := ⟨X, 0, none⟩) (block_lt_of_cell k0)).trans k0)) (fun hHeld => ?_)
      clear hHeld
      refine wpAnyH_done (by kernel_rfl) ?_ _
      go_wp2_with fail
      go_meet
      case rel => exact ⟨rfl, V, g, vc, hB, hv, rfl⟩
    have st_0 : Hid (∀ (V : World), Below VR.heap.size VR V → GO 4 #[true, true, true, true, false, false, false, false] A0 V) := by
      show ∀ V, _
      intro V  hB 
      refine hGo.out _ _ _ _ ?_
      rw [← hA0.out]
      try simp only [Act.put, List.setIfInBounds_toArray, List.set_cons_zero, List.set_cons_succ]
      refine wpAnyH_ready (rs := [4]) (by kernel_rfl) (by simp) (AllReadyH.cons rfl (fun K hK => ?_) AllReadyH.nil)
      refine step_calls_dst rfl 42 rfl 12 [.tmp 41] #[3] rfl [.int .i64 v] rfl (enters_of Tryd.func12 (by kernel_rfl) rfl) (fun v w' => (∃ g vc, v = .slice (some ⟨g, 0, none⟩) VL.length vc ∧ w'.ownsRow V.heap.size 3 1 (.slice (some ⟨g, 0, none⟩) VL.length vc) VL.length (iv VL)) ∧ Below V.heap.size V w') ((HV.out V).mono (fun e w2 ⟨u, he, h1, h2⟩ => by obtain ⟨g, vc, _, rfl, _⟩ := own_someE h1 hvp; exact ⟨_, he, ⟨g, vc, rfl, h1⟩, h2⟩)) ?_
      rintro v W' ⟨⟨g, vc, rfl, hv_0⟩, hb⟩
      have hBn := hB.trans (hb.mono hB.size)
      have hv_n : W'.ownsRow VR.heap.size 3 1 (.slice (some ⟨g, 0, none⟩) VL.length vc) VL.length (iv VL) := ⟨hv_0.1, hv_0.2.imp id (fun ⟨g, c, cur, e1, e2, r⟩ => ⟨g, c, cur, e1, Nat.le_trans hB.size e2, r⟩)⟩
      refine hK.out _ _ ((hBn.cell (p := ⟨X, 0, none⟩) (block_lt_of_cell k0)).trans k0) (fun hHeld => ?_)
      simp only [Act.put, List.setIfInBounds_toArray, List.set_cons_zero, List.set_cons_succ]
      refine take_dst (i := 5) (d := 43) (v := .pointer (some ⟨xb, I * 5, none⟩)) rfl rfl (by kernel_rfl) (by kernel_rfl) (by kernel_rfl) (fun _ _ _ h => h) (Or.inl ⟨by rfl, ?_⟩) hHeld ?_
      · (intro w0 hSw; (try dsimp only at hSw); go_simp)
      simp only [Act.put, List.setIfInBounds_toArray, List.set_cons_zero, List.set_cons_succ]
      refine take_dst (i := 6) (d := 44) (v := .pointer (some ⟨xb, I * 5 + 4, none⟩)) rfl rfl (by kernel_rfl) (by kernel_rfl) (by kernel_rfl) (fun _ _ _ h => h) (Or.inl ⟨by rfl, ?_⟩) hHeld ?_
      · (intro w0 hSw; (try dsimp only at hSw); go_simp)
      simp only [Act.put, List.setIfInBounds_toArray, List.set_cons_zero, List.set_cons_succ]
      clear hHeld
      have h := st_C.out W' g vc hBn hv_n
      rw [← hA0.out] at h
      (try simp only [Act.put, List.setIfInBounds_toArray, List.set_cons_zero, List.set_cons_succ] at h)
      (try simp only [Act.put, List.setIfInBounds_toArray, List.set_cons_zero, List.set_cons_succ])
      exact hGi.out _ _ _ _ h
    exact st_0.out V0 hV0
  case rest =>
    obtain ⟨rfl, V0, g, vc, hbV, hov, rfl⟩ := hcut
    have hoV := owns_keep ho5 hbV
    obtain ⟨xb', xc', cur, hve, _, hxq, _, _⟩ := own_someE hoV hpos
    cases hve
    have hxV : xb < VR.heap.size := (ho5.lt xb rfl).2
    have hgV : VR.heap.size ≤ g := (hov.lt g rfl).1
    have hiv : IntsAt V0 (some ⟨g, 0, none⟩) VL := by
      refine ⟨.inr ⟨g, 0, rfl, fun j hj => ?_⟩⟩
      rw [Nat.zero_add, World.ownsRow.cellAt hov j (by omega)]
      simp [iv, hj]
    have hdV := hd5.below hbV
    have hdx := dag_set (w := V0) (i := I) (g := g) (vc := vc) (vl := VL) hoV rfl hIl hxc hxm (by omega) hv4 hxq (fun c hc => ⟨hdV.each c hc, fun b hb => (hdlb b (.inr ⟨c, hc, hb⟩)).1⟩) hiv (by omega)
    have qXV := (hbV.block _ (lt_of_heap qX5)).trans qX5
    have qDV := (hbV.block _ (lt_of_heap qD5)).trans qD5
    have qX6 := heap_far (j := I * 5 + 4) (v := .slice (some ⟨g, 0, none⟩) VL.length vc) qXV hXb
    have qD6 := heap_far (j := I * 5 + 4) (v := .slice (some ⟨g, 0, none⟩) VL.length vc) qDV hDb
    have hd6 := dag_setCell hdV xb (I * 5 + 4) (.slice (some ⟨g, 0, none⟩) VL.length vc) (fun sb so e => (hdlb sb (.inl ⟨so, e⟩)).1.symm) (fun c' hc' q hq => (hdlb q (.inr ⟨c', hc', hq⟩)).1)
    have hBV := hB5.trans (hbV.mono hB5.size)
    have hB6 := hBV.setCell (p := ⟨xb, I * 5 + 4, none⟩) (by show w.heap.size ≤ xb; omega) (.slice (some ⟨g, 0, none⟩) VL.length vc)
    generalize V0.setCell ⟨xb, I * 5 + 4, none⟩ (.slice (some ⟨g, 0, none⟩) VL.length vc) = W6 at hdx qX6 qD6 hd6 hB6 ⊢
    have HEQ : Hid (Eqv (cvs ks) (cvs (setC ks I (some ⟨g, 0, none⟩) vc VL))) := setC_eqv _ _ _ _ _
    have hxl : (setC ks I (some ⟨g, 0, none⟩) vc VL).length = ks.length := setC_length _ _ _ _ _
    have HXL : Hid _ := hxl
    have HXF : Hid (∀ j, j < (cvs (setC ks I (some ⟨g, 0, none⟩) vc VL)).length → (cvAt (cvs (setC ks I (some ⟨g, 0, none⟩) vc VL)) j).f = 0) := by
      show ∀ j, _
      intro j hj
      rw [cvs_length, setC_length] at hj
      have h1 := dagF_f HD.out j (by rw [cvs_length]; exact hj)
      rw [cvAt_get ks j hj] at h1
      rw [cvAt_get _ j (by rw [setC_length]; exact hj), setC_get ks I _ _ _ j hj]
      split
      · exact voters_f h1 hv4 HVF.out
      · exact h1
    have HDX : Hid (dagF (cvs (setC ks I (some ⟨g, 0, none⟩) vc VL)) = 0) := HEQ.out.dag HD.out HXF.out
    have HHX : Hid (∀ c ∈ setC ks I (some ⟨g, 0, none⟩) vc VL, headerF c.au c.rd c.bl c.pl = 0) := by
      show ∀ c, _
      intro c hc
      obtain ⟨j, hj, rfl⟩ := List.getElem_of_mem hc
      have h2 := HXF.out j (by rw [cvs_length]; exact hj)
      rw [cvAt_get _ j hj] at h2
      rw [Ct.hf_v]; exact certF_head (vl := ((setC ks I (some ⟨g, 0, none⟩) vc VL)[j]).vl) h2
    have HXI : Hid ((setC ks I (some ⟨g, 0, none⟩) vc VL)[I]'(by rw [setC_length]; exact hIl) = ⟨(ks[I]).au, (ks[I]).rd, (ks[I]).ba, (ks[I]).bc, (ks[I]).bl, (ks[I]).pa, (ks[I]).pc, (ks[I]).pl, some ⟨g, 0, none⟩, vc, VL⟩) := by
      show _ = _
      rw [setC_get ks I _ _ _ I hIl, if_pos rfl]
    obtain ⟨_, _, e', hxc5⟩ : ∃ a b, (some (⟨xb, 0, none⟩ : Addr)) = some ⟨a, b, none⟩ ∧ ∀ j (h : j < (setC ks I (some ⟨g, 0, none⟩) vc VL).length), _ := by
      rcases hdx.certs.cells with h | h
      · have := HXL.out; rw [h] at this; simp at this; omega
      · exact h
    cases e'
    have hx5 := hxc5 I (by rw [setC_length]; exact hIl)
    rw [HXI.out] at hx5
    obtain ⟨r0, r1, r2, r3, r4⟩ := hx5
    have hCx := hdx.each _ (List.getElem_mem (by rw [setC_length]; exact hIl : I < (setC ks I (some ⟨g, 0, none⟩) vc VL).length))
    rw [HXI.out] at hCx
    have HCV : Hid ((ks[I]).v = cvAt (cvs ks) I) := (cvAt_get ks I hIl).symm
    simp only [Nat.zero_add] at r0 r1 r2 r3 r4
    clear hxc5 hdV hiv qXV qDV hBV hd5 qX5 qD5 k0 hxl ho5 hov hxq hoV
    clear HXI HXF
    have HF7 : Hid ((ks[I]).v.f = 0 ∧ 0 ≤ cOf (cvs ks) (ks[I]).au (ks[I]).rd) := by
      have h1 := dagF_f HD.out I (by rw [cvs_length]; exact hIl)
      have h2 := cOf_at (l := cvs ks) (j := I) (by rw [cvs_length]; exact hIl)
      rw [← HCV.out] at h1 h2
      exact ⟨h1, h2⟩
    clear HCV
    generalize ks[I] = h at r0 r1 r2 r3 r4 hCx HF7
    have HI7 : Hid (insE (cvs ks) (⟨h.au, h.rd, h.ba, h.bc, h.bl, h.pa, h.pc, h.pl, some ⟨g, 0, none⟩, vc, VL⟩ : Ct).v = 7) := insE_twice HD.out (voters_f HF7.out.1 hv4 HVF.out) HF7.out.2
    have d0 := cells_at qD6 0 _ rfl
    go_wp2_with fail
    refine (digestsOf_any ks _ _ kc W6 rfl (by omega) hd6 HHF.out (HT.out W6 hB6)).mono ?_
    intro e w7 hDg
    have hb7 := hDg.below
    obtain ⟨da, dc, ds, he, hds, hLd, hfd⟩ := hDg.out
    subst he
    dsimp only
    have HDS : Hid _ := hds
    have hdsl : ds.length = ks.length := by have := congrArg List.length hds; simpa [bss, cvs] using this
    have HDL : Hid (ds.length = ks.length) := hdsl
    rw [hdsl]
    have hB7 := hB6.trans (hb7.mono hB6.size)
    have qX7 := (hb7.block _ (lt_of_heap qX6)).trans qX6
    have x0 := cells_at qX7 0 _ rfl
    clear hDg hds hfd hdsl d0
    go_wp2_with fail
    refine (digestsOf_any (setC ks I (some ⟨g, 0, none⟩) vc VL) _ ks.length xc w7 HXL.out.symm (by rw [HXL.out]; omega) (hdx.below hb7) HHX.out (HT.out w7 hB7)).mono ?_
    intro e w8 hDg
    have hb8 := hDg.below
    obtain ⟨ea, ec, es, he, hes, hLe, hfe⟩ := hDg.out
    subst he
    dsimp only
    have HES : Hid _ := hes
    have hesl : es.length = ks.length := by have := congrArg List.length hes; rw [bss_length, List.length_map, cvs_length, HXL.out] at this; exact this
    have HEL : Hid (es.length = ks.length) := hesl
    rw [hesl]
    have hb68 := hb7.trans (hb8.mono hb7.size)
    have hB8 := hB6.trans (hb68.mono hB6.size)
    have qX8 := (hb68.block _ (lt_of_heap qX6)).trans qX6
    have qD8 := (hb68.block _ (lt_of_heap qD6)).trans qD6
    have hd8 := hd6.below hb68
    have hdx8 := hdx.below hb68
    have hCx8 := hCx.below hb68
    have hxbl : xb < W6.heap.size := block_lt_of_cell r0
    have q0 := (hb68.cell (p := ⟨xb, I * 5, none⟩) hxbl).trans r0
    have q1 := (hb68.cell (p := ⟨xb, I * 5 + 1, none⟩) hxbl).trans r1
    have q2 := (hb68.cell (p := ⟨xb, I * 5 + 2, none⟩) hxbl).trans r2
    have q3 := (hb68.cell (p := ⟨xb, I * 5 + 3, none⟩) hxbl).trans r3
    have q4 := (hb68.cell (p := ⟨xb, I * 5 + 4, none⟩) hxbl).trans r4
    have e0 := cells_at qD8 0 _ rfl
    have e1 := cells_at qX8 0 _ rfl
    clear hDg hes hfe hesl x0 r0 r1 r2 r3 r4
    obtain ⟨VQ, hVQ⟩ : ∃ VQ, VQ = w8 := ⟨_, rfl⟩
    subst hVQ
    have HIN : Hid (∀ V : World, Below VQ.heap.size VQ V → Calls Tryd.prog 13 #[.agg #[.slice (some ⟨kb, ko, none⟩) ks.length kc], .agg #[.int .i64 h.au, .int .i64 h.rd, .slice h.ba h.bl.length h.bc, .slice h.pa h.pl.length h.pc, .slice (some ⟨g, 0, none⟩) VL.length vc]] V fun e w' => e = .returned (.tuple #[.agg #[.slice none 0 0], .int .i64 7]) ∧ Below V.heap.size V w') := by
      show ∀ V, _
      intro V hV
      refine (dagInsert_any ks _ _ kc ⟨h.au, h.rd, h.ba, h.bc, h.bl, h.pa, h.pc, h.pl, some ⟨g, 0, none⟩, vc, VL⟩ V rfl (hd8.below hV) (hCx8.below hV) (HT.out V (hB8.trans (hV.mono hB8.size)))).mono ?_
      rintro e w' ⟨hI, hb⟩
      exact ⟨in_err hI HI7.out (by decide), hb⟩
    go_upto_region 10 with fail
    go_cut [13, 14] (fun u u2 wx => ∃ Y, u = .pointer (some ⟨Y, 0, none⟩) ∧ u2 = .int .i64 7 ∧ Below VQ.heap.size VQ wx)
    case first =>
      have hV0 : Below VQ.heap.size VQ VQ.drew := (Below.refl _ _).drew
      refine wp_region_held_drew (S := fun w' => w'.cell? ⟨D, 0, none⟩ = some (.slice (some ⟨kb, ko, none⟩) ks.length kc) ∧ w'.cell? ⟨X, 0, none⟩ = some (.slice (some ⟨xb, 0, none⟩) ks.length xc) ∧ w'.cell? ⟨xb, I * 5, none⟩ = some (.int .i64 h.au) ∧ w'.cell? ⟨xb, I * 5 + 1, none⟩ = some (.int .i64 h.rd) ∧ w'.cell? ⟨xb, I * 5 + 2, none⟩ = some (.slice h.ba h.bl.length h.bc) ∧ w'.cell? ⟨xb, I * 5 + 3, none⟩ = some (.slice h.pa h.pl.length h.pc) ∧ w'.cell? ⟨xb, I * 5 + 4, none⟩ = some (.slice (some ⟨g, 0, none⟩) VL.length vc)) (by kernel_rfl) ⟨(hV0.cell (p := ⟨D, 0, none⟩) (block_lt_of_cell e0)).trans e0, (hV0.cell (p := ⟨X, 0, none⟩) (block_lt_of_cell e1)).trans e1, (hV0.cell (p := ⟨xb, I * 5, none⟩) (block_lt_of_cell q0)).trans q0, (hV0.cell (p := ⟨xb, I * 5 + 1, none⟩) (block_lt_of_cell q1)).trans q1, (hV0.cell (p := ⟨xb, I * 5 + 2, none⟩) (block_lt_of_cell q2)).trans q2, (hV0.cell (p := ⟨xb, I * 5 + 3, none⟩) (block_lt_of_cell q3)).trans q3, (hV0.cell (p := ⟨xb, I * 5 + 4, none⟩) (block_lt_of_cell q4)).trans q4⟩ (fun hHeld => ?_)
      generalize VQ.drew = V0 at hV0 hHeld ⊢
      refine take_dst (i := 0) (d := 50) (v := .agg #[.slice (some ⟨kb, ko, none⟩) ks.length kc]) rfl rfl (by kernel_rfl) (by kernel_rfl) (by kernel_rfl) (fun _ _ _ h => h) (Or.inl ⟨by rfl, ?_⟩) hHeld ?_
      · (intro w0 hSw; (try dsimp only at hSw); go_simp)
      simp only [Act.put, List.setIfInBounds_toArray, List.set_cons_zero, List.set_cons_succ]
      refine take_dst (i := 1) (d := 51) (v := .pointer (some ⟨X, 0, none⟩)) rfl rfl (by kernel_rfl) (by kernel_rfl) (by kernel_rfl) (fun _ _ _ h => h) (Or.inl ⟨by rfl, ?_⟩) hHeld ?_
      · (intro w0 hSw; (try dsimp only at hSw); go_simp)
      simp only [Act.put, List.setIfInBounds_toArray, List.set_cons_zero, List.set_cons_succ]
      refine take_dst (i := 2) (d := 52) (v := .slice (some ⟨xb, 0, none⟩) ks.length xc) rfl rfl (by kernel_rfl) (by kernel_rfl) (by kernel_rfl) (fun _ _ _ h => h) (Or.inl ⟨by rfl, ?_⟩) hHeld ?_
      · (intro w0 hSw; (try dsimp only at hSw); go_simp)
      simp only [Act.put, List.setIfInBounds_toArray, List.set_cons_zero, List.set_cons_succ]
      refine take_dst (i := 3) (d := 53) (v := .int .i64 (I : Int)) rfl rfl (by kernel_rfl) (by kernel_rfl) (by kernel_rfl) (fun _ _ _ h => h) (Or.inl ⟨by rfl, ?_⟩) hHeld ?_
      · (intro w0 hSw; (try dsimp only at hSw); go_simp)
      simp only [Act.put, List.setIfInBounds_toArray, List.set_cons_zero, List.set_cons_succ]
      refine take_dst (i := 4) (d := 54) (v := .pointer (some ⟨xb, I * 5, none⟩)) rfl rfl (by kernel_rfl) (by kernel_rfl) (by kernel_rfl) (fun _ _ _ h => h) (Or.inl ⟨by rfl, ?_⟩) hHeld ?_
      · (intro w0 hSw; (try dsimp only at hSw); go_simp)
      simp only [Act.put, List.setIfInBounds_toArray, List.set_cons_zero, List.set_cons_succ]
      refine take_dst (i := 5) (d := 55) (v := .agg #[.int .i64 h.au, .int .i64 h.rd, .slice h.ba h.bl.length h.bc, .slice h.pa h.pl.length h.pc, .slice (some ⟨g, 0, none⟩) VL.length vc]) rfl rfl (by kernel_rfl) (by kernel_rfl) (by kernel_rfl) (fun _ _ _ h => h) (Or.inl ⟨by rfl, ?_⟩) hHeld ?_
      · (intro w0 hSw; (try dsimp only at hSw); go_simp)
      simp only [Act.put, List.setIfInBounds_toArray, List.set_cons_zero, List.set_cons_succ]
      clear hHeld
      refine any_named (fun GO hGo hGi => ?_)
      refine act_named (fun A0 hA0 => ?_)
      have st_FXS : Hid (∀ (V : World) (bX : Nat), Below VQ.heap.size VQ V → (VQ.heap.size ≤ bX) → (V.heap[bX]? = some (.cells #[.slice none 0 0] 25 (0, 0))) → GO 0 #[true, true, true, true, true, true, true, true, true, true, true, true, true] ((((((A0.put (some 56) (.tuple #[.agg #[.slice none 0 0], .int .i64 7])).put (some 49) (.tuple #[.agg #[.slice none 0 0], .int .i64 7])).put (some 57) (.agg #[.slice none 0 0])).put (some 58) (.int .i64 7)).put (some 13) (.pointer (some ⟨bX, 0, none⟩))).put (some 14) (.int .i64 7)) V) := by
        show ∀ V, _
        intro V bX hB gB qS
        refine hGo.out _ _ _ _ ?_
        rw [← hA0.out]
        try simp only [Act.put, List.setIfInBounds_toArray, List.set_cons_zero, List.set_cons_succ]
        refine wpAnyH_done (by kernel_rfl) ?_ _
        go_wp2_with fail
        go_meet
        case rel => exact ⟨bX, rfl, rfl, hB⟩
      have st_FX : Hid (∀ (V : World) (bX : Nat), Below VQ.heap.size VQ V → (V.heap[bX]? = some (.cells #[.slice none 0 0] 25 (0, 0))) → (VQ.heap.size ≤ bX) → GO 2 #[true, true, true, true, true, true, true, true, true, true, true, false, false] (((((A0.put (some 56) (.tuple #[.agg #[.slice none 0 0], .int .i64 7])).put (some 49) (.tuple #[.agg #[.slice none 0 0], .int .i64 7])).put (some 57) (.agg #[.slice none 0 0])).put (some 58) (.int .i64 7)).put (some 13) (.pointer (some ⟨bX, 0, none⟩))) V) := by
        show ∀ V, _
        intro V bX hB qB gB
        refine hGo.out _ _ _ _ ?_
        rw [← hA0.out]
        try simp only [Act.put, List.setIfInBounds_toArray, List.set_cons_zero, List.set_cons_succ]
        refine wpAnyH_ready (rs := [11]) (by kernel_rfl) (by simp) (AllReadyH.cons rfl (fun K hK => ?_) AllReadyH.nil)
        have c0_ := cells_at qB 0 _ rfl
        have f0_ := frozen_at qB 0
        refine step_store rfl rfl (V.setCell ⟨bX, 0, none⟩ (.slice none 0 0)) (by go_simp) ?_
        have hBn := (hB.setCell (p := ⟨bX, 0, none⟩) gB (.slice none 0 0))
        have qS_n : (V.setCell ⟨bX, 0, none⟩ (.slice none 0 0)).heap[bX]? = some (.cells #[.slice none 0 0] 25 (0, 0)) := by simpa using (heap_setCell_same _ _ 0 _ _ (.slice none 0 0) qB)
        generalize (V.setCell ⟨bX, 0, none⟩ (.slice none 0 0)) = W' at hBn qS_n ⊢
        refine hK.out _ _ ⟨(hBn.cell (p := ⟨D, 0, none⟩) (block_lt_of_cell e0)).trans e0, (hBn.cell (p := ⟨X, 0, none⟩) (block_lt_of_cell e1)).trans e1, (hBn.cell (p := ⟨xb, I * 5, none⟩) (block_lt_of_cell q0)).trans q0, (hBn.cell (p := ⟨xb, I * 5 + 1, none⟩) (block_lt_of_cell q1)).trans q1, (hBn.cell (p := ⟨xb, I * 5 + 2, none⟩) (block_lt_of_cell q2)).trans q2, (hBn.cell (p := ⟨xb, I * 5 + 3, none⟩) (block_lt_of_cell q3)).trans q3, (hBn.cell (p := ⟨xb, I * 5 + 4, none⟩) (block_lt_of_cell q4)).trans q4⟩ (fun hHeld => ?_)
        simp only [List.setIfInBounds_toArray, List.set_cons_zero, List.set_cons_succ]
        refine take_dst (i := 12) (d := 14) (v := .int .i64 7) rfl rfl (by kernel_rfl) (by kernel_rfl) (by kernel_rfl) (fun _ _ _ h => h) (Or.inl ⟨by rfl, ?_⟩) hHeld ?_
        · (intro w0 hSw; (try dsimp only at hSw); go_simp)
        simp only [Act.put, List.setIfInBounds_toArray, List.set_cons_zero, List.set_cons_succ]
        clear hHeld
        have h := st_FXS.out W' bX hBn gB qS_n
        rw [← hA0.out] at h
        (try simp only [Act.put, List.setIfInBounds_toArray, List.set_cons_zero, List.set_cons_succ] at h)
        (try simp only [Act.put, List.setIfInBounds_toArray, List.set_cons_zero, List.set_cons_succ])
        exact hGi.out _ _ _ _ h
      have st_F : Hid (∀ (V : World), Below VQ.heap.size VQ V → GO 3 #[true, true, true, true, true, true, true, true, true, true, false, false, false] ((((A0.put (some 56) (.tuple #[.agg #[.slice none 0 0], .int .i64 7])).put (some 49) (.tuple #[.agg #[.slice none 0 0], .int .i64 7])).put (some 57) (.agg #[.slice none 0 0])).put (some 58) (.int .i64 7)) V) := by
        show ∀ V, _
        intro V  hB 
        refine hGo.out _ _ _ _ ?_
        rw [← hA0.out]
        try simp only [Act.put, List.setIfInBounds_toArray, List.set_cons_zero, List.set_cons_succ]
        refine wpAnyH_ready (rs := [10]) (by kernel_rfl) (by simp) (AllReadyH.cons rfl (fun K hK => ?_) AllReadyH.nil)
        refine step_run rfl 13 rfl (.pointer (some ⟨V.heap.size, 0, none⟩)) (V.alloc (.cells #[.slice none 0 0] 25)) (by go_simp) ?_
        have hA : Below V.heap.size V (V.alloc (.cells #[.slice none 0 0] 25)) := (Below.refl _ _).alloc (Nat.le_refl _) _
        have hBn := hB.trans (hA.mono hB.size)
        have qB_n := heap_alloc_new V (.cells #[.slice none 0 0] 25)
        have gB_n := hB.size
        generalize hW' : V.alloc (.cells #[.slice none 0 0] 25) = W' at hA hBn qB_n ⊢
        clear hW'
        obtain ⟨bX, hx_e⟩ : ∃ bX, bX = V.heap.size := ⟨_, rfl⟩
        rw [← hx_e] at qB_n gB_n ⊢
        have hA' := hA
        clear hx_e
        refine hK.out _ _ ⟨(hBn.cell (p := ⟨D, 0, none⟩) (block_lt_of_cell e0)).trans e0, (hBn.cell (p := ⟨X, 0, none⟩) (block_lt_of_cell e1)).trans e1, (hBn.cell (p := ⟨xb, I * 5, none⟩) (block_lt_of_cell q0)).trans q0, (hBn.cell (p := ⟨xb, I * 5 + 1, none⟩) (block_lt_of_cell q1)).trans q1, (hBn.cell (p := ⟨xb, I * 5 + 2, none⟩) (block_lt_of_cell q2)).trans q2, (hBn.cell (p := ⟨xb, I * 5 + 3, none⟩) (block_lt_of_cell q3)).trans q3, (hBn.cell (p := ⟨xb, I * 5 + 4, none⟩) (block_lt_of_cell q4)).trans q4⟩ (fun hHeld => ?_)
        clear hHeld
        have h := st_FX.out W' bX hBn qB_n gB_n
        rw [← hA0.out] at h
        (try simp only [Act.put, List.setIfInBounds_toArray, List.set_cons_zero, List.set_cons_succ] at h)
        (try simp only [Act.put, List.setIfInBounds_toArray, List.set_cons_zero, List.set_cons_succ])
        exact hGi.out _ _ _ _ h
      have st_X : Hid (∀ (V : World) (bX : Nat), Below VQ.heap.size VQ V → (V.heap[bX]? = some (.cells #[.slice none 0 0] 25 (0, 0))) → (VQ.heap.size ≤ bX) → GO 6 #[true, true, true, true, true, true, false, false, false, false, true, false, false] (A0.put (some 13) (.pointer (some ⟨bX, 0, none⟩))) V) := by
        show ∀ V, _
        intro V bX hB qB gB
        refine hGo.out _ _ _ _ ?_
        rw [← hA0.out]
        try simp only [Act.put, List.setIfInBounds_toArray, List.set_cons_zero, List.set_cons_succ]
        refine wpAnyH_ready (rs := [6]) (by kernel_rfl) (by simp) (AllReadyH.cons rfl (fun K hK => ?_) AllReadyH.nil)
        refine step_calls_dst rfl 56 rfl 13 [.tmp 50, .tmp 55] #[25, 46] rfl [.agg #[.slice (some ⟨kb, ko, none⟩) ks.length kc], .agg #[.int .i64 h.au, .int .i64 h.rd, .slice h.ba h.bl.length h.bc, .slice h.pa h.pl.length h.pc, .slice (some ⟨g, 0, none⟩) VL.length vc]] rfl (enters_of Tryd.func13 (by kernel_rfl) rfl) (fun v w' => v = .tuple #[.agg #[.slice none 0 0], .int .i64 7] ∧ Below V.heap.size V w') ((HIN.out V hB).mono (fun e w2 h => ⟨_, h.1, rfl, h.2⟩)) ?_
        rintro v W' ⟨rfl, hb⟩
        have hBn := hB.trans (hb.mono hB.size)
        refine hK.out _ _ ⟨(hBn.cell (p := ⟨D, 0, none⟩) (block_lt_of_cell e0)).trans e0, (hBn.cell (p := ⟨X, 0, none⟩) (block_lt_of_cell e1)).trans e1, (hBn.cell (p := ⟨xb, I * 5, none⟩) (block_lt_of_cell q0)).trans q0, (hBn.cell (p := ⟨xb, I * 5 + 1, none⟩) (block_lt_of_cell q1)).trans q1, (hBn.cell (p := ⟨xb, I * 5 + 2, none⟩) (block_lt_of_cell q2)).trans q2, (hBn.cell (p := ⟨xb, I * 5 + 3, none⟩) (block_lt_of_cell q3)).trans q3, (hBn.cell (p := ⟨xb, I * 5 + 4, none⟩) (block_lt_of_cell q4)).trans q4⟩ (fun hHeld => ?_)
        simp only [Act.put, List.setIfInBounds_toArray, List.set_cons_zero, List.set_cons_succ]
        refine take_dst (i := 7) (d := 49) (v := .tuple #[.agg #[.slice none 0 0], .int .i64 7]) rfl rfl (by kernel_rfl) (by kernel_rfl) (by kernel_rfl) (fun _ _ _ h => h) (Or.inl ⟨by rfl, ?_⟩) hHeld ?_
        · (intro w0 hSw; (try dsimp only at hSw); go_simp)
        simp only [Act.put, List.setIfInBounds_toArray, List.set_cons_zero, List.set_cons_succ]
        refine take_dst (i := 8) (d := 57) (v := .agg #[.slice none 0 0]) rfl rfl (by kernel_rfl) (by kernel_rfl) (by kernel_rfl) (fun _ _ _ h => h) (Or.inl ⟨by rfl, ?_⟩) hHeld ?_
        · (intro w0 hSw; (try dsimp only at hSw); go_simp)
        simp only [Act.put, List.setIfInBounds_toArray, List.set_cons_zero, List.set_cons_succ]
        refine take_dst (i := 9) (d := 58) (v := .int .i64 7) rfl rfl (by kernel_rfl) (by kernel_rfl) (by kernel_rfl) (fun _ _ _ h => h) (Or.inl ⟨by rfl, ?_⟩) hHeld ?_
        · (intro w0 hSw; (try dsimp only at hSw); go_simp)
        simp only [Act.put, List.setIfInBounds_toArray, List.set_cons_zero, List.set_cons_succ]
        clear hHeld
        have h := st_FX.out W' bX hBn ((hb.block _ (lt_of_heap qB)).trans qB) gB
        rw [← hA0.out] at h
        (try simp only [Act.put, List.setIfInBounds_toArray, List.set_cons_zero, List.set_cons_succ] at h)
        (try simp only [Act.put, List.setIfInBounds_toArray, List.set_cons_zero, List.set_cons_succ])
        exact hGi.out _ _ _ _ h
      have st_0 : Hid (∀ (V : World), Below VQ.heap.size VQ V → GO 7 #[true, true, true, true, true, true, false, false, false, false, false, false, false] A0 V) := by
        show ∀ V, _
        intro V  hB 
        refine hGo.out _ _ _ _ ?_
        rw [← hA0.out]
        try simp only [Act.put, List.setIfInBounds_toArray, List.set_cons_zero, List.set_cons_succ]
        refine wpAnyH_ready (rs := [6, 10]) (by kernel_rfl) (by simp) (AllReadyH.cons rfl (fun K hK => ?_) (AllReadyH.cons rfl (fun K hK => ?_) AllReadyH.nil))
        · skip
          refine step_calls_dst rfl 56 rfl 13 [.tmp 50, .tmp 55] #[25, 46] rfl [.agg #[.slice (some ⟨kb, ko, none⟩) ks.length kc], .agg #[.int .i64 h.au, .int .i64 h.rd, .slice h.ba h.bl.length h.bc, .slice h.pa h.pl.length h.pc, .slice (some ⟨g, 0, none⟩) VL.length vc]] rfl (enters_of Tryd.func13 (by kernel_rfl) rfl) (fun v w' => v = .tuple #[.agg #[.slice none 0 0], .int .i64 7] ∧ Below V.heap.size V w') ((HIN.out V hB).mono (fun e w2 h => ⟨_, h.1, rfl, h.2⟩)) ?_
          rintro v W' ⟨rfl, hb⟩
          have hBn := hB.trans (hb.mono hB.size)
          refine hK.out _ _ ⟨(hBn.cell (p := ⟨D, 0, none⟩) (block_lt_of_cell e0)).trans e0, (hBn.cell (p := ⟨X, 0, none⟩) (block_lt_of_cell e1)).trans e1, (hBn.cell (p := ⟨xb, I * 5, none⟩) (block_lt_of_cell q0)).trans q0, (hBn.cell (p := ⟨xb, I * 5 + 1, none⟩) (block_lt_of_cell q1)).trans q1, (hBn.cell (p := ⟨xb, I * 5 + 2, none⟩) (block_lt_of_cell q2)).trans q2, (hBn.cell (p := ⟨xb, I * 5 + 3, none⟩) (block_lt_of_cell q3)).trans q3, (hBn.cell (p := ⟨xb, I * 5 + 4, none⟩) (block_lt_of_cell q4)).trans q4⟩ (fun hHeld => ?_)
          simp only [Act.put, List.setIfInBounds_toArray, List.set_cons_zero, List.set_cons_succ]
          refine take_dst (i := 7) (d := 49) (v := .tuple #[.agg #[.slice none 0 0], .int .i64 7]) rfl rfl (by kernel_rfl) (by kernel_rfl) (by kernel_rfl) (fun _ _ _ h => h) (Or.inl ⟨by rfl, ?_⟩) hHeld ?_
          · (intro w0 hSw; (try dsimp only at hSw); go_simp)
          simp only [Act.put, List.setIfInBounds_toArray, List.set_cons_zero, List.set_cons_succ]
          refine take_dst (i := 8) (d := 57) (v := .agg #[.slice none 0 0]) rfl rfl (by kernel_rfl) (by kernel_rfl) (by kernel_rfl) (fun _ _ _ h => h) (Or.inl ⟨by rfl, ?_⟩) hHeld ?_
          · (intro w0 hSw; (try dsimp only at hSw); go_simp)
          simp only [Act.put, List.setIfInBounds_toArray, List.set_cons_zero, List.set_cons_succ]
          refine take_dst (i := 9) (d := 58) (v := .int .i64 7) rfl rfl (by kernel_rfl) (by kernel_rfl) (by kernel_rfl) (fun _ _ _ h => h) (Or.inl ⟨by rfl, ?_⟩) hHeld ?_
          · (intro w0 hSw; (try dsimp only at hSw); go_simp)
          simp only [Act.put, List.setIfInBounds_toArray, List.set_cons_zero, List.set_cons_succ]
          clear hHeld
          have h := st_F.out W' hBn
          rw [← hA0.out] at h
          (try simp only [Act.put, List.setIfInBounds_toArray, List.set_cons_zero, List.set_cons_succ] at h)
          (try simp only [Act.put, List.setIfInBounds_toArray, List.set_cons_zero, List.set_cons_succ])
          exact hGi.out _ _ _ _ h
        · skip
          refine step_run rfl 13 rfl (.pointer (some ⟨V.heap.size, 0, none⟩)) (V.alloc (.cells #[.slice none 0 0] 25)) (by go_simp) ?_
          have hA : Below V.heap.size V (V.alloc (.cells #[.slice none 0 0] 25)) := (Below.refl _ _).alloc (Nat.le_refl _) _
          have hBn := hB.trans (hA.mono hB.size)
          have qB_n := heap_alloc_new V (.cells #[.slice none 0 0] 25)
          have gB_n := hB.size
          generalize hW' : V.alloc (.cells #[.slice none 0 0] 25) = W' at hA hBn qB_n ⊢
          clear hW'
          obtain ⟨bX, hx_e⟩ : ∃ bX, bX = V.heap.size := ⟨_, rfl⟩
          rw [← hx_e] at qB_n gB_n ⊢
          have hA' := hA
          clear hx_e
          refine hK.out _ _ ⟨(hBn.cell (p := ⟨D, 0, none⟩) (block_lt_of_cell e0)).trans e0, (hBn.cell (p := ⟨X, 0, none⟩) (block_lt_of_cell e1)).trans e1, (hBn.cell (p := ⟨xb, I * 5, none⟩) (block_lt_of_cell q0)).trans q0, (hBn.cell (p := ⟨xb, I * 5 + 1, none⟩) (block_lt_of_cell q1)).trans q1, (hBn.cell (p := ⟨xb, I * 5 + 2, none⟩) (block_lt_of_cell q2)).trans q2, (hBn.cell (p := ⟨xb, I * 5 + 3, none⟩) (block_lt_of_cell q3)).trans q3, (hBn.cell (p := ⟨xb, I * 5 + 4, none⟩) (block_lt_of_cell q4)).trans q4⟩ (fun hHeld => ?_)
          clear hHeld
          have h := st_X.out W' bX hBn qB_n gB_n
          rw [← hA0.out] at h
          (try simp only [Act.put, List.setIfInBounds_toArray, List.set_cons_zero, List.set_cons_succ] at h)
          (try simp only [Act.put, List.setIfInBounds_toArray, List.set_cons_zero, List.set_cons_succ])
          exact hGi.out _ _ _ _ h
      exact st_0.out V0 hV0
    case rest =>
      obtain ⟨Y, rfl, rfl, hb9⟩ := hcut
      have hB9 := hB8.trans (hb9.mono hB8.size)
      have qX9 := (hb9.block _ (lt_of_heap qX8)).trans qX8
      have qD9 := (hb9.block _ (lt_of_heap qD8)).trans qD8
      have d0 := cells_at qD9 0 _ rfl
      clear q0 q1 q2 q3 q4 e0 e1 HIN
      go_wp2_with fail
      refine (dagRound_any ks _ _ kc wc rfl (hd8.below hb9) (HT.out wc hB9)).mono ?_
      rintro e wA ⟨hR, hbA⟩
      rcases hR with ⟨hz, _⟩ | ⟨_, r, he, hN⟩
      · rw [HD.out] at hz; cases hz
      subst he
      dsimp only
      have HN : Hid _ := hN
      clear hN
      have hbA8 := hb9.trans (hbA.mono hb9.size)
      have hBA := hB8.trans (hbA8.mono hB8.size)
      have qXA := (hbA8.block _ (lt_of_heap qX8)).trans qX8
      have x0 := cells_at qXA 0 _ rfl
      go_wp2_with fail
      refine (dagRound_any (setC ks I (some ⟨g, 0, none⟩) vc VL) _ ks.length xc wA HXL.out.symm (hdx8.below hbA8) (HT.out wA hBA)).mono ?_
      rintro e wB ⟨hR, hbB⟩
      rcases hR with ⟨hz, _⟩ | ⟨_, r', he, hN⟩
      · rw [HDX.out] at hz; cases hz
      obtain rfl : r' = r := hN.one (HEQ.out.next HN.out)
      subst he
      dsimp only
      clear hN HN
      have hbB8 := hbA8.trans (hbB.mono hbA8.size)
      have hBB := hB8.trans (hbB8.mono hB8.size)
      have hLdB := (hLd.below hb8).below hbB8
      have hLeB := hLe.below hbB8
      have HSL : Hid (Calls Tryd.prog 18 #[.slice da ks.length dc, .slice ea ks.length ec] wB fun e w' => e = .returned (.bool true) ∧ Below wB.heap.size wB w') := by
        show Calls _ _ _ _ _
        have hu : ∀ (l : List CV) (qs : List Part), bss qs = l.map CV.d → ∀ p ∈ qs, ∀ x ∈ p.bs, 0 ≤ x ∧ x ≤ 255 := fun l qs e p hp => by
          have h1 : p.bs ∈ l.map CV.d := by rw [← e]; exact List.mem_map.2 ⟨p, hp, rfl⟩
          obtain ⟨c, _, hc⟩ := List.mem_map.1 h1
          rw [← hc]; exact CV.d_u8 c
        have hS := sameLists_any ds es da ea ks.length ks.length dc ec wB HDL.out.symm HEL.out.symm (by omega) (by omega) hLdB hLeB (hu _ _ HDS.out) (hu _ _ HES.out)
        have e2 : decide (bsOf ds = bsOf es) = true := by
          refine decide_eq_true ?_
          show bss ds = bss es
          rw [HDS.out, HES.out, HEQ.out.digs]
        rw [e2] at hS
        exact hS
      have hId : I < ds.length := by have := HDL.out; omega
      obtain ⟨sb, so, hse, hlc⟩ : ∃ sb so, da = some ⟨sb, so, none⟩ ∧ ∀ j (h : j < ds.length), wB.cell? ⟨sb, so + j, none⟩ = some (.slice (ds[j]).sa (ds[j]).bs.length (ds[j]).cap) := by
        rcases hLdB.parts.cells with h | h
        · have := HDL.out; rw [h] at this; simp at this; omega
        · exact h
      subst hse
      have l0 := hlc I hId
      have h32 : (ds[I]).bs.length = 32 := by
        have h1 : (ds[I]).bs ∈ (cvs ks).map CV.d := by rw [← HDS.out]; exact List.mem_map.2 ⟨_, List.getElem_mem hId, rfl⟩
        obtain ⟨c, _, hc⟩ := List.mem_map.1 h1
        rw [← hc, CV.d_length]
      rw [h32] at l0
      generalize ds[I] = p at l0
      clear hlc h32 d0 x0
      go_wp2_with fail
      refine Calls.mono HSL.out ?_
      rintro e wZ ⟨he, hbZ⟩
      subst he
      dsimp only
      have l1 := (hbZ.cell (p := ⟨sb, so + I, none⟩) (block_lt_of_cell l0)).trans l0
      go_wp2_with fail
      go_ret
      exact ⟨rfl, hBB.trans (hbZ.mono hBB.size)⟩
end Go.Proofs.YtnpjhpmgelaonabDoor
