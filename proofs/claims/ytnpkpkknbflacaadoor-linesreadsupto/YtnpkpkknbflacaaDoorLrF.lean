/- The document's lineAct. -/
import Derived.Test.YtnpkpkknbflacaaDoorLrB
import Derived.Test.YtnpkpkknbflacaaDoorLrE
import Derived.Test.YtnpkpkknbflacaaDoorLrP
import Derived.Test.YtnpkpkknbflacaaDoorCalls
import Derived.BigRegion
import Derived.Deep.CutRange
import Derived.Deep.CutBlock
import Derived.Deep.DeepCutAuto
namespace Go.Proofs.YtnpkpkknbflacaaDoor
open Go.RowKit

set_option maxRecDepth 100000 in
theorem pts_le (n : Nat) : ∀ l : List UInt8, l.length ≤ n → ∀ x ∈ pts l, x.length ≤ l.length := by
  induction n with
  | zero =>
    intro l hl x hx
    have : l = [] := List.eq_nil_of_length_eq_zero (by omega)
    subst this
    rw [pts_cons] at hx
    simp [bfC, hasC] at hx
    simp [hx]
  | succ n ih =>
    intro l hl x hx
    rw [pts_cons] at hx
    rcases List.mem_cons.1 hx with rfl | hx
    · exact bfC_le 32 l
    · by_cases h : hasC 32 l = true
      · rw [if_pos h] at hx
        have := afC_lt h
        have := ih (afC 32 l) (by omega) x hx
        omega
      · rw [if_neg h] at hx
        cases hx
set_option maxRecDepth 100000 in
theorem pts_many (n : Nat) : ∀ l : List UInt8, l.length ≤ n → (pts l).length ≤ l.length + 1 := by
  induction n with
  | zero =>
    intro l hl
    have : l = [] := List.eq_nil_of_length_eq_zero (by omega)
    subst this
    rw [pts_cons]
    simp [hasC]
  | succ n ih =>
    intro l hl
    rw [pts_cons, List.length_cons]
    by_cases h : hasC 32 l = true
    · rw [if_pos h]
      have := afC_lt h
      have := ih (afC 32 l) (by omega)
      omega
    · rw [if_neg h]
      simp
set_option maxRecDepth 100000 in
theorem pG_le (l : List UInt8) (j : Nat) : (pG l j).length ≤ l.length := by
  unfold pG
  by_cases h : j < (pts l).length
  · rw [List.getD_eq_getElem?_getD, List.getElem?_eq_getElem h, Option.getD_some]
    exact pts_le _ l (Nat.le_refl _) _ (List.getElem_mem h)
  · rw [List.getD_eq_getElem?_getD, List.getElem?_eq_none (by omega)]
    simp
set_option maxRecDepth 100000 in
theorem kindTo_hit (m : Nat) (h1 : 1 ≤ m) (h2 : m ≤ 10) (l : List UInt8) (h : wordL (m : Int) = l) : kindTo l m = m := by
  subst h
  have hc : m = 1 ∨ m = 2 ∨ m = 3 ∨ m = 4 ∨ m = 5 ∨ m = 6 ∨ m = 7 ∨ m = 8 ∨ m = 9 ∨ m = 10 := by omega
  rcases hc with rfl | rfl | rfl | rfl | rfl | rfl | rfl | rfl | rfl | rfl <;> decide +kernel
set_option maxRecDepth 100000 in
theorem kindTo_miss (m : Nat) (h1 : 1 ≤ m) (l : List UInt8) (h : ¬ wordL (m : Int) = l) : kindTo l m = kindTo l (m - 1) := by
  obtain ⟨n, rfl⟩ : ∃ n, m = n + 1 := ⟨m - 1, by omega⟩
  rw [kindTo, if_neg h, Nat.add_sub_cancel]
  split
  · rfl
  · rename_i h; omega
set_option maxRecDepth 100000 in
theorem Upd.cell {b : Nat} {o : Obj} {w w' : World} (h : Upd b o w w') {p : Addr} (h1 : p.block < w.heap.size) (h2 : p.block ≠ b) : w'.cell? p = w.cell? p := by
  unfold World.cell?
  rw [h.block _ h1 h2]
set_option maxRecDepth 100000 in
theorem ba_list2 (l : List UInt8) : (ba l).data.toList = l := by simp [ba]
set_option maxRecDepth 100000 in
theorem ba_size (l : List UInt8) : (ba l).size = l.length := mk_size l
set_option maxRecDepth 100000 in
set_option maxHeartbeats 4000000 in
theorem lineAct_any (s : ByteArray) (w : World) (hs : s.size ≤ 1048576) :
    Calls Tryd.prog 23 #[.string s] w fun e w' => (∃ (k n p : Int) (t : ByteArray), e = .returned (.tuple #[.agg #[.int .i64 k, .int .i64 n, .int .i64 p, .string t], .bool (rdB s.data.toList)]) ∧ (rdB s.data.toList = true → k = (rdV s.data.toList).k ∧ n = cap (rdV s.data.toList).n ∧ p = cap (rdV s.data.toList).p ∧ t = (rdV s.data.toList).t)) ∧ Below w.heap.size w w' := by
  have hlen : s.data.toList.length = s.size := Array.length_toList
  have hZ : Below w.heap.size w (w.alloc (.cells #[.int .i64 0, .int .i64 0, .int .i64 0, .string ⟨#[]⟩] 30)) := (Below.refl _ _).alloc (Nat.le_refl _) _
  have qZ := heap_alloc_new w (.cells #[.int .i64 0, .int .i64 0, .int .i64 0, .string ⟨#[]⟩] 30)
  have HPt := partsOf_any s (w.alloc (.cells #[.int .i64 0, .int .i64 0, .int .i64 0, .string ⟨#[]⟩] 30)) hs
  have HG := pG_le s.data.toList
  rw [hlen] at HG
  have hEls : ∀ x ∈ (pts s.data.toList).map ba, x.size ≤ maxLen := by
    intro x hx
    obtain ⟨y, hy, rfl⟩ := List.mem_map.1 hx
    rw [ba_size]
    have := pts_le _ s.data.toList (Nat.le_refl _) y hy
    unfold maxLen
    omega
  generalize s.data.toList = l at *
  go_enter Tryd.func23, Tryd.ntmps23
  go_wp2_with fail
  refine HPt.mono ?_
  rintro e w1 ⟨v, he, ho, hb1⟩
  subst he
  dsimp only
  have hB1 := hZ.trans (hb1.mono hZ.size)
  have q1 := (hb1.block _ (lt_of_heap qZ)).trans qZ
  obtain ⟨pa, pc, hv, _, hS, _⟩ := strsAt_of_owns ho hEls
  subst hv
  obtain ⟨pb, po, hpa, hc⟩ : ∃ pb po, pa = some ⟨pb, po, none⟩ ∧ ∀ j, j < pL l → w1.cell? ⟨pb, po + j, none⟩ = some (.string (ba (pG l j))) := by
    rcases hS.cells with h | ⟨pb, po, h, hc⟩
    · have := pts_len l
      rw [List.map_eq_nil_iff.1 h] at this
      simp at this
    · refine ⟨pb, po, h, fun j hj => ?_⟩
      have hj2 : j < (pts l).length := hj
      rw [hc j (by simpa using hj2)]
      simp [pG, List.getD, hj2]
  subst hpa
  have hL1 : 1 ≤ pL l := pts_len l
  have hL0 : ¬ pL l = 0 := by omega
  have hLm : pL l ≤ 1048577 := by have := pts_many _ l (Nat.le_refl _); unfold pL; omega
  have hLe : (pts l).length = pL l := rfl
  rw [hLe]
  have hw0 : pG l 0 = bfC 32 l := by rw [pG, pts_cons]; rfl
  have hpb : pb < w1.heap.size := block_lt_of_cell (hc 0 hL1)
  have hRA : w.heap.size < w1.heap.size := lt_of_heap q1
  clear HPt hEls ho hS hZ qZ hb1 hLe
  have q2 := heap_alloc_new w1 (.cells #[.int .i64 0, .int .i64 0, .int .i64 0, .string ⟨#[]⟩] 30)
  have qR : (w1.alloc (.cells #[.int .i64 0, .int .i64 0, .int .i64 0, .string ⟨#[]⟩] 30)).heap[w.heap.size]? = _ := heap_keep q1
  have hB2 := hB1.alloc hB1.size (.cells #[.int .i64 0, .int .i64 0, .int .i64 0, .string ⟨#[]⟩] 30)
  have HC : Hid (∀ j, j < pL l → (w1.alloc (.cells #[.int .i64 0, .int .i64 0, .int .i64 0, .string ⟨#[]⟩] 30)).cell? ⟨pb, po + j, none⟩ = some (.string (ba (pG l j)))) := fun j hj => (((Below.refl w1.heap.size w1).alloc (Nat.le_refl _) _).cell (p := ⟨pb, po + j, none⟩) hpb).trans (hc j hj)
  clear hc q1
  go_upto_region 3 with fail
  generalize w1.alloc (.cells #[.int .i64 0, .int .i64 0, .int .i64 0, .string ⟨#[]⟩] 30) = W2 at *
  have HB2 : Hid _ := hB2
  have HR : Hid _ := qR
  clear hB2 qR hB1
  have U2 := Upd.refl q2
  clear q2
  go_wp2_with fail
  go_loopw [6] (fun i wr => ∃ m : Nat, 1 ≤ m ∧ m ≤ 11 ∧ i = .int .i64 m ∧ Upd w1.heap.size (.cells #[.int .i64 (kindTo (bfC 32 l) (m - 1)), .int .i64 0, .int .i64 0, .string ⟨#[]⟩] 30 (0, 0)) W2 wr) (fun i _ => 11 - (intOf i).toNat)
  case atStart => exact ⟨1, by omega, by omega, rfl, U2⟩
  case round =>
    clear U2
    obtain ⟨m, hm1, hm2, rfl, hU⟩ := hrel
    by_cases hlt : m ≤ 10
    · have hltI : (m : Int) ≤ 10 := by omega
      have c0 : wr.cell? ⟨pb, po, none⟩ = some (.string (ba (bfC 32 l))) := by
        have := HC.out 0 hL1
        rw [hw0, Nat.add_zero] at this
        exact (hU.cell (p := ⟨pb, po, none⟩) (block_lt_of_cell this) (by show pb ≠ _; omega)).trans this
      have hpr : pb < wr.heap.size := block_lt_of_cell c0
      have hq := str_eq_list (ba (bfC 32 l)) (wordL m)
      rw [ba_list2] at hq
      by_cases h : wordL (m : Int) = bfC 32 l
      · have HK : Hid (kindTo (bfC 32 l) m = m) := kindTo_hit m hm1 hlt _ h
        have hqb : ((⟨(wordL m).toArray⟩ : ByteArray).toList == (ba (bfC 32 l)).toList) = true := by rw [hq]; simp [h]
        have CW := actWord_any m wr.drew hm1 hlt
        clear h hq
        generalize (⟨(wordL m).toArray⟩ : ByteArray) = y at *
        generalize ba (bfC 32 l) = z at *
        go_upto_region 6 with fail
        refine wp_region_held_drew (S := fun w' => w'.cell? ⟨pb, po, none⟩ = some (.string z)) (by kernel_rfl) c0 (fun hHeld => ?_)
        refine take_dst (i := 0) (d := 16) (v := .int .i64 m) rfl rfl (by kernel_rfl) (by kernel_rfl) (by kernel_rfl) (fun _ _ _ h => h) (Or.inl ⟨by rfl, ?_⟩) hHeld ?_
        · (intro w0 hSw; (try dsimp only at hSw); go_simp)
        simp only [Act.put, List.setIfInBounds_toArray, List.set_cons_zero, List.set_cons_succ]
        refine take_dst (i := 2) (d := 18) (v := .slice (some ⟨pb, po, none⟩) (pL l) pc) rfl rfl (by kernel_rfl) (by kernel_rfl) (by kernel_rfl) (fun _ _ _ h => h) (Or.inl ⟨by rfl, ?_⟩) hHeld ?_
        · (intro w0 hSw; (try dsimp only at hSw); go_simp)
        simp only [Act.put, List.setIfInBounds_toArray, List.set_cons_zero, List.set_cons_succ]
        refine take_dst (i := 3) (d := 19) (v := .pointer (some ⟨pb, po, none⟩)) rfl rfl (by kernel_rfl) (by kernel_rfl) (by kernel_rfl) (fun _ _ _ h => h) (Or.inl ⟨by rfl, ?_⟩) hHeld ?_
        · (intro w0 hSw; (try dsimp only at hSw); go_simp)
        simp only [Act.put, List.setIfInBounds_toArray, List.set_cons_zero, List.set_cons_succ]
        refine take_dst (i := 4) (d := 20) (v := .string z) rfl rfl (by kernel_rfl) (by kernel_rfl) (by kernel_rfl) (fun _ _ _ h => h) (Or.inl ⟨by rfl, ?_⟩) hHeld ?_
        · (intro w0 hSw; (try dsimp only at hSw); go_simp)
        simp only [Act.put, List.setIfInBounds_toArray, List.set_cons_zero, List.set_cons_succ]
        refine wpAnyH_ready (rs := [1]) (by kernel_rfl) (by simp) (AllReadyH.cons rfl (fun K hK => ?_) AllReadyH.nil)
        refine step_calls_dst rfl 17 rfl 31 [.tmp 16] #[3] rfl [.int .i64 m] rfl (enters_of Tryd.func31 (by kernel_rfl) rfl) (fun v w' => v = .string y ∧ Below wr.heap.size wr w') (CW.mono (fun e w9 ⟨he, h9⟩ => ⟨_, he, rfl, below_drew h9⟩)) ?_
        rintro v w3 ⟨rfl, hb3⟩
        refine hK.out _ _ ((hb3.cell (p := ⟨pb, po, none⟩) hpr).trans c0) (fun hHeld => ?_)
        simp only [Act.put, List.setIfInBounds_toArray, List.set_cons_zero, List.set_cons_succ]
        refine take_dst (i := 5) (d := 21) (v := .bool true) rfl rfl (by kernel_rfl) (by kernel_rfl) (by kernel_rfl) (fun _ _ _ h => h) (Or.inl ⟨by rfl, ?_⟩) hHeld ?_
        · (intro w0 hSw; (try dsimp only at hSw); go_simp)
        simp only [Act.put, List.setIfInBounds_toArray, List.set_cons_zero, List.set_cons_succ]
        refine wpAnyH_done (by kernel_rfl) ?_ _
        have hU3 := hU.trans (Upd.of_below hU.here hb3)
        have cA := cells_at hU3.here 0 _ rfl
        have fA := frozen_at hU3.here 0
        have hU4 := hU3.setCell 0 (.int .i64 m)
        go_wp2_with fail
        go_roundw
        case rel =>
          refine ⟨m + 1, by omega, by omega, by go_num, ?_⟩
          rw [Nat.add_sub_cancel, HK.out]
          exact hU4
        case measure => simp [intOf]; omega
      · have HK : Hid (kindTo (bfC 32 l) m = kindTo (bfC 32 l) (m - 1)) := kindTo_miss m hm1 _ h
        have hqb : ((⟨(wordL m).toArray⟩ : ByteArray).toList == (ba (bfC 32 l)).toList) = false := by rw [hq]; simp [h]
        have CW := actWord_any m wr.drew hm1 hlt
        clear h hq
        generalize (⟨(wordL m).toArray⟩ : ByteArray) = y at *
        generalize ba (bfC 32 l) = z at *
        go_upto_region 6 with fail
        refine wp_region_held_drew (S := fun w' => w'.cell? ⟨pb, po, none⟩ = some (.string z)) (by kernel_rfl) c0 (fun hHeld => ?_)
        refine take_dst (i := 0) (d := 16) (v := .int .i64 m) rfl rfl (by kernel_rfl) (by kernel_rfl) (by kernel_rfl) (fun _ _ _ h => h) (Or.inl ⟨by rfl, ?_⟩) hHeld ?_
        · (intro w0 hSw; (try dsimp only at hSw); go_simp)
        simp only [Act.put, List.setIfInBounds_toArray, List.set_cons_zero, List.set_cons_succ]
        refine take_dst (i := 2) (d := 18) (v := .slice (some ⟨pb, po, none⟩) (pL l) pc) rfl rfl (by kernel_rfl) (by kernel_rfl) (by kernel_rfl) (fun _ _ _ h => h) (Or.inl ⟨by rfl, ?_⟩) hHeld ?_
        · (intro w0 hSw; (try dsimp only at hSw); go_simp)
        simp only [Act.put, List.setIfInBounds_toArray, List.set_cons_zero, List.set_cons_succ]
        refine take_dst (i := 3) (d := 19) (v := .pointer (some ⟨pb, po, none⟩)) rfl rfl (by kernel_rfl) (by kernel_rfl) (by kernel_rfl) (fun _ _ _ h => h) (Or.inl ⟨by rfl, ?_⟩) hHeld ?_
        · (intro w0 hSw; (try dsimp only at hSw); go_simp)
        simp only [Act.put, List.setIfInBounds_toArray, List.set_cons_zero, List.set_cons_succ]
        refine take_dst (i := 4) (d := 20) (v := .string z) rfl rfl (by kernel_rfl) (by kernel_rfl) (by kernel_rfl) (fun _ _ _ h => h) (Or.inl ⟨by rfl, ?_⟩) hHeld ?_
        · (intro w0 hSw; (try dsimp only at hSw); go_simp)
        simp only [Act.put, List.setIfInBounds_toArray, List.set_cons_zero, List.set_cons_succ]
        refine wpAnyH_ready (rs := [1]) (by kernel_rfl) (by simp) (AllReadyH.cons rfl (fun K hK => ?_) AllReadyH.nil)
        refine step_calls_dst rfl 17 rfl 31 [.tmp 16] #[3] rfl [.int .i64 m] rfl (enters_of Tryd.func31 (by kernel_rfl) rfl) (fun v w' => v = .string y ∧ Below wr.heap.size wr w') (CW.mono (fun e w9 ⟨he, h9⟩ => ⟨_, he, rfl, below_drew h9⟩)) ?_
        rintro v w3 ⟨rfl, hb3⟩
        refine hK.out _ _ ((hb3.cell (p := ⟨pb, po, none⟩) hpr).trans c0) (fun hHeld => ?_)
        simp only [Act.put, List.setIfInBounds_toArray, List.set_cons_zero, List.set_cons_succ]
        refine take_dst (i := 5) (d := 21) (v := .bool false) rfl rfl (by kernel_rfl) (by kernel_rfl) (by kernel_rfl) (fun _ _ _ h => h) (Or.inl ⟨by rfl, ?_⟩) hHeld ?_
        · (intro w0 hSw; (try dsimp only at hSw); go_simp)
        simp only [Act.put, List.setIfInBounds_toArray, List.set_cons_zero, List.set_cons_succ]
        refine wpAnyH_done (by kernel_rfl) ?_ _
        have hU3 := hU.trans (Upd.of_below hU.here hb3)
        go_wp2_with fail
        go_roundw
        case rel =>
          refine ⟨m + 1, by omega, by omega, by go_num, ?_⟩
          rw [Nat.add_sub_cancel, HK.out]
          exact hU3
        case measure => simp [intOf]; omega
    · obtain rfl : m = 11 := by omega
      have hltI : ¬ ((11 : Nat) : Int) ≤ 10 := by omega
      have hUk : Upd w1.heap.size (.cells #[.int .i64 (kindL (bfC 32 l)), .int .i64 0, .int .i64 0, .string ⟨#[]⟩] 30 (0, 0)) W2 wr := hU
      clear hU
      have hRw : wr.heap[w.heap.size]? = some (.cells #[.int .i64 0, .int .i64 0, .int .i64 0, .string ⟨#[]⟩] 30 (0, 0)) := hUk.keep HR.out (by omega)
      have hkb := kindL_bounds (bfC 32 l)
      have hLA := line_all l
      have Hrd : Hid (kindL (bfC 32 l) = 0 → rdB l = false) := fun h => by rw [rdB]; simp [h]
      have HrK : Hid ((rdV l).k = kindL (bfC 32 l)) := rfl
      generalize kindL (bfC 32 l) = k at *
      have cA0 := cells_at hUk.here 0 _ rfl
      have cA1 := cells_at hUk.here 1 _ rfl
      have cA2 := cells_at hUk.here 2 _ rfl
      have cA3 := cells_at hUk.here 3 _ rfl
      by_cases hk0 : k = 0
      · subst hk0
        have hRb : Hid (rdB l = false) := Hrd.out rfl
        clear hkb hLA
        go_upto_region 9 with fail
        go_wp2_with (refine wpList_store_row rfl 30 _ _ rfl w.heap.size #[.int .i64 0, .int .i64 0, .int .i64 0, .string ⟨#[]⟩] rfl rfl 30 _ hRw sAct rfl (by simp [Value.oneCell']) ?_)
        refine bodyPost_ret (v := .tuple #[.agg #[.int .i64 0, .int .i64 0, .int .i64 0, .string ⟨#[]⟩], .bool false]) (results_two (fn := Tryd.f23) (p := 2) (q := 3) (ty := 30) rfl _ _ w.heap.size 30 _ (0, 0) _ (.bool false) ⟨rfl, rfl⟩ (setRow_heap _ _ _ _ _ _ hRw) Tryd.underlying30 rfl sAct) rfl ⟨⟨0, 0, 0, ⟨#[]⟩, by rw [hRb.out], fun h => by rw [hRb.out] at h; cases h⟩, (Upd.setRow hRw).below (hUk.low HB2.out (by have := lt_of_heap HR.out; omega) (by omega)) (by have := lt_of_heap hRw; omega) (Nat.le_refl _)⟩
      · obtain ⟨hF, hFV⟩ := hLA hk0
        have hk1 : 1 ≤ k ∧ k ≤ 10 := by rcases hkb with h | h; exact absurd h hk0; exact ⟨h.1, h.2.1⟩
        have hk0b : (k == 0) = false := by rw [beq_eq_false_iff_ne]; exact hk0
        have CN := hasNode_any k
        have CP := hasPick_any k
        have CT := hasText_any k
        clear hkb hLA Hrd
        generalize hN k = h0 at *
        generalize hP k = h1 at *
        generalize hT k = h2 at *
        have HF : Hid _ := hF
        have HFV : Hid _ := hFV
        clear hF hFV
        go_upto_region 11 with fail
        go_cut [8] (fun y wx => y = .bool true ∧ wx = wr)
        case first =>
          go_wp2_with fail
          go_meet
          case rel => exact ⟨rfl, rfl⟩
        case rest =>
          obtain ⟨rfl, hwc⟩ := hcut
          obtain rfl : wr = _ := hwc.symm
          apply_assumption
          refine wp_seq_k (fun K2 hK2 => ?_)
          go_cut [7, 8] (fun x y wx => x = .int .i64 ((1 + b2n h0 : Nat) : Int) ∧ y = .bool (okN h0 l 1 true) ∧ Upd w1.heap.size (.cells #[.int .i64 k, .int .i64 (vaN h0 l 1), .int .i64 0, .string ⟨#[]⟩] 30 (0, 0)) W2 wx)
          case first =>
            clear CP CT hRw cA1 cA2 cA3
            cases h0
            · go_wp2_with (go_at_call 32; refine (CN _).mono ?_; rintro e w' ⟨rfl, rfl⟩)
              go_meet
              case rel => exact ⟨by simp [b2n], by simp [okN], by simpa [vaN] using hUk⟩
            · by_cases hal : 1 < pL l
              · have halI : ((1 : Nat) : Int) < pL l := by omega
                have cP : wr.cell? ⟨pb, po + 1, none⟩ = some (.string (ba (pG l 1))) := by
                  have := HC.out 1 hal
                  exact (hUk.cell (p := ⟨pb, po + 1, none⟩) (block_lt_of_cell this) (by show pb ≠ _; omega)).trans this
                have NO := fun w => numberOf_any (ba (pG l 1)) w (by rw [ba_size]; have := HG 1; omega)
                rw [ba_list2] at NO
                by_cases hf : formN (pG l 1) = true
                · have TG := fun w => tooGreat_any (ba (pG l 1)) w (by rw [ba_size]; have := HG 1; omega) (by rw [ba_list2]; exact hf)
                  rw [ba_list2] at TG
                  have Hnr : Hid (nrD (pG l 1) = cp l 1) := by show _ = _; rw [nrD, if_pos hf]; rfl
                  rw [Hnr.out] at NO
                  have hcp : 0 ≤ cp l 1 := by unfold cp; omega
                  by_cases hb : valL (pG l 1) ≤ 9223372036854775807
                  · have Hg : Hid (gd l 1 = true) := by show _ = _; rw [gd, numB', hf]; simp [hal, hb]
                    have e1 : decide (9223372036854775807 < valL (pG l 1)) = false := by simp; omega
                    simp only [e1] at TG
                    clear hb e1 hf
                    generalize ba (pG l 1) = y at *
                    have fA := frozen_at hUk.here 1
                    have cF := cells_at hUk.here 1 _ rfl
                    have hU4 := hUk.setCell 1 (.int .i64 (cp l 1))
                    generalize hcpx : cp l 1 = x at *
                    have Hcpx : Hid _ := hcpx
                    clear hcpx
                    go_wp2_with (first | (go_at_call 32; refine (CN _).mono ?_; rintro e w' ⟨rfl, rfl⟩) | (go_at_call 33; refine (NO _).mono ?_; rintro e w' ⟨rfl, rfl⟩) | (go_at_call 34; refine (TG _).mono ?_; rintro e w' ⟨rfl, rfl⟩))
                    go_meet
                    case rel => exact ⟨by simp [b2n] <;> omega, by simp [okN, Hg.out], by simpa [vaN, Hg.out, Hcpx.out] using hU4⟩
                  · have Hg : Hid (gd l 1 = false) := by show _ = _; rw [gd, numB']; simp [hb]
                    have e1 : decide (9223372036854775807 < valL (pG l 1)) = true := by simp; omega
                    simp only [e1] at TG
                    clear hb e1 hf
                    generalize ba (pG l 1) = y at *
                    generalize cp l 1 = x at *
                    go_wp2_with (first | (go_at_call 32; refine (CN _).mono ?_; rintro e w' ⟨rfl, rfl⟩) | (go_at_call 33; refine (NO _).mono ?_; rintro e w' ⟨rfl, rfl⟩) | (go_at_call 34; refine (TG _).mono ?_; rintro e w' ⟨rfl, rfl⟩))
                    go_meet
                    case rel => exact ⟨by simp [b2n] <;> omega, by simp [okN, Hg.out], by simpa [vaN, Hg.out] using hUk⟩
                · have Hg : Hid (gd l 1 = false) := by show _ = _; rw [gd, numB', eq_false_of_ne_true hf]; simp
                  have Hnr : Hid (nrD (pG l 1) = -1) := by show _ = _; rw [nrD, if_neg hf]
                  rw [Hnr.out] at NO
                  clear hf
                  generalize ba (pG l 1) = y at *
                  go_wp2_with (first | (go_at_call 32; refine (CN _).mono ?_; rintro e w' ⟨rfl, rfl⟩) | (go_at_call 33; refine (NO _).mono ?_; rintro e w' ⟨rfl, rfl⟩))
                  go_meet
                  case rel => exact ⟨by simp [b2n] <;> omega, by simp [okN, Hg.out], by simpa [vaN, Hg.out] using hUk⟩
              · have halI : ¬ ((1 : Nat) : Int) < pL l := by omega
                have Hg : Hid (gd l 1 = false) := by show _ = _; rw [gd, decide_eq_false hal]; simp
                go_wp2_with (go_at_call 32; refine (CN _).mono ?_; rintro e w' ⟨rfl, rfl⟩)
                go_meet
                case rel => exact ⟨by simp [b2n] <;> omega, by simp [okN, Hg.out], by simpa [vaN, Hg.out] using hUk⟩
          case rest =>
            obtain ⟨rfl, rfl, hU5⟩ := hcut
            clear hUk hRw cA0 cA1 cA2 cA3
            have cA0 := cells_at hU5.here 0 _ rfl
            have ha1 : 1 + b2n h0 ≤ 2 := by unfold b2n; split <;> omega
            apply_assumption
            refine wp_seq_k (fun K3 hK3 => ?_)
            have HF' : Hid (okT h2 l (1 + b2n h0 + b2n h1) (okN h1 l (1 + b2n h0) (okN h0 l 1 true)) = true → 1 + b2n h0 + b2n h1 + b2n h2 = pL l → rdB l = true) := fun x y => by rw [← HF.out]; unfold finB; rw [x, decide_eq_true y]; rfl
            have HF'' : Hid ((okT h2 l (1 + b2n h0 + b2n h1) (okN h1 l (1 + b2n h0) (okN h0 l 1 true)) = false ∨ 1 + b2n h0 + b2n h1 + b2n h2 ≠ pL l) → rdB l = false) := fun x => by
              rw [← HF.out]
              unfold finB
              rcases x with x | x
              · rw [x]; rfl
              · rw [decide_eq_false x, Bool.and_false]
            clear HF CN
            generalize 1 + b2n h0 = a1 at *
            generalize okN h0 l 1 true = ok1 at *
            generalize vaN h0 l 1 = n1 at *
            go_cut [7, 8] (fun x y wx => x = .int .i64 ((a1 + b2n h1 : Nat) : Int) ∧ y = .bool (okN h1 l a1 ok1) ∧ Upd w1.heap.size (.cells #[.int .i64 k, .int .i64 n1, .int .i64 (vaN h1 l a1), .string ⟨#[]⟩] 30 (0, 0)) W2 wx)
            case first =>
              clear CT
              cases h1
              · go_wp2_with (go_at_call 35; refine (CP _).mono ?_; rintro e w' ⟨rfl, rfl⟩)
                go_meet
                case rel => exact ⟨by simp [b2n], by simp [okN], by simpa [vaN] using hU5⟩
              · by_cases hal : a1 < pL l
                · have halI : ((a1 : Nat) : Int) < pL l := by omega
                  have cP : wc.cell? ⟨pb, po + a1, none⟩ = some (.string (ba (pG l a1))) := by
                    have := HC.out a1 hal
                    exact (hU5.cell (p := ⟨pb, po + a1, none⟩) (block_lt_of_cell this) (by show pb ≠ _; omega)).trans this
                  have NO := fun w => numberOf_any (ba (pG l a1)) w (by rw [ba_size]; have := HG a1; omega)
                  rw [ba_list2] at NO
                  by_cases hf : formN (pG l a1) = true
                  · have TG := fun w => tooGreat_any (ba (pG l a1)) w (by rw [ba_size]; have := HG a1; omega) (by rw [ba_list2]; exact hf)
                    rw [ba_list2] at TG
                    have Hnr : Hid (nrD (pG l a1) = cp l a1) := by show _ = _; rw [nrD, if_pos hf]; rfl
                    rw [Hnr.out] at NO
                    have hcp : 0 ≤ cp l a1 := by unfold cp; omega
                    by_cases hb : valL (pG l a1) ≤ 9223372036854775807
                    · have Hg : Hid (gd l a1 = true) := by show _ = _; rw [gd, numB', hf]; simp [hal, hb]
                      have e1 : decide (9223372036854775807 < valL (pG l a1)) = false := by simp; omega
                      simp only [e1] at TG
                      clear hb e1 hf
                      generalize ba (pG l a1) = y at *
                      have fA := frozen_at hU5.here 2
                      have cF := cells_at hU5.here 2 _ rfl
                      have hU4 := hU5.setCell 2 (.int .i64 (cp l a1))
                      generalize hcpx : cp l a1 = x at *
                      have Hcpx : Hid _ := hcpx
                      clear hcpx
                      go_wp2_with (first | (go_at_call 35; refine (CP _).mono ?_; rintro e w' ⟨rfl, rfl⟩) | (go_at_call 33; refine (NO _).mono ?_; rintro e w' ⟨rfl, rfl⟩) | (go_at_call 34; refine (TG _).mono ?_; rintro e w' ⟨rfl, rfl⟩))
                      go_meet
                      case rel => exact ⟨by simp [b2n] <;> omega, by simp [okN, Hg.out], by simpa [vaN, Hg.out, Hcpx.out] using hU4⟩
                    · have Hg : Hid (gd l a1 = false) := by show _ = _; rw [gd, numB']; simp [hb]
                      have e1 : decide (9223372036854775807 < valL (pG l a1)) = true := by simp; omega
                      simp only [e1] at TG
                      clear hb e1 hf
                      generalize ba (pG l a1) = y at *
                      generalize cp l a1 = x at *
                      go_wp2_with (first | (go_at_call 35; refine (CP _).mono ?_; rintro e w' ⟨rfl, rfl⟩) | (go_at_call 33; refine (NO _).mono ?_; rintro e w' ⟨rfl, rfl⟩) | (go_at_call 34; refine (TG _).mono ?_; rintro e w' ⟨rfl, rfl⟩))
                      go_meet
                      case rel => exact ⟨by simp [b2n] <;> omega, by simp [okN, Hg.out], by simpa [vaN, Hg.out] using hU5⟩
                  · have Hg : Hid (gd l a1 = false) := by show _ = _; rw [gd, numB', eq_false_of_ne_true hf]; simp
                    have Hnr : Hid (nrD (pG l a1) = -1) := by show _ = _; rw [nrD, if_neg hf]
                    rw [Hnr.out] at NO
                    clear hf
                    generalize ba (pG l a1) = y at *
                    go_wp2_with (first | (go_at_call 35; refine (CP _).mono ?_; rintro e w' ⟨rfl, rfl⟩) | (go_at_call 33; refine (NO _).mono ?_; rintro e w' ⟨rfl, rfl⟩))
                    go_meet
                    case rel => exact ⟨by simp [b2n] <;> omega, by simp [okN, Hg.out], by simpa [vaN, Hg.out] using hU5⟩
                · have halI : ¬ ((a1 : Nat) : Int) < pL l := by omega
                  have Hg : Hid (gd l a1 = false) := by show _ = _; rw [gd, decide_eq_false hal]; simp
                  go_wp2_with (go_at_call 35; refine (CP _).mono ?_; rintro e w' ⟨rfl, rfl⟩)
                  go_meet
                  case rel => exact ⟨by simp [b2n] <;> omega, by simp [okN, Hg.out], by simpa [vaN, Hg.out] using hU5⟩
            case rest =>
              obtain ⟨rfl, rfl, hU6⟩ := hcut
              clear hU5 cA0
              have cA0 := cells_at hU6.here 0 _ rfl
              have ha2 : a1 + b2n h1 ≤ 3 := by unfold b2n; split <;> omega
              apply_assumption
              refine wp_seq_k (fun K4 hK4 => ?_)
              clear CP
              generalize a1 + b2n h1 = a2 at *
              generalize okN h1 l a1 ok1 = ok2 at *
              generalize vaN h1 l a1 = p2 at *
              go_cut [7, 8] (fun x y wx => x = .int .i64 ((a2 + b2n h2 : Nat) : Int) ∧ y = .bool (okT h2 l a2 ok2) ∧ ∃ t : ByteArray, (okT h2 l a2 ok2 = true → t = ba (if h2 = true then txtA (pG l a2) else [])) ∧ Upd w1.heap.size (.cells #[.int .i64 k, .int .i64 n1, .int .i64 p2, .string t] 30 (0, 0)) W2 wx)
              case first =>
                cases h2
                · go_wp2_with (go_at_call 36; refine (CT _).mono ?_; rintro e w' ⟨rfl, rfl⟩)
                  go_meet
                  case rel => exact ⟨by simp [b2n], by simp [okT], ⟨#[]⟩, fun _ => by simp [ba], hU6⟩
                · by_cases hal : a2 < pL l
                  · have halI : (a2 : Int) < pL l := by omega
                    cases ok2
                    · go_wp2_with (go_at_call 36; refine (CT _).mono ?_; rintro e w' ⟨rfl, rfl⟩)
                      go_meet
                      case rel => exact ⟨by simp [b2n], by simp [okT], ⟨#[]⟩, fun h => by simp [okT] at h, hU6⟩
                    · have cP : wc.cell? ⟨pb, po + a2, none⟩ = some (.string (ba (pG l a2))) := by
                        have := HC.out a2 hal
                        exact (hU6.cell (p := ⟨pb, po + a2, none⟩) (block_lt_of_cell this) (by show pb ≠ _; omega)).trans this
                      have BH := bytesOfHex_any (ba (pG l a2)) wc (by rw [ba_size]; have := HG a2; omega)
                      rw [ba_list2] at BH
                      have Hok : Hid (okT true l a2 true = txtB (pG l a2)) := by show _ = _; simp [okT, hal]
                      have Htx : Hid (∀ t : List UInt8, (txtB (pG l a2) = true → t = txtA (pG l a2)) → (okT true l a2 true = true → (⟨t.toArray⟩ : ByteArray) = ba (if true = true then txtA (pG l a2) else []))) := fun t h1 h2 => by
                        rw [if_pos rfl, h1 (by rw [← Hok.out]; exact h2)]
                        rfl
                      generalize txtB (pG l a2) = tb at *
                      generalize ba (pG l a2) = y at *
                      go_wp2_with (go_at_call 36; refine (CT _).mono ?_; rintro e w' ⟨rfl, rfl⟩)
                      refine BH.mono ?_
                      rintro e w5 ⟨t, ht, htl, he, hb5⟩
                      subst he
                      dsimp only
                      have hU7 := hU6.trans (Upd.of_below hU6.here hb5)
                      have cF := cells_at hU7.here 3 _ rfl
                      have fA := frozen_at hU7.here 3
                      have hU8 := hU7.setCell 3 (.string ⟨t.toArray⟩)
                      clear BH cP htl
                      go_wp2_with fail
                      go_meet
                      case rel => exact ⟨by simp [b2n], by rw [Hok.out], ⟨t.toArray⟩, Htx.out t ht, hU8⟩
                  · have halI : ¬ (a2 : Int) < pL l := by omega
                    go_wp2_with (go_at_call 36; refine (CT _).mono ?_; rintro e w' ⟨rfl, rfl⟩)
                    go_meet
                    case rel => exact ⟨by simp [b2n], by simp [okT, hal], ⟨#[]⟩, fun h => by simp [okT, hal] at h, hU6⟩
              case rest =>
                obtain ⟨rfl, rfl, t, ht, hU7⟩ := hcut
                have hRw : wc.heap[w.heap.size]? = some (.cells #[.int .i64 0, .int .i64 0, .int .i64 0, .string ⟨#[]⟩] 30 (0, 0)) := hU7.keep HR.out (by omega)
                clear hU6 cA0 CT
                have cA0 := cells_at hU7.here 0 _ rfl
                have cA1 := cells_at hU7.here 1 _ rfl
                have cA2 := cells_at hU7.here 2 _ rfl
                have cA3 := cells_at hU7.here 3 _ rfl
                have ha3 : a2 + b2n h2 ≤ 4 := by unfold b2n; split <;> omega
                have Hfin : Hid (Below w.heap.size w (wc.setRow w.heap.size #[.int .i64 k, .int .i64 n1, .int .i64 p2, .string t])) := (Upd.setRow hRw).below (hU7.low HB2.out (by have := lt_of_heap HR.out; omega) (by omega)) (by have := lt_of_heap hRw; omega) (Nat.le_refl _)
                have Ht : Hid _ := ht
                clear ht
                apply_assumption
                generalize a2 + b2n h2 = a3 at *
                generalize okT h2 l a2 ok2 = ok3 at *
                cases ok3
                · have hRb : Hid (rdB l = false) := HF''.out (.inl rfl)
                  go_wp2_with (refine wpList_store_row rfl 30 _ _ rfl w.heap.size #[.int .i64 k, .int .i64 n1, .int .i64 p2, .string t] rfl rfl 30 _ hRw sAct rfl (by simp [Value.oneCell']) ?_)
                  refine bodyPost_ret (v := .tuple #[.agg #[.int .i64 k, .int .i64 n1, .int .i64 p2, .string t], .bool false]) (results_two (fn := Tryd.f23) (p := 2) (q := 3) (ty := 30) rfl _ _ w.heap.size 30 _ (0, 0) _ (.bool false) ⟨rfl, rfl⟩ (setRow_heap _ _ _ _ _ _ hRw) Tryd.underlying30 rfl sAct) rfl ⟨⟨k, n1, p2, t, by rw [hRb.out], fun h => by rw [hRb.out] at h; cases h⟩, Hfin.out⟩
                · by_cases hal : a3 = pL l
                  · have hRb : Hid (rdB l = true) := HF'.out rfl hal
                    have halI : ((a3 : Int) == pL l) = true := by simp [hal]
                    have Hk : Hid (k = (rdV l).k ∧ n1 = cap (rdV l).n ∧ p2 = cap (rdV l).p ∧ t = (rdV l).t) := by
                      obtain ⟨g1, g2, g3⟩ := HFV.out hRb.out
                      exact ⟨HrK.out.symm, g1, g2, (Ht.out rfl).trans g3.symm⟩
                    subst hal
                    go_wp2_with (refine wpList_store_row rfl 30 _ _ rfl w.heap.size #[.int .i64 k, .int .i64 n1, .int .i64 p2, .string t] rfl rfl 30 _ hRw sAct rfl (by simp [Value.oneCell']) ?_)
                    refine bodyPost_ret (v := .tuple #[.agg #[.int .i64 k, .int .i64 n1, .int .i64 p2, .string t], .bool true]) (results_two (fn := Tryd.f23) (p := 2) (q := 3) (ty := 30) rfl _ _ w.heap.size 30 _ (0, 0) _ (.bool true) ⟨rfl, rfl⟩ (setRow_heap _ _ _ _ _ _ hRw) Tryd.underlying30 rfl sAct) rfl ⟨⟨k, n1, p2, t, by rw [hRb.out], fun _ => Hk.out⟩, Hfin.out⟩
                  · have hRb : Hid (rdB l = false) := HF''.out (.inr hal)
                    have halI : ((a3 : Int) == pL l) = false := by rw [beq_eq_false_iff_ne]; omega
                    go_wp2_with (refine wpList_store_row rfl 30 _ _ rfl w.heap.size #[.int .i64 k, .int .i64 n1, .int .i64 p2, .string t] rfl rfl 30 _ hRw sAct rfl (by simp [Value.oneCell']) ?_)
                    refine bodyPost_ret (v := .tuple #[.agg #[.int .i64 k, .int .i64 n1, .int .i64 p2, .string t], .bool false]) (results_two (fn := Tryd.f23) (p := 2) (q := 3) (ty := 30) rfl _ _ w.heap.size 30 _ (0, 0) _ (.bool false) ⟨rfl, rfl⟩ (setRow_heap _ _ _ _ _ _ hRw) Tryd.underlying30 rfl sAct) rfl ⟨⟨k, n1, p2, t, by rw [hRb.out], fun h => by rw [hRb.out] at h; cases h⟩, Hfin.out⟩
end Go.Proofs.YtnpkpkknbflacaaDoor
