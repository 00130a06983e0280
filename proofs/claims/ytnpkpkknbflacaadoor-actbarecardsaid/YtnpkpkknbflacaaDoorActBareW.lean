/- ActBare answers true for every argument. -/
import Derived.Test.YtnpkpkknbflacaaDoorLnA
import Derived.Test.YtnpkpkknbflacaaDoorCalls
namespace Go.Proofs.YtnpkpkknbflacaaDoor
open Go.RowKit

set_option maxRecDepth 100000 in
theorem flow_bad (n p : Int) (t : Nat) (h : ¬ (n = 0 ∧ p = 0 ∧ t = 0)) : actF 10 n p t ≠ 0 := by
  unfold actF
  rw [if_neg (by omega)]
  split
  · decide
  · split
    · decide
    · split
      · decide
      · rw [if_pos]
        · decide
        · simp only [moreB, hN, hP, hT]
          simp
          omega
set_option maxRecDepth 100000 in
theorem kind_bad (n p : Int) (t : Nat) : actF 11 n p t = 3 := by simp [actF]
set_option maxRecDepth 100000 in
theorem str_ne {t : ByteArray} (h : t.size ≠ 0) : (t.toList == []) = false := by
  have e := empty_size t
  rw [decide_eq_true h] at e
  cases hl : t.toList with
  | nil => rw [hl] at e; simp at e
  | cons a l => rfl
set_option maxRecDepth 100000 in
/-- Two acts, one behind the other. -/
theorem acts_two (w : World) (a b : AV) (ha : a.t.size ≤ maxLen) (hb : b.t.size ≤ maxLen) : ActsAt (w.alloc (.cells #[.int .i64 a.k, .int .i64 a.n, .int .i64 a.p, .string a.t, .int .i64 b.k, .int .i64 b.n, .int .i64 b.p, .string b.t] 30)) (some ⟨w.heap.size, 0, none⟩) [a, b] := by
  refine ⟨.inr ⟨w.heap.size, 0, rfl, fun j hj => ?_⟩, fun x hx => ?_⟩
  · have hj2 : j = 0 ∨ j = 1 := by simp at hj; omega
    rcases hj2 with rfl | rfl
    · refine ⟨?_, ?_, ?_, ?_⟩ <;> rw [World.cell?_alloc_at _ _ _ _ rfl] <;> rfl
    · refine ⟨?_, ?_, ?_, ?_⟩ <;> rw [World.cell?_alloc_at _ _ _ _ rfl] <;> rfl
  · simp at hx
    rcases hx with rfl | rfl
    · exact ha
    · exact hb
set_option maxRecDepth 100000 in
theorem show_two (a b : AV) (ha : a.e = 0) (hb : b.e ≠ 0) : showE [a, b] = b.e ∧ showP [a, b] = 1 ∧ showT [a, b] = [] := by
  have h : fb [a, b] = 1 := fb_eq [a, b] 1 (by intro x hx; simp at hx; subst hx; exact ha) (by simp) (by simpa using hb)
  refine ⟨?_, ?_, ?_⟩
  · rw [showE, if_neg (by simp), h, if_pos (by simp)]; rfl
  · rw [showP, if_neg (by simp), h, if_pos (by simp)]; rfl
  · rw [showT, if_neg (by simp), h, if_pos (by simp)]
set_option maxRecDepth 100000 in
set_option maxHeartbeats 8000000 in
theorem actBare_walk (fk fa fb' : Int) (ft : ByteArray) (which : Int) (w : World) (hfk : I64 fk) (hfa : I64 fa) (hfb : I64 fb') (hft : ft.size ≤ maxLen) (hw0 : -9223372036854775808 ≤ which) (hw1 : which ≤ 9223372036854775807) (hT : STabs w) :
    Calls Tryd.prog 7 #[.agg #[.int .i64 fk, .int .i64 fa, .int .i64 fb', .string ft], .int .i64 which] w fun e w' => e = .returned (.bool true) ∧ Below w.heap.size w w' := by
  have HAct := act_any fk fa fb' ft (w.alloc (.cells #[.int .i64 fk, .int .i64 fa, .int .i64 fb', .string ft] 33)) hfk hfa hfb hft
  have hB0 : Below w.heap.size w (w.alloc (.cells #[.int .i64 fk, .int .i64 fa, .int .i64 fb', .string ft] 33)) := (Below.refl _ _).alloc (Nat.le_refl _) _
  obtain ⟨m0, m1⟩ := pk_bounds which 3 (by omega)
  have HW := fun w => picked_any which 3 w hw0 hw1 (by omega) (by omega)
  generalize pk which 3 = m at *
  go_enter Tryd.func7, Tryd.ntmps7
  go_wp2_with fail
  refine HAct.mono ?_
  rintro e w1 ⟨⟨a, he, hae⟩, hb1⟩
  subst he
  dsimp only
  have hB1 := hB0.trans (hb1.mono hB0.size)
  clear HAct hB0 hb1
  obtain ⟨o1, o2, o3, o4, _⟩ := ok_bounds hae
  have hat : a.t.size ≤ maxLen := by unfold maxLen; omega
  have HC1 := actCheck_any a.k a.n a.p a.t (w1.alloc (.cells #[.int .i64 a.k, .int .i64 a.n, .int .i64 a.p, .string a.t] 30)) hat ((hT.below hB1).k.alloc _)
  rw [show actF a.k a.n a.p a.t.size = 0 from hae] at HC1
  have qA := heap_alloc_new w1 (.cells #[.int .i64 a.k, .int .i64 a.n, .int .i64 a.p, .string a.t] 30)
  have hB2 := hB1.alloc hB1.size (.cells #[.int .i64 a.k, .int .i64 a.n, .int .i64 a.p, .string a.t] 30)
  go_wp2_with fail
  refine HC1.mono ?_
  rintro e w2 ⟨he, hb2⟩
  subst he
  dsimp only
  have qA2 := (hb2.block _ (lt_of_heap qA)).trans qA
  have hB3 := hB2.trans (hb2.mono hB2.size)
  have hAlt := lt_of_heap qA2
  clear HC1 hb2 qA hB2
  generalize w1.heap.size = PA at *
  have c0 := cells_at qA2 0 _ rfl
  have c1 := cells_at qA2 1 _ rfl
  have c2 := cells_at qA2 2 _ rfl
  have c3 := cells_at qA2 3 _ rfl
  have hT3 := hT.below hB3
  have HC2 := actCheck_any 11 a.n a.p a.t (w2.alloc (.cells #[.int .i64 11, .int .i64 a.n, .int .i64 a.p, .string a.t] 30)) hat (hT3.k.alloc _)
  rw [kind_bad] at HC2
  have qB := heap_alloc_new w2 (.cells #[.int .i64 11, .int .i64 a.n, .int .i64 a.p, .string a.t] 30)
  have hB4 := hB3.alloc hB3.size (.cells #[.int .i64 11, .int .i64 a.n, .int .i64 a.p, .string a.t] 30)
  have qA3 : (w2.alloc (.cells #[.int .i64 11, .int .i64 a.n, .int .i64 a.p, .string a.t] 30)).heap[PA]? = _ := heap_keep qA2
  go_wp2_with fail
  refine HC2.mono ?_
  rintro e w3 ⟨he, hb3⟩
  subst he
  dsimp only
  have qA4 := (hb3.block _ (lt_of_heap qA3)).trans qA3
  have qB4 := (hb3.block _ (lt_of_heap qB)).trans qB
  have hB5 := hB4.trans (hb3.mono hB4.size)
  clear HC2 hb3 qA2 qA3 qB hB3 hB4 c0 c1 c2 c3 hT3
  generalize w2.heap.size = PB at *
  have c0 := cells_at qA4 0 _ rfl
  have c1 := cells_at qA4 1 _ rfl
  have c2 := cells_at qA4 2 _ rfl
  have c3 := cells_at qA4 3 _ rfl
  go_wp2_with fail
  refine (HW _).mono ?_
  rintro e w4 ⟨he, rfl⟩
  subst he
  dsimp only
  have HS2 := show_two a ⟨11, a.n, a.p, a.t⟩ hae (by rw [show (⟨11, a.n, a.p, a.t⟩ : AV).e = 3 from kind_bad _ _ _]; decide)
  rw [show (⟨11, a.n, a.p, a.t⟩ : AV).e = 3 from kind_bad _ _ _] at HS2
  obtain ⟨hS1, hS2, hS3⟩ := HS2
  obtain rfl | rfl | rfl : m = 0 ∨ m = 1 ∨ m = 2 := by omega
  · have hE : actF 10 1 a.p a.t.size ≠ 0 := flow_bad _ _ _ (by omega)
    have qA5 : ((w3.alloc (.cells #[.int .i64 a.k, .int .i64 1, .int .i64 a.p, .string a.t] 30)).alloc (.cells #[.int .i64 10, .int .i64 1, .int .i64 a.p, .string a.t] 30)).heap[PA]? = _ := heap_keep (heap_keep qA4)
    have qB5 : ((w3.alloc (.cells #[.int .i64 a.k, .int .i64 1, .int .i64 a.p, .string a.t] 30)).alloc (.cells #[.int .i64 10, .int .i64 1, .int .i64 a.p, .string a.t] 30)).heap[PB]? = _ := heap_keep (heap_keep qB4)
    have qD5 := heap_alloc_new (w3.alloc (.cells #[.int .i64 a.k, .int .i64 1, .int .i64 a.p, .string a.t] 30)) (.cells #[.int .i64 10, .int .i64 1, .int .i64 a.p, .string a.t] 30)
    have hB6 : Below w.heap.size w ((w3.alloc (.cells #[.int .i64 a.k, .int .i64 1, .int .i64 a.p, .string a.t] 30)).alloc (.cells #[.int .i64 10, .int .i64 1, .int .i64 a.p, .string a.t] 30)) := (hB5.alloc hB5.size _).alloc (le_alloc hB5.size _) _
    clear c0 c1 c2 c3
    go_upto_region 16 with fail
    rw [size_alloc] at qD5
    generalize w3.heap.size + 1 = PD at *
    generalize ((w3.alloc (.cells #[.int .i64 a.k, .int .i64 1, .int .i64 a.p, .string a.t] 30)).alloc (.cells #[.int .i64 10, .int .i64 1, .int .i64 a.p, .string a.t] 30)) = w5 at *
    have c0 := cells_at qA5 0 _ rfl
    have c1 := cells_at qA5 1 _ rfl
    have c2 := cells_at qA5 2 _ rfl
    have c3 := cells_at qA5 3 _ rfl
    have d0 := cells_at qB5 0 _ rfl
    have d1 := cells_at qB5 1 _ rfl
    have d2 := cells_at qB5 2 _ rfl
    have d3 := cells_at qB5 3 _ rfl
    have HSh := show_any [a, ⟨11, a.n, a.p, a.t⟩] (some ⟨w5.heap.size, 0, none⟩) 2 2 (w5.alloc (.cells #[.int .i64 a.k, .int .i64 a.n, .int .i64 a.p, .string a.t, .int .i64 11, .int .i64 a.n, .int .i64 a.p, .string a.t] 30)) rfl (by decide) (acts_two w5 a ⟨11, a.n, a.p, a.t⟩ hat hat) ((hT.below hB6).below ((Below.refl _ _).alloc (Nat.le_refl _) _))
    rw [hS1, hS2, hS3] at HSh
    have qD6 : (w5.alloc (.cells #[.int .i64 a.k, .int .i64 a.n, .int .i64 a.p, .string a.t, .int .i64 11, .int .i64 a.n, .int .i64 a.p, .string a.t] 30)).heap[PD]? = _ := heap_keep qD5
    have hB7 := hB6.alloc hB6.size (.cells #[.int .i64 a.k, .int .i64 a.n, .int .i64 a.p, .string a.t, .int .i64 11, .int .i64 a.n, .int .i64 a.p, .string a.t] 30)
    go_wp2_with fail
    refine HSh.mono ?_
    rintro e w6 ⟨he, hb6⟩
    subst he
    dsimp only
    have qD7 := (hb6.block _ (lt_of_heap qD6)).trans qD6
    have hB8 := hB7.trans (hb6.mono hB7.size)
    clear HSh hb6 qD6 hB7 qA5 qB5 qD5 c0 c1 c2 c3 d0 d1 d2 d3
    have e0 := cells_at qD7 0 _ rfl
    have e1 := cells_at qD7 1 _ rfl
    have e2 := cells_at qD7 2 _ rfl
    have e3 := cells_at qD7 3 _ rfl
    have HCd := fun W (h : Below w6.heap.size w6 W) => actCheck_any 10 1 a.p a.t W (by exact hat) (((hT.below hB8).below h).k)
    generalize actF 10 1 a.p a.t.size = E at *
    have hEb : (E == 0) = false := by simp [hE]
    have hlt := lt_of_heap qD7
    go_wp2_with fail
    refine wp_region_held_drew (S := fun w' => w'.cell? ⟨PD, 0, none⟩ = some (.int .i64 10) ∧ w'.cell? ⟨PD, 1, none⟩ = some (.int .i64 1) ∧ w'.cell? ⟨PD, 2, none⟩ = some (.int .i64 a.p) ∧ w'.cell? ⟨PD, 3, none⟩ = some (.string a.t)) (by kernel_rfl) ⟨e0, e1, e2, e3⟩ (fun hHeld => ?_)
    refine take_dst (i := 0) (d := 53) (v := .agg #[.int .i64 10, .int .i64 1, .int .i64 a.p, .string a.t]) rfl rfl (by kernel_rfl) (by kernel_rfl) (by kernel_rfl) (fun _ _ _ h => h) (Or.inl ⟨by rfl, ?_⟩) hHeld ?_
    · (intro w0 hSw; (try dsimp only at hSw); go_simp)
    simp only [Act.put, List.setIfInBounds_toArray, List.set_cons_zero, List.set_cons_succ]
    refine take_dst (i := 3) (d := 56) (v := .pointer (some ⟨PD, 1, none⟩)) rfl rfl (by kernel_rfl) (by kernel_rfl) (by kernel_rfl) (fun _ _ _ h => h) (Or.inl ⟨by rfl, ?_⟩) hHeld ?_
    · (intro w0 hSw; (try dsimp only at hSw); go_simp)
    simp only [Act.put, List.setIfInBounds_toArray, List.set_cons_zero, List.set_cons_succ]
    refine take_dst (i := 4) (d := 57) (v := .int .i64 1) rfl rfl (by kernel_rfl) (by kernel_rfl) (by kernel_rfl) (fun _ _ _ h => h) (Or.inl ⟨by rfl, ?_⟩) hHeld ?_
    · (intro w0 hSw; (try dsimp only at hSw); go_simp)
    simp only [Act.put, List.setIfInBounds_toArray, List.set_cons_zero, List.set_cons_succ]
    refine take_dst (i := 5) (d := 58) (v := .bool false) rfl rfl (by kernel_rfl) (by kernel_rfl) (by kernel_rfl) (fun _ _ _ h => h) (Or.inl ⟨by rfl, ?_⟩) hHeld ?_
    · (intro w0 hSw; (try dsimp only at hSw); go_simp)
    simp only [Act.put, List.setIfInBounds_toArray, List.set_cons_zero, List.set_cons_succ]
    refine wpAnyH_ready (rs := [1]) (by kernel_rfl) (by simp) (AllReadyH.cons rfl (fun K hK => ?_) AllReadyH.nil)
    refine step_calls_dst rfl 54 rfl 19 [.tmp 53] #[30] rfl [.agg #[.int .i64 10, .int .i64 1, .int .i64 a.p, .string a.t]] rfl (enters_of Tryd.func19 (by kernel_rfl) rfl) (fun v w' => v = .int .i64 E ∧ Below w6.heap.size w6 w') ((HCd w6.drew (Below.refl _ _).drew).mono (fun e w9 ⟨he, h9⟩ => ⟨_, he, rfl, below_drew h9⟩)) ?_
    rintro v w7 ⟨rfl, hb7⟩
    refine hK.out _ _ ⟨(hb7.cell (p := ⟨PD, 0, none⟩) hlt).trans e0, (hb7.cell (p := ⟨PD, 1, none⟩) hlt).trans e1, (hb7.cell (p := ⟨PD, 2, none⟩) hlt).trans e2, (hb7.cell (p := ⟨PD, 3, none⟩) hlt).trans e3⟩ (fun hHeld => ?_)
    simp only [Act.put, List.setIfInBounds_toArray, List.set_cons_zero, List.set_cons_succ]
    refine take_dst (i := 2) (d := 55) (v := .bool false) rfl rfl (by kernel_rfl) (by kernel_rfl) (by kernel_rfl) (fun _ _ _ h => h) (Or.inl ⟨by rfl, ?_⟩) hHeld ?_
    · (intro w0 hSw; (try dsimp only at hSw); go_simp)
    simp only [Act.put, List.setIfInBounds_toArray, List.set_cons_zero, List.set_cons_succ]
    refine take_dst (i := 6) (d := 59) (v := .bool false) rfl rfl (by kernel_rfl) (by kernel_rfl) (by kernel_rfl) (fun _ _ _ h => h) (Or.inl ⟨by rfl, ?_⟩) hHeld ?_
    · (intro w0 hSw; (try dsimp only at hSw); go_simp)
    simp only [Act.put, List.setIfInBounds_toArray, List.set_cons_zero, List.set_cons_succ]
    refine take_dst (i := 7) (d := 60) (v := undef) rfl rfl (by kernel_rfl) (by kernel_rfl) (by kernel_rfl) (fun _ _ _ h => h) (Or.inr ⟨by rfl, rfl⟩) hHeld ?_
    simp only [Act.put, List.setIfInBounds_toArray, List.set_cons_zero, List.set_cons_succ]
    refine take_dst (i := 8) (d := 61) (v := undef) rfl rfl (by kernel_rfl) (by kernel_rfl) (by kernel_rfl) (fun _ _ _ h => h) (Or.inr ⟨by rfl, rfl⟩) hHeld ?_
    simp only [Act.put, List.setIfInBounds_toArray, List.set_cons_zero, List.set_cons_succ]
    refine take_dst (i := 9) (d := 62) (v := undef) rfl rfl (by kernel_rfl) (by kernel_rfl) (by kernel_rfl) (fun _ _ _ h => h) (Or.inr ⟨by rfl, rfl⟩) hHeld ?_
    simp only [Act.put, List.setIfInBounds_toArray, List.set_cons_zero, List.set_cons_succ]
    refine take_dst (i := 10) (d := 63) (v := .bool false) rfl rfl (by kernel_rfl) (by kernel_rfl) (by kernel_rfl) (fun _ _ _ h => h) (Or.inl ⟨by rfl, ?_⟩) hHeld ?_
    · (intro w0 hSw; (try dsimp only at hSw); go_simp)
    simp only [Act.put, List.setIfInBounds_toArray, List.set_cons_zero, List.set_cons_succ]
    refine take_dst (i := 11) (d := 64) (v := .bool false) rfl rfl (by kernel_rfl) (by kernel_rfl) (by kernel_rfl) (fun _ _ _ h => h) (Or.inl ⟨by rfl, ?_⟩) hHeld ?_
    · (intro w0 hSw; (try dsimp only at hSw); go_simp)
    simp only [Act.put, List.setIfInBounds_toArray, List.set_cons_zero, List.set_cons_succ]
    refine take_dst (i := 12) (d := 65) (v := undef) rfl rfl (by kernel_rfl) (by kernel_rfl) (by kernel_rfl) (fun _ _ _ h => h) (Or.inr ⟨by rfl, rfl⟩) hHeld ?_
    simp only [Act.put, List.setIfInBounds_toArray, List.set_cons_zero, List.set_cons_succ]
    refine take_dst (i := 13) (d := 66) (v := undef) rfl rfl (by kernel_rfl) (by kernel_rfl) (by kernel_rfl) (fun _ _ _ h => h) (Or.inr ⟨by rfl, rfl⟩) hHeld ?_
    simp only [Act.put, List.setIfInBounds_toArray, List.set_cons_zero, List.set_cons_succ]
    refine take_dst (i := 14) (d := 67) (v := undef) rfl rfl (by kernel_rfl) (by kernel_rfl) (by kernel_rfl) (fun _ _ _ h => h) (Or.inr ⟨by rfl, rfl⟩) hHeld ?_
    simp only [Act.put, List.setIfInBounds_toArray, List.set_cons_zero, List.set_cons_succ]
    refine take_dst (i := 15) (d := 68) (v := .bool false) rfl rfl (by kernel_rfl) (by kernel_rfl) (by kernel_rfl) (fun _ _ _ h => h) (Or.inl ⟨by rfl, ?_⟩) hHeld ?_
    · (intro w0 hSw; (try dsimp only at hSw); go_simp)
    simp only [Act.put, List.setIfInBounds_toArray, List.set_cons_zero, List.set_cons_succ]
    refine take_dst (i := 16) (d := 69) (v := .bool true) rfl rfl (by kernel_rfl) (by kernel_rfl) (by kernel_rfl) (fun _ _ _ h => h) (Or.inl ⟨by rfl, ?_⟩) hHeld ?_
    · (intro w0 hSw; (try dsimp only at hSw); go_simp)
    simp only [Act.put, List.setIfInBounds_toArray, List.set_cons_zero, List.set_cons_succ]
    refine take_dst (i := 17) (d := 4) (v := .bool true) rfl rfl (by kernel_rfl) (by kernel_rfl) (by kernel_rfl) (fun _ _ _ h => h) (Or.inl ⟨by rfl, ?_⟩) hHeld ?_
    · (intro w0 hSw; (try dsimp only at hSw); go_simp)
    simp only [Act.put, List.setIfInBounds_toArray, List.set_cons_zero, List.set_cons_succ]
    refine wpAnyH_done (by kernel_rfl) ?_ _
    go_wp2_with fail
    go_ret
    exact ⟨rfl, hB8.trans (hb7.mono hB8.size)⟩
  · by_cases hn : a.n = 0
    · have hnb : (a.n == 0) = true := by simp [hn]
      clear hn
      have hE : actF 10 a.n 1 a.t.size ≠ 0 := flow_bad _ _ _ (by omega)
      have qA5 : ((w3.alloc (.cells #[.int .i64 a.k, .int .i64 a.n, .int .i64 1, .string a.t] 30)).alloc (.cells #[.int .i64 10, .int .i64 a.n, .int .i64 1, .string a.t] 30)).heap[PA]? = _ := heap_keep (heap_keep qA4)
      have qB5 : ((w3.alloc (.cells #[.int .i64 a.k, .int .i64 a.n, .int .i64 1, .string a.t] 30)).alloc (.cells #[.int .i64 10, .int .i64 a.n, .int .i64 1, .string a.t] 30)).heap[PB]? = _ := heap_keep (heap_keep qB4)
      have qD5 := heap_alloc_new (w3.alloc (.cells #[.int .i64 a.k, .int .i64 a.n, .int .i64 1, .string a.t] 30)) (.cells #[.int .i64 10, .int .i64 a.n, .int .i64 1, .string a.t] 30)
      have hB6 : Below w.heap.size w ((w3.alloc (.cells #[.int .i64 a.k, .int .i64 a.n, .int .i64 1, .string a.t] 30)).alloc (.cells #[.int .i64 10, .int .i64 a.n, .int .i64 1, .string a.t] 30)) := (hB5.alloc hB5.size _).alloc (le_alloc hB5.size _) _
      clear c0 c1 c2 c3
      go_upto_region 16 with fail
      rw [size_alloc] at qD5
      generalize w3.heap.size + 1 = PD at *
      generalize ((w3.alloc (.cells #[.int .i64 a.k, .int .i64 a.n, .int .i64 1, .string a.t] 30)).alloc (.cells #[.int .i64 10, .int .i64 a.n, .int .i64 1, .string a.t] 30)) = w5 at *
      have c0 := cells_at qA5 0 _ rfl
      have c1 := cells_at qA5 1 _ rfl
      have c2 := cells_at qA5 2 _ rfl
      have c3 := cells_at qA5 3 _ rfl
      have d0 := cells_at qB5 0 _ rfl
      have d1 := cells_at qB5 1 _ rfl
      have d2 := cells_at qB5 2 _ rfl
      have d3 := cells_at qB5 3 _ rfl
      have HSh := show_any [a, ⟨11, a.n, a.p, a.t⟩] (some ⟨w5.heap.size, 0, none⟩) 2 2 (w5.alloc (.cells #[.int .i64 a.k, .int .i64 a.n, .int .i64 a.p, .string a.t, .int .i64 11, .int .i64 a.n, .int .i64 a.p, .string a.t] 30)) rfl (by decide) (acts_two w5 a ⟨11, a.n, a.p, a.t⟩ hat hat) ((hT.below hB6).below ((Below.refl _ _).alloc (Nat.le_refl _) _))
      rw [hS1, hS2, hS3] at HSh
      have qD6 : (w5.alloc (.cells #[.int .i64 a.k, .int .i64 a.n, .int .i64 a.p, .string a.t, .int .i64 11, .int .i64 a.n, .int .i64 a.p, .string a.t] 30)).heap[PD]? = _ := heap_keep qD5
      have hB7 := hB6.alloc hB6.size (.cells #[.int .i64 a.k, .int .i64 a.n, .int .i64 a.p, .string a.t, .int .i64 11, .int .i64 a.n, .int .i64 a.p, .string a.t] 30)
      go_wp2_with fail
      refine HSh.mono ?_
      rintro e w6 ⟨he, hb6⟩
      subst he
      dsimp only
      have qD7 := (hb6.block _ (lt_of_heap qD6)).trans qD6
      have hB8 := hB7.trans (hb6.mono hB7.size)
      clear HSh hb6 qD6 hB7 qA5 qB5 qD5 c0 c1 c2 c3 d0 d1 d2 d3
      have e0 := cells_at qD7 0 _ rfl
      have e1 := cells_at qD7 1 _ rfl
      have e2 := cells_at qD7 2 _ rfl
      have e3 := cells_at qD7 3 _ rfl
      have HCd := fun W (h : Below w6.heap.size w6 W) => actCheck_any 10 a.n 1 a.t W (by exact hat) (((hT.below hB8).below h).k)
      generalize actF 10 a.n 1 a.t.size = E at *
      have hEb : (E == 0) = false := by simp [hE]
      have hlt := lt_of_heap qD7
      go_wp2_with fail
      refine wp_region_held_drew (S := fun w' => w'.cell? ⟨PD, 0, none⟩ = some (.int .i64 10) ∧ w'.cell? ⟨PD, 1, none⟩ = some (.int .i64 a.n) ∧ w'.cell? ⟨PD, 2, none⟩ = some (.int .i64 1) ∧ w'.cell? ⟨PD, 3, none⟩ = some (.string a.t)) (by kernel_rfl) ⟨e0, e1, e2, e3⟩ (fun hHeld => ?_)
      refine take_dst (i := 0) (d := 53) (v := .agg #[.int .i64 10, .int .i64 a.n, .int .i64 1, .string a.t]) rfl rfl (by kernel_rfl) (by kernel_rfl) (by kernel_rfl) (fun _ _ _ h => h) (Or.inl ⟨by rfl, ?_⟩) hHeld ?_
      · (intro w0 hSw; (try dsimp only at hSw); go_simp)
      simp only [Act.put, List.setIfInBounds_toArray, List.set_cons_zero, List.set_cons_succ]
      refine take_dst (i := 3) (d := 56) (v := .pointer (some ⟨PD, 1, none⟩)) rfl rfl (by kernel_rfl) (by kernel_rfl) (by kernel_rfl) (fun _ _ _ h => h) (Or.inl ⟨by rfl, ?_⟩) hHeld ?_
      · (intro w0 hSw; (try dsimp only at hSw); go_simp)
      simp only [Act.put, List.setIfInBounds_toArray, List.set_cons_zero, List.set_cons_succ]
      refine take_dst (i := 4) (d := 57) (v := .int .i64 a.n) rfl rfl (by kernel_rfl) (by kernel_rfl) (by kernel_rfl) (fun _ _ _ h => h) (Or.inl ⟨by rfl, ?_⟩) hHeld ?_
      · (intro w0 hSw; (try dsimp only at hSw); go_simp)
      simp only [Act.put, List.setIfInBounds_toArray, List.set_cons_zero, List.set_cons_succ]
      refine take_dst (i := 5) (d := 58) (v := .bool true) rfl rfl (by kernel_rfl) (by kernel_rfl) (by kernel_rfl) (fun _ _ _ h => h) (Or.inl ⟨by rfl, ?_⟩) hHeld ?_
      · (intro w0 hSw; (try dsimp only at hSw); go_simp)
      simp only [Act.put, List.setIfInBounds_toArray, List.set_cons_zero, List.set_cons_succ]
      refine wpAnyH_ready (rs := [1]) (by kernel_rfl) (by simp) (AllReadyH.cons rfl (fun K hK => ?_) AllReadyH.nil)
      refine step_calls_dst rfl 54 rfl 19 [.tmp 53] #[30] rfl [.agg #[.int .i64 10, .int .i64 a.n, .int .i64 1, .string a.t]] rfl (enters_of Tryd.func19 (by kernel_rfl) rfl) (fun v w' => v = .int .i64 E ∧ Below w6.heap.size w6 w') ((HCd w6.drew (Below.refl _ _).drew).mono (fun e w9 ⟨he, h9⟩ => ⟨_, he, rfl, below_drew h9⟩)) ?_
      rintro v w7 ⟨rfl, hb7⟩
      refine hK.out _ _ ⟨(hb7.cell (p := ⟨PD, 0, none⟩) hlt).trans e0, (hb7.cell (p := ⟨PD, 1, none⟩) hlt).trans e1, (hb7.cell (p := ⟨PD, 2, none⟩) hlt).trans e2, (hb7.cell (p := ⟨PD, 3, none⟩) hlt).trans e3⟩ (fun hHeld => ?_)
      simp only [Act.put, List.setIfInBounds_toArray, List.set_cons_zero, List.set_cons_succ]
      refine take_dst (i := 2) (d := 55) (v := .bool false) rfl rfl (by kernel_rfl) (by kernel_rfl) (by kernel_rfl) (fun _ _ _ h => h) (Or.inl ⟨by rfl, ?_⟩) hHeld ?_
      · (intro w0 hSw; (try dsimp only at hSw); go_simp)
      simp only [Act.put, List.setIfInBounds_toArray, List.set_cons_zero, List.set_cons_succ]
      refine take_dst (i := 6) (d := 59) (v := .bool true) rfl rfl (by kernel_rfl) (by kernel_rfl) (by kernel_rfl) (fun _ _ _ h => h) (Or.inl ⟨by rfl, ?_⟩) hHeld ?_
      · (intro w0 hSw; (try dsimp only at hSw); go_simp)
      simp only [Act.put, List.setIfInBounds_toArray, List.set_cons_zero, List.set_cons_succ]
      refine take_dst (i := 7) (d := 60) (v := .pointer (some ⟨PD, 2, none⟩)) rfl rfl (by kernel_rfl) (by kernel_rfl) (by kernel_rfl) (fun _ _ _ h => h) (Or.inl ⟨by rfl, ?_⟩) hHeld ?_
      · (intro w0 hSw; (try dsimp only at hSw); go_simp)
      simp only [Act.put, List.setIfInBounds_toArray, List.set_cons_zero, List.set_cons_succ]
      refine take_dst (i := 8) (d := 61) (v := .int .i64 1) rfl rfl (by kernel_rfl) (by kernel_rfl) (by kernel_rfl) (fun _ _ _ h => h) (Or.inl ⟨by rfl, ?_⟩) hHeld ?_
      · (intro w0 hSw; (try dsimp only at hSw); go_simp)
      simp only [Act.put, List.setIfInBounds_toArray, List.set_cons_zero, List.set_cons_succ]
      refine take_dst (i := 9) (d := 62) (v := .bool false) rfl rfl (by kernel_rfl) (by kernel_rfl) (by kernel_rfl) (fun _ _ _ h => h) (Or.inl ⟨by rfl, ?_⟩) hHeld ?_
      · (intro w0 hSw; (try dsimp only at hSw); go_simp)
      simp only [Act.put, List.setIfInBounds_toArray, List.set_cons_zero, List.set_cons_succ]
      refine take_dst (i := 10) (d := 63) (v := .bool false) rfl rfl (by kernel_rfl) (by kernel_rfl) (by kernel_rfl) (fun _ _ _ h => h) (Or.inl ⟨by rfl, ?_⟩) hHeld ?_
      · (intro w0 hSw; (try dsimp only at hSw); go_simp)
      simp only [Act.put, List.setIfInBounds_toArray, List.set_cons_zero, List.set_cons_succ]
      refine take_dst (i := 11) (d := 64) (v := .bool false) rfl rfl (by kernel_rfl) (by kernel_rfl) (by kernel_rfl) (fun _ _ _ h => h) (Or.inl ⟨by rfl, ?_⟩) hHeld ?_
      · (intro w0 hSw; (try dsimp only at hSw); go_simp)
      simp only [Act.put, List.setIfInBounds_toArray, List.set_cons_zero, List.set_cons_succ]
      refine take_dst (i := 12) (d := 65) (v := undef) rfl rfl (by kernel_rfl) (by kernel_rfl) (by kernel_rfl) (fun _ _ _ h => h) (Or.inr ⟨by rfl, rfl⟩) hHeld ?_
      simp only [Act.put, List.setIfInBounds_toArray, List.set_cons_zero, List.set_cons_succ]
      refine take_dst (i := 13) (d := 66) (v := undef) rfl rfl (by kernel_rfl) (by kernel_rfl) (by kernel_rfl) (fun _ _ _ h => h) (Or.inr ⟨by rfl, rfl⟩) hHeld ?_
      simp only [Act.put, List.setIfInBounds_toArray, List.set_cons_zero, List.set_cons_succ]
      refine take_dst (i := 14) (d := 67) (v := undef) rfl rfl (by kernel_rfl) (by kernel_rfl) (by kernel_rfl) (fun _ _ _ h => h) (Or.inr ⟨by rfl, rfl⟩) hHeld ?_
      simp only [Act.put, List.setIfInBounds_toArray, List.set_cons_zero, List.set_cons_succ]
      refine take_dst (i := 15) (d := 68) (v := .bool false) rfl rfl (by kernel_rfl) (by kernel_rfl) (by kernel_rfl) (fun _ _ _ h => h) (Or.inl ⟨by rfl, ?_⟩) hHeld ?_
      · (intro w0 hSw; (try dsimp only at hSw); go_simp)
      simp only [Act.put, List.setIfInBounds_toArray, List.set_cons_zero, List.set_cons_succ]
      refine take_dst (i := 16) (d := 69) (v := .bool true) rfl rfl (by kernel_rfl) (by kernel_rfl) (by kernel_rfl) (fun _ _ _ h => h) (Or.inl ⟨by rfl, ?_⟩) hHeld ?_
      · (intro w0 hSw; (try dsimp only at hSw); go_simp)
      simp only [Act.put, List.setIfInBounds_toArray, List.set_cons_zero, List.set_cons_succ]
      refine take_dst (i := 17) (d := 4) (v := .bool true) rfl rfl (by kernel_rfl) (by kernel_rfl) (by kernel_rfl) (fun _ _ _ h => h) (Or.inl ⟨by rfl, ?_⟩) hHeld ?_
      · (intro w0 hSw; (try dsimp only at hSw); go_simp)
      simp only [Act.put, List.setIfInBounds_toArray, List.set_cons_zero, List.set_cons_succ]
      refine wpAnyH_done (by kernel_rfl) ?_ _
      go_wp2_with fail
      go_ret
      exact ⟨rfl, hB8.trans (hb7.mono hB8.size)⟩
    · have hnb : (a.n == 0) = false := by simp [hn]
      have hE : actF 10 a.n 1 a.t.size ≠ 0 := flow_bad _ _ _ (by omega)
      have qA5 : ((w3.alloc (.cells #[.int .i64 a.k, .int .i64 a.n, .int .i64 1, .string a.t] 30)).alloc (.cells #[.int .i64 10, .int .i64 a.n, .int .i64 1, .string a.t] 30)).heap[PA]? = _ := heap_keep (heap_keep qA4)
      have qB5 : ((w3.alloc (.cells #[.int .i64 a.k, .int .i64 a.n, .int .i64 1, .string a.t] 30)).alloc (.cells #[.int .i64 10, .int .i64 a.n, .int .i64 1, .string a.t] 30)).heap[PB]? = _ := heap_keep (heap_keep qB4)
      have qD5 := heap_alloc_new (w3.alloc (.cells #[.int .i64 a.k, .int .i64 a.n, .int .i64 1, .string a.t] 30)) (.cells #[.int .i64 10, .int .i64 a.n, .int .i64 1, .string a.t] 30)
      have hB6 : Below w.heap.size w ((w3.alloc (.cells #[.int .i64 a.k, .int .i64 a.n, .int .i64 1, .string a.t] 30)).alloc (.cells #[.int .i64 10, .int .i64 a.n, .int .i64 1, .string a.t] 30)) := (hB5.alloc hB5.size _).alloc (le_alloc hB5.size _) _
      clear c0 c1 c2 c3
      go_upto_region 16 with fail
      rw [size_alloc] at qD5
      generalize w3.heap.size + 1 = PD at *
      generalize ((w3.alloc (.cells #[.int .i64 a.k, .int .i64 a.n, .int .i64 1, .string a.t] 30)).alloc (.cells #[.int .i64 10, .int .i64 a.n, .int .i64 1, .string a.t] 30)) = w5 at *
      have c0 := cells_at qA5 0 _ rfl
      have c1 := cells_at qA5 1 _ rfl
      have c2 := cells_at qA5 2 _ rfl
      have c3 := cells_at qA5 3 _ rfl
      have d0 := cells_at qB5 0 _ rfl
      have d1 := cells_at qB5 1 _ rfl
      have d2 := cells_at qB5 2 _ rfl
      have d3 := cells_at qB5 3 _ rfl
      have HSh := show_any [a, ⟨11, a.n, a.p, a.t⟩] (some ⟨w5.heap.size, 0, none⟩) 2 2 (w5.alloc (.cells #[.int .i64 a.k, .int .i64 a.n, .int .i64 a.p, .string a.t, .int .i64 11, .int .i64 a.n, .int .i64 a.p, .string a.t] 30)) rfl (by decide) (acts_two w5 a ⟨11, a.n, a.p, a.t⟩ hat hat) ((hT.below hB6).below ((Below.refl _ _).alloc (Nat.le_refl _) _))
      rw [hS1, hS2, hS3] at HSh
      have qD6 : (w5.alloc (.cells #[.int .i64 a.k, .int .i64 a.n, .int .i64 a.p, .string a.t, .int .i64 11, .int .i64 a.n, .int .i64 a.p, .string a.t] 30)).heap[PD]? = _ := heap_keep qD5
      have hB7 := hB6.alloc hB6.size (.cells #[.int .i64 a.k, .int .i64 a.n, .int .i64 a.p, .string a.t, .int .i64 11, .int .i64 a.n, .int .i64 a.p, .string a.t] 30)
      go_wp2_with fail
      refine HSh.mono ?_
      rintro e w6 ⟨he, hb6⟩
      subst he
      dsimp only
      have qD7 := (hb6.block _ (lt_of_heap qD6)).trans qD6
      have hB8 := hB7.trans (hb6.mono hB7.size)
      clear HSh hb6 qD6 hB7 qA5 qB5 qD5 c0 c1 c2 c3 d0 d1 d2 d3
      have e0 := cells_at qD7 0 _ rfl
      have e1 := cells_at qD7 1 _ rfl
      have e2 := cells_at qD7 2 _ rfl
      have e3 := cells_at qD7 3 _ rfl
      have HCd := fun W (h : Below w6.heap.size w6 W) => actCheck_any 10 a.n 1 a.t W (by exact hat) (((hT.below hB8).below h).k)
      generalize actF 10 a.n 1 a.t.size = E at *
      have hEb : (E == 0) = false := by simp [hE]
      have hlt := lt_of_heap qD7
      go_wp2_with fail
      refine wp_region_held_drew (S := fun w' => w'.cell? ⟨PD, 0, none⟩ = some (.int .i64 10) ∧ w'.cell? ⟨PD, 1, none⟩ = some (.int .i64 a.n) ∧ w'.cell? ⟨PD, 2, none⟩ = some (.int .i64 1) ∧ w'.cell? ⟨PD, 3, none⟩ = some (.string a.t)) (by kernel_rfl) ⟨e0, e1, e2, e3⟩ (fun hHeld => ?_)
      refine take_dst (i := 0) (d := 53) (v := .agg #[.int .i64 10, .int .i64 a.n, .int .i64 1, .string a.t]) rfl rfl (by kernel_rfl) (by kernel_rfl) (by kernel_rfl) (fun _ _ _ h => h) (Or.inl ⟨by rfl, ?_⟩) hHeld ?_
      · (intro w0 hSw; (try dsimp only at hSw); go_simp)
      simp only [Act.put, List.setIfInBounds_toArray, List.set_cons_zero, List.set_cons_succ]
      refine take_dst (i := 3) (d := 56) (v := .pointer (some ⟨PD, 1, none⟩)) rfl rfl (by kernel_rfl) (by kernel_rfl) (by kernel_rfl) (fun _ _ _ h => h) (Or.inl ⟨by rfl, ?_⟩) hHeld ?_
      · (intro w0 hSw; (try dsimp only at hSw); go_simp)
      simp only [Act.put, List.setIfInBounds_toArray, List.set_cons_zero, List.set_cons_succ]
      refine take_dst (i := 4) (d := 57) (v := .int .i64 a.n) rfl rfl (by kernel_rfl) (by kernel_rfl) (by kernel_rfl) (fun _ _ _ h => h) (Or.inl ⟨by rfl, ?_⟩) hHeld ?_
      · (intro w0 hSw; (try dsimp only at hSw); go_simp)
      simp only [Act.put, List.setIfInBounds_toArray, List.set_cons_zero, List.set_cons_succ]
      refine take_dst (i := 5) (d := 58) (v := .bool false) rfl rfl (by kernel_rfl) (by kernel_rfl) (by kernel_rfl) (fun _ _ _ h => h) (Or.inl ⟨by rfl, ?_⟩) hHeld ?_
      · (intro w0 hSw; (try dsimp only at hSw); go_simp)
      simp only [Act.put, List.setIfInBounds_toArray, List.set_cons_zero, List.set_cons_succ]
      refine wpAnyH_ready (rs := [1]) (by kernel_rfl) (by simp) (AllReadyH.cons rfl (fun K hK => ?_) AllReadyH.nil)
      refine step_calls_dst rfl 54 rfl 19 [.tmp 53] #[30] rfl [.agg #[.int .i64 10, .int .i64 a.n, .int .i64 1, .string a.t]] rfl (enters_of Tryd.func19 (by kernel_rfl) rfl) (fun v w' => v = .int .i64 E ∧ Below w6.heap.size w6 w') ((HCd w6.drew (Below.refl _ _).drew).mono (fun e w9 ⟨he, h9⟩ => ⟨_, he, rfl, below_drew h9⟩)) ?_
      rintro v w7 ⟨rfl, hb7⟩
      refine hK.out _ _ ⟨(hb7.cell (p := ⟨PD, 0, none⟩) hlt).trans e0, (hb7.cell (p := ⟨PD, 1, none⟩) hlt).trans e1, (hb7.cell (p := ⟨PD, 2, none⟩) hlt).trans e2, (hb7.cell (p := ⟨PD, 3, none⟩) hlt).trans e3⟩ (fun hHeld => ?_)
      simp only [Act.put, List.setIfInBounds_toArray, List.set_cons_zero, List.set_cons_succ]
      refine take_dst (i := 2) (d := 55) (v := .bool false) rfl rfl (by kernel_rfl) (by kernel_rfl) (by kernel_rfl) (fun _ _ _ h => h) (Or.inl ⟨by rfl, ?_⟩) hHeld ?_
      · (intro w0 hSw; (try dsimp only at hSw); go_simp)
      simp only [Act.put, List.setIfInBounds_toArray, List.set_cons_zero, List.set_cons_succ]
      refine take_dst (i := 6) (d := 59) (v := .bool false) rfl rfl (by kernel_rfl) (by kernel_rfl) (by kernel_rfl) (fun _ _ _ h => h) (Or.inl ⟨by rfl, ?_⟩) hHeld ?_
      · (intro w0 hSw; (try dsimp only at hSw); go_simp)
      simp only [Act.put, List.setIfInBounds_toArray, List.set_cons_zero, List.set_cons_succ]
      refine take_dst (i := 7) (d := 60) (v := undef) rfl rfl (by kernel_rfl) (by kernel_rfl) (by kernel_rfl) (fun _ _ _ h => h) (Or.inr ⟨by rfl, rfl⟩) hHeld ?_
      simp only [Act.put, List.setIfInBounds_toArray, List.set_cons_zero, List.set_cons_succ]
      refine take_dst (i := 8) (d := 61) (v := undef) rfl rfl (by kernel_rfl) (by kernel_rfl) (by kernel_rfl) (fun _ _ _ h => h) (Or.inr ⟨by rfl, rfl⟩) hHeld ?_
      simp only [Act.put, List.setIfInBounds_toArray, List.set_cons_zero, List.set_cons_succ]
      refine take_dst (i := 9) (d := 62) (v := undef) rfl rfl (by kernel_rfl) (by kernel_rfl) (by kernel_rfl) (fun _ _ _ h => h) (Or.inr ⟨by rfl, rfl⟩) hHeld ?_
      simp only [Act.put, List.setIfInBounds_toArray, List.set_cons_zero, List.set_cons_succ]
      refine take_dst (i := 10) (d := 63) (v := .bool false) rfl rfl (by kernel_rfl) (by kernel_rfl) (by kernel_rfl) (fun _ _ _ h => h) (Or.inl ⟨by rfl, ?_⟩) hHeld ?_
      · (intro w0 hSw; (try dsimp only at hSw); go_simp)
      simp only [Act.put, List.setIfInBounds_toArray, List.set_cons_zero, List.set_cons_succ]
      refine take_dst (i := 11) (d := 64) (v := .bool false) rfl rfl (by kernel_rfl) (by kernel_rfl) (by kernel_rfl) (fun _ _ _ h => h) (Or.inl ⟨by rfl, ?_⟩) hHeld ?_
      · (intro w0 hSw; (try dsimp only at hSw); go_simp)
      simp only [Act.put, List.setIfInBounds_toArray, List.set_cons_zero, List.set_cons_succ]
      refine take_dst (i := 12) (d := 65) (v := undef) rfl rfl (by kernel_rfl) (by kernel_rfl) (by kernel_rfl) (fun _ _ _ h => h) (Or.inr ⟨by rfl, rfl⟩) hHeld ?_
      simp only [Act.put, List.setIfInBounds_toArray, List.set_cons_zero, List.set_cons_succ]
      refine take_dst (i := 13) (d := 66) (v := undef) rfl rfl (by kernel_rfl) (by kernel_rfl) (by kernel_rfl) (fun _ _ _ h => h) (Or.inr ⟨by rfl, rfl⟩) hHeld ?_
      simp only [Act.put, List.setIfInBounds_toArray, List.set_cons_zero, List.set_cons_succ]
      refine take_dst (i := 14) (d := 67) (v := undef) rfl rfl (by kernel_rfl) (by kernel_rfl) (by kernel_rfl) (fun _ _ _ h => h) (Or.inr ⟨by rfl, rfl⟩) hHeld ?_
      simp only [Act.put, List.setIfInBounds_toArray, List.set_cons_zero, List.set_cons_succ]
      refine take_dst (i := 15) (d := 68) (v := .bool false) rfl rfl (by kernel_rfl) (by kernel_rfl) (by kernel_rfl) (fun _ _ _ h => h) (Or.inl ⟨by rfl, ?_⟩) hHeld ?_
      · (intro w0 hSw; (try dsimp only at hSw); go_simp)
      simp only [Act.put, List.setIfInBounds_toArray, List.set_cons_zero, List.set_cons_succ]
      refine take_dst (i := 16) (d := 69) (v := .bool true) rfl rfl (by kernel_rfl) (by kernel_rfl) (by kernel_rfl) (fun _ _ _ h => h) (Or.inl ⟨by rfl, ?_⟩) hHeld ?_
      · (intro w0 hSw; (try dsimp only at hSw); go_simp)
      simp only [Act.put, List.setIfInBounds_toArray, List.set_cons_zero, List.set_cons_succ]
      refine take_dst (i := 17) (d := 4) (v := .bool true) rfl rfl (by kernel_rfl) (by kernel_rfl) (by kernel_rfl) (fun _ _ _ h => h) (Or.inl ⟨by rfl, ?_⟩) hHeld ?_
      · (intro w0 hSw; (try dsimp only at hSw); go_simp)
      simp only [Act.put, List.setIfInBounds_toArray, List.set_cons_zero, List.set_cons_succ]
      refine wpAnyH_done (by kernel_rfl) ?_ _
      go_wp2_with fail
      go_ret
      exact ⟨rfl, hB8.trans (hb7.mono hB8.size)⟩
  · by_cases hn : a.n = 0
    · have hnb : (a.n == 0) = true := by simp [hn]
      clear hn
      by_cases hp : a.p = 0
      · have hpb : (a.p == 0) = true := by simp [hp]
        clear hp
        have hE : actF 10 a.n a.p (⟨#[97]⟩ : ByteArray).size ≠ 0 := flow_bad _ _ _ (by rintro ⟨_, _, h⟩; exact absurd h (by decide))
        have qA5 : ((w3.alloc (.cells #[.int .i64 a.k, .int .i64 a.n, .int .i64 a.p, .string (⟨#[97]⟩ : ByteArray)] 30)).alloc (.cells #[.int .i64 10, .int .i64 a.n, .int .i64 a.p, .string (⟨#[97]⟩ : ByteArray)] 30)).heap[PA]? = _ := heap_keep (heap_keep qA4)
        have qB5 : ((w3.alloc (.cells #[.int .i64 a.k, .int .i64 a.n, .int .i64 a.p, .string (⟨#[97]⟩ : ByteArray)] 30)).alloc (.cells #[.int .i64 10, .int .i64 a.n, .int .i64 a.p, .string (⟨#[97]⟩ : ByteArray)] 30)).heap[PB]? = _ := heap_keep (heap_keep qB4)
        have qD5 := heap_alloc_new (w3.alloc (.cells #[.int .i64 a.k, .int .i64 a.n, .int .i64 a.p, .string (⟨#[97]⟩ : ByteArray)] 30)) (.cells #[.int .i64 10, .int .i64 a.n, .int .i64 a.p, .string (⟨#[97]⟩ : ByteArray)] 30)
        have hB6 : Below w.heap.size w ((w3.alloc (.cells #[.int .i64 a.k, .int .i64 a.n, .int .i64 a.p, .string (⟨#[97]⟩ : ByteArray)] 30)).alloc (.cells #[.int .i64 10, .int .i64 a.n, .int .i64 a.p, .string (⟨#[97]⟩ : ByteArray)] 30)) := (hB5.alloc hB5.size _).alloc (le_alloc hB5.size _) _
        clear c0 c1 c2 c3
        go_upto_region 16 with fail
        rw [size_alloc] at qD5
        generalize w3.heap.size + 1 = PD at *
        generalize ((w3.alloc (.cells #[.int .i64 a.k, .int .i64 a.n, .int .i64 a.p, .string (⟨#[97]⟩ : ByteArray)] 30)).alloc (.cells #[.int .i64 10, .int .i64 a.n, .int .i64 a.p, .string (⟨#[97]⟩ : ByteArray)] 30)) = w5 at *
        have c0 := cells_at qA5 0 _ rfl
        have c1 := cells_at qA5 1 _ rfl
        have c2 := cells_at qA5 2 _ rfl
        have c3 := cells_at qA5 3 _ rfl
        have d0 := cells_at qB5 0 _ rfl
        have d1 := cells_at qB5 1 _ rfl
        have d2 := cells_at qB5 2 _ rfl
        have d3 := cells_at qB5 3 _ rfl
        have HSh := show_any [a, ⟨11, a.n, a.p, a.t⟩] (some ⟨w5.heap.size, 0, none⟩) 2 2 (w5.alloc (.cells #[.int .i64 a.k, .int .i64 a.n, .int .i64 a.p, .string a.t, .int .i64 11, .int .i64 a.n, .int .i64 a.p, .string a.t] 30)) rfl (by decide) (acts_two w5 a ⟨11, a.n, a.p, a.t⟩ hat hat) ((hT.below hB6).below ((Below.refl _ _).alloc (Nat.le_refl _) _))
        rw [hS1, hS2, hS3] at HSh
        have qD6 : (w5.alloc (.cells #[.int .i64 a.k, .int .i64 a.n, .int .i64 a.p, .string a.t, .int .i64 11, .int .i64 a.n, .int .i64 a.p, .string a.t] 30)).heap[PD]? = _ := heap_keep qD5
        have hB7 := hB6.alloc hB6.size (.cells #[.int .i64 a.k, .int .i64 a.n, .int .i64 a.p, .string a.t, .int .i64 11, .int .i64 a.n, .int .i64 a.p, .string a.t] 30)
        go_wp2_with fail
        refine HSh.mono ?_
        rintro e w6 ⟨he, hb6⟩
        subst he
        dsimp only
        have qD7 := (hb6.block _ (lt_of_heap qD6)).trans qD6
        have hB8 := hB7.trans (hb6.mono hB7.size)
        clear HSh hb6 qD6 hB7 qA5 qB5 qD5 c0 c1 c2 c3 d0 d1 d2 d3
        have e0 := cells_at qD7 0 _ rfl
        have e1 := cells_at qD7 1 _ rfl
        have e2 := cells_at qD7 2 _ rfl
        have e3 := cells_at qD7 3 _ rfl
        have HCd := fun W (h : Below w6.heap.size w6 W) => actCheck_any 10 a.n a.p (⟨#[97]⟩ : ByteArray) W (by decide) (((hT.below hB8).below h).k)
        generalize actF 10 a.n a.p (⟨#[97]⟩ : ByteArray).size = E at *
        have hEb : (E == 0) = false := by simp [hE]
        have hlt := lt_of_heap qD7
        go_wp2_with fail
        refine wp_region_held_drew (S := fun w' => w'.cell? ⟨PD, 0, none⟩ = some (.int .i64 10) ∧ w'.cell? ⟨PD, 1, none⟩ = some (.int .i64 a.n) ∧ w'.cell? ⟨PD, 2, none⟩ = some (.int .i64 a.p) ∧ w'.cell? ⟨PD, 3, none⟩ = some (.string (⟨#[97]⟩ : ByteArray))) (by kernel_rfl) ⟨e0, e1, e2, e3⟩ (fun hHeld => ?_)
        refine take_dst (i := 0) (d := 53) (v := .agg #[.int .i64 10, .int .i64 a.n, .int .i64 a.p, .string (⟨#[97]⟩ : ByteArray)]) rfl rfl (by kernel_rfl) (by kernel_rfl) (by kernel_rfl) (fun _ _ _ h => h) (Or.inl ⟨by rfl, ?_⟩) hHeld ?_
        · (intro w0 hSw; (try dsimp only at hSw); go_simp)
        simp only [Act.put, List.setIfInBounds_toArray, List.set_cons_zero, List.set_cons_succ]
        refine take_dst (i := 3) (d := 56) (v := .pointer (some ⟨PD, 1, none⟩)) rfl rfl (by kernel_rfl) (by kernel_rfl) (by kernel_rfl) (fun _ _ _ h => h) (Or.inl ⟨by rfl, ?_⟩) hHeld ?_
        · (intro w0 hSw; (try dsimp only at hSw); go_simp)
        simp only [Act.put, List.setIfInBounds_toArray, List.set_cons_zero, List.set_cons_succ]
        refine take_dst (i := 4) (d := 57) (v := .int .i64 a.n) rfl rfl (by kernel_rfl) (by kernel_rfl) (by kernel_rfl) (fun _ _ _ h => h) (Or.inl ⟨by rfl, ?_⟩) hHeld ?_
        · (intro w0 hSw; (try dsimp only at hSw); go_simp)
        simp only [Act.put, List.setIfInBounds_toArray, List.set_cons_zero, List.set_cons_succ]
        refine take_dst (i := 5) (d := 58) (v := .bool true) rfl rfl (by kernel_rfl) (by kernel_rfl) (by kernel_rfl) (fun _ _ _ h => h) (Or.inl ⟨by rfl, ?_⟩) hHeld ?_
        · (intro w0 hSw; (try dsimp only at hSw); go_simp)
        simp only [Act.put, List.setIfInBounds_toArray, List.set_cons_zero, List.set_cons_succ]
        refine wpAnyH_ready (rs := [1]) (by kernel_rfl) (by simp) (AllReadyH.cons rfl (fun K hK => ?_) AllReadyH.nil)
        refine step_calls_dst rfl 54 rfl 19 [.tmp 53] #[30] rfl [.agg #[.int .i64 10, .int .i64 a.n, .int .i64 a.p, .string (⟨#[97]⟩ : ByteArray)]] rfl (enters_of Tryd.func19 (by kernel_rfl) rfl) (fun v w' => v = .int .i64 E ∧ Below w6.heap.size w6 w') ((HCd w6.drew (Below.refl _ _).drew).mono (fun e w9 ⟨he, h9⟩ => ⟨_, he, rfl, below_drew h9⟩)) ?_
        rintro v w7 ⟨rfl, hb7⟩
        refine hK.out _ _ ⟨(hb7.cell (p := ⟨PD, 0, none⟩) hlt).trans e0, (hb7.cell (p := ⟨PD, 1, none⟩) hlt).trans e1, (hb7.cell (p := ⟨PD, 2, none⟩) hlt).trans e2, (hb7.cell (p := ⟨PD, 3, none⟩) hlt).trans e3⟩ (fun hHeld => ?_)
        simp only [Act.put, List.setIfInBounds_toArray, List.set_cons_zero, List.set_cons_succ]
        refine take_dst (i := 2) (d := 55) (v := .bool false) rfl rfl (by kernel_rfl) (by kernel_rfl) (by kernel_rfl) (fun _ _ _ h => h) (Or.inl ⟨by rfl, ?_⟩) hHeld ?_
        · (intro w0 hSw; (try dsimp only at hSw); go_simp)
        simp only [Act.put, List.setIfInBounds_toArray, List.set_cons_zero, List.set_cons_succ]
        refine take_dst (i := 6) (d := 59) (v := .bool true) rfl rfl (by kernel_rfl) (by kernel_rfl) (by kernel_rfl) (fun _ _ _ h => h) (Or.inl ⟨by rfl, ?_⟩) hHeld ?_
        · (intro w0 hSw; (try dsimp only at hSw); go_simp)
        simp only [Act.put, List.setIfInBounds_toArray, List.set_cons_zero, List.set_cons_succ]
        refine take_dst (i := 7) (d := 60) (v := .pointer (some ⟨PD, 2, none⟩)) rfl rfl (by kernel_rfl) (by kernel_rfl) (by kernel_rfl) (fun _ _ _ h => h) (Or.inl ⟨by rfl, ?_⟩) hHeld ?_
        · (intro w0 hSw; (try dsimp only at hSw); go_simp)
        simp only [Act.put, List.setIfInBounds_toArray, List.set_cons_zero, List.set_cons_succ]
        refine take_dst (i := 8) (d := 61) (v := .int .i64 a.p) rfl rfl (by kernel_rfl) (by kernel_rfl) (by kernel_rfl) (fun _ _ _ h => h) (Or.inl ⟨by rfl, ?_⟩) hHeld ?_
        · (intro w0 hSw; (try dsimp only at hSw); go_simp)
        simp only [Act.put, List.setIfInBounds_toArray, List.set_cons_zero, List.set_cons_succ]
        refine take_dst (i := 9) (d := 62) (v := .bool true) rfl rfl (by kernel_rfl) (by kernel_rfl) (by kernel_rfl) (fun _ _ _ h => h) (Or.inl ⟨by rfl, ?_⟩) hHeld ?_
        · (intro w0 hSw; (try dsimp only at hSw); go_simp)
        simp only [Act.put, List.setIfInBounds_toArray, List.set_cons_zero, List.set_cons_succ]
        refine take_dst (i := 10) (d := 63) (v := .bool true) rfl rfl (by kernel_rfl) (by kernel_rfl) (by kernel_rfl) (fun _ _ _ h => h) (Or.inl ⟨by rfl, ?_⟩) hHeld ?_
        · (intro w0 hSw; (try dsimp only at hSw); go_simp)
        simp only [Act.put, List.setIfInBounds_toArray, List.set_cons_zero, List.set_cons_succ]
        refine take_dst (i := 11) (d := 64) (v := .bool true) rfl rfl (by kernel_rfl) (by kernel_rfl) (by kernel_rfl) (fun _ _ _ h => h) (Or.inl ⟨by rfl, ?_⟩) hHeld ?_
        · (intro w0 hSw; (try dsimp only at hSw); go_simp)
        simp only [Act.put, List.setIfInBounds_toArray, List.set_cons_zero, List.set_cons_succ]
        refine take_dst (i := 12) (d := 65) (v := .pointer (some ⟨PD, 3, none⟩)) rfl rfl (by kernel_rfl) (by kernel_rfl) (by kernel_rfl) (fun _ _ _ h => h) (Or.inl ⟨by rfl, ?_⟩) hHeld ?_
        · (intro w0 hSw; (try dsimp only at hSw); go_simp)
        simp only [Act.put, List.setIfInBounds_toArray, List.set_cons_zero, List.set_cons_succ]
        refine take_dst (i := 13) (d := 66) (v := .string (⟨#[97]⟩ : ByteArray)) rfl rfl (by kernel_rfl) (by kernel_rfl) (by kernel_rfl) (fun _ _ _ h => h) (Or.inl ⟨by rfl, ?_⟩) hHeld ?_
        · (intro w0 hSw; (try dsimp only at hSw); go_simp)
        simp only [Act.put, List.setIfInBounds_toArray, List.set_cons_zero, List.set_cons_succ]
        refine take_dst (i := 14) (d := 67) (v := .bool false) rfl rfl (by kernel_rfl) (by kernel_rfl) (by kernel_rfl) (fun _ _ _ h => h) (Or.inl ⟨by rfl, ?_⟩) hHeld ?_
        · (intro w0 hSw; (try dsimp only at hSw); go_simp)
        simp only [Act.put, List.setIfInBounds_toArray, List.set_cons_zero, List.set_cons_succ]
        refine take_dst (i := 15) (d := 68) (v := .bool false) rfl rfl (by kernel_rfl) (by kernel_rfl) (by kernel_rfl) (fun _ _ _ h => h) (Or.inl ⟨by rfl, ?_⟩) hHeld ?_
        · (intro w0 hSw; (try dsimp only at hSw); go_simp)
        simp only [Act.put, List.setIfInBounds_toArray, List.set_cons_zero, List.set_cons_succ]
        refine take_dst (i := 16) (d := 69) (v := .bool true) rfl rfl (by kernel_rfl) (by kernel_rfl) (by kernel_rfl) (fun _ _ _ h => h) (Or.inl ⟨by rfl, ?_⟩) hHeld ?_
        · (intro w0 hSw; (try dsimp only at hSw); go_simp)
        simp only [Act.put, List.setIfInBounds_toArray, List.set_cons_zero, List.set_cons_succ]
        refine take_dst (i := 17) (d := 4) (v := .bool true) rfl rfl (by kernel_rfl) (by kernel_rfl) (by kernel_rfl) (fun _ _ _ h => h) (Or.inl ⟨by rfl, ?_⟩) hHeld ?_
        · (intro w0 hSw; (try dsimp only at hSw); go_simp)
        simp only [Act.put, List.setIfInBounds_toArray, List.set_cons_zero, List.set_cons_succ]
        refine wpAnyH_done (by kernel_rfl) ?_ _
        go_wp2_with fail
        go_ret
        exact ⟨rfl, hB8.trans (hb7.mono hB8.size)⟩
      · have hpb : (a.p == 0) = false := by simp [hp]
        have hE : actF 10 a.n a.p (⟨#[97]⟩ : ByteArray).size ≠ 0 := flow_bad _ _ _ (by omega)
        have qA5 : ((w3.alloc (.cells #[.int .i64 a.k, .int .i64 a.n, .int .i64 a.p, .string (⟨#[97]⟩ : ByteArray)] 30)).alloc (.cells #[.int .i64 10, .int .i64 a.n, .int .i64 a.p, .string (⟨#[97]⟩ : ByteArray)] 30)).heap[PA]? = _ := heap_keep (heap_keep qA4)
        have qB5 : ((w3.alloc (.cells #[.int .i64 a.k, .int .i64 a.n, .int .i64 a.p, .string (⟨#[97]⟩ : ByteArray)] 30)).alloc (.cells #[.int .i64 10, .int .i64 a.n, .int .i64 a.p, .string (⟨#[97]⟩ : ByteArray)] 30)).heap[PB]? = _ := heap_keep (heap_keep qB4)
        have qD5 := heap_alloc_new (w3.alloc (.cells #[.int .i64 a.k, .int .i64 a.n, .int .i64 a.p, .string (⟨#[97]⟩ : ByteArray)] 30)) (.cells #[.int .i64 10, .int .i64 a.n, .int .i64 a.p, .string (⟨#[97]⟩ : ByteArray)] 30)
        have hB6 : Below w.heap.size w ((w3.alloc (.cells #[.int .i64 a.k, .int .i64 a.n, .int .i64 a.p, .string (⟨#[97]⟩ : ByteArray)] 30)).alloc (.cells #[.int .i64 10, .int .i64 a.n, .int .i64 a.p, .string (⟨#[97]⟩ : ByteArray)] 30)) := (hB5.alloc hB5.size _).alloc (le_alloc hB5.size _) _
        clear c0 c1 c2 c3
        go_upto_region 16 with fail
        rw [size_alloc] at qD5
        generalize w3.heap.size + 1 = PD at *
        generalize ((w3.alloc (.cells #[.int .i64 a.k, .int .i64 a.n, .int .i64 a.p, .string (⟨#[97]⟩ : ByteArray)] 30)).alloc (.cells #[.int .i64 10, .int .i64 a.n, .int .i64 a.p, .string (⟨#[97]⟩ : ByteArray)] 30)) = w5 at *
        have c0 := cells_at qA5 0 _ rfl
        have c1 := cells_at qA5 1 _ rfl
        have c2 := cells_at qA5 2 _ rfl
        have c3 := cells_at qA5 3 _ rfl
        have d0 := cells_at qB5 0 _ rfl
        have d1 := cells_at qB5 1 _ rfl
        have d2 := cells_at qB5 2 _ rfl
        have d3 := cells_at qB5 3 _ rfl
        have HSh := show_any [a, ⟨11, a.n, a.p, a.t⟩] (some ⟨w5.heap.size, 0, none⟩) 2 2 (w5.alloc (.cells #[.int .i64 a.k, .int .i64 a.n, .int .i64 a.p, .string a.t, .int .i64 11, .int .i64 a.n, .int .i64 a.p, .string a.t] 30)) rfl (by decide) (acts_two w5 a ⟨11, a.n, a.p, a.t⟩ hat hat) ((hT.below hB6).below ((Below.refl _ _).alloc (Nat.le_refl _) _))
        rw [hS1, hS2, hS3] at HSh
        have qD6 : (w5.alloc (.cells #[.int .i64 a.k, .int .i64 a.n, .int .i64 a.p, .string a.t, .int .i64 11, .int .i64 a.n, .int .i64 a.p, .string a.t] 30)).heap[PD]? = _ := heap_keep qD5
        have hB7 := hB6.alloc hB6.size (.cells #[.int .i64 a.k, .int .i64 a.n, .int .i64 a.p, .string a.t, .int .i64 11, .int .i64 a.n, .int .i64 a.p, .string a.t] 30)
        go_wp2_with fail
        refine HSh.mono ?_
        rintro e w6 ⟨he, hb6⟩
        subst he
        dsimp only
        have qD7 := (hb6.block _ (lt_of_heap qD6)).trans qD6
        have hB8 := hB7.trans (hb6.mono hB7.size)
        clear HSh hb6 qD6 hB7 qA5 qB5 qD5 c0 c1 c2 c3 d0 d1 d2 d3
        have e0 := cells_at qD7 0 _ rfl
        have e1 := cells_at qD7 1 _ rfl
        have e2 := cells_at qD7 2 _ rfl
        have e3 := cells_at qD7 3 _ rfl
        have HCd := fun W (h : Below w6.heap.size w6 W) => actCheck_any 10 a.n a.p (⟨#[97]⟩ : ByteArray) W (by decide) (((hT.below hB8).below h).k)
        generalize actF 10 a.n a.p (⟨#[97]⟩ : ByteArray).size = E at *
        have hEb : (E == 0) = false := by simp [hE]
        have hlt := lt_of_heap qD7
        go_wp2_with fail
        refine wp_region_held_drew (S := fun w' => w'.cell? ⟨PD, 0, none⟩ = some (.int .i64 10) ∧ w'.cell? ⟨PD, 1, none⟩ = some (.int .i64 a.n) ∧ w'.cell? ⟨PD, 2, none⟩ = some (.int .i64 a.p) ∧ w'.cell? ⟨PD, 3, none⟩ = some (.string (⟨#[97]⟩ : ByteArray))) (by kernel_rfl) ⟨e0, e1, e2, e3⟩ (fun hHeld => ?_)
        refine take_dst (i := 0) (d := 53) (v := .agg #[.int .i64 10, .int .i64 a.n, .int .i64 a.p, .string (⟨#[97]⟩ : ByteArray)]) rfl rfl (by kernel_rfl) (by kernel_rfl) (by kernel_rfl) (fun _ _ _ h => h) (Or.inl ⟨by rfl, ?_⟩) hHeld ?_
        · (intro w0 hSw; (try dsimp only at hSw); go_simp)
        simp only [Act.put, List.setIfInBounds_toArray, List.set_cons_zero, List.set_cons_succ]
        refine take_dst (i := 3) (d := 56) (v := .pointer (some ⟨PD, 1, none⟩)) rfl rfl (by kernel_rfl) (by kernel_rfl) (by kernel_rfl) (fun _ _ _ h => h) (Or.inl ⟨by rfl, ?_⟩) hHeld ?_
        · (intro w0 hSw; (try dsimp only at hSw); go_simp)
        simp only [Act.put, List.setIfInBounds_toArray, List.set_cons_zero, List.set_cons_succ]
        refine take_dst (i := 4) (d := 57) (v := .int .i64 a.n) rfl rfl (by kernel_rfl) (by kernel_rfl) (by kernel_rfl) (fun _ _ _ h => h) (Or.inl ⟨by rfl, ?_⟩) hHeld ?_
        · (intro w0 hSw; (try dsimp only at hSw); go_simp)
        simp only [Act.put, List.setIfInBounds_toArray, List.set_cons_zero, List.set_cons_succ]
        refine take_dst (i := 5) (d := 58) (v := .bool true) rfl rfl (by kernel_rfl) (by kernel_rfl) (by kernel_rfl) (fun _ _ _ h => h) (Or.inl ⟨by rfl, ?_⟩) hHeld ?_
        · (intro w0 hSw; (try dsimp only at hSw); go_simp)
        simp only [Act.put, List.setIfInBounds_toArray, List.set_cons_zero, List.set_cons_succ]
        refine wpAnyH_ready (rs := [1]) (by kernel_rfl) (by simp) (AllReadyH.cons rfl (fun K hK => ?_) AllReadyH.nil)
        refine step_calls_dst rfl 54 rfl 19 [.tmp 53] #[30] rfl [.agg #[.int .i64 10, .int .i64 a.n, .int .i64 a.p, .string (⟨#[97]⟩ : ByteArray)]] rfl (enters_of Tryd.func19 (by kernel_rfl) rfl) (fun v w' => v = .int .i64 E ∧ Below w6.heap.size w6 w') ((HCd w6.drew (Below.refl _ _).drew).mono (fun e w9 ⟨he, h9⟩ => ⟨_, he, rfl, below_drew h9⟩)) ?_
        rintro v w7 ⟨rfl, hb7⟩
        refine hK.out _ _ ⟨(hb7.cell (p := ⟨PD, 0, none⟩) hlt).trans e0, (hb7.cell (p := ⟨PD, 1, none⟩) hlt).trans e1, (hb7.cell (p := ⟨PD, 2, none⟩) hlt).trans e2, (hb7.cell (p := ⟨PD, 3, none⟩) hlt).trans e3⟩ (fun hHeld => ?_)
        simp only [Act.put, List.setIfInBounds_toArray, List.set_cons_zero, List.set_cons_succ]
        refine take_dst (i := 2) (d := 55) (v := .bool false) rfl rfl (by kernel_rfl) (by kernel_rfl) (by kernel_rfl) (fun _ _ _ h => h) (Or.inl ⟨by rfl, ?_⟩) hHeld ?_
        · (intro w0 hSw; (try dsimp only at hSw); go_simp)
        simp only [Act.put, List.setIfInBounds_toArray, List.set_cons_zero, List.set_cons_succ]
        refine take_dst (i := 6) (d := 59) (v := .bool true) rfl rfl (by kernel_rfl) (by kernel_rfl) (by kernel_rfl) (fun _ _ _ h => h) (Or.inl ⟨by rfl, ?_⟩) hHeld ?_
        · (intro w0 hSw; (try dsimp only at hSw); go_simp)
        simp only [Act.put, List.setIfInBounds_toArray, List.set_cons_zero, List.set_cons_succ]
        refine take_dst (i := 7) (d := 60) (v := .pointer (some ⟨PD, 2, none⟩)) rfl rfl (by kernel_rfl) (by kernel_rfl) (by kernel_rfl) (fun _ _ _ h => h) (Or.inl ⟨by rfl, ?_⟩) hHeld ?_
        · (intro w0 hSw; (try dsimp only at hSw); go_simp)
        simp only [Act.put, List.setIfInBounds_toArray, List.set_cons_zero, List.set_cons_succ]
        refine take_dst (i := 8) (d := 61) (v := .int .i64 a.p) rfl rfl (by kernel_rfl) (by kernel_rfl) (by kernel_rfl) (fun _ _ _ h => h) (Or.inl ⟨by rfl, ?_⟩) hHeld ?_
        · (intro w0 hSw; (try dsimp only at hSw); go_simp)
        simp only [Act.put, List.setIfInBounds_toArray, List.set_cons_zero, List.set_cons_succ]
        refine take_dst (i := 9) (d := 62) (v := .bool false) rfl rfl (by kernel_rfl) (by kernel_rfl) (by kernel_rfl) (fun _ _ _ h => h) (Or.inl ⟨by rfl, ?_⟩) hHeld ?_
        · (intro w0 hSw; (try dsimp only at hSw); go_simp)
        simp only [Act.put, List.setIfInBounds_toArray, List.set_cons_zero, List.set_cons_succ]
        refine take_dst (i := 10) (d := 63) (v := .bool false) rfl rfl (by kernel_rfl) (by kernel_rfl) (by kernel_rfl) (fun _ _ _ h => h) (Or.inl ⟨by rfl, ?_⟩) hHeld ?_
        · (intro w0 hSw; (try dsimp only at hSw); go_simp)
        simp only [Act.put, List.setIfInBounds_toArray, List.set_cons_zero, List.set_cons_succ]
        refine take_dst (i := 11) (d := 64) (v := .bool false) rfl rfl (by kernel_rfl) (by kernel_rfl) (by kernel_rfl) (fun _ _ _ h => h) (Or.inl ⟨by rfl, ?_⟩) hHeld ?_
        · (intro w0 hSw; (try dsimp only at hSw); go_simp)
        simp only [Act.put, List.setIfInBounds_toArray, List.set_cons_zero, List.set_cons_succ]
        refine take_dst (i := 12) (d := 65) (v := undef) rfl rfl (by kernel_rfl) (by kernel_rfl) (by kernel_rfl) (fun _ _ _ h => h) (Or.inr ⟨by rfl, rfl⟩) hHeld ?_
        simp only [Act.put, List.setIfInBounds_toArray, List.set_cons_zero, List.set_cons_succ]
        refine take_dst (i := 13) (d := 66) (v := undef) rfl rfl (by kernel_rfl) (by kernel_rfl) (by kernel_rfl) (fun _ _ _ h => h) (Or.inr ⟨by rfl, rfl⟩) hHeld ?_
        simp only [Act.put, List.setIfInBounds_toArray, List.set_cons_zero, List.set_cons_succ]
        refine take_dst (i := 14) (d := 67) (v := undef) rfl rfl (by kernel_rfl) (by kernel_rfl) (by kernel_rfl) (fun _ _ _ h => h) (Or.inr ⟨by rfl, rfl⟩) hHeld ?_
        simp only [Act.put, List.setIfInBounds_toArray, List.set_cons_zero, List.set_cons_succ]
        refine take_dst (i := 15) (d := 68) (v := .bool false) rfl rfl (by kernel_rfl) (by kernel_rfl) (by kernel_rfl) (fun _ _ _ h => h) (Or.inl ⟨by rfl, ?_⟩) hHeld ?_
        · (intro w0 hSw; (try dsimp only at hSw); go_simp)
        simp only [Act.put, List.setIfInBounds_toArray, List.set_cons_zero, List.set_cons_succ]
        refine take_dst (i := 16) (d := 69) (v := .bool true) rfl rfl (by kernel_rfl) (by kernel_rfl) (by kernel_rfl) (fun _ _ _ h => h) (Or.inl ⟨by rfl, ?_⟩) hHeld ?_
        · (intro w0 hSw; (try dsimp only at hSw); go_simp)
        simp only [Act.put, List.setIfInBounds_toArray, List.set_cons_zero, List.set_cons_succ]
        refine take_dst (i := 17) (d := 4) (v := .bool true) rfl rfl (by kernel_rfl) (by kernel_rfl) (by kernel_rfl) (fun _ _ _ h => h) (Or.inl ⟨by rfl, ?_⟩) hHeld ?_
        · (intro w0 hSw; (try dsimp only at hSw); go_simp)
        simp only [Act.put, List.setIfInBounds_toArray, List.set_cons_zero, List.set_cons_succ]
        refine wpAnyH_done (by kernel_rfl) ?_ _
        go_wp2_with fail
        go_ret
        exact ⟨rfl, hB8.trans (hb7.mono hB8.size)⟩
    · have hnb : (a.n == 0) = false := by simp [hn]
      have hE : actF 10 a.n a.p (⟨#[97]⟩ : ByteArray).size ≠ 0 := flow_bad _ _ _ (by omega)
      have qA5 : ((w3.alloc (.cells #[.int .i64 a.k, .int .i64 a.n, .int .i64 a.p, .string (⟨#[97]⟩ : ByteArray)] 30)).alloc (.cells #[.int .i64 10, .int .i64 a.n, .int .i64 a.p, .string (⟨#[97]⟩ : ByteArray)] 30)).heap[PA]? = _ := heap_keep (heap_keep qA4)
      have qB5 : ((w3.alloc (.cells #[.int .i64 a.k, .int .i64 a.n, .int .i64 a.p, .string (⟨#[97]⟩ : ByteArray)] 30)).alloc (.cells #[.int .i64 10, .int .i64 a.n, .int .i64 a.p, .string (⟨#[97]⟩ : ByteArray)] 30)).heap[PB]? = _ := heap_keep (heap_keep qB4)
      have qD5 := heap_alloc_new (w3.alloc (.cells #[.int .i64 a.k, .int .i64 a.n, .int .i64 a.p, .string (⟨#[97]⟩ : ByteArray)] 30)) (.cells #[.int .i64 10, .int .i64 a.n, .int .i64 a.p, .string (⟨#[97]⟩ : ByteArray)] 30)
      have hB6 : Below w.heap.size w ((w3.alloc (.cells #[.int .i64 a.k, .int .i64 a.n, .int .i64 a.p, .string (⟨#[97]⟩ : ByteArray)] 30)).alloc (.cells #[.int .i64 10, .int .i64 a.n, .int .i64 a.p, .string (⟨#[97]⟩ : ByteArray)] 30)) := (hB5.alloc hB5.size _).alloc (le_alloc hB5.size _) _
      clear c0 c1 c2 c3
      go_upto_region 16 with fail
      rw [size_alloc] at qD5
      generalize w3.heap.size + 1 = PD at *
      generalize ((w3.alloc (.cells #[.int .i64 a.k, .int .i64 a.n, .int .i64 a.p, .string (⟨#[97]⟩ : ByteArray)] 30)).alloc (.cells #[.int .i64 10, .int .i64 a.n, .int .i64 a.p, .string (⟨#[97]⟩ : ByteArray)] 30)) = w5 at *
      have c0 := cells_at qA5 0 _ rfl
      have c1 := cells_at qA5 1 _ rfl
      have c2 := cells_at qA5 2 _ rfl
      have c3 := cells_at qA5 3 _ rfl
      have d0 := cells_at qB5 0 _ rfl
      have d1 := cells_at qB5 1 _ rfl
      have d2 := cells_at qB5 2 _ rfl
      have d3 := cells_at qB5 3 _ rfl
      have HSh := show_any [a, ⟨11, a.n, a.p, a.t⟩] (some ⟨w5.heap.size, 0, none⟩) 2 2 (w5.alloc (.cells #[.int .i64 a.k, .int .i64 a.n, .int .i64 a.p, .string a.t, .int .i64 11, .int .i64 a.n, .int .i64 a.p, .string a.t] 30)) rfl (by decide) (acts_two w5 a ⟨11, a.n, a.p, a.t⟩ hat hat) ((hT.below hB6).below ((Below.refl _ _).alloc (Nat.le_refl _) _))
      rw [hS1, hS2, hS3] at HSh
      have qD6 : (w5.alloc (.cells #[.int .i64 a.k, .int .i64 a.n, .int .i64 a.p, .string a.t, .int .i64 11, .int .i64 a.n, .int .i64 a.p, .string a.t] 30)).heap[PD]? = _ := heap_keep qD5
      have hB7 := hB6.alloc hB6.size (.cells #[.int .i64 a.k, .int .i64 a.n, .int .i64 a.p, .string a.t, .int .i64 11, .int .i64 a.n, .int .i64 a.p, .string a.t] 30)
      go_wp2_with fail
      refine HSh.mono ?_
      rintro e w6 ⟨he, hb6⟩
      subst he
      dsimp only
      have qD7 := (hb6.block _ (lt_of_heap qD6)).trans qD6
      have hB8 := hB7.trans (hb6.mono hB7.size)
      clear HSh hb6 qD6 hB7 qA5 qB5 qD5 c0 c1 c2 c3 d0 d1 d2 d3
      have e0 := cells_at qD7 0 _ rfl
      have e1 := cells_at qD7 1 _ rfl
      have e2 := cells_at qD7 2 _ rfl
      have e3 := cells_at qD7 3 _ rfl
      have HCd := fun W (h : Below w6.heap.size w6 W) => actCheck_any 10 a.n a.p (⟨#[97]⟩ : ByteArray) W (by decide) (((hT.below hB8).below h).k)
      generalize actF 10 a.n a.p (⟨#[97]⟩ : ByteArray).size = E at *
      have hEb : (E == 0) = false := by simp [hE]
      have hlt := lt_of_heap qD7
      go_wp2_with fail
      refine wp_region_held_drew (S := fun w' => w'.cell? ⟨PD, 0, none⟩ = some (.int .i64 10) ∧ w'.cell? ⟨PD, 1, none⟩ = some (.int .i64 a.n) ∧ w'.cell? ⟨PD, 2, none⟩ = some (.int .i64 a.p) ∧ w'.cell? ⟨PD, 3, none⟩ = some (.string (⟨#[97]⟩ : ByteArray))) (by kernel_rfl) ⟨e0, e1, e2, e3⟩ (fun hHeld => ?_)
      refine take_dst (i := 0) (d := 53) (v := .agg #[.int .i64 10, .int .i64 a.n, .int .i64 a.p, .string (⟨#[97]⟩ : ByteArray)]) rfl rfl (by kernel_rfl) (by kernel_rfl) (by kernel_rfl) (fun _ _ _ h => h) (Or.inl ⟨by rfl, ?_⟩) hHeld ?_
      · (intro w0 hSw; (try dsimp only at hSw); go_simp)
      simp only [Act.put, List.setIfInBounds_toArray, List.set_cons_zero, List.set_cons_succ]
      refine take_dst (i := 3) (d := 56) (v := .pointer (some ⟨PD, 1, none⟩)) rfl rfl (by kernel_rfl) (by kernel_rfl) (by kernel_rfl) (fun _ _ _ h => h) (Or.inl ⟨by rfl, ?_⟩) hHeld ?_
      · (intro w0 hSw; (try dsimp only at hSw); go_simp)
      simp only [Act.put, List.setIfInBounds_toArray, List.set_cons_zero, List.set_cons_succ]
      refine take_dst (i := 4) (d := 57) (v := .int .i64 a.n) rfl rfl (by kernel_rfl) (by kernel_rfl) (by kernel_rfl) (fun _ _ _ h => h) (Or.inl ⟨by rfl, ?_⟩) hHeld ?_
      · (intro w0 hSw; (try dsimp only at hSw); go_simp)
      simp only [Act.put, List.setIfInBounds_toArray, List.set_cons_zero, List.set_cons_succ]
      refine take_dst (i := 5) (d := 58) (v := .bool false) rfl rfl (by kernel_rfl) (by kernel_rfl) (by kernel_rfl) (fun _ _ _ h => h) (Or.inl ⟨by rfl, ?_⟩) hHeld ?_
      · (intro w0 hSw; (try dsimp only at hSw); go_simp)
      simp only [Act.put, List.setIfInBounds_toArray, List.set_cons_zero, List.set_cons_succ]
      refine wpAnyH_ready (rs := [1]) (by kernel_rfl) (by simp) (AllReadyH.cons rfl (fun K hK => ?_) AllReadyH.nil)
      refine step_calls_dst rfl 54 rfl 19 [.tmp 53] #[30] rfl [.agg #[.int .i64 10, .int .i64 a.n, .int .i64 a.p, .string (⟨#[97]⟩ : ByteArray)]] rfl (enters_of Tryd.func19 (by kernel_rfl) rfl) (fun v w' => v = .int .i64 E ∧ Below w6.heap.size w6 w') ((HCd w6.drew (Below.refl _ _).drew).mono (fun e w9 ⟨he, h9⟩ => ⟨_, he, rfl, below_drew h9⟩)) ?_
      rintro v w7 ⟨rfl, hb7⟩
      refine hK.out _ _ ⟨(hb7.cell (p := ⟨PD, 0, none⟩) hlt).trans e0, (hb7.cell (p := ⟨PD, 1, none⟩) hlt).trans e1, (hb7.cell (p := ⟨PD, 2, none⟩) hlt).trans e2, (hb7.cell (p := ⟨PD, 3, none⟩) hlt).trans e3⟩ (fun hHeld => ?_)
      simp only [Act.put, List.setIfInBounds_toArray, List.set_cons_zero, List.set_cons_succ]
      refine take_dst (i := 2) (d := 55) (v := .bool false) rfl rfl (by kernel_rfl) (by kernel_rfl) (by kernel_rfl) (fun _ _ _ h => h) (Or.inl ⟨by rfl, ?_⟩) hHeld ?_
      · (intro w0 hSw; (try dsimp only at hSw); go_simp)
      simp only [Act.put, List.setIfInBounds_toArray, List.set_cons_zero, List.set_cons_succ]
      refine take_dst (i := 6) (d := 59) (v := .bool false) rfl rfl (by kernel_rfl) (by kernel_rfl) (by kernel_rfl) (fun _ _ _ h => h) (Or.inl ⟨by rfl, ?_⟩) hHeld ?_
      · (intro w0 hSw; (try dsimp only at hSw); go_simp)
      simp only [Act.put, List.setIfInBounds_toArray, List.set_cons_zero, List.set_cons_succ]
      refine take_dst (i := 7) (d := 60) (v := undef) rfl rfl (by kernel_rfl) (by kernel_rfl) (by kernel_rfl) (fun _ _ _ h => h) (Or.inr ⟨by rfl, rfl⟩) hHeld ?_
      simp only [Act.put, List.setIfInBounds_toArray, List.set_cons_zero, List.set_cons_succ]
      refine take_dst (i := 8) (d := 61) (v := undef) rfl rfl (by kernel_rfl) (by kernel_rfl) (by kernel_rfl) (fun _ _ _ h => h) (Or.inr ⟨by rfl, rfl⟩) hHeld ?_
      simp only [Act.put, List.setIfInBounds_toArray, List.set_cons_zero, List.set_cons_succ]
      refine take_dst (i := 9) (d := 62) (v := undef) rfl rfl (by kernel_rfl) (by kernel_rfl) (by kernel_rfl) (fun _ _ _ h => h) (Or.inr ⟨by rfl, rfl⟩) hHeld ?_
      simp only [Act.put, List.setIfInBounds_toArray, List.set_cons_zero, List.set_cons_succ]
      refine take_dst (i := 10) (d := 63) (v := .bool false) rfl rfl (by kernel_rfl) (by kernel_rfl) (by kernel_rfl) (fun _ _ _ h => h) (Or.inl ⟨by rfl, ?_⟩) hHeld ?_
      · (intro w0 hSw; (try dsimp only at hSw); go_simp)
      simp only [Act.put, List.setIfInBounds_toArray, List.set_cons_zero, List.set_cons_succ]
      refine take_dst (i := 11) (d := 64) (v := .bool false) rfl rfl (by kernel_rfl) (by kernel_rfl) (by kernel_rfl) (fun _ _ _ h => h) (Or.inl ⟨by rfl, ?_⟩) hHeld ?_
      · (intro w0 hSw; (try dsimp only at hSw); go_simp)
      simp only [Act.put, List.setIfInBounds_toArray, List.set_cons_zero, List.set_cons_succ]
      refine take_dst (i := 12) (d := 65) (v := undef) rfl rfl (by kernel_rfl) (by kernel_rfl) (by kernel_rfl) (fun _ _ _ h => h) (Or.inr ⟨by rfl, rfl⟩) hHeld ?_
      simp only [Act.put, List.setIfInBounds_toArray, List.set_cons_zero, List.set_cons_succ]
      refine take_dst (i := 13) (d := 66) (v := undef) rfl rfl (by kernel_rfl) (by kernel_rfl) (by kernel_rfl) (fun _ _ _ h => h) (Or.inr ⟨by rfl, rfl⟩) hHeld ?_
      simp only [Act.put, List.setIfInBounds_toArray, List.set_cons_zero, List.set_cons_succ]
      refine take_dst (i := 14) (d := 67) (v := undef) rfl rfl (by kernel_rfl) (by kernel_rfl) (by kernel_rfl) (fun _ _ _ h => h) (Or.inr ⟨by rfl, rfl⟩) hHeld ?_
      simp only [Act.put, List.setIfInBounds_toArray, List.set_cons_zero, List.set_cons_succ]
      refine take_dst (i := 15) (d := 68) (v := .bool false) rfl rfl (by kernel_rfl) (by kernel_rfl) (by kernel_rfl) (fun _ _ _ h => h) (Or.inl ⟨by rfl, ?_⟩) hHeld ?_
      · (intro w0 hSw; (try dsimp only at hSw); go_simp)
      simp only [Act.put, List.setIfInBounds_toArray, List.set_cons_zero, List.set_cons_succ]
      refine take_dst (i := 16) (d := 69) (v := .bool true) rfl rfl (by kernel_rfl) (by kernel_rfl) (by kernel_rfl) (fun _ _ _ h => h) (Or.inl ⟨by rfl, ?_⟩) hHeld ?_
      · (intro w0 hSw; (try dsimp only at hSw); go_simp)
      simp only [Act.put, List.setIfInBounds_toArray, List.set_cons_zero, List.set_cons_succ]
      refine take_dst (i := 17) (d := 4) (v := .bool true) rfl rfl (by kernel_rfl) (by kernel_rfl) (by kernel_rfl) (fun _ _ _ h => h) (Or.inl ⟨by rfl, ?_⟩) hHeld ?_
      · (intro w0 hSw; (try dsimp only at hSw); go_simp)
      simp only [Act.put, List.setIfInBounds_toArray, List.set_cons_zero, List.set_cons_succ]
      refine wpAnyH_done (by kernel_rfl) ?_ _
      go_wp2_with fail
      go_ret
      exact ⟨rfl, hB8.trans (hb7.mono hB8.size)⟩
end Go.Proofs.YtnpkpkknbflacaaDoor
