/- seal.compare, for all signs. -/
import Derived.Test.YteeiomcgdgehfaaDoorCSig
namespace Go.Proofs.YteeiomcgdgehfaaDoor
open Go.RowKit

set_option maxRecDepth 100000 in
set_option maxHeartbeats 4000000 in
theorem compare_any (s t : Sg) (w : World) (hs : SliceAt w s.p.sa s.p.cap s.p.bs) (ht : SliceAt w t.p.sa t.p.cap t.p.bs) :
    Calls Tryd.prog 37 #[.agg #[.int .i64 s.nd, .int .i64 s.au, .int .i64 s.rd, .slice s.p.sa s.p.bs.length s.p.cap], .agg #[.int .i64 t.nd, .int .i64 t.au, .int .i64 t.rd, .slice t.p.sa t.p.bs.length t.p.cap]] w fun e w' => e = .returned (.int .i64 (cmpG s.v t.v)) ∧ Gr w w' := by
  have hG : Gr w ((w.alloc (.cells #[.int .i64 s.nd, .int .i64 s.au, .int .i64 s.rd, .slice s.p.sa s.p.bs.length s.p.cap] 52)).alloc (.cells #[.int .i64 t.nd, .int .i64 t.au, .int .i64 t.rd, .slice t.p.sa t.p.bs.length t.p.cap] 52)) := ((Gr.refl w).alloc _).alloc _
  have q0 := heap_alloc2_old w (.cells #[.int .i64 s.nd, .int .i64 s.au, .int .i64 s.rd, .slice s.p.sa s.p.bs.length s.p.cap] 52) (.cells #[.int .i64 t.nd, .int .i64 t.au, .int .i64 t.rd, .slice t.p.sa t.p.bs.length t.p.cap] 52)
  have q1 : ((w.alloc (.cells #[.int .i64 s.nd, .int .i64 s.au, .int .i64 s.rd, .slice s.p.sa s.p.bs.length s.p.cap] 52)).alloc (.cells #[.int .i64 t.nd, .int .i64 t.au, .int .i64 t.rd, .slice t.p.sa t.p.bs.length t.p.cap] 52)).heap[w.heap.size + 1]? = some (.cells #[.int .i64 t.nd, .int .i64 t.au, .int .i64 t.rd, .slice t.p.sa t.p.bs.length t.p.cap] 52 (0, 0)) := by
    have := heap_alloc_new (w.alloc (.cells #[.int .i64 s.nd, .int .i64 s.au, .int .i64 s.rd, .slice s.p.sa s.p.bs.length s.p.cap] 52)) (.cells #[.int .i64 t.nd, .int .i64 t.au, .int .i64 t.rd, .slice t.p.sa t.p.bs.length t.p.cap] 52)
    rw [size_alloc] at this; exact this
  have HC : Hid (cmpG s.v t.v = orF [cI s.nd t.nd, cI s.au t.au, cI s.rd t.rd, Lib.compareBytes (bstr s.p.bs).data.toList (bstr t.p.bs).data.toList]) := cmpG_or s.v t.v
  go_enter Tryd.func37, Tryd.ntmps37
  go_wp2_with fail
  generalize (w.alloc (.cells #[.int .i64 s.nd, .int .i64 s.au, .int .i64 s.rd, .slice s.p.sa s.p.bs.length s.p.cap] 52)).alloc (.cells #[.int .i64 t.nd, .int .i64 t.au, .int .i64 t.rd, .slice t.p.sa t.p.bs.length t.p.cap] 52) = W0 at hG q0 q1 ⊢
  have hsW := hs.below hG.below
  have htW := ht.below hG.below
  have k0 := cells_at q0 0 _ rfl
  have k1 := cells_at q0 1 _ rfl
  have k2 := cells_at q0 2 _ rfl
  have k3 := cells_at q0 3 _ rfl
  have l0 := cells_at q1 0 _ rfl
  have l1 := cells_at q1 1 _ rfl
  have l2 := cells_at q1 2 _ rfl
  have l3 := cells_at q1 3 _ rfl
  have HB := compareBs_any s.p.bs t.p.bs s.p.sa t.p.sa _ _ s.p.cap t.p.cap W0.drew rfl rfl (hsW.below (Below.refl _ _).drew) (htW.below (Below.refl _ _).drew)
  have H0 := compareInt_any s.nd t.nd W0.drew
  have H1 := compareInt_any s.au t.au W0.drew
  have H2 := compareInt_any s.rd t.rd W0.drew
  generalize Lib.compareBytes (bstr s.p.bs).data.toList (bstr t.p.bs).data.toList = r3 at *
  generalize cI s.nd t.nd = r0 at *
  generalize cI s.au t.au = r1 at *
  generalize cI s.rd t.rd = r2 at *
  refine wp_region_held_drew (S := (fun w' => w'.cell? ⟨w.heap.size, 0, none⟩ = some (.int .i64 s.nd) ∧ w'.cell? ⟨w.heap.size, 1, none⟩ = some (.int .i64 s.au) ∧ w'.cell? ⟨w.heap.size, 2, none⟩ = some (.int .i64 s.rd) ∧ w'.cell? ⟨w.heap.size, 3, none⟩ = some (.slice s.p.sa s.p.bs.length s.p.cap) ∧ w'.cell? ⟨w.heap.size + 1, 0, none⟩ = some (.int .i64 t.nd) ∧ w'.cell? ⟨w.heap.size + 1, 1, none⟩ = some (.int .i64 t.au) ∧ w'.cell? ⟨w.heap.size + 1, 2, none⟩ = some (.int .i64 t.rd) ∧ w'.cell? ⟨w.heap.size + 1, 3, none⟩ = some (.slice t.p.sa t.p.bs.length t.p.cap))) (by kernel_rfl) ⟨k0, k1, k2, k3, l0, l1, l2, l3⟩ (fun hHeld => ?_)
  refine take_dst (i := 0) (d := 5) (v := .pointer (some ⟨w.heap.size, 0, none⟩)) rfl rfl (by kernel_rfl) (by kernel_rfl) (by kernel_rfl) (fun _ _ _ h => h) (Or.inl ⟨by rfl, ?_⟩) hHeld ?_
  · (intro w0 hSw; (try dsimp only at hSw); go_simp)
  simp only [Act.put, List.setIfInBounds_toArray, List.set_cons_zero, List.set_cons_succ]
  refine take_dst (i := 1) (d := 6) (v := .int .i64 s.nd) rfl rfl (by kernel_rfl) (by kernel_rfl) (by kernel_rfl) (fun _ _ _ h => h) (Or.inl ⟨by rfl, ?_⟩) hHeld ?_
  · (intro w0 hSw; (try dsimp only at hSw); go_simp)
  simp only [Act.put, List.setIfInBounds_toArray, List.set_cons_zero, List.set_cons_succ]
  refine take_dst (i := 2) (d := 7) (v := .pointer (some ⟨w.heap.size + 1, 0, none⟩)) rfl rfl (by kernel_rfl) (by kernel_rfl) (by kernel_rfl) (fun _ _ _ h => h) (Or.inl ⟨by rfl, ?_⟩) hHeld ?_
  · (intro w0 hSw; (try dsimp only at hSw); go_simp)
  simp only [Act.put, List.setIfInBounds_toArray, List.set_cons_zero, List.set_cons_succ]
  refine take_dst (i := 3) (d := 8) (v := .int .i64 t.nd) rfl rfl (by kernel_rfl) (by kernel_rfl) (by kernel_rfl) (fun _ _ _ h => h) (Or.inl ⟨by rfl, ?_⟩) hHeld ?_
  · (intro w0 hSw; (try dsimp only at hSw); go_simp)
  simp only [Act.put, List.setIfInBounds_toArray, List.set_cons_zero, List.set_cons_succ]
  refine take_dst (i := 5) (d := 10) (v := .pointer (some ⟨w.heap.size, 1, none⟩)) rfl rfl (by kernel_rfl) (by kernel_rfl) (by kernel_rfl) (fun _ _ _ h => h) (Or.inl ⟨by rfl, ?_⟩) hHeld ?_
  · (intro w0 hSw; (try dsimp only at hSw); go_simp)
  simp only [Act.put, List.setIfInBounds_toArray, List.set_cons_zero, List.set_cons_succ]
  refine take_dst (i := 6) (d := 11) (v := .pointer (some ⟨w.heap.size, 1, none⟩)) rfl rfl (by kernel_rfl) (by kernel_rfl) (by kernel_rfl) (fun _ _ _ h => h) (Or.inl ⟨by rfl, ?_⟩) hHeld ?_
  · (intro w0 hSw; (try dsimp only at hSw); go_simp)
  simp only [Act.put, List.setIfInBounds_toArray, List.set_cons_zero, List.set_cons_succ]
  refine take_dst (i := 7) (d := 12) (v := .int .i64 s.au) rfl rfl (by kernel_rfl) (by kernel_rfl) (by kernel_rfl) (fun _ _ _ h => h) (Or.inl ⟨by rfl, ?_⟩) hHeld ?_
  · (intro w0 hSw; (try dsimp only at hSw); go_simp)
  simp only [Act.put, List.setIfInBounds_toArray, List.set_cons_zero, List.set_cons_succ]
  refine take_dst (i := 8) (d := 13) (v := .pointer (some ⟨w.heap.size + 1, 1, none⟩)) rfl rfl (by kernel_rfl) (by kernel_rfl) (by kernel_rfl) (fun _ _ _ h => h) (Or.inl ⟨by rfl, ?_⟩) hHeld ?_
  · (intro w0 hSw; (try dsimp only at hSw); go_simp)
  simp only [Act.put, List.setIfInBounds_toArray, List.set_cons_zero, List.set_cons_succ]
  refine take_dst (i := 9) (d := 14) (v := .pointer (some ⟨w.heap.size + 1, 1, none⟩)) rfl rfl (by kernel_rfl) (by kernel_rfl) (by kernel_rfl) (fun _ _ _ h => h) (Or.inl ⟨by rfl, ?_⟩) hHeld ?_
  · (intro w0 hSw; (try dsimp only at hSw); go_simp)
  simp only [Act.put, List.setIfInBounds_toArray, List.set_cons_zero, List.set_cons_succ]
  refine take_dst (i := 10) (d := 15) (v := .int .i64 t.au) rfl rfl (by kernel_rfl) (by kernel_rfl) (by kernel_rfl) (fun _ _ _ h => h) (Or.inl ⟨by rfl, ?_⟩) hHeld ?_
  · (intro w0 hSw; (try dsimp only at hSw); go_simp)
  simp only [Act.put, List.setIfInBounds_toArray, List.set_cons_zero, List.set_cons_succ]
  refine take_dst (i := 12) (d := 17) (v := .pointer (some ⟨w.heap.size, 1, none⟩)) rfl rfl (by kernel_rfl) (by kernel_rfl) (by kernel_rfl) (fun _ _ _ h => h) (Or.inl ⟨by rfl, ?_⟩) hHeld ?_
  · (intro w0 hSw; (try dsimp only at hSw); go_simp)
  simp only [Act.put, List.setIfInBounds_toArray, List.set_cons_zero, List.set_cons_succ]
  refine take_dst (i := 13) (d := 18) (v := .pointer (some ⟨w.heap.size, 2, none⟩)) rfl rfl (by kernel_rfl) (by kernel_rfl) (by kernel_rfl) (fun _ _ _ h => h) (Or.inl ⟨by rfl, ?_⟩) hHeld ?_
  · (intro w0 hSw; (try dsimp only at hSw); go_simp)
  simp only [Act.put, List.setIfInBounds_toArray, List.set_cons_zero, List.set_cons_succ]
  refine take_dst (i := 14) (d := 19) (v := .int .i64 s.rd) rfl rfl (by kernel_rfl) (by kernel_rfl) (by kernel_rfl) (fun _ _ _ h => h) (Or.inl ⟨by rfl, ?_⟩) hHeld ?_
  · (intro w0 hSw; (try dsimp only at hSw); go_simp)
  simp only [Act.put, List.setIfInBounds_toArray, List.set_cons_zero, List.set_cons_succ]
  refine take_dst (i := 15) (d := 20) (v := .pointer (some ⟨w.heap.size + 1, 1, none⟩)) rfl rfl (by kernel_rfl) (by kernel_rfl) (by kernel_rfl) (fun _ _ _ h => h) (Or.inl ⟨by rfl, ?_⟩) hHeld ?_
  · (intro w0 hSw; (try dsimp only at hSw); go_simp)
  simp only [Act.put, List.setIfInBounds_toArray, List.set_cons_zero, List.set_cons_succ]
  refine take_dst (i := 16) (d := 21) (v := .pointer (some ⟨w.heap.size + 1, 2, none⟩)) rfl rfl (by kernel_rfl) (by kernel_rfl) (by kernel_rfl) (fun _ _ _ h => h) (Or.inl ⟨by rfl, ?_⟩) hHeld ?_
  · (intro w0 hSw; (try dsimp only at hSw); go_simp)
  simp only [Act.put, List.setIfInBounds_toArray, List.set_cons_zero, List.set_cons_succ]
  refine take_dst (i := 17) (d := 22) (v := .int .i64 t.rd) rfl rfl (by kernel_rfl) (by kernel_rfl) (by kernel_rfl) (fun _ _ _ h => h) (Or.inl ⟨by rfl, ?_⟩) hHeld ?_
  · (intro w0 hSw; (try dsimp only at hSw); go_simp)
  simp only [Act.put, List.setIfInBounds_toArray, List.set_cons_zero, List.set_cons_succ]
  refine take_dst (i := 19) (d := 24) (v := .pointer (some ⟨w.heap.size, 1, none⟩)) rfl rfl (by kernel_rfl) (by kernel_rfl) (by kernel_rfl) (fun _ _ _ h => h) (Or.inl ⟨by rfl, ?_⟩) hHeld ?_
  · (intro w0 hSw; (try dsimp only at hSw); go_simp)
  simp only [Act.put, List.setIfInBounds_toArray, List.set_cons_zero, List.set_cons_succ]
  refine take_dst (i := 20) (d := 25) (v := .pointer (some ⟨w.heap.size, 3, none⟩)) rfl rfl (by kernel_rfl) (by kernel_rfl) (by kernel_rfl) (fun _ _ _ h => h) (Or.inl ⟨by rfl, ?_⟩) hHeld ?_
  · (intro w0 hSw; (try dsimp only at hSw); go_simp)
  simp only [Act.put, List.setIfInBounds_toArray, List.set_cons_zero, List.set_cons_succ]
  refine take_dst (i := 21) (d := 26) (v := .slice s.p.sa s.p.bs.length s.p.cap) rfl rfl (by kernel_rfl) (by kernel_rfl) (by kernel_rfl) (fun _ _ _ h => h) (Or.inl ⟨by rfl, ?_⟩) hHeld ?_
  · (intro w0 hSw; (try dsimp only at hSw); go_simp)
  simp only [Act.put, List.setIfInBounds_toArray, List.set_cons_zero, List.set_cons_succ]
  refine take_dst (i := 22) (d := 27) (v := .pointer (some ⟨w.heap.size + 1, 1, none⟩)) rfl rfl (by kernel_rfl) (by kernel_rfl) (by kernel_rfl) (fun _ _ _ h => h) (Or.inl ⟨by rfl, ?_⟩) hHeld ?_
  · (intro w0 hSw; (try dsimp only at hSw); go_simp)
  simp only [Act.put, List.setIfInBounds_toArray, List.set_cons_zero, List.set_cons_succ]
  refine take_dst (i := 23) (d := 28) (v := .pointer (some ⟨w.heap.size + 1, 3, none⟩)) rfl rfl (by kernel_rfl) (by kernel_rfl) (by kernel_rfl) (fun _ _ _ h => h) (Or.inl ⟨by rfl, ?_⟩) hHeld ?_
  · (intro w0 hSw; (try dsimp only at hSw); go_simp)
  simp only [Act.put, List.setIfInBounds_toArray, List.set_cons_zero, List.set_cons_succ]
  refine take_dst (i := 24) (d := 29) (v := .slice t.p.sa t.p.bs.length t.p.cap) rfl rfl (by kernel_rfl) (by kernel_rfl) (by kernel_rfl) (fun _ _ _ h => h) (Or.inl ⟨by rfl, ?_⟩) hHeld ?_
  · (intro w0 hSw; (try dsimp only at hSw); go_simp)
  simp only [Act.put, List.setIfInBounds_toArray, List.set_cons_zero, List.set_cons_succ]
  refine wpAnyH_ready (rs := [4]) (by kernel_rfl) (by simp) (AllReadyH.cons rfl (fun K hK => ?_) AllReadyH.nil)
  refine step_calls_dst rfl 9 rfl 57 [.tmp 6, .tmp 8] #[3, 3] rfl [.int .i64 s.nd, .int .i64 t.nd] rfl (enters_of Tryd.func57 (by kernel_rfl) rfl) (fun v w' => v = .int .i64 r0 ∧ W0.drew = w') (H0.mono (fun e w2 h => ⟨_, h.1, rfl, h.2⟩)) ?_
  rintro v w2 ⟨rfl, rfl⟩
  refine hK.out _ _ ⟨k0, k1, k2, k3, l0, l1, l2, l3⟩ (fun hHeld => ?_)
  simp only [Act.put, List.setIfInBounds_toArray, List.set_cons_zero, List.set_cons_succ]
  refine wpAnyH_ready (rs := [11]) (by kernel_rfl) (by simp) (AllReadyH.cons rfl (fun K hK => ?_) AllReadyH.nil)
  refine step_calls_dst rfl 16 rfl 57 [.tmp 12, .tmp 15] #[3, 3] rfl [.int .i64 s.au, .int .i64 t.au] rfl (enters_of Tryd.func57 (by kernel_rfl) rfl) (fun v w' => v = .int .i64 r1 ∧ W0.drew = w') (H1.mono (fun e w2 h => ⟨_, h.1, rfl, h.2⟩)) ?_
  rintro v w2 ⟨rfl, rfl⟩
  refine hK.out _ _ ⟨k0, k1, k2, k3, l0, l1, l2, l3⟩ (fun hHeld => ?_)
  simp only [Act.put, List.setIfInBounds_toArray, List.set_cons_zero, List.set_cons_succ]
  refine wpAnyH_ready (rs := [18]) (by kernel_rfl) (by simp) (AllReadyH.cons rfl (fun K hK => ?_) AllReadyH.nil)
  refine step_calls_dst rfl 23 rfl 57 [.tmp 19, .tmp 22] #[3, 3] rfl [.int .i64 s.rd, .int .i64 t.rd] rfl (enters_of Tryd.func57 (by kernel_rfl) rfl) (fun v w' => v = .int .i64 r2 ∧ W0.drew = w') (H2.mono (fun e w2 h => ⟨_, h.1, rfl, h.2⟩)) ?_
  rintro v w2 ⟨rfl, rfl⟩
  refine hK.out _ _ ⟨k0, k1, k2, k3, l0, l1, l2, l3⟩ (fun hHeld => ?_)
  simp only [Act.put, List.setIfInBounds_toArray, List.set_cons_zero, List.set_cons_succ]
  refine wpAnyH_ready (rs := [25]) (by kernel_rfl) (by simp) (AllReadyH.cons rfl (fun K hK => ?_) AllReadyH.nil)
  refine step_calls_dst rfl 30 rfl 58 [.tmp 26, .tmp 29] #[42, 42] rfl [.slice s.p.sa s.p.bs.length s.p.cap, .slice t.p.sa t.p.bs.length t.p.cap] rfl (enters_of Tryd.func58 (by kernel_rfl) rfl) (fun v w' => v = .int .i64 r3 ∧ W0.drew = w') (HB.mono (fun e w2 h => ⟨_, h.1, rfl, h.2⟩)) ?_
  rintro v w2 ⟨rfl, rfl⟩
  refine hK.out _ _ ⟨k0, k1, k2, k3, l0, l1, l2, l3⟩ (fun hHeld => ?_)
  simp only [Act.put, List.setIfInBounds_toArray, List.set_cons_zero, List.set_cons_succ]
  refine wpAnyH_ready (rs := [26]) (by kernel_rfl) (by simp) (AllReadyH.cons rfl (fun K hK => ?_) AllReadyH.nil)
  refine step_run rfl 31 rfl (.slice (some ⟨W0.heap.size, 0, none⟩) 4 4) (W0.drew.alloc (.cells #[.int .i64 r0, .int .i64 r1, .int .i64 r2, .int .i64 r3] 3)) (by go_simp) ?_
  have m0 := heap_keep (o := .cells #[.int .i64 r0, .int .i64 r1, .int .i64 r2, .int .i64 r3] 3) (w := W0.drew) q0
  have m1 := heap_keep (o := .cells #[.int .i64 r0, .int .i64 r1, .int .i64 r2, .int .i64 r3] 3) (w := W0.drew) q1
  have m2 := heap_alloc_new W0.drew (.cells #[.int .i64 r0, .int .i64 r1, .int .i64 r2, .int .i64 r3] 3)
  have hG2 := (hG.drew).alloc (.cells #[.int .i64 r0, .int .i64 r1, .int .i64 r2, .int .i64 r3] 3)
  have HO := cmpOr_any [r0, r1, r2, r3] W0.heap.size 0 4 (W0.drew.alloc (.cells #[.int .i64 r0, .int .i64 r1, .int .i64 r2, .int .i64 r3] 3)) (by simp) (by
    intro j hj
    have hj : j < 4 := hj
    match j, hj with
    | 0, _ => exact cells_at m2 0 _ rfl
    | 1, _ => exact cells_at m2 1 _ rfl
    | 2, _ => exact cells_at m2 2 _ rfl
    | 3, _ => exact cells_at m2 3 _ rfl)
  generalize W0.drew.alloc (.cells #[.int .i64 r0, .int .i64 r1, .int .i64 r2, .int .i64 r3] 3) = W1 at m0 m1 m2 hG2 HO ⊢
  have n0 := cells_at m0 0 _ rfl
  have n1 := cells_at m0 1 _ rfl
  have n2 := cells_at m0 2 _ rfl
  have n3 := cells_at m0 3 _ rfl
  have o0 := cells_at m1 0 _ rfl
  have o1 := cells_at m1 1 _ rfl
  have o2 := cells_at m1 2 _ rfl
  have o3 := cells_at m1 3 _ rfl
  rw [← HC.out] at HO
  refine hK.out _ _ ⟨n0, n1, n2, n3, o0, o1, o2, o3⟩ (fun hHeld => ?_)
  simp only [Act.put, List.setIfInBounds_toArray, List.set_cons_zero, List.set_cons_succ]
  refine wpAnyH_ready (rs := [27]) (by kernel_rfl) (by simp) (AllReadyH.cons rfl (fun K hK => ?_) AllReadyH.nil)
  refine step_calls_dst rfl 32 rfl 56 [.tmp 31] #[26] rfl [.slice (some ⟨W0.heap.size, 0, none⟩) 4 4] rfl (enters_of Tryd.func56 (by kernel_rfl) rfl) (fun v w' => v = .int .i64 (cmpG s.v t.v) ∧ W1 = w') (HO.mono (fun e w2 h => ⟨_, h.1, rfl, h.2⟩)) ?_
  rintro v w2 ⟨rfl, rfl⟩
  refine hK.out _ _ ⟨n0, n1, n2, n3, o0, o1, o2, o3⟩ (fun hHeld => ?_)
  simp only [Act.put, List.setIfInBounds_toArray, List.set_cons_zero, List.set_cons_succ]
  generalize hr : cmpG s.v t.v = r
  have HR : Hid (cmpG s.v t.v = r) := hr
  clear hr
  refine wpAnyH_ready (rs := [28]) (by kernel_rfl) (by simp) (AllReadyH.cons rfl (fun K hK => ?_) AllReadyH.nil)
  refine step_run rfl 4 rfl (.int .i64 r) W1 (by go_simp) ?_
  refine hK.out _ _ ⟨n0, n1, n2, n3, o0, o1, o2, o3⟩ (fun hHeld => ?_)
  simp only [Act.put, List.setIfInBounds_toArray, List.set_cons_zero, List.set_cons_succ]
  refine wpAnyH_done (by kernel_rfl) ?_ _
  go_wp2_with fail
  go_ret
  exact ⟨ret_int HR.out.symm, hG2⟩
end Go.Proofs.YteeiomcgdgehfaaDoor
