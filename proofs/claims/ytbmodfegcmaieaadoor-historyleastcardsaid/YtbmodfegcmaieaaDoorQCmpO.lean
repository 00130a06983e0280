/- The comparison of two steps of a history: by rounds, then by authors. -/
import Derived.Test.YtbmodfegcmaieaaDoorQCmpL
namespace Go.Proofs.YtbmodfegcmaieaaDoor
open Go.RowKit

set_option maxRecDepth 100000 in
set_option maxHeartbeats 4000000 in
theorem cmpStep_any (au rd bu sd : Int) (a2 : Option Addr) (n2 c2 : Nat) (a3 : Option Addr) (n3 c3 : Nat) (a4 : Option Addr) (n4 c4 : Nat) (b2 : Option Addr) (m2 d2 : Nat) (b3 : Option Addr) (m3 d3 : Nat) (b4 : Option Addr) (m4 d4 : Nat) (w : World) :
    Calls Tryd.prog 75 #[.agg #[.int .i64 au, .int .i64 rd, .slice a2 n2 c2, .slice a3 n3 c3, .slice a4 n4 c4], .agg #[.int .i64 bu, .int .i64 sd, .slice b2 m2 d2, .slice b3 m3 d3, .slice b4 m4 d4]] w fun e w' => e = .returned (.int .i64 (cmpRA (rd, au) (sd, bu))) ∧ Gr w w' := by
  have hG : Gr w ((w.alloc (.cells #[.int .i64 au, .int .i64 rd, .slice a2 n2 c2, .slice a3 n3 c3, .slice a4 n4 c4] 91)).alloc (.cells #[.int .i64 bu, .int .i64 sd, .slice b2 m2 d2, .slice b3 m3 d3, .slice b4 m4 d4] 91)) := ((Gr.refl w).alloc _).alloc _
  have q0 := heap_alloc2_old w (.cells #[.int .i64 au, .int .i64 rd, .slice a2 n2 c2, .slice a3 n3 c3, .slice a4 n4 c4] 91) (.cells #[.int .i64 bu, .int .i64 sd, .slice b2 m2 d2, .slice b3 m3 d3, .slice b4 m4 d4] 91)
  have q1 : ((w.alloc (.cells #[.int .i64 au, .int .i64 rd, .slice a2 n2 c2, .slice a3 n3 c3, .slice a4 n4 c4] 91)).alloc (.cells #[.int .i64 bu, .int .i64 sd, .slice b2 m2 d2, .slice b3 m3 d3, .slice b4 m4 d4] 91)).heap[w.heap.size + 1]? = some (.cells #[.int .i64 bu, .int .i64 sd, .slice b2 m2 d2, .slice b3 m3 d3, .slice b4 m4 d4] 91 (0, 0)) := by
    have := heap_alloc_new (w.alloc (.cells #[.int .i64 au, .int .i64 rd, .slice a2 n2 c2, .slice a3 n3 c3, .slice a4 n4 c4] 91)) (.cells #[.int .i64 bu, .int .i64 sd, .slice b2 m2 d2, .slice b3 m3 d3, .slice b4 m4 d4] 91)
    rw [size_alloc] at this; exact this
  have HC : Hid (cmpRA (rd, au) (sd, bu) = orF [cI rd sd, cI au bu]) := cmpRA_or rd au sd bu
  go_enter Tryd.func75, Tryd.ntmps75
  go_wp2_with fail
  generalize (w.alloc (.cells #[.int .i64 au, .int .i64 rd, .slice a2 n2 c2, .slice a3 n3 c3, .slice a4 n4 c4] 91)).alloc (.cells #[.int .i64 bu, .int .i64 sd, .slice b2 m2 d2, .slice b3 m3 d3, .slice b4 m4 d4] 91) = W0 at hG q0 q1 ⊢
  have k0 := cells_at q0 0 _ rfl
  have k1 := cells_at q0 1 _ rfl
  have l0 := cells_at q1 0 _ rfl
  have l1 := cells_at q1 1 _ rfl
  have H0 := compareInt_any rd sd W0.drew
  have H1 := compareInt_any au bu W0.drew
  generalize cI rd sd = r0 at *
  generalize cI au bu = r1 at *
  refine wp_region_held_drew (S := (fun w' => w'.cell? ⟨w.heap.size, 0, none⟩ = some (.int .i64 au) ∧ w'.cell? ⟨w.heap.size, 1, none⟩ = some (.int .i64 rd) ∧ w'.cell? ⟨w.heap.size + 1, 0, none⟩ = some (.int .i64 bu) ∧ w'.cell? ⟨w.heap.size + 1, 1, none⟩ = some (.int .i64 sd))) (by kernel_rfl) ⟨k0, k1, l0, l1⟩ (fun hHeld => ?_)
  refine take_dst (i := 0) (d := 5) (v := .pointer (some ⟨w.heap.size, 0, none⟩)) rfl rfl (by kernel_rfl) (by kernel_rfl) (by kernel_rfl) (fun _ _ _ h => h) (Or.inl ⟨by rfl, ?_⟩) hHeld ?_
  · (intro w0 hSw; (try dsimp only at hSw); go_simp)
  simp only [Act.put, List.setIfInBounds_toArray, List.set_cons_zero, List.set_cons_succ]
  refine take_dst (i := 1) (d := 6) (v := .pointer (some ⟨w.heap.size, 1, none⟩)) rfl rfl (by kernel_rfl) (by kernel_rfl) (by kernel_rfl) (fun _ _ _ h => h) (Or.inl ⟨by rfl, ?_⟩) hHeld ?_
  · (intro w0 hSw; (try dsimp only at hSw); go_simp)
  simp only [Act.put, List.setIfInBounds_toArray, List.set_cons_zero, List.set_cons_succ]
  refine take_dst (i := 2) (d := 7) (v := .int .i64 rd) rfl rfl (by kernel_rfl) (by kernel_rfl) (by kernel_rfl) (fun _ _ _ h => h) (Or.inl ⟨by rfl, ?_⟩) hHeld ?_
  · (intro w0 hSw; (try dsimp only at hSw); go_simp)
  simp only [Act.put, List.setIfInBounds_toArray, List.set_cons_zero, List.set_cons_succ]
  refine take_dst (i := 3) (d := 8) (v := .pointer (some ⟨w.heap.size + 1, 0, none⟩)) rfl rfl (by kernel_rfl) (by kernel_rfl) (by kernel_rfl) (fun _ _ _ h => h) (Or.inl ⟨by rfl, ?_⟩) hHeld ?_
  · (intro w0 hSw; (try dsimp only at hSw); go_simp)
  simp only [Act.put, List.setIfInBounds_toArray, List.set_cons_zero, List.set_cons_succ]
  refine take_dst (i := 4) (d := 9) (v := .pointer (some ⟨w.heap.size + 1, 1, none⟩)) rfl rfl (by kernel_rfl) (by kernel_rfl) (by kernel_rfl) (fun _ _ _ h => h) (Or.inl ⟨by rfl, ?_⟩) hHeld ?_
  · (intro w0 hSw; (try dsimp only at hSw); go_simp)
  simp only [Act.put, List.setIfInBounds_toArray, List.set_cons_zero, List.set_cons_succ]
  refine take_dst (i := 5) (d := 10) (v := .int .i64 sd) rfl rfl (by kernel_rfl) (by kernel_rfl) (by kernel_rfl) (fun _ _ _ h => h) (Or.inl ⟨by rfl, ?_⟩) hHeld ?_
  · (intro w0 hSw; (try dsimp only at hSw); go_simp)
  simp only [Act.put, List.setIfInBounds_toArray, List.set_cons_zero, List.set_cons_succ]
  refine take_dst (i := 7) (d := 12) (v := .pointer (some ⟨w.heap.size, 0, none⟩)) rfl rfl (by kernel_rfl) (by kernel_rfl) (by kernel_rfl) (fun _ _ _ h => h) (Or.inl ⟨by rfl, ?_⟩) hHeld ?_
  · (intro w0 hSw; (try dsimp only at hSw); go_simp)
  simp only [Act.put, List.setIfInBounds_toArray, List.set_cons_zero, List.set_cons_succ]
  refine take_dst (i := 8) (d := 13) (v := .pointer (some ⟨w.heap.size, 0, none⟩)) rfl rfl (by kernel_rfl) (by kernel_rfl) (by kernel_rfl) (fun _ _ _ h => h) (Or.inl ⟨by rfl, ?_⟩) hHeld ?_
  · (intro w0 hSw; (try dsimp only at hSw); go_simp)
  simp only [Act.put, List.setIfInBounds_toArray, List.set_cons_zero, List.set_cons_succ]
  refine take_dst (i := 9) (d := 14) (v := .int .i64 au) rfl rfl (by kernel_rfl) (by kernel_rfl) (by kernel_rfl) (fun _ _ _ h => h) (Or.inl ⟨by rfl, ?_⟩) hHeld ?_
  · (intro w0 hSw; (try dsimp only at hSw); go_simp)
  simp only [Act.put, List.setIfInBounds_toArray, List.set_cons_zero, List.set_cons_succ]
  refine take_dst (i := 10) (d := 15) (v := .pointer (some ⟨w.heap.size + 1, 0, none⟩)) rfl rfl (by kernel_rfl) (by kernel_rfl) (by kernel_rfl) (fun _ _ _ h => h) (Or.inl ⟨by rfl, ?_⟩) hHeld ?_
  · (intro w0 hSw; (try dsimp only at hSw); go_simp)
  simp only [Act.put, List.setIfInBounds_toArray, List.set_cons_zero, List.set_cons_succ]
  refine take_dst (i := 11) (d := 16) (v := .pointer (some ⟨w.heap.size + 1, 0, none⟩)) rfl rfl (by kernel_rfl) (by kernel_rfl) (by kernel_rfl) (fun _ _ _ h => h) (Or.inl ⟨by rfl, ?_⟩) hHeld ?_
  · (intro w0 hSw; (try dsimp only at hSw); go_simp)
  simp only [Act.put, List.setIfInBounds_toArray, List.set_cons_zero, List.set_cons_succ]
  refine take_dst (i := 12) (d := 17) (v := .int .i64 bu) rfl rfl (by kernel_rfl) (by kernel_rfl) (by kernel_rfl) (fun _ _ _ h => h) (Or.inl ⟨by rfl, ?_⟩) hHeld ?_
  · (intro w0 hSw; (try dsimp only at hSw); go_simp)
  simp only [Act.put, List.setIfInBounds_toArray, List.set_cons_zero, List.set_cons_succ]
  refine wpAnyH_ready (rs := [6]) (by kernel_rfl) (by simp) (AllReadyH.cons rfl (fun K hK => ?_) AllReadyH.nil)
  refine step_calls_dst rfl 11 rfl 77 [.tmp 7, .tmp 10] #[3, 3] rfl [.int .i64 rd, .int .i64 sd] rfl (enters_of Tryd.func77 (by kernel_rfl) rfl) (fun v w' => v = .int .i64 r0 ∧ W0.drew = w') (H0.mono (fun e w2 h => ⟨_, h.1, rfl, h.2⟩)) ?_
  rintro v w2 ⟨rfl, rfl⟩
  refine hK.out _ _ ⟨k0, k1, l0, l1⟩ (fun hHeld => ?_)
  simp only [Act.put, List.setIfInBounds_toArray, List.set_cons_zero, List.set_cons_succ]
  refine wpAnyH_ready (rs := [13]) (by kernel_rfl) (by simp) (AllReadyH.cons rfl (fun K hK => ?_) AllReadyH.nil)
  refine step_calls_dst rfl 18 rfl 77 [.tmp 14, .tmp 17] #[3, 3] rfl [.int .i64 au, .int .i64 bu] rfl (enters_of Tryd.func77 (by kernel_rfl) rfl) (fun v w' => v = .int .i64 r1 ∧ W0.drew = w') (H1.mono (fun e w2 h => ⟨_, h.1, rfl, h.2⟩)) ?_
  rintro v w2 ⟨rfl, rfl⟩
  refine hK.out _ _ ⟨k0, k1, l0, l1⟩ (fun hHeld => ?_)
  simp only [Act.put, List.setIfInBounds_toArray, List.set_cons_zero, List.set_cons_succ]
  refine wpAnyH_ready (rs := [14]) (by kernel_rfl) (by simp) (AllReadyH.cons rfl (fun K hK => ?_) AllReadyH.nil)
  refine step_run rfl 19 rfl (.slice (some ⟨W0.heap.size, 0, none⟩) 2 2) (W0.drew.alloc (.cells #[.int .i64 r0, .int .i64 r1] 3)) (by go_simp) ?_
  have m0 := heap_keep (o := .cells #[.int .i64 r0, .int .i64 r1] 3) (w := W0.drew) q0
  have m1 := heap_keep (o := .cells #[.int .i64 r0, .int .i64 r1] 3) (w := W0.drew) q1
  have m2 := heap_alloc_new W0.drew (.cells #[.int .i64 r0, .int .i64 r1] 3)
  have hG2 := (hG.drew).alloc (.cells #[.int .i64 r0, .int .i64 r1] 3)
  have HO := cmpOr_any [r0, r1] W0.heap.size 0 2 (W0.drew.alloc (.cells #[.int .i64 r0, .int .i64 r1] 3)) (by simp) (by
    intro j hj
    have hj : j < 2 := hj
    match j, hj with
    | 0, _ => exact cells_at m2 0 _ rfl
    | 1, _ => exact cells_at m2 1 _ rfl)
  generalize W0.drew.alloc (.cells #[.int .i64 r0, .int .i64 r1] 3) = W1 at m0 m1 m2 hG2 HO ⊢
  have n0 := cells_at m0 0 _ rfl
  have n1 := cells_at m0 1 _ rfl
  have o0 := cells_at m1 0 _ rfl
  have o1 := cells_at m1 1 _ rfl
  rw [← HC.out] at HO
  refine hK.out _ _ ⟨n0, n1, o0, o1⟩ (fun hHeld => ?_)
  simp only [Act.put, List.setIfInBounds_toArray, List.set_cons_zero, List.set_cons_succ]
  refine wpAnyH_ready (rs := [15]) (by kernel_rfl) (by simp) (AllReadyH.cons rfl (fun K hK => ?_) AllReadyH.nil)
  refine step_calls_dst rfl 20 rfl 76 [.tmp 19] #[61] rfl [.slice (some ⟨W0.heap.size, 0, none⟩) 2 2] rfl (enters_of Tryd.func76 (by kernel_rfl) rfl) (fun v w' => v = .int .i64 (cmpRA (rd, au) (sd, bu)) ∧ W1 = w') (HO.mono (fun e w2 h => ⟨_, h.1, rfl, h.2⟩)) ?_
  rintro v w2 ⟨rfl, rfl⟩
  refine hK.out _ _ ⟨n0, n1, o0, o1⟩ (fun hHeld => ?_)
  simp only [Act.put, List.setIfInBounds_toArray, List.set_cons_zero, List.set_cons_succ]
  generalize hr : cmpRA (rd, au) (sd, bu) = r
  have HR : Hid (cmpRA (rd, au) (sd, bu) = r) := hr
  clear hr
  refine wpAnyH_ready (rs := [16]) (by kernel_rfl) (by simp) (AllReadyH.cons rfl (fun K hK => ?_) AllReadyH.nil)
  refine step_run rfl 4 rfl (.int .i64 r) W1 (by go_simp) ?_
  refine hK.out _ _ ⟨n0, n1, o0, o1⟩ (fun hHeld => ?_)
  simp only [Act.put, List.setIfInBounds_toArray, List.set_cons_zero, List.set_cons_succ]
  refine wpAnyH_done (by kernel_rfl) ?_ _
  go_wp2_with fail
  go_ret
  exact ⟨ret_int HR.out.symm, hG2⟩
end Go.Proofs.YtbmodfegcmaieaaDoor
