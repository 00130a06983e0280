/- The walk of SealSigned. -/
import Derived.Test.YtdjaafnghlcjbaaCSgd
import Derived.Test.YtdjaafnghlcjbaaRSgd
import Derived.Test.YtdjaafnghlcjbaaGCopy
import Derived.Test.YtdjaafnghlcjbaaOpenG
namespace Go.Proofs.Ytdjaafnghlcjbaa
open Go.RowKit

set_option maxRecDepth 100000 in
set_option maxHeartbeats 2000000 in
theorem sealSigned_walk (sa : Option Addr) (cap : Nat) (ls : List Sg) (bad nd au rd : Int) (ta : Option Addr) (tc : Nat) (bs : List Int) (w : World) (ht : GRead w sa cap ls) (_h : ∀ s ∈ ls, I64 s.nd ∧ I64 s.au ∧ I64 s.rd) (_lo : -9223372036854775808 ≤ bad) (_hi : bad ≤ 9223372036854775807) (_h0 : I64 nd) (_h1 : I64 au) (_h2 : I64 rd) (hs : SliceAt w ta tc bs) (hu : AllU8 bs) (_hc : tc ≤ 140737488351232) :
    Calls Try.prog 5 #[.slice sa ls.length cap, .int .i64 bad, .agg #[.int .i64 nd, .int .i64 au, .int .i64 rd, .slice ta bs.length tc]] w fun e w' => e = .returned (.bool true) ∧ Below w.heap.size w w' := by
  have hA := (Below.refl w.heap.size w).alloc (Nat.le_refl _) (.cells #[.int .i64 nd, .int .i64 au, .int .i64 rd, .slice ta bs.length tc] 31)
  have r0 := heap_alloc_new w (.cells #[.int .i64 nd, .int .i64 au, .int .i64 rd, .slice ta bs.length tc] 31)
  go_enter Try.func5, Try.ntmps5
  go_wp2_with fail
  generalize w.alloc (.cells #[.int .i64 nd, .int .i64 au, .int .i64 rd, .slice ta bs.length tc] 31) = W0 at hA r0 ⊢
  have c0 := cells_at r0 0 _ rfl
  have c1 := cells_at r0 1 _ rfl
  have c2 := cells_at r0 2 _ rfl
  have c3 := cells_at r0 3 _ rfl
  have hblt := lt_of_heap r0
  have hD : Below W0.heap.size W0 W0.drew := (Below.refl _ _).drew
  refine wp_region_held_drew (S := (fun w' => w'.cell? ⟨w.heap.size, 0, none⟩ = some (.int .i64 nd) ∧ w'.cell? ⟨w.heap.size, 1, none⟩ = some (.int .i64 au) ∧ w'.cell? ⟨w.heap.size, 2, none⟩ = some (.int .i64 rd) ∧ w'.cell? ⟨w.heap.size, 3, none⟩ = some (.slice ta bs.length tc))) (by kernel_rfl) ⟨c0, c1, c2, c3⟩ (fun hHeld => ?_)
  refine take_dst (i := 0) (d := 12) (v := .slice sa ls.length cap) rfl rfl (by kernel_rfl) (by kernel_rfl) (by kernel_rfl) (fun _ _ _ h => h) (Or.inl ⟨by rfl, ?_⟩) hHeld ?_
  · (intro w0 hSw; (try dsimp only at hSw); go_simp)
  simp only [Act.put, List.setIfInBounds_toArray, List.set_cons_zero, List.set_cons_succ]
  refine take_dst (i := 2) (d := 14) (v := .int .i64 bad) rfl rfl (by kernel_rfl) (by kernel_rfl) (by kernel_rfl) (fun _ _ _ h => h) (Or.inl ⟨by rfl, ?_⟩) hHeld ?_
  · (intro w0 hSw; (try dsimp only at hSw); go_simp)
  simp only [Act.put, List.setIfInBounds_toArray, List.set_cons_zero, List.set_cons_succ]
  refine take_dst (i := 3) (d := 15) (v := .agg #[.int .i64 nd, .int .i64 au, .int .i64 rd, .slice ta bs.length tc]) rfl rfl (by kernel_rfl) (by kernel_rfl) (by kernel_rfl) (fun _ _ _ h => h) (Or.inl ⟨by rfl, ?_⟩) hHeld ?_
  · (intro w0 hSw; (try dsimp only at hSw); go_simp)
  simp only [Act.put, List.setIfInBounds_toArray, List.set_cons_zero, List.set_cons_succ]
  refine wpAnyH_ready (rs := [1]) (by kernel_rfl) (by simp) (AllReadyH.cons rfl (fun K hK => ?_) AllReadyH.nil)
  refine step_calls_dst rfl 13 rfl 7 [.tmp 12] #[22] rfl [.slice sa ls.length cap] rfl (enters_of Try.func7 (by kernel_rfl) rfl) (fun v w' => ∃ ra rc ks, v = .slice ra ls.length rc ∧ gvs ks = gvs ls ∧ GTab w' ra rc ks ∧ Below W0.heap.size W0 w') ((signsCopy_any ls sa _ cap W0.drew rfl ((ht.below hA).below hD)).mono (fun e w2 ⟨ra, rc, ks, he, hS, hT, hb, _⟩ => ⟨_, he, ra, rc, ks, rfl, hS, hT, below_drew hb⟩)) ?_
  rintro v w1 ⟨ra, rc, ks, rfl, hS, hT1, hbB⟩
  refine hK.out _ _ ⟨(hbB.cell (p := ⟨w.heap.size, 0, none⟩) hblt).trans c0, (hbB.cell (p := ⟨w.heap.size, 1, none⟩) hblt).trans c1, (hbB.cell (p := ⟨w.heap.size, 2, none⟩) hblt).trans c2, (hbB.cell (p := ⟨w.heap.size, 3, none⟩) hblt).trans c3⟩ (fun hHeld => ?_)
  simp only [Act.put, List.setIfInBounds_toArray, List.set_cons_zero, List.set_cons_succ]
  have hlen : ls.length = ks.length := by have := congrArg List.length hS; rw [gvs_length, gvs_length] at this; exact this.symm
  have hB1 := hA.trans (hbB.mono hA.size)
  have HC := signed_any ks ra _ rc bad ⟨nd, au, rd, ⟨ta, tc, bs⟩⟩ w1 hlen hT1.small hT1.slots ⟨hs.below hB1, hu⟩
  rw [hS] at HC
  have HR := fun W (hW : Below w.heap.size w W) => signedBy_any ls sa _ cap bad ⟨nd, au, rd, ⟨ta, tc, bs⟩⟩ W rfl (ht.tab.below hW) ⟨hs.below hW, hu⟩
  generalize (signedF (gvs ls) bad (Sg.v ⟨nd, au, rd, ⟨ta, tc, bs⟩⟩)).1 = x at HC HR
  generalize (signedF (gvs ls) bad (Sg.v ⟨nd, au, rd, ⟨ta, tc, bs⟩⟩)).2 = y at HC HR
  clear hlen hS hT1
  refine wpAnyH_ready (rs := [4]) (by kernel_rfl) (by simp) (AllReadyH.cons rfl (fun K hK => ?_) AllReadyH.nil)
  refine step_calls_dst rfl 16 rfl 12 [.tmp 13, .tmp 14, .tmp 15] #[22, 3, 31] rfl [.slice ra ls.length rc, .int .i64 bad, .agg #[.int .i64 nd, .int .i64 au, .int .i64 rd, .slice ta bs.length tc]] rfl (enters_of Try.func12 (by kernel_rfl) rfl) (fun v w' => v = .tuple #[.bool x, .int .i64 y] ∧ Below w1.heap.size w1 w') (HC.mono (fun e w2 h => ⟨_, h.1, rfl, h.2⟩)) ?_
  rintro v w2 ⟨rfl, hbC⟩
  replace hbC := hbB.trans (hbC.mono hbB.size)
  have r2 := (hbC.block _ hblt).trans r0
  refine hK.out _ _ ⟨cells_at r2 0 _ rfl, cells_at r2 1 _ rfl, cells_at r2 2 _ rfl, cells_at r2 3 _ rfl⟩ (fun hHeld => ?_)
  simp only [Act.put, List.setIfInBounds_toArray, List.set_cons_zero, List.set_cons_succ]
  refine take_dst (i := 5) (d := 11) (v := .tuple #[.bool x, .int .i64 y]) rfl rfl (by kernel_rfl) (by kernel_rfl) (by kernel_rfl) (fun _ _ _ h => h) (Or.inl ⟨by rfl, ?_⟩) hHeld ?_
  · (intro w0 hSw; (try dsimp only at hSw); go_simp)
  simp only [Act.put, List.setIfInBounds_toArray, List.set_cons_zero, List.set_cons_succ]
  refine take_dst (i := 6) (d := 17) (v := .bool x) rfl rfl (by kernel_rfl) (by kernel_rfl) (by kernel_rfl) (fun _ _ _ h => h) (Or.inl ⟨by rfl, ?_⟩) hHeld ?_
  · (intro w0 hSw; (try dsimp only at hSw); go_simp)
  simp only [Act.put, List.setIfInBounds_toArray, List.set_cons_zero, List.set_cons_succ]
  refine take_dst (i := 7) (d := 18) (v := .int .i64 y) rfl rfl (by kernel_rfl) (by kernel_rfl) (by kernel_rfl) (fun _ _ _ h => h) (Or.inl ⟨by rfl, ?_⟩) hHeld ?_
  · (intro w0 hSw; (try dsimp only at hSw); go_simp)
  simp only [Act.put, List.setIfInBounds_toArray, List.set_cons_zero, List.set_cons_succ]
  refine take_dst (i := 8) (d := 7) (v := .bool x) rfl rfl (by kernel_rfl) (by kernel_rfl) (by kernel_rfl) (fun _ _ _ h => h) (Or.inl ⟨by rfl, ?_⟩) hHeld ?_
  · (intro w0 hSw; (try dsimp only at hSw); go_simp)
  simp only [Act.put, List.setIfInBounds_toArray, List.set_cons_zero, List.set_cons_succ]
  refine take_dst (i := 9) (d := 8) (v := .int .i64 y) rfl rfl (by kernel_rfl) (by kernel_rfl) (by kernel_rfl) (fun _ _ _ h => h) (Or.inl ⟨by rfl, ?_⟩) hHeld ?_
  · (intro w0 hSw; (try dsimp only at hSw); go_simp)
  simp only [Act.put, List.setIfInBounds_toArray, List.set_cons_zero, List.set_cons_succ]
  refine wpAnyH_done (by kernel_rfl) ?_ _
  have hB2 := hA.trans (hbC.mono hA.size)
  clear c0 c1 c2 c3 hHeld HC
  have c0 := cells_at r2 0 _ rfl
  have c1 := cells_at r2 1 _ rfl
  have c2 := cells_at r2 2 _ rfl
  have c3 := cells_at r2 3 _ rfl
  go_wp2_with fail
  refine (HR w2 hB2).mono ?_
  rintro e w3 ⟨he, hb3⟩
  subst he
  dsimp only
  clear HR
  go_wp2_with fail
  go_ret
  exact ⟨by simp, hB2.trans (hb3.mono hB2.size)⟩
end Go.Proofs.Ytdjaafnghlcjbaa
