/- sheaveslaw.sameSigns of signs that are the same. -/
import Derived.Test.YtdjaafnghlcjbaaSignsL
import Derived.Test.YtdjaafnghlcjbaaSameS1
import Derived.Test.YtdjaafnghlcjbaaCalls
namespace Go.Proofs.Ytdjaafnghlcjbaa
open Go.RowKit

set_option maxRecDepth 100000 in
set_option maxHeartbeats 2000000 in
theorem sameSignsL_eq (ls ks : List Sg) (sa sb : Option Addr) (n m c d : Nat) (w : World) (hn : n = ls.length) (hm : m = ls.length) (hl : ls.length ≤ 2932031007400) (hv : gvs ks = gvs ls) (ha : SignsAt w sa ls) (hb : SignsAt w sb ks) :
    Calls Try.prog 11 #[.slice sa n c, .slice sb m d] w fun e w' => e = .returned (.bool true) ∧ Below w.heap.size w w' := by
  subst hn hm
  have hlen : ks.length = ls.length := by have := congrArg List.length hv; rw [gvs_length, gvs_length] at this; exact this
  have HV : Hid (gvs ks = gvs ls) := hv
  have HL : Hid (ks.length = ls.length) := hlen
  clear hv hlen
  go_enter Try.func11, Try.ntmps11
  go_wp2_with fail
  go_loopw [5] (fun i wr => ∃ k : Nat, k ≤ ls.length ∧ i = .int .i64 k ∧ Below w.heap.size w wr) (fun i _ => ls.length - (intOf i).toNat)
  case atStart => exact ⟨0, Nat.zero_le _, rfl, Below.refl _ _⟩
  case round =>
    obtain ⟨k, hk, rfl, hbw⟩ := hrel
    by_cases hlt : k < ls.length
    · have hlt2 : k < ks.length := by rw [HL.out]; exact hlt
      have hpa := ha.below hbw
      have hpb := hb.below hbw
      obtain ⟨ab, ao, rfl, hca⟩ : ∃ sb so, sa = some ⟨sb, so, none⟩ ∧ ∀ j (h : j < ls.length), wr.cell? ⟨sb, so + j * 4, none⟩ = some (.int .i64 (ls[j]).nd) ∧ wr.cell? ⟨sb, so + j * 4 + 1, none⟩ = some (.int .i64 (ls[j]).au) ∧ wr.cell? ⟨sb, so + j * 4 + 2, none⟩ = some (.int .i64 (ls[j]).rd) ∧ wr.cell? ⟨sb, so + j * 4 + 3, none⟩ = some (.slice (ls[j]).p.sa (ls[j]).p.bs.length (ls[j]).p.cap) := by
        rcases hpa.cells with h | h
        · rw [h] at hlt; simp at hlt
        · exact h
      obtain ⟨bb, bo, rfl, hcb⟩ : ∃ sb' so, sb = some ⟨sb', so, none⟩ ∧ ∀ j (h : j < ks.length), wr.cell? ⟨sb', so + j * 4, none⟩ = some (.int .i64 (ks[j]).nd) ∧ wr.cell? ⟨sb', so + j * 4 + 1, none⟩ = some (.int .i64 (ks[j]).au) ∧ wr.cell? ⟨sb', so + j * 4 + 2, none⟩ = some (.int .i64 (ks[j]).rd) ∧ wr.cell? ⟨sb', so + j * 4 + 3, none⟩ = some (.slice (ks[j]).p.sa (ks[j]).p.bs.length (ks[j]).p.cap) := by
        rcases hpb.cells with h | h
        · rw [h] at hlt2; simp at hlt2
        · exact h
      obtain ⟨c0, c1, c2, c3⟩ := hca k hlt
      obtain ⟨d0, d1, d2, d3⟩ := hcb k hlt2
      have hx := (hpa.each (ls[k]) (List.getElem_mem hlt)).1
      have hy := (hpb.each (ks[k]) (List.getElem_mem hlt2)).1
      have hvk : (ks[k]).v = (ls[k]).v := by
        rw [← gvs_get ks k (by rw [gvs_length]; exact hlt2), ← gvs_get ls k (by rw [gvs_length]; exact hlt)]
        simp only [HV.out]
      have hltI : (k : Int) < ls.length := by omega
      clear hca hcb hpa hpb
      generalize ls[k] = s at *
      generalize ks[k] = t at *
      obtain ⟨nd', au', rd', ⟨xa, xc, bs'⟩⟩ := s
      obtain ⟨nd, au, rd, ⟨ya, yc, bs⟩⟩ := t
      simp only [Sg.v, Prod.mk.injEq] at hvk
      obtain ⟨rfl, rfl, rfl, rfl⟩ := hvk
      have hab : ab < wr.heap.size := block_lt_of_cell c0
      have hbb : bb < wr.heap.size := block_lt_of_cell d0
      dsimp only at *
      have HS := sameSlotL_eq au rd bs xa ya _ _ xc yc wr.drew rfl rfl (hx.below ((Below.refl _ _).drew)) (hy.below ((Below.refl _ _).drew))
      go_wp2_with fail
      refine wp_region_held_drew (S := (fun w' => w'.cell? ⟨ab, ao + k * 4, none⟩ = some (.int .i64 nd) ∧ w'.cell? ⟨ab, ao + k * 4 + 1, none⟩ = some (.int .i64 au) ∧ w'.cell? ⟨ab, ao + k * 4 + 2, none⟩ = some (.int .i64 rd) ∧ w'.cell? ⟨ab, ao + k * 4 + 3, none⟩ = some (.slice xa bs.length xc) ∧ w'.cell? ⟨bb, bo + k * 4, none⟩ = some (.int .i64 nd) ∧ w'.cell? ⟨bb, bo + k * 4 + 1, none⟩ = some (.int .i64 au) ∧ w'.cell? ⟨bb, bo + k * 4 + 2, none⟩ = some (.int .i64 rd) ∧ w'.cell? ⟨bb, bo + k * 4 + 3, none⟩ = some (.slice ya bs.length yc))) (by kernel_rfl) ⟨c0, c1, c2, c3, d0, d1, d2, d3⟩ (fun hHeld => ?_)
      refine take_dst (i := 0) (d := 17) (v := .slice (some ⟨ab, ao, none⟩) ls.length c) rfl rfl (by kernel_rfl) (by kernel_rfl) (by kernel_rfl) (fun _ _ _ h => h) (Or.inl ⟨by rfl, ?_⟩) hHeld ?_
      · (intro w0 hSw; (try dsimp only at hSw); go_simp)
      simp only [Act.put, List.setIfInBounds_toArray, List.set_cons_zero, List.set_cons_succ]
      refine take_dst (i := 1) (d := 18) (v := .int .i64 k) rfl rfl (by kernel_rfl) (by kernel_rfl) (by kernel_rfl) (fun _ _ _ h => h) (Or.inl ⟨by rfl, ?_⟩) hHeld ?_
      · (intro w0 hSw; (try dsimp only at hSw); go_simp)
      simp only [Act.put, List.setIfInBounds_toArray, List.set_cons_zero, List.set_cons_succ]
      refine take_dst (i := 2) (d := 19) (v := .pointer (some ⟨ab, ao + k * 4, none⟩)) rfl rfl (by kernel_rfl) (by kernel_rfl) (by kernel_rfl) (fun _ _ _ h => h) (Or.inl ⟨by rfl, ?_⟩) hHeld ?_
      · (intro w0 hSw; (try dsimp only at hSw); go_simp)
      simp only [Act.put, List.setIfInBounds_toArray, List.set_cons_zero, List.set_cons_succ]
      refine take_dst (i := 3) (d := 20) (v := .pointer (some ⟨ab, ao + k * 4, none⟩)) rfl rfl (by kernel_rfl) (by kernel_rfl) (by kernel_rfl) (fun _ _ _ h => h) (Or.inl ⟨by rfl, ?_⟩) hHeld ?_
      · (intro w0 hSw; (try dsimp only at hSw); go_simp)
      simp only [Act.put, List.setIfInBounds_toArray, List.set_cons_zero, List.set_cons_succ]
      refine take_dst (i := 4) (d := 21) (v := .int .i64 nd) rfl rfl (by kernel_rfl) (by kernel_rfl) (by kernel_rfl) (fun _ _ _ h => h) (Or.inl ⟨by rfl, ?_⟩) hHeld ?_
      · (intro w0 hSw; (try dsimp only at hSw); go_simp)
      simp only [Act.put, List.setIfInBounds_toArray, List.set_cons_zero, List.set_cons_succ]
      refine take_dst (i := 5) (d := 22) (v := .slice (some ⟨bb, bo, none⟩) ls.length d) rfl rfl (by kernel_rfl) (by kernel_rfl) (by kernel_rfl) (fun _ _ _ h => h) (Or.inl ⟨by rfl, ?_⟩) hHeld ?_
      · (intro w0 hSw; (try dsimp only at hSw); go_simp)
      simp only [Act.put, List.setIfInBounds_toArray, List.set_cons_zero, List.set_cons_succ]
      refine take_dst (i := 6) (d := 23) (v := .int .i64 k) rfl rfl (by kernel_rfl) (by kernel_rfl) (by kernel_rfl) (fun _ _ _ h => h) (Or.inl ⟨by rfl, ?_⟩) hHeld ?_
      · (intro w0 hSw; (try dsimp only at hSw); go_simp)
      simp only [Act.put, List.setIfInBounds_toArray, List.set_cons_zero, List.set_cons_succ]
      refine take_dst (i := 7) (d := 24) (v := .pointer (some ⟨bb, bo + k * 4, none⟩)) rfl rfl (by kernel_rfl) (by kernel_rfl) (by kernel_rfl) (fun _ _ _ h => h) (Or.inl ⟨by rfl, ?_⟩) hHeld ?_
      · (intro w0 hSw; (try dsimp only at hSw); go_simp)
      simp only [Act.put, List.setIfInBounds_toArray, List.set_cons_zero, List.set_cons_succ]
      refine take_dst (i := 8) (d := 25) (v := .pointer (some ⟨bb, bo + k * 4, none⟩)) rfl rfl (by kernel_rfl) (by kernel_rfl) (by kernel_rfl) (fun _ _ _ h => h) (Or.inl ⟨by rfl, ?_⟩) hHeld ?_
      · (intro w0 hSw; (try dsimp only at hSw); go_simp)
      simp only [Act.put, List.setIfInBounds_toArray, List.set_cons_zero, List.set_cons_succ]
      refine take_dst (i := 9) (d := 26) (v := .int .i64 nd) rfl rfl (by kernel_rfl) (by kernel_rfl) (by kernel_rfl) (fun _ _ _ h => h) (Or.inl ⟨by rfl, ?_⟩) hHeld ?_
      · (intro w0 hSw; (try dsimp only at hSw); go_simp)
      simp only [Act.put, List.setIfInBounds_toArray, List.set_cons_zero, List.set_cons_succ]
      refine take_dst (i := 10) (d := 27) (v := .bool false) rfl rfl (by kernel_rfl) (by kernel_rfl) (by kernel_rfl) (fun _ _ _ h => h) (Or.inl ⟨by rfl, ?_⟩) hHeld ?_
      · (intro w0 hSw; (try dsimp only at hSw); go_simp)
      simp only [Act.put, List.setIfInBounds_toArray, List.set_cons_zero, List.set_cons_succ]
      refine take_dst (i := 11) (d := 28) (v := .bool false) rfl rfl (by kernel_rfl) (by kernel_rfl) (by kernel_rfl) (fun _ _ _ h => h) (Or.inl ⟨by rfl, ?_⟩) hHeld ?_
      · (intro w0 hSw; (try dsimp only at hSw); go_simp)
      simp only [Act.put, List.setIfInBounds_toArray, List.set_cons_zero, List.set_cons_succ]
      refine take_dst (i := 12) (d := 29) (v := .slice (some ⟨ab, ao, none⟩) ls.length c) rfl rfl (by kernel_rfl) (by kernel_rfl) (by kernel_rfl) (fun _ _ _ h => h) (Or.inl ⟨by rfl, ?_⟩) hHeld ?_
      · (intro w0 hSw; (try dsimp only at hSw); go_simp)
      simp only [Act.put, List.setIfInBounds_toArray, List.set_cons_zero, List.set_cons_succ]
      refine take_dst (i := 13) (d := 30) (v := .int .i64 k) rfl rfl (by kernel_rfl) (by kernel_rfl) (by kernel_rfl) (fun _ _ _ h => h) (Or.inl ⟨by rfl, ?_⟩) hHeld ?_
      · (intro w0 hSw; (try dsimp only at hSw); go_simp)
      simp only [Act.put, List.setIfInBounds_toArray, List.set_cons_zero, List.set_cons_succ]
      refine take_dst (i := 14) (d := 31) (v := .pointer (some ⟨ab, ao + k * 4, none⟩)) rfl rfl (by kernel_rfl) (by kernel_rfl) (by kernel_rfl) (fun _ _ _ h => h) (Or.inl ⟨by rfl, ?_⟩) hHeld ?_
      · (intro w0 hSw; (try dsimp only at hSw); go_simp)
      simp only [Act.put, List.setIfInBounds_toArray, List.set_cons_zero, List.set_cons_succ]
      refine take_dst (i := 15) (d := 32) (v := .pointer (some ⟨ab, ao + k * 4 + 1, none⟩)) rfl rfl (by kernel_rfl) (by kernel_rfl) (by kernel_rfl) (fun _ _ _ h => h) (Or.inl ⟨by rfl, ?_⟩) hHeld ?_
      · (intro w0 hSw; (try dsimp only at hSw); go_simp)
      simp only [Act.put, List.setIfInBounds_toArray, List.set_cons_zero, List.set_cons_succ]
      refine take_dst (i := 16) (d := 33) (v := .agg #[.int .i64 au, .int .i64 rd, .slice xa bs.length xc]) rfl rfl (by kernel_rfl) (by kernel_rfl) (by kernel_rfl) (fun _ _ _ h => h) (Or.inl ⟨by rfl, ?_⟩) hHeld ?_
      · (intro w0 hSw; (try dsimp only at hSw); go_simp)
      simp only [Act.put, List.setIfInBounds_toArray, List.set_cons_zero, List.set_cons_succ]
      refine take_dst (i := 17) (d := 34) (v := .slice (some ⟨bb, bo, none⟩) ls.length d) rfl rfl (by kernel_rfl) (by kernel_rfl) (by kernel_rfl) (fun _ _ _ h => h) (Or.inl ⟨by rfl, ?_⟩) hHeld ?_
      · (intro w0 hSw; (try dsimp only at hSw); go_simp)
      simp only [Act.put, List.setIfInBounds_toArray, List.set_cons_zero, List.set_cons_succ]
      refine take_dst (i := 18) (d := 35) (v := .int .i64 k) rfl rfl (by kernel_rfl) (by kernel_rfl) (by kernel_rfl) (fun _ _ _ h => h) (Or.inl ⟨by rfl, ?_⟩) hHeld ?_
      · (intro w0 hSw; (try dsimp only at hSw); go_simp)
      simp only [Act.put, List.setIfInBounds_toArray, List.set_cons_zero, List.set_cons_succ]
      refine take_dst (i := 19) (d := 36) (v := .pointer (some ⟨bb, bo + k * 4, none⟩)) rfl rfl (by kernel_rfl) (by kernel_rfl) (by kernel_rfl) (fun _ _ _ h => h) (Or.inl ⟨by rfl, ?_⟩) hHeld ?_
      · (intro w0 hSw; (try dsimp only at hSw); go_simp)
      simp only [Act.put, List.setIfInBounds_toArray, List.set_cons_zero, List.set_cons_succ]
      refine take_dst (i := 20) (d := 37) (v := .pointer (some ⟨bb, bo + k * 4 + 1, none⟩)) rfl rfl (by kernel_rfl) (by kernel_rfl) (by kernel_rfl) (fun _ _ _ h => h) (Or.inl ⟨by rfl, ?_⟩) hHeld ?_
      · (intro w0 hSw; (try dsimp only at hSw); go_simp)
      simp only [Act.put, List.setIfInBounds_toArray, List.set_cons_zero, List.set_cons_succ]
      refine take_dst (i := 21) (d := 38) (v := .agg #[.int .i64 au, .int .i64 rd, .slice ya bs.length yc]) rfl rfl (by kernel_rfl) (by kernel_rfl) (by kernel_rfl) (fun _ _ _ h => h) (Or.inl ⟨by rfl, ?_⟩) hHeld ?_
      · (intro w0 hSw; (try dsimp only at hSw); go_simp)
      simp only [Act.put, List.setIfInBounds_toArray, List.set_cons_zero, List.set_cons_succ]
      refine wpAnyH_ready (rs := [22]) (by kernel_rfl) (by simp) (AllReadyH.cons rfl (fun K hK => ?_) AllReadyH.nil)
      refine step_calls_on (by rfl) 39 rfl 23 [.tmp 33, .tmp 38] #[29, 29] rfl [.agg #[.int .i64 au, .int .i64 rd, .slice xa bs.length xc], .agg #[.int .i64 au, .int .i64 rd, .slice ya bs.length yc]] rfl (enters_of Try.func23 (by kernel_rfl) rfl) (fun v w' => v = .bool true ∧ Below wr.heap.size wr w') (HS.mono (fun e w2 h => ⟨_, h.1, rfl, below_drew h.2⟩)) ?_
      rintro v w2 ⟨rfl, hbB⟩
      refine hK.out _ _ ⟨(hbB.cell (p := ⟨ab, ao + k * 4, none⟩) hab).trans c0, (hbB.cell (p := ⟨ab, ao + k * 4 + 1, none⟩) hab).trans c1, (hbB.cell (p := ⟨ab, ao + k * 4 + 2, none⟩) hab).trans c2, (hbB.cell (p := ⟨ab, ao + k * 4 + 3, none⟩) hab).trans c3, (hbB.cell (p := ⟨bb, bo + k * 4, none⟩) hbb).trans d0, (hbB.cell (p := ⟨bb, bo + k * 4 + 1, none⟩) hbb).trans d1, (hbB.cell (p := ⟨bb, bo + k * 4 + 2, none⟩) hbb).trans d2, (hbB.cell (p := ⟨bb, bo + k * 4 + 3, none⟩) hbb).trans d3⟩ (fun hHeld => ?_)
      simp only [Act.put, List.setIfInBounds_toArray, List.set_cons_zero, List.set_cons_succ]
      refine take_dst (i := 23) (d := 40) (v := .bool false) rfl rfl (by kernel_rfl) (by kernel_rfl) (by kernel_rfl) (fun _ _ _ h => h) (Or.inl ⟨by rfl, ?_⟩) hHeld ?_
      · (intro w0 hSw; (try dsimp only at hSw); go_simp)
      simp only [Act.put, List.setIfInBounds_toArray, List.set_cons_zero, List.set_cons_succ]
      refine take_dst (i := 24) (d := 41) (v := .bool false) rfl rfl (by kernel_rfl) (by kernel_rfl) (by kernel_rfl) (fun _ _ _ h => h) (Or.inl ⟨by rfl, ?_⟩) hHeld ?_
      · (intro w0 hSw; (try dsimp only at hSw); go_simp)
      simp only [Act.put, List.setIfInBounds_toArray, List.set_cons_zero, List.set_cons_succ]
      refine wpAnyH_done (by kernel_rfl) ?_ _
      go_wp2_with fail
      go_roundw
      case rel => exact ⟨k + 1, by omega, by go_num, hbw.trans (hbB.mono hbw.size)⟩
      case measure => simp [intOf]; omega
    · obtain rfl : k = ls.length := by omega
      go_wp2_with fail
      go_ret
      exact ⟨rfl, hbw⟩
end Go.Proofs.Ytdjaafnghlcjbaa
