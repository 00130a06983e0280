/- The document's PoolFault: what it answers, for every pool. -/
import Derived.Test.YtikolpdedmhljaaRInT
import Derived.Test.YtikolpdedmhljaaRIn
import Derived.Test.YtikolpdedmhljaaPChk
import Derived.Test.YtikolpdedmhljaaCalls
import Derived.Deep.RegionHeld3
namespace Go.Proofs.Ytikolpdedmhljaa
open Go.RowKit

set_option maxRecDepth 100000 in
set_option maxHeartbeats 2000000 in
theorem poolFault_any (nx : Int) (sa : Option Addr) (n cap : Nat) (ss : List ByteArray) (w : World) (hn : n = ss.length) (hs : TxsAt w sa cap ss) :
    Calls Try.prog 15 #[.agg #[.int .i64 nx, .slice sa n cap]] w fun e w' => e = .returned (.int .i64 (poolF nx ss)) ∧ Below w.heap.size w w' := by
  subst hn
  have hle := hs.le
  have hmx := hs.max
  unfold maxLen at hmx
  by_cases ha : 1 ≤ nx ∧ nx ≤ 1048577
  · by_cases hl : 40 < ss.length
    · have hF : Hid (poolF nx ss = 12) := by show _ = _; rw [poolF, if_pos (.inr hl)]
      have hlI : (40 : Int) < ss.length := by omega
      go_enter Try.func15, Try.ntmps15
      go_wp2_with (go_at_call 30; refine (in_true _ _ _ _ (by omega)).mono ?_; rintro e w' ⟨rfl, rfl⟩)
      go_ret
      exact ⟨ret_int hF.out.symm, (Below.refl _ _).alloc (Nat.le_refl _) _⟩
    · have hF : Hid (poolF nx ss = if poolOk ss = true then 0 else 12) := by show _ = _; rw [poolF, if_neg (by simp [ha]; omega)]
      have hlI : ¬ (40 : Int) < ss.length := by omega
      have hA : Below w.heap.size w (w.alloc (.cells #[.int .i64 nx, .slice sa ss.length cap] 24)) := (Below.refl _ _).alloc (Nat.le_refl _) _
      have r0 := heap_alloc_new w (.cells #[.int .i64 nx, .slice sa ss.length cap] 24)
      go_enter Try.func15, Try.ntmps15
      go_wp2_with (go_at_call 30; refine (in_true _ _ _ _ (by omega)).mono ?_; rintro e w' ⟨rfl, rfl⟩)
      go_loopw [3] (fun i wr => ∃ k : Nat, k ≤ ss.length ∧ i = .int .i64 k ∧ Hid (∀ q, q < k → txOk (ss.getD q ByteArray.empty) = true ∧ ss.getD q ByteArray.empty ∉ ss.take q) ∧ Below w.heap.size w wr ∧ wr.heap[w.heap.size]? = some (.cells #[.int .i64 nx, .slice sa ss.length cap] 24 (0, 0))) (fun i _ => ss.length - (intOf i).toNat)
      case atStart => exact ⟨0, Nat.zero_le _, rfl, by show ∀ _, _; intro q hq; omega, hA, r0⟩
      case round =>
        clear hA r0
        obtain ⟨k, hk, rfl, hall, hA, r0⟩ := hrel
        have c1 : wr.cell? ⟨w.heap.size, 1, none⟩ = some (.slice sa ss.length cap) := cells_at r0 1 _ rfl
        by_cases hlt : k < ss.length
        · rcases hs.strs.cells with hc | ⟨sb, so, rfl, hc⟩
          · subst hc; simp at hlt
          have hltI : (k : Int) < ss.length := by omega
          have hkc : (k : Int) ≤ cap := by omega
          have h0 : (0 : Int) ≤ k := by omega
          have ck := (hA.cell (p := ⟨sb, so + k, none⟩) (block_lt_of_cell (hc k hlt))).trans (hc k hlt)
          have hz : (ss.getD k ByteArray.empty).size ≤ maxLen := hs.strs.size _ (by simp [List.getD, hlt])
          have hst : Hid (txOk (ss.getD k ByteArray.empty) = true → ss.getD k ByteArray.empty ∉ ss.take k → ∀ q, q < k + 1 → txOk (ss.getD q ByteArray.empty) = true ∧ ss.getD q ByteArray.empty ∉ ss.take q) := good_more hall.out
          have hno1 : Hid (txOk (ss.getD k ByteArray.empty) = false → poolOk ss = false) := poolOk_no_tx hlt
          have hno2 : Hid (ss.getD k ByteArray.empty ∈ ss.take k → poolOk ss = false) := poolOk_no_in hlt
          have HC : Hid (∀ s, Calls Try.prog 31 #[.slice (some ⟨sb, so, none⟩) k cap, .string s] wr.drew fun e w' => e = .returned (.bool (inS s (ss.take k))) ∧ wr.drew = w') := by
            show ∀ _, _
            intro s
            exact inTexts_any (ss.take k) _ k cap s _ (by simp; omega) (by unfold maxLen; omega) ((hs.strs.below hA.drew).take k)
          have HI : Hid (∀ s : ByteArray, Calls Try.prog 30 #[.int .i64 (s.size : Int), .int .i64 1, .int .i64 20] wr.drew fun e w' => e = .returned (.bool (txOk s)) ∧ wr.drew = w') := by
            show ∀ _, _
            intro s
            exact in_bool _ _ _ _ _ (by rw [txOk]; exact decide_eq_decide.2 (by omega))
          clear hall hc hs
          generalize ss.getD k ByteArray.empty = x at *
          unfold maxLen at hz
          cases hx : txOk x with
          | false =>
            have hp := hno1.out hx
            have hI := HI.out x
            rw [hx] at hI
            rw [hp] at hF
            clear hst hno1 hno2 HC HI
            go_wp2_with fail
            refine wp_region_held_drew (S := (fun w' => w'.cell? ⟨w.heap.size, 1, none⟩ = some (.slice (some ⟨sb, so, none⟩) ss.length cap) ∧ w'.cell? ⟨sb, so + k, none⟩ = some (.string x))) (by kernel_rfl) ⟨c1, ck⟩ (fun hHeld => ?_)
            refine take_dst (i := 0) (d := 21) (v := .pointer (some ⟨w.heap.size, 1, none⟩)) rfl rfl (by kernel_rfl) (by kernel_rfl) (by kernel_rfl) (fun _ _ _ h => h) (Or.inl ⟨by rfl, ?_⟩) hHeld ?_
            · (intro w0 hSw; (try dsimp only at hSw); go_simp)
            simp only [Act.put, List.setIfInBounds_toArray, List.set_cons_zero, List.set_cons_succ]
            refine take_dst (i := 1) (d := 22) (v := .slice (some ⟨sb, so, none⟩) ss.length cap) rfl rfl (by kernel_rfl) (by kernel_rfl) (by kernel_rfl) (fun _ _ _ h => h) (Or.inl ⟨by rfl, ?_⟩) hHeld ?_
            · (intro w0 hSw; (try dsimp only at hSw); go_simp)
            simp only [Act.put, List.setIfInBounds_toArray, List.set_cons_zero, List.set_cons_succ]
            refine take_dst (i := 2) (d := 23) (v := .int .i64 k) rfl rfl (by kernel_rfl) (by kernel_rfl) (by kernel_rfl) (fun _ _ _ h => h) (Or.inl ⟨by rfl, ?_⟩) hHeld ?_
            · (intro w0 hSw; (try dsimp only at hSw); go_simp)
            simp only [Act.put, List.setIfInBounds_toArray, List.set_cons_zero, List.set_cons_succ]
            refine take_dst (i := 3) (d := 24) (v := .pointer (some ⟨sb, so + k, none⟩)) rfl rfl (by kernel_rfl) (by kernel_rfl) (by kernel_rfl) (fun _ _ _ h => h) (Or.inl ⟨by rfl, ?_⟩) hHeld ?_
            · (intro w0 hSw; (try dsimp only at hSw); go_simp)
            simp only [Act.put, List.setIfInBounds_toArray, List.set_cons_zero, List.set_cons_succ]
            refine take_dst (i := 4) (d := 25) (v := .string x) rfl rfl (by kernel_rfl) (by kernel_rfl) (by kernel_rfl) (fun _ _ _ h => h) (Or.inl ⟨by rfl, ?_⟩) hHeld ?_
            · (intro w0 hSw; (try dsimp only at hSw); go_simp)
            simp only [Act.put, List.setIfInBounds_toArray, List.set_cons_zero, List.set_cons_succ]
            refine take_dst (i := 5) (d := 26) (v := .int .i64 x.size) rfl rfl (by kernel_rfl) (by kernel_rfl) (by kernel_rfl) (fun _ _ _ h => h) (Or.inl ⟨by rfl, ?_⟩) hHeld ?_
            · (intro w0 hSw; (try dsimp only at hSw); go_simp)
            simp only [Act.put, List.setIfInBounds_toArray, List.set_cons_zero, List.set_cons_succ]
            refine wpAnyH_ready (rs := [6]) (by kernel_rfl) (by simp) (AllReadyH.cons rfl (fun K hK => ?_) AllReadyH.nil)
            refine step_calls_dst rfl 27 rfl 30 [.tmp 26, .const (.int .i64 1), .const (.int .i64 20)] #[3, 3, 3] rfl [.int .i64 x.size, .int .i64 1, .int .i64 20] rfl (enters_of Try.func30 (by kernel_rfl) rfl) (fun v w' => v = .bool false ∧ wr.drew = w') (hI.mono (fun e w2 h => ⟨_, h.1, rfl, h.2⟩)) ?_
            rintro v w2 ⟨rfl, rfl⟩
            refine hK.out _ _ ⟨c1, ck⟩ (fun hHeld => ?_)
            simp only [Act.put, List.setIfInBounds_toArray, List.set_cons_zero, List.set_cons_succ]
            refine take_dst (i := 7) (d := 28) (v := .bool true) rfl rfl (by kernel_rfl) (by kernel_rfl) (by kernel_rfl) (fun _ _ _ h => h) (Or.inl ⟨by rfl, ?_⟩) hHeld ?_
            · (intro w0 hSw; (try dsimp only at hSw); go_simp)
            simp only [Act.put, List.setIfInBounds_toArray, List.set_cons_zero, List.set_cons_succ]
            refine take_dst (i := 8) (d := 29) (v := .bool true) rfl rfl (by kernel_rfl) (by kernel_rfl) (by kernel_rfl) (fun _ _ _ h => h) (Or.inl ⟨by rfl, ?_⟩) hHeld ?_
            · (intro w0 hSw; (try dsimp only at hSw); go_simp)
            simp only [Act.put, List.setIfInBounds_toArray, List.set_cons_zero, List.set_cons_succ]
            refine take_dst (i := 9) (d := 30) (v := undef) rfl rfl (by kernel_rfl) (by kernel_rfl) (by kernel_rfl) (fun _ _ _ h => h) (Or.inr ⟨by rfl, rfl⟩) hHeld ?_
            simp only [Act.put, List.setIfInBounds_toArray, List.set_cons_zero, List.set_cons_succ]
            refine take_dst (i := 10) (d := 31) (v := undef) rfl rfl (by kernel_rfl) (by kernel_rfl) (by kernel_rfl) (fun _ _ _ h => h) (Or.inr ⟨by rfl, rfl⟩) hHeld ?_
            simp only [Act.put, List.setIfInBounds_toArray, List.set_cons_zero, List.set_cons_succ]
            refine take_dst (i := 11) (d := 32) (v := undef) rfl rfl (by kernel_rfl) (by kernel_rfl) (by kernel_rfl) (fun _ _ _ h => h) (Or.inr ⟨by rfl, rfl⟩) hHeld ?_
            simp only [Act.put, List.setIfInBounds_toArray, List.set_cons_zero, List.set_cons_succ]
            refine take_dst (i := 12) (d := 33) (v := undef) rfl rfl (by kernel_rfl) (by kernel_rfl) (by kernel_rfl) (fun _ _ _ h => h) (Or.inr ⟨by rfl, rfl⟩) hHeld ?_
            simp only [Act.put, List.setIfInBounds_toArray, List.set_cons_zero, List.set_cons_succ]
            refine take_dst (i := 13) (d := 34) (v := undef) rfl rfl (by kernel_rfl) (by kernel_rfl) (by kernel_rfl) (fun _ _ _ h => h) (Or.inr ⟨by rfl, rfl⟩) hHeld ?_
            simp only [Act.put, List.setIfInBounds_toArray, List.set_cons_zero, List.set_cons_succ]
            refine take_dst (i := 14) (d := 35) (v := undef) rfl rfl (by kernel_rfl) (by kernel_rfl) (by kernel_rfl) (fun _ _ _ h => h) (Or.inr ⟨by rfl, rfl⟩) hHeld ?_
            simp only [Act.put, List.setIfInBounds_toArray, List.set_cons_zero, List.set_cons_succ]
            refine take_dst (i := 15) (d := 36) (v := undef) rfl rfl (by kernel_rfl) (by kernel_rfl) (by kernel_rfl) (fun _ _ _ h => h) (Or.inr ⟨by rfl, rfl⟩) hHeld ?_
            simp only [Act.put, List.setIfInBounds_toArray, List.set_cons_zero, List.set_cons_succ]
            refine take_dst (i := 16) (d := 37) (v := undef) rfl rfl (by kernel_rfl) (by kernel_rfl) (by kernel_rfl) (fun _ _ _ h => h) (Or.inr ⟨by rfl, rfl⟩) hHeld ?_
            simp only [Act.put, List.setIfInBounds_toArray, List.set_cons_zero, List.set_cons_succ]
            refine take_dst (i := 17) (d := 38) (v := undef) rfl rfl (by kernel_rfl) (by kernel_rfl) (by kernel_rfl) (fun _ _ _ h => h) (Or.inr ⟨by rfl, rfl⟩) hHeld ?_
            simp only [Act.put, List.setIfInBounds_toArray, List.set_cons_zero, List.set_cons_succ]
            refine take_dst (i := 18) (d := 39) (v := undef) rfl rfl (by kernel_rfl) (by kernel_rfl) (by kernel_rfl) (fun _ _ _ h => h) (Or.inr ⟨by rfl, rfl⟩) hHeld ?_
            simp only [Act.put, List.setIfInBounds_toArray, List.set_cons_zero, List.set_cons_succ]
            refine take_dst (i := 19) (d := 40) (v := .bool true) rfl rfl (by kernel_rfl) (by kernel_rfl) (by kernel_rfl) (fun _ _ _ h => h) (Or.inl ⟨by rfl, ?_⟩) hHeld ?_
            · (intro w0 hSw; (try dsimp only at hSw); go_simp)
            simp only [Act.put, List.setIfInBounds_toArray, List.set_cons_zero, List.set_cons_succ]
            refine wpAnyH_done (by kernel_rfl) ?_ _
            go_wp2_with fail
            go_ret
            exact ⟨ret_int (by rw [hF.out]; rfl), hA.drew⟩
          | true =>
            have hI := HI.out x
            rw [hx] at hI
            have hC := HC.out x
            clear HC HI
            go_wp2_with fail
            refine wp_region_held_drew (S := (fun w' => w'.cell? ⟨w.heap.size, 1, none⟩ = some (.slice (some ⟨sb, so, none⟩) ss.length cap) ∧ w'.cell? ⟨sb, so + k, none⟩ = some (.string x))) (by kernel_rfl) ⟨c1, ck⟩ (fun hHeld => ?_)
            refine take_dst (i := 0) (d := 21) (v := .pointer (some ⟨w.heap.size, 1, none⟩)) rfl rfl (by kernel_rfl) (by kernel_rfl) (by kernel_rfl) (fun _ _ _ h => h) (Or.inl ⟨by rfl, ?_⟩) hHeld ?_
            · (intro w0 hSw; (try dsimp only at hSw); go_simp)
            simp only [Act.put, List.setIfInBounds_toArray, List.set_cons_zero, List.set_cons_succ]
            refine take_dst (i := 1) (d := 22) (v := .slice (some ⟨sb, so, none⟩) ss.length cap) rfl rfl (by kernel_rfl) (by kernel_rfl) (by kernel_rfl) (fun _ _ _ h => h) (Or.inl ⟨by rfl, ?_⟩) hHeld ?_
            · (intro w0 hSw; (try dsimp only at hSw); go_simp)
            simp only [Act.put, List.setIfInBounds_toArray, List.set_cons_zero, List.set_cons_succ]
            refine take_dst (i := 2) (d := 23) (v := .int .i64 k) rfl rfl (by kernel_rfl) (by kernel_rfl) (by kernel_rfl) (fun _ _ _ h => h) (Or.inl ⟨by rfl, ?_⟩) hHeld ?_
            · (intro w0 hSw; (try dsimp only at hSw); go_simp)
            simp only [Act.put, List.setIfInBounds_toArray, List.set_cons_zero, List.set_cons_succ]
            refine take_dst (i := 3) (d := 24) (v := .pointer (some ⟨sb, so + k, none⟩)) rfl rfl (by kernel_rfl) (by kernel_rfl) (by kernel_rfl) (fun _ _ _ h => h) (Or.inl ⟨by rfl, ?_⟩) hHeld ?_
            · (intro w0 hSw; (try dsimp only at hSw); go_simp)
            simp only [Act.put, List.setIfInBounds_toArray, List.set_cons_zero, List.set_cons_succ]
            refine take_dst (i := 4) (d := 25) (v := .string x) rfl rfl (by kernel_rfl) (by kernel_rfl) (by kernel_rfl) (fun _ _ _ h => h) (Or.inl ⟨by rfl, ?_⟩) hHeld ?_
            · (intro w0 hSw; (try dsimp only at hSw); go_simp)
            simp only [Act.put, List.setIfInBounds_toArray, List.set_cons_zero, List.set_cons_succ]
            refine take_dst (i := 5) (d := 26) (v := .int .i64 x.size) rfl rfl (by kernel_rfl) (by kernel_rfl) (by kernel_rfl) (fun _ _ _ h => h) (Or.inl ⟨by rfl, ?_⟩) hHeld ?_
            · (intro w0 hSw; (try dsimp only at hSw); go_simp)
            simp only [Act.put, List.setIfInBounds_toArray, List.set_cons_zero, List.set_cons_succ]
            refine wpAnyH_ready (rs := [6]) (by kernel_rfl) (by simp) (AllReadyH.cons rfl (fun K hK => ?_) AllReadyH.nil)
            refine step_calls_dst rfl 27 rfl 30 [.tmp 26, .const (.int .i64 1), .const (.int .i64 20)] #[3, 3, 3] rfl [.int .i64 x.size, .int .i64 1, .int .i64 20] rfl (enters_of Try.func30 (by kernel_rfl) rfl) (fun v w' => v = .bool true ∧ wr.drew = w') (hI.mono (fun e w2 h => ⟨_, h.1, rfl, h.2⟩)) ?_
            rintro v w2 ⟨rfl, rfl⟩
            refine hK.out _ _ ⟨c1, ck⟩ (fun hHeld => ?_)
            simp only [Act.put, List.setIfInBounds_toArray, List.set_cons_zero, List.set_cons_succ]
            refine take_dst (i := 7) (d := 28) (v := .bool false) rfl rfl (by kernel_rfl) (by kernel_rfl) (by kernel_rfl) (fun _ _ _ h => h) (Or.inl ⟨by rfl, ?_⟩) hHeld ?_
            · (intro w0 hSw; (try dsimp only at hSw); go_simp)
            simp only [Act.put, List.setIfInBounds_toArray, List.set_cons_zero, List.set_cons_succ]
            refine take_dst (i := 8) (d := 29) (v := .bool false) rfl rfl (by kernel_rfl) (by kernel_rfl) (by kernel_rfl) (fun _ _ _ h => h) (Or.inl ⟨by rfl, ?_⟩) hHeld ?_
            · (intro w0 hSw; (try dsimp only at hSw); go_simp)
            simp only [Act.put, List.setIfInBounds_toArray, List.set_cons_zero, List.set_cons_succ]
            refine take_dst (i := 9) (d := 30) (v := .pointer (some ⟨w.heap.size, 1, none⟩)) rfl rfl (by kernel_rfl) (by kernel_rfl) (by kernel_rfl) (fun _ _ _ h => h) (Or.inl ⟨by rfl, ?_⟩) hHeld ?_
            · (intro w0 hSw; (try dsimp only at hSw); go_simp)
            simp only [Act.put, List.setIfInBounds_toArray, List.set_cons_zero, List.set_cons_succ]
            refine take_dst (i := 10) (d := 31) (v := .slice (some ⟨sb, so, none⟩) ss.length cap) rfl rfl (by kernel_rfl) (by kernel_rfl) (by kernel_rfl) (fun _ _ _ h => h) (Or.inl ⟨by rfl, ?_⟩) hHeld ?_
            · (intro w0 hSw; (try dsimp only at hSw); go_simp)
            simp only [Act.put, List.setIfInBounds_toArray, List.set_cons_zero, List.set_cons_succ]
            refine take_dst (i := 11) (d := 32) (v := .int .i64 k) rfl rfl (by kernel_rfl) (by kernel_rfl) (by kernel_rfl) (fun _ _ _ h => h) (Or.inl ⟨by rfl, ?_⟩) hHeld ?_
            · (intro w0 hSw; (try dsimp only at hSw); go_simp)
            simp only [Act.put, List.setIfInBounds_toArray, List.set_cons_zero, List.set_cons_succ]
            refine take_dst (i := 12) (d := 33) (v := .slice (some ⟨sb, so, none⟩) k cap) rfl rfl (by kernel_rfl) (by kernel_rfl) (by kernel_rfl) (fun _ _ _ h => h) (Or.inl ⟨by rfl, ?_⟩) hHeld ?_
            · (intro w0 hSw; (try dsimp only at hSw); go_simp)
            simp only [Act.put, List.setIfInBounds_toArray, List.set_cons_zero, List.set_cons_succ]
            refine take_dst (i := 13) (d := 34) (v := .pointer (some ⟨w.heap.size, 1, none⟩)) rfl rfl (by kernel_rfl) (by kernel_rfl) (by kernel_rfl) (fun _ _ _ h => h) (Or.inl ⟨by rfl, ?_⟩) hHeld ?_
            · (intro w0 hSw; (try dsimp only at hSw); go_simp)
            simp only [Act.put, List.setIfInBounds_toArray, List.set_cons_zero, List.set_cons_succ]
            refine take_dst (i := 14) (d := 35) (v := .slice (some ⟨sb, so, none⟩) ss.length cap) rfl rfl (by kernel_rfl) (by kernel_rfl) (by kernel_rfl) (fun _ _ _ h => h) (Or.inl ⟨by rfl, ?_⟩) hHeld ?_
            · (intro w0 hSw; (try dsimp only at hSw); go_simp)
            simp only [Act.put, List.setIfInBounds_toArray, List.set_cons_zero, List.set_cons_succ]
            refine take_dst (i := 15) (d := 36) (v := .int .i64 k) rfl rfl (by kernel_rfl) (by kernel_rfl) (by kernel_rfl) (fun _ _ _ h => h) (Or.inl ⟨by rfl, ?_⟩) hHeld ?_
            · (intro w0 hSw; (try dsimp only at hSw); go_simp)
            simp only [Act.put, List.setIfInBounds_toArray, List.set_cons_zero, List.set_cons_succ]
            refine take_dst (i := 16) (d := 37) (v := .pointer (some ⟨sb, so + k, none⟩)) rfl rfl (by kernel_rfl) (by kernel_rfl) (by kernel_rfl) (fun _ _ _ h => h) (Or.inl ⟨by rfl, ?_⟩) hHeld ?_
            · (intro w0 hSw; (try dsimp only at hSw); go_simp)
            simp only [Act.put, List.setIfInBounds_toArray, List.set_cons_zero, List.set_cons_succ]
            refine take_dst (i := 17) (d := 38) (v := .string x) rfl rfl (by kernel_rfl) (by kernel_rfl) (by kernel_rfl) (fun _ _ _ h => h) (Or.inl ⟨by rfl, ?_⟩) hHeld ?_
            · (intro w0 hSw; (try dsimp only at hSw); go_simp)
            simp only [Act.put, List.setIfInBounds_toArray, List.set_cons_zero, List.set_cons_succ]
            refine wpAnyH_ready (rs := [18]) (by kernel_rfl) (by simp) (AllReadyH.cons rfl (fun K hK => ?_) AllReadyH.nil)
            refine step_calls_on (by rfl) 39 rfl 31 [.tmp 33, .tmp 38] #[22, 9] rfl [.slice (some ⟨sb, so, none⟩) k cap, .string x] rfl (enters_of Try.func31 (by kernel_rfl) rfl) (fun v w' => v = .bool (inS x (ss.take k)) ∧ wr.drew = w') (hC.mono (fun e w3 h => ⟨_, h.1, rfl, h.2⟩)) ?_
            rintro v w3 ⟨rfl, rfl⟩
            refine hK.out _ _ ⟨c1, ck⟩ (fun hHeld => ?_)
            simp only [Act.put, List.setIfInBounds_toArray, List.set_cons_zero, List.set_cons_succ]
            refine take_dst (i := 19) (d := 40) (v := .bool (inS x (ss.take k))) rfl rfl (by kernel_rfl) (by kernel_rfl) (by kernel_rfl) (fun _ _ _ h => h) (Or.inl ⟨by rfl, ?_⟩) hHeld ?_
            · (intro w0 hSw; (try dsimp only at hSw); go_simp)
            simp only [Act.put, List.setIfInBounds_toArray, List.set_cons_zero, List.set_cons_succ]
            refine wpAnyH_done (by kernel_rfl) ?_ _
            by_cases hi : x ∈ ss.take k
            · have hp := hno2.out hi
              rw [hp] at hF
              rw [inS_true hi]
              clear hst hno1 hno2 hi hC hI
              go_wp2_with fail
              go_ret
              exact ⟨ret_int (by rw [hF.out]; rfl), hA.drew⟩
            · have hp : Hid _ := hst.out hx hi
              rw [inS_false hi]
              clear hst hno1 hno2 hi hC hI
              go_wp2_with fail
              go_roundw
              case rel => exact ⟨k + 1, by omega, by go_num, hp, hA.drew, r0⟩
              case measure => simp [intOf]; omega
        · obtain rfl : k = ss.length := by omega
          have hp := poolOk_of hall.out
          rw [hp] at hF
          go_wp2_with fail
          go_ret
          exact ⟨ret_int (by rw [hF.out]; rfl), hA⟩
  · have hF : Hid (poolF nx ss = 12) := by show _ = _; rw [poolF, if_pos (.inl ha)]
    go_enter Try.func15, Try.ntmps15
    go_wp2_with (go_at_call 30; refine (in_false _ _ _ _ (by omega)).mono ?_; rintro e w' ⟨rfl, rfl⟩)
    go_ret
    exact ⟨ret_int hF.out.symm, (Below.refl _ _).alloc (Nat.le_refl _) _⟩
end Go.Proofs.Ytikolpdedmhljaa
