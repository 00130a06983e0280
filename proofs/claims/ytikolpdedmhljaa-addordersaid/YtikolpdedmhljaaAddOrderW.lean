/- The walk of AddOrder. -/
import Derived.Test.YtikolpdedmhljaaKHead
import Derived.Test.YtikolpdedmhljaaOpenP
import Derived.Test.YtikolpdedmhljaaSameTx
import Derived.Test.YtikolpdedmhljaaTxG
import Derived.Test.YtikolpdedmhljaaCallsG
namespace Go.Proofs.Ytikolpdedmhljaa
open Go.RowKit

set_option maxRecDepth 100000 in
theorem z_slice {w : World} {b n : Nat} {l : List Int} (h : w.heap[b]? = some (.cells (ub l).toArray 5 (0, 0))) (hn : n = l.length) (hm : n ≤ maxLen := by decide) : SliceAt w (some ⟨b, 0, none⟩) n l := by
  subst hn
  refine ⟨Nat.le_refl _, hm, .inr ⟨b, 0, rfl⟩, (fun e => by cases e), .inr ⟨b, 0, rfl, fun j hj => ?_⟩⟩
  rw [cell_of_row w b _ _ _ _ h, Nat.zero_add]
  simp [ub, hj]
def z30 : List Int := List.replicate 30 0
set_option maxRecDepth 100000 in
theorem make30 (w : World) : (Instr.makeSlice 41 (.int .i64 30) (.int .i64 30)).run Try.prog w = .ok (.slice (some ⟨w.heap.size, 0, none⟩) 30 30) (w.alloc (.cells (ub z30).toArray 5)) := by kernel_rfl
set_option maxRecDepth 100000 in
theorem addF_short {nx : Int} {acc : List ByteArray} {t : ByteArray} (h : poolF nx acc = 0) (ht : txOk t = false) : addF nx acc t = 1 := by
  rw [addF, if_pos h, takesF, if_pos ht]
set_option maxRecDepth 100000 in
set_option maxHeartbeats 2000000 in
theorem addOrder_walk (sa : Option Addr) (cap : Nat) (ss : List ByteArray) (w : World) (hs : TextsAt w sa cap ss) :
    Calls Try.prog 12 #[.slice sa ss.length cap] w fun e w' => e = .returned (.bool true) ∧ Below w.heap.size w w' := by
  have hle := hs.le
  have hre := hs.reach
  have HH : Hid (TxsAt w sa cap ss) := hs.txs
  have hA : Below w.heap.size w (w.alloc (.cells #[.int .i64 1, .slice none 0 0] 24)) := (Below.refl _ _).alloc (Nat.le_refl _) _
  have p0 := heap_alloc_new w (.cells #[.int .i64 1, .slice none 0 0] 24)
  obtain ⟨i, hi, hz0, hz1, hz2⟩ := info_parts infoStr
  clear hs
  go_enter Try.func12, Try.ntmps12
  go_wp2_with fail
  generalize w.alloc (.cells #[.int .i64 1, .slice none 0 0] 24) = W0 at hA p0 ⊢
  go_loopw [4, 5] (fun g j wr => ∃ (k n : Nat) (va : Option Addr) (vc : Nat), k ≤ ss.length ∧ k ≤ 30 ∧ j = .int .i64 k ∧ Hid (n = (poolT (ss.take k)).length) ∧ Below w.heap.size w wr ∧ wr.heap[w.heap.size]? = some (.cells #[.int .i64 1, .slice va n vc] 24 (0, 0)) ∧ TxsAt wr va vc (poolT (ss.take k)) ∧ wr.ownsRow (w.heap.size + 1) 9 1 g n (sv (poolT (ss.take k))) ∧ ∀ sb so, va = some ⟨sb, so, none⟩ → w.heap.size ≠ sb ∧ g.ownBlock ≠ some sb) (fun _ j _ => ss.length - (intOf j).toNat)
  case atStart => exact ⟨0, 0, none, 0, Nat.zero_le _, Nat.zero_le _, rfl, by show _ = _; simp [poolT], hA, p0, ⟨Nat.le_refl _, by decide, fun _ => rfl, ⟨.inl rfl, fun s h => by cases h⟩⟩, World.ownsRow_nil _ _ _ _, fun _ _ e => by cases e⟩
  case round =>
    clear hA p0
    obtain ⟨k, n, va, vc, hk, hk30, rfl, hn, hW, r0, hV, ho, hap⟩ := hrel
    obtain ⟨ga, gc, rfl⟩ := owns_shape ho
    have hTk := poolT_ok (ss.take k)
    have hN := lt_of_heap r0
    have hn30 : n ≤ 30 := by have := hn.out; have h2 := poolT_len (ss.take k); rw [List.length_take] at h2; omega
    have c0 : wr.cell? ⟨w.heap.size, 0, none⟩ = some (.int .i64 1) := cells_at r0 0 _ rfl
    have c1 : wr.cell? ⟨w.heap.size, 1, none⟩ = some (.slice va n vc) := cells_at r0 1 _ rfl
    obtain ⟨_, _, hge, -, hG, -⟩ := txsAt_of_owns ho (ok_size hTk)
    rw [← hn.out] at hge
    simp only [Value.slice.injEq, true_and] at hge
    obtain ⟨rfl, rfl⟩ := hge
    have HAP : Hid _ := hap
    clear hap
    by_cases hlt : k < ss.length ∧ k < 30
    · obtain ⟨hlt, hlt3⟩ := hlt
      obtain ⟨sb, so, rfl, hcw⟩ : ∃ sb so, sa = some ⟨sb, so, none⟩ ∧ ∀ j, j < ss.length → w.cell? ⟨sb, so + j, none⟩ = some (.string (ss.getD j ByteArray.empty)) := by
        rcases HH.out.strs.cells with h | h
        · rw [h] at hlt; simp at hlt
        · exact h
      have hsbN : sb < w.heap.size := block_lt_of_cell (hcw k hlt)
      have ck : wr.cell? ⟨sb, so + k, none⟩ = some (.string (ss.getD k ByteArray.empty)) := (hW.cell (p := ⟨sb, so + k, none⟩) hsbN).trans (hcw k hlt)
      have hsz : (ss.getD k ByteArray.empty).size ≤ maxLen := HH.out.strs.size _ (by simp [List.getD, hlt])
      have hltI : (k : Int) < ss.length := by omega
      have hlt3I : (k : Int) < 30 := by omega
      have h0 : (0 : Int) ≤ k := by omega
      have hst : Hid (poolT (ss.take (k + 1)) = pstep (poolT (ss.take k)) (txS (ss.getD k ByteArray.empty))) := by
        show _ = _
        rw [take_more hlt, poolT, List.foldl_append]; rfl
      clear hcw
      generalize ss.getD k ByteArray.empty = x at *
      generalize poolT (ss.take k) = T at *
      have HR : Hid (Calls Try.prog 16 #[.agg #[.int .i64 1, .slice va n vc], .string (txS x)] wr fun e w' => AddAt wr w' e 1 T (txS x)) := by
        exact poolAdd_any 1 va n vc T (txS x) wr hn.out hV (Nat.le_trans (txS_size x).2 maxTx)
      have HO : Hid (inS (txS x) T = true → addF 1 T (txS x) = 7) := addF_old (by omega) (by omega) (by have := hn.out; omega) hTk
      have HW : Hid (inS (txS x) T = false → addF 1 T (txS x) = 0) := addF_new (by omega) (by omega) (by have := hn.out; omega) hTk
      have HZ : Hid ((txS x).size ≤ maxLen) := Nat.le_trans (txS_size x).2 maxTx
      go_wp2_with (go_at_call 23; refine (tx_any x _ hsz).mono ?_; rintro e w9 ⟨rfl, rfl⟩)
      generalize txS x = t at *
      go_loop [7, 8] (fun o j => ∃ k' : Nat, k' ≤ n ∧ o = .bool (inS t (T.take k')) ∧ j = .int .i64 k') (fun o j => n - (intOf j).toNat)
      case atStart => exact ⟨0, Nat.zero_le _, rfl, rfl⟩
      case round =>
        obtain ⟨m, hm, rfl, rfl⟩ := hrel
        by_cases hmn : m < n
        · have hmI : (m : Int) < n := by omega
          have hm0 : (0 : Int) ≤ m := by omega
          have hmT : m < T.length := by have := hn.out; omega
          obtain ⟨gb, go, rfl, hc⟩ : ∃ sb so, ga = some ⟨sb, so, none⟩ ∧ ∀ j, j < T.length → wr.cell? ⟨sb, so + j, none⟩ = some (.string (T.getD j ByteArray.empty)) := by
            rcases hG.strs.cells with h | h
            · rw [h] at hmT; simp at hmT
            · exact h
          have cm := hc m hmT
          have hs2 : Hid (inS t (T.take (m + 1)) = (inS t (T.take m) || decide (T.getD m ByteArray.empty = t))) := by
            show _ = _
            rw [take_more hmT, inS, inS, List.any_append]
            simp
          clear hc
          generalize T.getD m ByteArray.empty = y at *
          cases hoo : inS t (T.take m) with
          | true =>
            rw [hoo] at hs2
            go_wp2_with fail
            go_round
            case rel => exact ⟨m + 1, by omega, by rw [hs2.out]; rfl, by go_num⟩
            case measure => simp [intOf]; omega
          | false =>
            rw [hoo] at hs2
            by_cases he : y.toList = t.toList
            · have hE : Hid (inS t (T.take (m + 1)) = true) := by show _ = _; rw [hs2.out, ba_ext he]; simp
              have heb : (y.toList == t.toList) = true := by simp [he]
              clear he hs2
              go_wp2_with fail
              go_round
              case rel => exact ⟨m + 1, by omega, by rw [hE.out], by go_num⟩
              case measure => simp [intOf]; omega
            · have hE : Hid (inS t (T.take (m + 1)) = false) := by show _ = _; rw [hs2.out, decide_eq_false (fun e => he (by rw [e]))]; rfl
              have heb : (y.toList == t.toList) = false := by simp [he]
              clear he hs2
              go_wp2_with fail
              go_round
              case rel => exact ⟨m + 1, by omega, by rw [hE.out], by go_num⟩
              case measure => simp [intOf]; omega
        · obtain rfl : m = n := by omega
          have hmI : ¬ (m : Int) < m := by omega
          rw [List.take_of_length_le (by have := hn.out; omega)]
          go_wp2_with fail
          refine HR.out.mono ?_
          rintro e w2 ⟨v2, he, ho2, hb2⟩
          have s0 := (hb2.block _ (lt_of_heap r0)).trans r0
          cases hi2 : inS t T with
          | true =>
            have hE := HO.out hi2
            have hP : Hid (poolT (ss.take (k + 1)) = T) := by show _ = _; rw [hst.out, pstep, if_pos hi2]
            rw [hE] at he
            rw [addS, if_neg (by rw [hE]; decide)] at ho2
            obtain ⟨xa, xc, rfl⟩ := owns_shape ho2
            generalize addN 1 T t = XN at *
            subst he
            dsimp only
            clear hst hi2 hE HO HW HR c0 c1
            go_wp2_with fail
            go_roundw
            case rel =>
              have hBB := hW.trans (hb2.mono hW.size)
              exact ⟨k + 1, m, va, vc, by omega, by omega, by go_num, by rw [hP.out]; exact hn, hBB.alloc hBB.size _, heap_keep s0, by rw [hP.out]; exact (hV.below hb2).below ((Below.refl _ _).alloc (Nat.le_refl _) _), by rw [hP.out]; exact World.ownsRow.alloc (owns_keep ho hb2) _, HAP.out⟩
            case measure => simp [intOf]; omega
          | false =>
            have hE := HW.out hi2
            have hP : Hid (poolT (ss.take (k + 1)) = T ++ [t]) := by show _ = _; rw [hst.out, pstep, if_neg (by rw [hi2]; simp)]
            rw [addN, if_pos hE, hE] at he
            rw [addS, if_pos hE] at ho2
            have hzz : ∀ s ∈ T ++ [t], s.size ≤ maxLen := fun s hs => by
              rcases List.mem_append.1 hs with g | g
              · exact ok_size hTk s g
              · rw [show s = t by simpa using g]; exact HZ.out
            obtain ⟨xa, xc, hv2, -, hX2, hfx⟩ := txsAt_of_owns ho2 hzz
            have HX : Hid (∀ sb so, xa = some ⟨sb, so, none⟩ → wr.heap.size ≤ sb ∧ sb < w2.heap.size) := fun sb so e => ho2.lt sb (by rw [hv2, e]; rfl)
            subst hv2
            have hTl : (T ++ [t]).length = m + 1 := by rw [List.length_append, ← hn.out]; rfl
            rw [hTl] at he
            subst he
            dsimp only
            clear hst hi2 hE HO HW HR c0 c1 hzz hfx hTl
            have sX := heap_alloc_new w2 (.cells #[.int .i64 1, .slice xa (m + 1) xc] 24)
            have hA2 : Below w2.heap.size w2 (w2.alloc (.cells #[.int .i64 1, .slice xa (m + 1) xc] 24)) := (Below.refl _ _).alloc (Nat.le_refl _) _
            have hbW := hb2.trans (hA2.mono hb2.size)
            have t0 := heap_keep (o := .cells #[.int .i64 1, .slice xa (m + 1) xc] 24) s0
            have hszW : (w2.alloc (.cells #[.int .i64 1, .slice xa (m + 1) xc] 24)).heap.size = w2.heap.size + 1 := by simp
            have HSZ : Hid _ := hszW
            clear hszW
            go_upto_region 13 with fail
            generalize hG2 : w2.alloc (.cells #[.int .i64 1, .slice xa (m + 1) xc] 24) = W2 at *
            clear hG2
            have hoW := owns_keep ho hbW
            have hXW := hX2.below hA2
            have hbase : w.heap.size + 1 ≤ W2.heap.size := by have := hbW.size; omega
            have t0A := heap_keep (o := .cells #[.string t] 9) t0
            have sXA := heap_keep (o := .cells #[.string t] 9) sX
            go_wp2_with (at_builtin; refine wpList_append_own_at _ rfl _ _ 22 rfl (w.heap.size + 1) 9 i (.string ByteArray.empty) 1 16 Try.underlying22 hi hz0 hz1 hz2 rfl (by decide) _ m (sv T) rfl (World.ownsRow.alloc hoW _) ⟨W2.heap.size, 0, none⟩ 1 1 [.string t] rfl rfl (cells_new _ _ _) (sv_one [t]) (by unfold maxLen; omega) (by omega) (le_alloc hbase _) ?_; intro g4 w4 ho4 hg4 _ hat4; have G4 := Grew.of hg4 hat4; have u0 := G4.row t0A (fun e => by have := (hoW.lt _ e).1; omega); have uX := G4.row sXA (fun e => by have := (ho.lt _ e).2; have := hb2.size; omega); have x0 : w4.cell? ⟨w2.heap.size, 0, none⟩ = some (.int .i64 1) := cells_at uX 0 _ rfl; have x1 : w4.cell? ⟨w2.heap.size, 1, none⟩ = some (.slice xa (m + 1) xc) := cells_at uX 1 _ rfl; have d0 : w4.cell? ⟨w.heap.size, 0, none⟩ = some (.int .i64 1) := cells_at u0 0 _ rfl; have d1 : w4.cell? ⟨w.heap.size, 1, none⟩ = some (.slice va m vc) := cells_at u0 1 _ rfl; have f0 := frozen_at u0 0; have f1 := frozen_at u0 1)
            go_roundw
            case rel =>
              have hBW := hW.trans (hbW.mono hW.size)
              have hB4 : Below w.heap.size w w4 := (hBW.alloc hBW.size _).trans (G4.below (base := w.heap.size) (le_alloc hBW.size _) (fun q e => by have := (hoW.lt q e).1; omega))
              have hX4 := G4.txs (hXW.below ((Below.refl _ _).alloc (Nat.le_refl _) _)) (fun sb so e e2 => by have := (HX.out sb so e).1; have := (ho.lt sb e2).2; omega)
              have hne : ∀ sb so, xa = some ⟨sb, so, none⟩ → w.heap.size ≠ sb := fun sb so e => by have := (HX.out sb so e).1; omega
              refine ⟨k + 1, m + 1, xa, xc, by omega, by omega, by go_num, ?_, (hB4.setCell (by simp) _).setCell (by simp) _, ?_, ?_, ?_, ?_⟩
              · show _ = _; rw [hP.out, List.length_append, ← hn.out]; rfl
              · simpa using heap_setCell_same _ _ 1 _ _ (.slice xa (m + 1) xc) (heap_setCell_same _ _ 0 _ _ (.int .i64 1) u0)
              · rw [hP.out]; exact (hX4.setCell _ _ _ hne).setCell _ _ _ hne
              · rw [hP.out, sv_app]; exact owns_far (owns_far ho4 _ _ _ (by omega)) _ _ _ (by omega)
              · intro sb so e
                refine ⟨hne sb so e, fun e2 => ?_⟩
                rcases G4.fresh sb e2 with g | g
                · have := (HX.out sb so e).1; have := (ho.lt sb g).2; omega
                · have := (HX.out sb so e).2; have := HSZ.out; rw [size_alloc] at g; omega
            case measure => simp [intOf]; omega
    · have hPF := poolF_zero (nx := 1) (ss := poolT (ss.take k)) (by omega) (by omega) (by have := hn.out; omega) hTk
      have hgI : ((k : Int) < ss.length ∧ ¬ (k : Int) < 30) ∨ ¬ (k : Int) < ss.length := by omega
      generalize poolT (ss.take k) = T at *
      have FIN : Hid (∀ W : World, Below wr.heap.size wr W → Calls Try.prog 24 #[.slice va n vc, .slice ga n gc] W fun e w' => e = .returned (.bool true) ∧ Below W.heap.size W w') := by
        show ∀ _, _
        intro W hW2
        have := sameTexts_any T T va ga n n vc gc W hn.out hn.out (by omega) (by omega) (hV.strs.below hW2) (hG.strs.below hW2)
        rw [decide_eq_true rfl] at this
        exact this
      have hmk := fun w => make30 w
      have HD : Hid (∀ W : World, Below wr.heap.size wr W → Calls Try.prog 16 #[.agg #[.int .i64 1, .slice va n vc], .string (bstr z30)] W fun e w' => ∃ xa xc, e = .returned (.tuple #[.agg #[.int .i64 0, .slice xa 0 xc], .int .i64 1]) ∧ Below W.heap.size W w') := by
        show ∀ _, _
        intro W hW2
        exact add_bad 1 va n vc T _ W 1 hn.out (hV.below hW2) (by decide +kernel) (addF_short hPF (by decide +kernel)) (by decide)
      clear hPF hV hG ho
      rcases hgI with ⟨hg1, hg2⟩ | hg1
      · skip
        go_upto_region 18 with fail
        go_cut [12] (fun v wx => v = .int .i64 1 ∧ Below wr.heap.size wr wx)
        case first =>
          have hV0 : Below wr.heap.size wr wr.drew := (Below.refl _ _).drew
          have qV0 : wr.drew.heap[w.heap.size]? = some (.cells #[.int .i64 1, .slice va n vc] 24 (0, 0)) := r0
          refine wp_region_held_drew (S := fun w' => w'.cell? ⟨w.heap.size, 0, none⟩ = some (.int .i64 1) ∧ w'.cell? ⟨w.heap.size, 1, none⟩ = some (.slice va n vc)) (by kernel_rfl) ⟨cells_at qV0 0 _ rfl, cells_at qV0 1 _ rfl⟩ (fun hHeld => ?_)
          generalize wr.drew = V0 at hV0 qV0 hHeld ⊢
          refine take_dst (i := 0) (d := 70) (v := .agg #[.int .i64 1, .slice va n vc]) rfl rfl (by kernel_rfl) (by kernel_rfl) (by kernel_rfl) (fun _ _ _ h => h) (Or.inl ⟨by rfl, ?_⟩) hHeld ?_
          · (intro w0 hSw; (try dsimp only at hSw); go_simp)
          simp only [Act.put, List.setIfInBounds_toArray, List.set_cons_zero, List.set_cons_succ]
          refine wpAnyH_ready (rs := [1, 7]) (by kernel_rfl) (by simp) (AllReadyH.cons rfl (fun K hK => ?_) (AllReadyH.cons rfl (fun K hK => ?_) AllReadyH.nil))
          · skip
            refine step_run rfl 71 rfl (.slice (some ⟨V0.heap.size, 0, none⟩) 30 30) (V0.alloc (.cells (ub z30).toArray 5)) (by go_simp) ?_
            have hA_1 : Below V0.heap.size V0 (V0.alloc (.cells (ub z30).toArray 5)) := (Below.refl _ _).alloc (Nat.le_refl _) _
            have qN_1 := heap_alloc_new V0 (.cells (ub z30).toArray 5)
            have hn_1 : w.heap.size ≠ V0.heap.size := by have := lt_of_heap qV0; omega
            have hl_1 : wr.heap.size ≤ V0.heap.size := hV0.size
            have q_2 := (hA_1.block _ (lt_of_heap qV0)).trans qV0
            have hB_2 := hV0.trans (hA_1.mono hV0.size)
            refine hK.out _ _ ⟨cells_at q_2 0 _ rfl, cells_at q_2 1 _ rfl⟩ (fun hHeld => ?_)
            simp only [Act.put, List.setIfInBounds_toArray, List.set_cons_zero, List.set_cons_succ]
            generalize V0.alloc (.cells (ub z30).toArray 5) = V1 at hA_1 qN_1 q_2 hB_2 ⊢
            clear hA_1
            generalize V0.heap.size = b1 at qN_1 hn_1 hl_1 ⊢
            refine wpAnyH_ready (rs := [2, 7]) (by kernel_rfl) (by simp) (AllReadyH.cons rfl (fun K hK => ?_) (AllReadyH.cons rfl (fun K hK => ?_) AllReadyH.nil))
            · skip
              have cv_3 := run_text V1 (some ⟨b1, 0, none⟩) 30 30 z30 rfl (z_slice qN_1 rfl)
              refine step_run rfl 72 rfl (.string (bstr z30)) V1 (by go_simp) ?_
              clear cv_3
              refine hK.out _ _ ⟨cells_at q_2 0 _ rfl, cells_at q_2 1 _ rfl⟩ (fun hHeld => ?_)
              simp only [Act.put, List.setIfInBounds_toArray, List.set_cons_zero, List.set_cons_succ]
              refine wpAnyH_ready (rs := [3, 7]) (by kernel_rfl) (by simp) (AllReadyH.cons rfl (fun K hK => ?_) (AllReadyH.cons rfl (fun K hK => ?_) AllReadyH.nil))
              · skip
                refine step_calls_dst rfl 73 rfl 16 [.tmp 70, .tmp 72] #[24, 9] rfl [.agg #[.int .i64 1, .slice va n vc], .string (bstr z30)] rfl (enters_of Try.func16 (by kernel_rfl) rfl) (fun v w' => (∃ za zc, v = .tuple #[.agg #[.int .i64 0, .slice za 0 zc], .int .i64 1]) ∧ Below V1.heap.size V1 w') ((HD.out V1 hB_2).mono (fun e w2 h => by obtain ⟨za, zc, h1, h2⟩ := h; exact ⟨_, h1, ⟨za, zc, rfl⟩, h2⟩)) ?_
                rintro v V4 ⟨⟨za, zc, rfl⟩, hb_4⟩
                have q_5 := (hb_4.block _ (lt_of_heap q_2)).trans q_2
                have qZ_5 := (hb_4.block _ (lt_of_heap qN_1)).trans qN_1
                have hB_5 := hB_2.trans (hb_4.mono hB_2.size)
                refine hK.out _ _ ⟨cells_at q_5 0 _ rfl, cells_at q_5 1 _ rfl⟩ (fun hHeld => ?_)
                simp only [Act.put, List.setIfInBounds_toArray, List.set_cons_zero, List.set_cons_succ]
                refine take_dst (i := 4) (d := 69) (v := .tuple #[.agg #[.int .i64 0, .slice za 0 zc], .int .i64 1]) rfl rfl (by kernel_rfl) (by kernel_rfl) (by kernel_rfl) (fun _ _ _ h => h) (Or.inl ⟨by rfl, ?_⟩) hHeld ?_
                · (intro w0 hSw; (try dsimp only at hSw); go_simp)
                simp only [Act.put, List.setIfInBounds_toArray, List.set_cons_zero, List.set_cons_succ]
                refine take_dst (i := 5) (d := 74) (v := .agg #[.int .i64 0, .slice za 0 zc]) rfl rfl (by kernel_rfl) (by kernel_rfl) (by kernel_rfl) (fun _ _ _ h => h) (Or.inl ⟨by rfl, ?_⟩) hHeld ?_
                · (intro w0 hSw; (try dsimp only at hSw); go_simp)
                simp only [Act.put, List.setIfInBounds_toArray, List.set_cons_zero, List.set_cons_succ]
                refine take_dst (i := 6) (d := 75) (v := .int .i64 1) rfl rfl (by kernel_rfl) (by kernel_rfl) (by kernel_rfl) (fun _ _ _ h => h) (Or.inl ⟨by rfl, ?_⟩) hHeld ?_
                · (intro w0 hSw; (try dsimp only at hSw); go_simp)
                simp only [Act.put, List.setIfInBounds_toArray, List.set_cons_zero, List.set_cons_succ]
                refine wpAnyH_ready (rs := [7]) (by kernel_rfl) (by simp) (AllReadyH.cons rfl (fun K hK => ?_) AllReadyH.nil)
                refine step_run rfl 11 rfl (.pointer (some ⟨V4.heap.size, 0, none⟩)) (V4.alloc (.cells #[.int .i64 0, .slice none 0 0] 24)) (by go_simp) ?_
                have hA_6 : Below V4.heap.size V4 (V4.alloc (.cells #[.int .i64 0, .slice none 0 0] 24)) := (Below.refl _ _).alloc (Nat.le_refl _) _
                have qN_6 := heap_alloc_new V4 (.cells #[.int .i64 0, .slice none 0 0] 24)
                have hn_6 : w.heap.size ≠ V4.heap.size := by have := lt_of_heap q_5; omega
                have hl_6 : wr.heap.size ≤ V4.heap.size := hB_5.size
                have q_7 := (hA_6.block _ (lt_of_heap q_5)).trans q_5
                have qZ_7 := (hA_6.block _ (lt_of_heap qZ_5)).trans qZ_5
                have hB_7 := hB_5.trans (hA_6.mono hB_5.size)
                refine hK.out _ _ ⟨cells_at q_7 0 _ rfl, cells_at q_7 1 _ rfl⟩ (fun hHeld => ?_)
                simp only [Act.put, List.setIfInBounds_toArray, List.set_cons_zero, List.set_cons_succ]
                generalize V4.alloc (.cells #[.int .i64 0, .slice none 0 0] 24) = V6 at hA_6 qN_6 q_7 qZ_7 hB_7 ⊢
                clear hA_6
                generalize V4.heap.size = b6 at qN_6 hn_6 hl_6 ⊢
                have z0_8 := cells_at qN_6 0 _ rfl
                have y0_8 := frozen_at qN_6 0
                have z1_8 := cells_at qN_6 1 _ rfl
                have y1_8 := frozen_at qN_6 1
                refine wpAnyH_ready (rs := [8]) (by kernel_rfl) (by simp) (AllReadyH.cons rfl (fun K hK => ?_) AllReadyH.nil)
                refine step_store rfl rfl ((V6.setCell ⟨b6, 0, none⟩ (.int .i64 0)).setCell ⟨b6, 1, none⟩ (.slice za 0 zc)) (by go_simp) ?_
                have qB_8 : ((V6.setCell ⟨b6, 0, none⟩ (.int .i64 0)).setCell ⟨b6, 1, none⟩ (.slice za 0 zc)).heap[b6]? = some (.cells #[.int .i64 0, .slice za 0 zc] 24 (0, 0)) := by simpa using (heap_setCell_same _ _ 1 _ _ (.slice za 0 zc) (heap_setCell_same _ _ 0 _ _ (.int .i64 0) qN_6))
                have q_8 := (heap_far (j := 1) (v := .slice za 0 zc) (heap_far (j := 0) (v := .int .i64 0) q_7 hn_6) hn_6)
                have hB_8 := ((hB_7.setCell (p := ⟨b6, 0, none⟩) hl_6 (.int .i64 0)).setCell (p := ⟨b6, 1, none⟩) hl_6 (.slice za 0 zc))
                refine hK.out _ _ ⟨cells_at q_8 0 _ rfl, cells_at q_8 1 _ rfl⟩ (fun hHeld => ?_)
                generalize ((V6.setCell ⟨b6, 0, none⟩ (.int .i64 0)).setCell ⟨b6, 1, none⟩ (.slice za 0 zc)) = V8 at qB_8 q_8 hB_8 hHeld ⊢
                refine take_dst (i := 9) (d := 12) (v := .int .i64 1) rfl rfl (by kernel_rfl) (by kernel_rfl) (by kernel_rfl) (fun _ _ _ h => h) (Or.inl ⟨by rfl, ?_⟩) hHeld ?_
                · (intro w0 hSw; (try dsimp only at hSw); go_simp)
                simp only [Act.put, List.setIfInBounds_toArray, List.set_cons_zero, List.set_cons_succ]
                refine wpAnyH_done (by kernel_rfl) ?_ _
                go_wp2_with fail
                go_meet
                case rel => exact ⟨rfl, hB_8⟩
              · skip
                refine step_run rfl 11 rfl (.pointer (some ⟨V1.heap.size, 0, none⟩)) (V1.alloc (.cells #[.int .i64 0, .slice none 0 0] 24)) (by go_simp) ?_
                have hA_9 : Below V1.heap.size V1 (V1.alloc (.cells #[.int .i64 0, .slice none 0 0] 24)) := (Below.refl _ _).alloc (Nat.le_refl _) _
                have qN_9 := heap_alloc_new V1 (.cells #[.int .i64 0, .slice none 0 0] 24)
                have hn_9 : w.heap.size ≠ V1.heap.size := by have := lt_of_heap q_2; omega
                have hl_9 : wr.heap.size ≤ V1.heap.size := hB_2.size
                have q_10 := (hA_9.block _ (lt_of_heap q_2)).trans q_2
                have qZ_10 := (hA_9.block _ (lt_of_heap qN_1)).trans qN_1
                have hB_10 := hB_2.trans (hA_9.mono hB_2.size)
                refine hK.out _ _ ⟨cells_at q_10 0 _ rfl, cells_at q_10 1 _ rfl⟩ (fun hHeld => ?_)
                simp only [Act.put, List.setIfInBounds_toArray, List.set_cons_zero, List.set_cons_succ]
                generalize V1.alloc (.cells #[.int .i64 0, .slice none 0 0] 24) = V9 at hA_9 qN_9 q_10 qZ_10 hB_10 ⊢
                clear hA_9
                generalize V1.heap.size = b9 at qN_9 hn_9 hl_9 ⊢
                refine wpAnyH_ready (rs := [3]) (by kernel_rfl) (by simp) (AllReadyH.cons rfl (fun K hK => ?_) AllReadyH.nil)
                refine step_calls_dst rfl 73 rfl 16 [.tmp 70, .tmp 72] #[24, 9] rfl [.agg #[.int .i64 1, .slice va n vc], .string (bstr z30)] rfl (enters_of Try.func16 (by kernel_rfl) rfl) (fun v w' => (∃ za zc, v = .tuple #[.agg #[.int .i64 0, .slice za 0 zc], .int .i64 1]) ∧ Below V9.heap.size V9 w') ((HD.out V9 hB_10).mono (fun e w2 h => by obtain ⟨za, zc, h1, h2⟩ := h; exact ⟨_, h1, ⟨za, zc, rfl⟩, h2⟩)) ?_
                rintro v V11 ⟨⟨za, zc, rfl⟩, hb_11⟩
                have q_12 := (hb_11.block _ (lt_of_heap q_10)).trans q_10
                have qZ_12 := (hb_11.block _ (lt_of_heap qZ_10)).trans qZ_10
                have qB_12 := (hb_11.block _ (lt_of_heap qN_9)).trans qN_9
                have hB_12 := hB_10.trans (hb_11.mono hB_10.size)
                refine hK.out _ _ ⟨cells_at q_12 0 _ rfl, cells_at q_12 1 _ rfl⟩ (fun hHeld => ?_)
                simp only [Act.put, List.setIfInBounds_toArray, List.set_cons_zero, List.set_cons_succ]
                refine take_dst (i := 4) (d := 69) (v := .tuple #[.agg #[.int .i64 0, .slice za 0 zc], .int .i64 1]) rfl rfl (by kernel_rfl) (by kernel_rfl) (by kernel_rfl) (fun _ _ _ h => h) (Or.inl ⟨by rfl, ?_⟩) hHeld ?_
                · (intro w0 hSw; (try dsimp only at hSw); go_simp)
                simp only [Act.put, List.setIfInBounds_toArray, List.set_cons_zero, List.set_cons_succ]
                refine take_dst (i := 5) (d := 74) (v := .agg #[.int .i64 0, .slice za 0 zc]) rfl rfl (by kernel_rfl) (by kernel_rfl) (by kernel_rfl) (fun _ _ _ h => h) (Or.inl ⟨by rfl, ?_⟩) hHeld ?_
                · (intro w0 hSw; (try dsimp only at hSw); go_simp)
                simp only [Act.put, List.setIfInBounds_toArray, List.set_cons_zero, List.set_cons_succ]
                refine take_dst (i := 6) (d := 75) (v := .int .i64 1) rfl rfl (by kernel_rfl) (by kernel_rfl) (by kernel_rfl) (fun _ _ _ h => h) (Or.inl ⟨by rfl, ?_⟩) hHeld ?_
                · (intro w0 hSw; (try dsimp only at hSw); go_simp)
                simp only [Act.put, List.setIfInBounds_toArray, List.set_cons_zero, List.set_cons_succ]
                have z0_13 := cells_at qB_12 0 _ rfl
                have y0_13 := frozen_at qB_12 0
                have z1_13 := cells_at qB_12 1 _ rfl
                have y1_13 := frozen_at qB_12 1
                refine wpAnyH_ready (rs := [8]) (by kernel_rfl) (by simp) (AllReadyH.cons rfl (fun K hK => ?_) AllReadyH.nil)
                refine step_store rfl rfl ((V11.setCell ⟨b9, 0, none⟩ (.int .i64 0)).setCell ⟨b9, 1, none⟩ (.slice za 0 zc)) (by go_simp) ?_
                have qB_13 : ((V11.setCell ⟨b9, 0, none⟩ (.int .i64 0)).setCell ⟨b9, 1, none⟩ (.slice za 0 zc)).heap[b9]? = some (.cells #[.int .i64 0, .slice za 0 zc] 24 (0, 0)) := by simpa using (heap_setCell_same _ _ 1 _ _ (.slice za 0 zc) (heap_setCell_same _ _ 0 _ _ (.int .i64 0) qB_12))
                have q_13 := (heap_far (j := 1) (v := .slice za 0 zc) (heap_far (j := 0) (v := .int .i64 0) q_12 hn_9) hn_9)
                have hB_13 := ((hB_12.setCell (p := ⟨b9, 0, none⟩) hl_9 (.int .i64 0)).setCell (p := ⟨b9, 1, none⟩) hl_9 (.slice za 0 zc))
                refine hK.out _ _ ⟨cells_at q_13 0 _ rfl, cells_at q_13 1 _ rfl⟩ (fun hHeld => ?_)
                generalize ((V11.setCell ⟨b9, 0, none⟩ (.int .i64 0)).setCell ⟨b9, 1, none⟩ (.slice za 0 zc)) = V13 at qB_13 q_13 hB_13 hHeld ⊢
                refine take_dst (i := 9) (d := 12) (v := .int .i64 1) rfl rfl (by kernel_rfl) (by kernel_rfl) (by kernel_rfl) (fun _ _ _ h => h) (Or.inl ⟨by rfl, ?_⟩) hHeld ?_
                · (intro w0 hSw; (try dsimp only at hSw); go_simp)
                simp only [Act.put, List.setIfInBounds_toArray, List.set_cons_zero, List.set_cons_succ]
                refine wpAnyH_done (by kernel_rfl) ?_ _
                go_wp2_with fail
                go_meet
                case rel => exact ⟨rfl, hB_13⟩
            · skip
              refine step_run rfl 11 rfl (.pointer (some ⟨V1.heap.size, 0, none⟩)) (V1.alloc (.cells #[.int .i64 0, .slice none 0 0] 24)) (by go_simp) ?_
              have hA_14 : Below V1.heap.size V1 (V1.alloc (.cells #[.int .i64 0, .slice none 0 0] 24)) := (Below.refl _ _).alloc (Nat.le_refl _) _
              have qN_14 := heap_alloc_new V1 (.cells #[.int .i64 0, .slice none 0 0] 24)
              have hn_14 : w.heap.size ≠ V1.heap.size := by have := lt_of_heap q_2; omega
              have hl_14 : wr.heap.size ≤ V1.heap.size := hB_2.size
              have q_15 := (hA_14.block _ (lt_of_heap q_2)).trans q_2
              have qZ_15 := (hA_14.block _ (lt_of_heap qN_1)).trans qN_1
              have hB_15 := hB_2.trans (hA_14.mono hB_2.size)
              refine hK.out _ _ ⟨cells_at q_15 0 _ rfl, cells_at q_15 1 _ rfl⟩ (fun hHeld => ?_)
              simp only [Act.put, List.setIfInBounds_toArray, List.set_cons_zero, List.set_cons_succ]
              generalize V1.alloc (.cells #[.int .i64 0, .slice none 0 0] 24) = V14 at hA_14 qN_14 q_15 qZ_15 hB_15 ⊢
              clear hA_14
              generalize V1.heap.size = b14 at qN_14 hn_14 hl_14 ⊢
              refine wpAnyH_ready (rs := [2]) (by kernel_rfl) (by simp) (AllReadyH.cons rfl (fun K hK => ?_) AllReadyH.nil)
              have cv_16 := run_text V14 (some ⟨b1, 0, none⟩) 30 30 z30 rfl (z_slice qZ_15 rfl)
              refine step_run rfl 72 rfl (.string (bstr z30)) V14 (by go_simp) ?_
              clear cv_16
              refine hK.out _ _ ⟨cells_at q_15 0 _ rfl, cells_at q_15 1 _ rfl⟩ (fun hHeld => ?_)
              simp only [Act.put, List.setIfInBounds_toArray, List.set_cons_zero, List.set_cons_succ]
              refine wpAnyH_ready (rs := [3]) (by kernel_rfl) (by simp) (AllReadyH.cons rfl (fun K hK => ?_) AllReadyH.nil)
              refine step_calls_dst rfl 73 rfl 16 [.tmp 70, .tmp 72] #[24, 9] rfl [.agg #[.int .i64 1, .slice va n vc], .string (bstr z30)] rfl (enters_of Try.func16 (by kernel_rfl) rfl) (fun v w' => (∃ za zc, v = .tuple #[.agg #[.int .i64 0, .slice za 0 zc], .int .i64 1]) ∧ Below V14.heap.size V14 w') ((HD.out V14 hB_15).mono (fun e w2 h => by obtain ⟨za, zc, h1, h2⟩ := h; exact ⟨_, h1, ⟨za, zc, rfl⟩, h2⟩)) ?_
              rintro v V17 ⟨⟨za, zc, rfl⟩, hb_17⟩
              have q_18 := (hb_17.block _ (lt_of_heap q_15)).trans q_15
              have qZ_18 := (hb_17.block _ (lt_of_heap qZ_15)).trans qZ_15
              have qB_18 := (hb_17.block _ (lt_of_heap qN_14)).trans qN_14
              have hB_18 := hB_15.trans (hb_17.mono hB_15.size)
              refine hK.out _ _ ⟨cells_at q_18 0 _ rfl, cells_at q_18 1 _ rfl⟩ (fun hHeld => ?_)
              simp only [Act.put, List.setIfInBounds_toArray, List.set_cons_zero, List.set_cons_succ]
              refine take_dst (i := 4) (d := 69) (v := .tuple #[.agg #[.int .i64 0, .slice za 0 zc], .int .i64 1]) rfl rfl (by kernel_rfl) (by kernel_rfl) (by kernel_rfl) (fun _ _ _ h => h) (Or.inl ⟨by rfl, ?_⟩) hHeld ?_
              · (intro w0 hSw; (try dsimp only at hSw); go_simp)
              simp only [Act.put, List.setIfInBounds_toArray, List.set_cons_zero, List.set_cons_succ]
              refine take_dst (i := 5) (d := 74) (v := .agg #[.int .i64 0, .slice za 0 zc]) rfl rfl (by kernel_rfl) (by kernel_rfl) (by kernel_rfl) (fun _ _ _ h => h) (Or.inl ⟨by rfl, ?_⟩) hHeld ?_
              · (intro w0 hSw; (try dsimp only at hSw); go_simp)
              simp only [Act.put, List.setIfInBounds_toArray, List.set_cons_zero, List.set_cons_succ]
              refine take_dst (i := 6) (d := 75) (v := .int .i64 1) rfl rfl (by kernel_rfl) (by kernel_rfl) (by kernel_rfl) (fun _ _ _ h => h) (Or.inl ⟨by rfl, ?_⟩) hHeld ?_
              · (intro w0 hSw; (try dsimp only at hSw); go_simp)
              simp only [Act.put, List.setIfInBounds_toArray, List.set_cons_zero, List.set_cons_succ]
              have z0_19 := cells_at qB_18 0 _ rfl
              have y0_19 := frozen_at qB_18 0
              have z1_19 := cells_at qB_18 1 _ rfl
              have y1_19 := frozen_at qB_18 1
              refine wpAnyH_ready (rs := [8]) (by kernel_rfl) (by simp) (AllReadyH.cons rfl (fun K hK => ?_) AllReadyH.nil)
              refine step_store rfl rfl ((V17.setCell ⟨b14, 0, none⟩ (.int .i64 0)).setCell ⟨b14, 1, none⟩ (.slice za 0 zc)) (by go_simp) ?_
              have qB_19 : ((V17.setCell ⟨b14, 0, none⟩ (.int .i64 0)).setCell ⟨b14, 1, none⟩ (.slice za 0 zc)).heap[b14]? = some (.cells #[.int .i64 0, .slice za 0 zc] 24 (0, 0)) := by simpa using (heap_setCell_same _ _ 1 _ _ (.slice za 0 zc) (heap_setCell_same _ _ 0 _ _ (.int .i64 0) qB_18))
              have q_19 := (heap_far (j := 1) (v := .slice za 0 zc) (heap_far (j := 0) (v := .int .i64 0) q_18 hn_14) hn_14)
              have hB_19 := ((hB_18.setCell (p := ⟨b14, 0, none⟩) hl_14 (.int .i64 0)).setCell (p := ⟨b14, 1, none⟩) hl_14 (.slice za 0 zc))
              refine hK.out _ _ ⟨cells_at q_19 0 _ rfl, cells_at q_19 1 _ rfl⟩ (fun hHeld => ?_)
              generalize ((V17.setCell ⟨b14, 0, none⟩ (.int .i64 0)).setCell ⟨b14, 1, none⟩ (.slice za 0 zc)) = V19 at qB_19 q_19 hB_19 hHeld ⊢
              refine take_dst (i := 9) (d := 12) (v := .int .i64 1) rfl rfl (by kernel_rfl) (by kernel_rfl) (by kernel_rfl) (fun _ _ _ h => h) (Or.inl ⟨by rfl, ?_⟩) hHeld ?_
              · (intro w0 hSw; (try dsimp only at hSw); go_simp)
              simp only [Act.put, List.setIfInBounds_toArray, List.set_cons_zero, List.set_cons_succ]
              refine wpAnyH_done (by kernel_rfl) ?_ _
              go_wp2_with fail
              go_meet
              case rel => exact ⟨rfl, hB_19⟩
          · skip
            refine step_run rfl 11 rfl (.pointer (some ⟨V0.heap.size, 0, none⟩)) (V0.alloc (.cells #[.int .i64 0, .slice none 0 0] 24)) (by go_simp) ?_
            have hA_20 : Below V0.heap.size V0 (V0.alloc (.cells #[.int .i64 0, .slice none 0 0] 24)) := (Below.refl _ _).alloc (Nat.le_refl _) _
            have qN_20 := heap_alloc_new V0 (.cells #[.int .i64 0, .slice none 0 0] 24)
            have hn_20 : w.heap.size ≠ V0.heap.size := by have := lt_of_heap qV0; omega
            have hl_20 : wr.heap.size ≤ V0.heap.size := hV0.size
            have q_21 := (hA_20.block _ (lt_of_heap qV0)).trans qV0
            have hB_21 := hV0.trans (hA_20.mono hV0.size)
            refine hK.out _ _ ⟨cells_at q_21 0 _ rfl, cells_at q_21 1 _ rfl⟩ (fun hHeld => ?_)
            simp only [Act.put, List.setIfInBounds_toArray, List.set_cons_zero, List.set_cons_succ]
            generalize V0.alloc (.cells #[.int .i64 0, .slice none 0 0] 24) = V20 at hA_20 qN_20 q_21 hB_21 ⊢
            clear hA_20
            generalize V0.heap.size = b20 at qN_20 hn_20 hl_20 ⊢
            refine wpAnyH_ready (rs := [1]) (by kernel_rfl) (by simp) (AllReadyH.cons rfl (fun K hK => ?_) AllReadyH.nil)
            refine step_run rfl 71 rfl (.slice (some ⟨V20.heap.size, 0, none⟩) 30 30) (V20.alloc (.cells (ub z30).toArray 5)) (by go_simp) ?_
            have hA_22 : Below V20.heap.size V20 (V20.alloc (.cells (ub z30).toArray 5)) := (Below.refl _ _).alloc (Nat.le_refl _) _
            have qN_22 := heap_alloc_new V20 (.cells (ub z30).toArray 5)
            have hn_22 : w.heap.size ≠ V20.heap.size := by have := lt_of_heap q_21; omega
            have hl_22 : wr.heap.size ≤ V20.heap.size := hB_21.size
            have q_23 := (hA_22.block _ (lt_of_heap q_21)).trans q_21
            have qB_23 := (hA_22.block _ (lt_of_heap qN_20)).trans qN_20
            have hB_23 := hB_21.trans (hA_22.mono hB_21.size)
            refine hK.out _ _ ⟨cells_at q_23 0 _ rfl, cells_at q_23 1 _ rfl⟩ (fun hHeld => ?_)
            simp only [Act.put, List.setIfInBounds_toArray, List.set_cons_zero, List.set_cons_succ]
            generalize V20.alloc (.cells (ub z30).toArray 5) = V22 at hA_22 qN_22 q_23 qB_23 hB_23 ⊢
            clear hA_22
            generalize V20.heap.size = b22 at qN_22 hn_22 hl_22 ⊢
            refine wpAnyH_ready (rs := [2]) (by kernel_rfl) (by simp) (AllReadyH.cons rfl (fun K hK => ?_) AllReadyH.nil)
            have cv_24 := run_text V22 (some ⟨b22, 0, none⟩) 30 30 z30 rfl (z_slice qN_22 rfl)
            refine step_run rfl 72 rfl (.string (bstr z30)) V22 (by go_simp) ?_
            clear cv_24
            refine hK.out _ _ ⟨cells_at q_23 0 _ rfl, cells_at q_23 1 _ rfl⟩ (fun hHeld => ?_)
            simp only [Act.put, List.setIfInBounds_toArray, List.set_cons_zero, List.set_cons_succ]
            refine wpAnyH_ready (rs := [3]) (by kernel_rfl) (by simp) (AllReadyH.cons rfl (fun K hK => ?_) AllReadyH.nil)
            refine step_calls_dst rfl 73 rfl 16 [.tmp 70, .tmp 72] #[24, 9] rfl [.agg #[.int .i64 1, .slice va n vc], .string (bstr z30)] rfl (enters_of Try.func16 (by kernel_rfl) rfl) (fun v w' => (∃ za zc, v = .tuple #[.agg #[.int .i64 0, .slice za 0 zc], .int .i64 1]) ∧ Below V22.heap.size V22 w') ((HD.out V22 hB_23).mono (fun e w2 h => by obtain ⟨za, zc, h1, h2⟩ := h; exact ⟨_, h1, ⟨za, zc, rfl⟩, h2⟩)) ?_
            rintro v V25 ⟨⟨za, zc, rfl⟩, hb_25⟩
            have q_26 := (hb_25.block _ (lt_of_heap q_23)).trans q_23
            have qZ_26 := (hb_25.block _ (lt_of_heap qN_22)).trans qN_22
            have qB_26 := (hb_25.block _ (lt_of_heap qB_23)).trans qB_23
            have hB_26 := hB_23.trans (hb_25.mono hB_23.size)
            refine hK.out _ _ ⟨cells_at q_26 0 _ rfl, cells_at q_26 1 _ rfl⟩ (fun hHeld => ?_)
            simp only [Act.put, List.setIfInBounds_toArray, List.set_cons_zero, List.set_cons_succ]
            refine take_dst (i := 4) (d := 69) (v := .tuple #[.agg #[.int .i64 0, .slice za 0 zc], .int .i64 1]) rfl rfl (by kernel_rfl) (by kernel_rfl) (by kernel_rfl) (fun _ _ _ h => h) (Or.inl ⟨by rfl, ?_⟩) hHeld ?_
            · (intro w0 hSw; (try dsimp only at hSw); go_simp)
            simp only [Act.put, List.setIfInBounds_toArray, List.set_cons_zero, List.set_cons_succ]
            refine take_dst (i := 5) (d := 74) (v := .agg #[.int .i64 0, .slice za 0 zc]) rfl rfl (by kernel_rfl) (by kernel_rfl) (by kernel_rfl) (fun _ _ _ h => h) (Or.inl ⟨by rfl, ?_⟩) hHeld ?_
            · (intro w0 hSw; (try dsimp only at hSw); go_simp)
            simp only [Act.put, List.setIfInBounds_toArray, List.set_cons_zero, List.set_cons_succ]
            refine take_dst (i := 6) (d := 75) (v := .int .i64 1) rfl rfl (by kernel_rfl) (by kernel_rfl) (by kernel_rfl) (fun _ _ _ h => h) (Or.inl ⟨by rfl, ?_⟩) hHeld ?_
            · (intro w0 hSw; (try dsimp only at hSw); go_simp)
            simp only [Act.put, List.setIfInBounds_toArray, List.set_cons_zero, List.set_cons_succ]
            have z0_27 := cells_at qB_26 0 _ rfl
            have y0_27 := frozen_at qB_26 0
            have z1_27 := cells_at qB_26 1 _ rfl
            have y1_27 := frozen_at qB_26 1
            refine wpAnyH_ready (rs := [8]) (by kernel_rfl) (by simp) (AllReadyH.cons rfl (fun K hK => ?_) AllReadyH.nil)
            refine step_store rfl rfl ((V25.setCell ⟨b20, 0, none⟩ (.int .i64 0)).setCell ⟨b20, 1, none⟩ (.slice za 0 zc)) (by go_simp) ?_
            have qB_27 : ((V25.setCell ⟨b20, 0, none⟩ (.int .i64 0)).setCell ⟨b20, 1, none⟩ (.slice za 0 zc)).heap[b20]? = some (.cells #[.int .i64 0, .slice za 0 zc] 24 (0, 0)) := by simpa using (heap_setCell_same _ _ 1 _ _ (.slice za 0 zc) (heap_setCell_same _ _ 0 _ _ (.int .i64 0) qB_26))
            have q_27 := (heap_far (j := 1) (v := .slice za 0 zc) (heap_far (j := 0) (v := .int .i64 0) q_26 hn_20) hn_20)
            have hB_27 := ((hB_26.setCell (p := ⟨b20, 0, none⟩) hl_20 (.int .i64 0)).setCell (p := ⟨b20, 1, none⟩) hl_20 (.slice za 0 zc))
            refine hK.out _ _ ⟨cells_at q_27 0 _ rfl, cells_at q_27 1 _ rfl⟩ (fun hHeld => ?_)
            generalize ((V25.setCell ⟨b20, 0, none⟩ (.int .i64 0)).setCell ⟨b20, 1, none⟩ (.slice za 0 zc)) = V27 at qB_27 q_27 hB_27 hHeld ⊢
            refine take_dst (i := 9) (d := 12) (v := .int .i64 1) rfl rfl (by kernel_rfl) (by kernel_rfl) (by kernel_rfl) (fun _ _ _ h => h) (Or.inl ⟨by rfl, ?_⟩) hHeld ?_
            · (intro w0 hSw; (try dsimp only at hSw); go_simp)
            simp only [Act.put, List.setIfInBounds_toArray, List.set_cons_zero, List.set_cons_succ]
            refine wpAnyH_done (by kernel_rfl) ?_ _
            go_wp2_with fail
            go_meet
            case rel => exact ⟨rfl, hB_27⟩
        case rest =>
          obtain ⟨rfl, hbc⟩ := hcut
          have s0 := (hbc.block _ (lt_of_heap r0)).trans r0
          clear c0 c1
          have c1 : wc.cell? ⟨w.heap.size, 1, none⟩ = some (.slice va n vc) := cells_at s0 1 _ rfl
          have hBc := hW.trans (hbc.mono hW.size)
          go_wp2_with fail
          refine (FIN.out _ hbc).mono ?_
          rintro e w5 ⟨he, hb5⟩
          subst he
          dsimp only
          go_wp2_with fail
          go_ret
          exact ⟨by rfl, hBc.trans (hb5.mono hBc.size)⟩
      · skip
        go_upto_region 18 with fail
        go_cut [12] (fun v wx => v = .int .i64 1 ∧ Below wr.heap.size wr wx)
        case first =>
          have hV0 : Below wr.heap.size wr wr.drew := (Below.refl _ _).drew
          have qV0 : wr.drew.heap[w.heap.size]? = some (.cells #[.int .i64 1, .slice va n vc] 24 (0, 0)) := r0
          refine wp_region_held_drew (S := fun w' => w'.cell? ⟨w.heap.size, 0, none⟩ = some (.int .i64 1) ∧ w'.cell? ⟨w.heap.size, 1, none⟩ = some (.slice va n vc)) (by kernel_rfl) ⟨cells_at qV0 0 _ rfl, cells_at qV0 1 _ rfl⟩ (fun hHeld => ?_)
          generalize wr.drew = V0 at hV0 qV0 hHeld ⊢
          refine take_dst (i := 0) (d := 70) (v := .agg #[.int .i64 1, .slice va n vc]) rfl rfl (by kernel_rfl) (by kernel_rfl) (by kernel_rfl) (fun _ _ _ h => h) (Or.inl ⟨by rfl, ?_⟩) hHeld ?_
          · (intro w0 hSw; (try dsimp only at hSw); go_simp)
          simp only [Act.put, List.setIfInBounds_toArray, List.set_cons_zero, List.set_cons_succ]
          refine wpAnyH_ready (rs := [1, 7]) (by kernel_rfl) (by simp) (AllReadyH.cons rfl (fun K hK => ?_) (AllReadyH.cons rfl (fun K hK => ?_) AllReadyH.nil))
          · skip
            refine step_run rfl 71 rfl (.slice (some ⟨V0.heap.size, 0, none⟩) 30 30) (V0.alloc (.cells (ub z30).toArray 5)) (by go_simp) ?_
            have hA_1 : Below V0.heap.size V0 (V0.alloc (.cells (ub z30).toArray 5)) := (Below.refl _ _).alloc (Nat.le_refl _) _
            have qN_1 := heap_alloc_new V0 (.cells (ub z30).toArray 5)
            have hn_1 : w.heap.size ≠ V0.heap.size := by have := lt_of_heap qV0; omega
            have hl_1 : wr.heap.size ≤ V0.heap.size := hV0.size
            have q_2 := (hA_1.block _ (lt_of_heap qV0)).trans qV0
            have hB_2 := hV0.trans (hA_1.mono hV0.size)
            refine hK.out _ _ ⟨cells_at q_2 0 _ rfl, cells_at q_2 1 _ rfl⟩ (fun hHeld => ?_)
            simp only [Act.put, List.setIfInBounds_toArray, List.set_cons_zero, List.set_cons_succ]
            generalize V0.alloc (.cells (ub z30).toArray 5) = V1 at hA_1 qN_1 q_2 hB_2 ⊢
            clear hA_1
            generalize V0.heap.size = b1 at qN_1 hn_1 hl_1 ⊢
            refine wpAnyH_ready (rs := [2, 7]) (by kernel_rfl) (by simp) (AllReadyH.cons rfl (fun K hK => ?_) (AllReadyH.cons rfl (fun K hK => ?_) AllReadyH.nil))
            · skip
              have cv_3 := run_text V1 (some ⟨b1, 0, none⟩) 30 30 z30 rfl (z_slice qN_1 rfl)
              refine step_run rfl 72 rfl (.string (bstr z30)) V1 (by go_simp) ?_
              clear cv_3
              refine hK.out _ _ ⟨cells_at q_2 0 _ rfl, cells_at q_2 1 _ rfl⟩ (fun hHeld => ?_)
              simp only [Act.put, List.setIfInBounds_toArray, List.set_cons_zero, List.set_cons_succ]
              refine wpAnyH_ready (rs := [3, 7]) (by kernel_rfl) (by simp) (AllReadyH.cons rfl (fun K hK => ?_) (AllReadyH.cons rfl (fun K hK => ?_) AllReadyH.nil))
              · skip
                refine step_calls_dst rfl 73 rfl 16 [.tmp 70, .tmp 72] #[24, 9] rfl [.agg #[.int .i64 1, .slice va n vc], .string (bstr z30)] rfl (enters_of Try.func16 (by kernel_rfl) rfl) (fun v w' => (∃ za zc, v = .tuple #[.agg #[.int .i64 0, .slice za 0 zc], .int .i64 1]) ∧ Below V1.heap.size V1 w') ((HD.out V1 hB_2).mono (fun e w2 h => by obtain ⟨za, zc, h1, h2⟩ := h; exact ⟨_, h1, ⟨za, zc, rfl⟩, h2⟩)) ?_
                rintro v V4 ⟨⟨za, zc, rfl⟩, hb_4⟩
                have q_5 := (hb_4.block _ (lt_of_heap q_2)).trans q_2
                have qZ_5 := (hb_4.block _ (lt_of_heap qN_1)).trans qN_1
                have hB_5 := hB_2.trans (hb_4.mono hB_2.size)
                refine hK.out _ _ ⟨cells_at q_5 0 _ rfl, cells_at q_5 1 _ rfl⟩ (fun hHeld => ?_)
                simp only [Act.put, List.setIfInBounds_toArray, List.set_cons_zero, List.set_cons_succ]
                refine take_dst (i := 4) (d := 69) (v := .tuple #[.agg #[.int .i64 0, .slice za 0 zc], .int .i64 1]) rfl rfl (by kernel_rfl) (by kernel_rfl) (by kernel_rfl) (fun _ _ _ h => h) (Or.inl ⟨by rfl, ?_⟩) hHeld ?_
                · (intro w0 hSw; (try dsimp only at hSw); go_simp)
                simp only [Act.put, List.setIfInBounds_toArray, List.set_cons_zero, List.set_cons_succ]
                refine take_dst (i := 5) (d := 74) (v := .agg #[.int .i64 0, .slice za 0 zc]) rfl rfl (by kernel_rfl) (by kernel_rfl) (by kernel_rfl) (fun _ _ _ h => h) (Or.inl ⟨by rfl, ?_⟩) hHeld ?_
                · (intro w0 hSw; (try dsimp only at hSw); go_simp)
                simp only [Act.put, List.setIfInBounds_toArray, List.set_cons_zero, List.set_cons_succ]
                refine take_dst (i := 6) (d := 75) (v := .int .i64 1) rfl rfl (by kernel_rfl) (by kernel_rfl) (by kernel_rfl) (fun _ _ _ h => h) (Or.inl ⟨by rfl, ?_⟩) hHeld ?_
                · (intro w0 hSw; (try dsimp only at hSw); go_simp)
                simp only [Act.put, List.setIfInBounds_toArray, List.set_cons_zero, List.set_cons_succ]
                refine wpAnyH_ready (rs := [7]) (by kernel_rfl) (by simp) (AllReadyH.cons rfl (fun K hK => ?_) AllReadyH.nil)
                refine step_run rfl 11 rfl (.pointer (some ⟨V4.heap.size, 0, none⟩)) (V4.alloc (.cells #[.int .i64 0, .slice none 0 0] 24)) (by go_simp) ?_
                have hA_6 : Below V4.heap.size V4 (V4.alloc (.cells #[.int .i64 0, .slice none 0 0] 24)) := (Below.refl _ _).alloc (Nat.le_refl _) _
                have qN_6 := heap_alloc_new V4 (.cells #[.int .i64 0, .slice none 0 0] 24)
                have hn_6 : w.heap.size ≠ V4.heap.size := by have := lt_of_heap q_5; omega
                have hl_6 : wr.heap.size ≤ V4.heap.size := hB_5.size
                have q_7 := (hA_6.block _ (lt_of_heap q_5)).trans q_5
                have qZ_7 := (hA_6.block _ (lt_of_heap qZ_5)).trans qZ_5
                have hB_7 := hB_5.trans (hA_6.mono hB_5.size)
                refine hK.out _ _ ⟨cells_at q_7 0 _ rfl, cells_at q_7 1 _ rfl⟩ (fun hHeld => ?_)
                simp only [Act.put, List.setIfInBounds_toArray, List.set_cons_zero, List.set_cons_succ]
                generalize V4.alloc (.cells #[.int .i64 0, .slice none 0 0] 24) = V6 at hA_6 qN_6 q_7 qZ_7 hB_7 ⊢
                clear hA_6
                generalize V4.heap.size = b6 at qN_6 hn_6 hl_6 ⊢
                have z0_8 := cells_at qN_6 0 _ rfl
                have y0_8 := frozen_at qN_6 0
                have z1_8 := cells_at qN_6 1 _ rfl
                have y1_8 := frozen_at qN_6 1
                refine wpAnyH_ready (rs := [8]) (by kernel_rfl) (by simp) (AllReadyH.cons rfl (fun K hK => ?_) AllReadyH.nil)
                refine step_store rfl rfl ((V6.setCell ⟨b6, 0, none⟩ (.int .i64 0)).setCell ⟨b6, 1, none⟩ (.slice za 0 zc)) (by go_simp) ?_
                have qB_8 : ((V6.setCell ⟨b6, 0, none⟩ (.int .i64 0)).setCell ⟨b6, 1, none⟩ (.slice za 0 zc)).heap[b6]? = some (.cells #[.int .i64 0, .slice za 0 zc] 24 (0, 0)) := by simpa using (heap_setCell_same _ _ 1 _ _ (.slice za 0 zc) (heap_setCell_same _ _ 0 _ _ (.int .i64 0) qN_6))
                have q_8 := (heap_far (j := 1) (v := .slice za 0 zc) (heap_far (j := 0) (v := .int .i64 0) q_7 hn_6) hn_6)
                have hB_8 := ((hB_7.setCell (p := ⟨b6, 0, none⟩) hl_6 (.int .i64 0)).setCell (p := ⟨b6, 1, none⟩) hl_6 (.slice za 0 zc))
                refine hK.out _ _ ⟨cells_at q_8 0 _ rfl, cells_at q_8 1 _ rfl⟩ (fun hHeld => ?_)
                generalize ((V6.setCell ⟨b6, 0, none⟩ (.int .i64 0)).setCell ⟨b6, 1, none⟩ (.slice za 0 zc)) = V8 at qB_8 q_8 hB_8 hHeld ⊢
                refine take_dst (i := 9) (d := 12) (v := .int .i64 1) rfl rfl (by kernel_rfl) (by kernel_rfl) (by kernel_rfl) (fun _ _ _ h => h) (Or.inl ⟨by rfl, ?_⟩) hHeld ?_
                · (intro w0 hSw; (try dsimp only at hSw); go_simp)
                simp only [Act.put, List.setIfInBounds_toArray, List.set_cons_zero, List.set_cons_succ]
                refine wpAnyH_done (by kernel_rfl) ?_ _
                go_wp2_with fail
                go_meet
                case rel => exact ⟨rfl, hB_8⟩
              · skip
                refine step_run rfl 11 rfl (.pointer (some ⟨V1.heap.size, 0, none⟩)) (V1.alloc (.cells #[.int .i64 0, .slice none 0 0] 24)) (by go_simp) ?_
                have hA_9 : Below V1.heap.size V1 (V1.alloc (.cells #[.int .i64 0, .slice none 0 0] 24)) := (Below.refl _ _).alloc (Nat.le_refl _) _
                have qN_9 := heap_alloc_new V1 (.cells #[.int .i64 0, .slice none 0 0] 24)
                have hn_9 : w.heap.size ≠ V1.heap.size := by have := lt_of_heap q_2; omega
                have hl_9 : wr.heap.size ≤ V1.heap.size := hB_2.size
                have q_10 := (hA_9.block _ (lt_of_heap q_2)).trans q_2
                have qZ_10 := (hA_9.block _ (lt_of_heap qN_1)).trans qN_1
                have hB_10 := hB_2.trans (hA_9.mono hB_2.size)
                refine hK.out _ _ ⟨cells_at q_10 0 _ rfl, cells_at q_10 1 _ rfl⟩ (fun hHeld => ?_)
                simp only [Act.put, List.setIfInBounds_toArray, List.set_cons_zero, List.set_cons_succ]
                generalize V1.alloc (.cells #[.int .i64 0, .slice none 0 0] 24) = V9 at hA_9 qN_9 q_10 qZ_10 hB_10 ⊢
                clear hA_9
                generalize V1.heap.size = b9 at qN_9 hn_9 hl_9 ⊢
                refine wpAnyH_ready (rs := [3]) (by kernel_rfl) (by simp) (AllReadyH.cons rfl (fun K hK => ?_) AllReadyH.nil)
                refine step_calls_dst rfl 73 rfl 16 [.tmp 70, .tmp 72] #[24, 9] rfl [.agg #[.int .i64 1, .slice va n vc], .string (bstr z30)] rfl (enters_of Try.func16 (by kernel_rfl) rfl) (fun v w' => (∃ za zc, v = .tuple #[.agg #[.int .i64 0, .slice za 0 zc], .int .i64 1]) ∧ Below V9.heap.size V9 w') ((HD.out V9 hB_10).mono (fun e w2 h => by obtain ⟨za, zc, h1, h2⟩ := h; exact ⟨_, h1, ⟨za, zc, rfl⟩, h2⟩)) ?_
                rintro v V11 ⟨⟨za, zc, rfl⟩, hb_11⟩
                have q_12 := (hb_11.block _ (lt_of_heap q_10)).trans q_10
                have qZ_12 := (hb_11.block _ (lt_of_heap qZ_10)).trans qZ_10
                have qB_12 := (hb_11.block _ (lt_of_heap qN_9)).trans qN_9
                have hB_12 := hB_10.trans (hb_11.mono hB_10.size)
                refine hK.out _ _ ⟨cells_at q_12 0 _ rfl, cells_at q_12 1 _ rfl⟩ (fun hHeld => ?_)
                simp only [Act.put, List.setIfInBounds_toArray, List.set_cons_zero, List.set_cons_succ]
                refine take_dst (i := 4) (d := 69) (v := .tuple #[.agg #[.int .i64 0, .slice za 0 zc], .int .i64 1]) rfl rfl (by kernel_rfl) (by kernel_rfl) (by kernel_rfl) (fun _ _ _ h => h) (Or.inl ⟨by rfl, ?_⟩) hHeld ?_
                · (intro w0 hSw; (try dsimp only at hSw); go_simp)
                simp only [Act.put, List.setIfInBounds_toArray, List.set_cons_zero, List.set_cons_succ]
                refine take_dst (i := 5) (d := 74) (v := .agg #[.int .i64 0, .slice za 0 zc]) rfl rfl (by kernel_rfl) (by kernel_rfl) (by kernel_rfl) (fun _ _ _ h => h) (Or.inl ⟨by rfl, ?_⟩) hHeld ?_
                · (intro w0 hSw; (try dsimp only at hSw); go_simp)
                simp only [Act.put, List.setIfInBounds_toArray, List.set_cons_zero, List.set_cons_succ]
                refine take_dst (i := 6) (d := 75) (v := .int .i64 1) rfl rfl (by kernel_rfl) (by kernel_rfl) (by kernel_rfl) (fun _ _ _ h => h) (Or.inl ⟨by rfl, ?_⟩) hHeld ?_
                · (intro w0 hSw; (try dsimp only at hSw); go_simp)
                simp only [Act.put, List.setIfInBounds_toArray, List.set_cons_zero, List.set_cons_succ]
                have z0_13 := cells_at qB_12 0 _ rfl
                have y0_13 := frozen_at qB_12 0
                have z1_13 := cells_at qB_12 1 _ rfl
                have y1_13 := frozen_at qB_12 1
                refine wpAnyH_ready (rs := [8]) (by kernel_rfl) (by simp) (AllReadyH.cons rfl (fun K hK => ?_) AllReadyH.nil)
                refine step_store rfl rfl ((V11.setCell ⟨b9, 0, none⟩ (.int .i64 0)).setCell ⟨b9, 1, none⟩ (.slice za 0 zc)) (by go_simp) ?_
                have qB_13 : ((V11.setCell ⟨b9, 0, none⟩ (.int .i64 0)).setCell ⟨b9, 1, none⟩ (.slice za 0 zc)).heap[b9]? = some (.cells #[.int .i64 0, .slice za 0 zc] 24 (0, 0)) := by simpa using (heap_setCell_same _ _ 1 _ _ (.slice za 0 zc) (heap_setCell_same _ _ 0 _ _ (.int .i64 0) qB_12))
                have q_13 := (heap_far (j := 1) (v := .slice za 0 zc) (heap_far (j := 0) (v := .int .i64 0) q_12 hn_9) hn_9)
                have hB_13 := ((hB_12.setCell (p := ⟨b9, 0, none⟩) hl_9 (.int .i64 0)).setCell (p := ⟨b9, 1, none⟩) hl_9 (.slice za 0 zc))
                refine hK.out _ _ ⟨cells_at q_13 0 _ rfl, cells_at q_13 1 _ rfl⟩ (fun hHeld => ?_)
                generalize ((V11.setCell ⟨b9, 0, none⟩ (.int .i64 0)).setCell ⟨b9, 1, none⟩ (.slice za 0 zc)) = V13 at qB_13 q_13 hB_13 hHeld ⊢
                refine take_dst (i := 9) (d := 12) (v := .int .i64 1) rfl rfl (by kernel_rfl) (by kernel_rfl) (by kernel_rfl) (fun _ _ _ h => h) (Or.inl ⟨by rfl, ?_⟩) hHeld ?_
                · (intro w0 hSw; (try dsimp only at hSw); go_simp)
                simp only [Act.put, List.setIfInBounds_toArray, List.set_cons_zero, List.set_cons_succ]
                refine wpAnyH_done (by kernel_rfl) ?_ _
                go_wp2_with fail
                go_meet
                case rel => exact ⟨rfl, hB_13⟩
            · skip
              refine step_run rfl 11 rfl (.pointer (some ⟨V1.heap.size, 0, none⟩)) (V1.alloc (.cells #[.int .i64 0, .slice none 0 0] 24)) (by go_simp) ?_
              have hA_14 : Below V1.heap.size V1 (V1.alloc (.cells #[.int .i64 0, .slice none 0 0] 24)) := (Below.refl _ _).alloc (Nat.le_refl _) _
              have qN_14 := heap_alloc_new V1 (.cells #[.int .i64 0, .slice none 0 0] 24)
              have hn_14 : w.heap.size ≠ V1.heap.size := by have := lt_of_heap q_2; omega
              have hl_14 : wr.heap.size ≤ V1.heap.size := hB_2.size
              have q_15 := (hA_14.block _ (lt_of_heap q_2)).trans q_2
              have qZ_15 := (hA_14.block _ (lt_of_heap qN_1)).trans qN_1
              have hB_15 := hB_2.trans (hA_14.mono hB_2.size)
              refine hK.out _ _ ⟨cells_at q_15 0 _ rfl, cells_at q_15 1 _ rfl⟩ (fun hHeld => ?_)
              simp only [Act.put, List.setIfInBounds_toArray, List.set_cons_zero, List.set_cons_succ]
              generalize V1.alloc (.cells #[.int .i64 0, .slice none 0 0] 24) = V14 at hA_14 qN_14 q_15 qZ_15 hB_15 ⊢
              clear hA_14
              generalize V1.heap.size = b14 at qN_14 hn_14 hl_14 ⊢
              refine wpAnyH_ready (rs := [2]) (by kernel_rfl) (by simp) (AllReadyH.cons rfl (fun K hK => ?_) AllReadyH.nil)
              have cv_16 := run_text V14 (some ⟨b1, 0, none⟩) 30 30 z30 rfl (z_slice qZ_15 rfl)
              refine step_run rfl 72 rfl (.string (bstr z30)) V14 (by go_simp) ?_
              clear cv_16
              refine hK.out _ _ ⟨cells_at q_15 0 _ rfl, cells_at q_15 1 _ rfl⟩ (fun hHeld => ?_)
              simp only [Act.put, List.setIfInBounds_toArray, List.set_cons_zero, List.set_cons_succ]
              refine wpAnyH_ready (rs := [3]) (by kernel_rfl) (by simp) (AllReadyH.cons rfl (fun K hK => ?_) AllReadyH.nil)
              refine step_calls_dst rfl 73 rfl 16 [.tmp 70, .tmp 72] #[24, 9] rfl [.agg #[.int .i64 1, .slice va n vc], .string (bstr z30)] rfl (enters_of Try.func16 (by kernel_rfl) rfl) (fun v w' => (∃ za zc, v = .tuple #[.agg #[.int .i64 0, .slice za 0 zc], .int .i64 1]) ∧ Below V14.heap.size V14 w') ((HD.out V14 hB_15).mono (fun e w2 h => by obtain ⟨za, zc, h1, h2⟩ := h; exact ⟨_, h1, ⟨za, zc, rfl⟩, h2⟩)) ?_
              rintro v V17 ⟨⟨za, zc, rfl⟩, hb_17⟩
              have q_18 := (hb_17.block _ (lt_of_heap q_15)).trans q_15
              have qZ_18 := (hb_17.block _ (lt_of_heap qZ_15)).trans qZ_15
              have qB_18 := (hb_17.block _ (lt_of_heap qN_14)).trans qN_14
              have hB_18 := hB_15.trans (hb_17.mono hB_15.size)
              refine hK.out _ _ ⟨cells_at q_18 0 _ rfl, cells_at q_18 1 _ rfl⟩ (fun hHeld => ?_)
              simp only [Act.put, List.setIfInBounds_toArray, List.set_cons_zero, List.set_cons_succ]
              refine take_dst (i := 4) (d := 69) (v := .tuple #[.agg #[.int .i64 0, .slice za 0 zc], .int .i64 1]) rfl rfl (by kernel_rfl) (by kernel_rfl) (by kernel_rfl) (fun _ _ _ h => h) (Or.inl ⟨by rfl, ?_⟩) hHeld ?_
              · (intro w0 hSw; (try dsimp only at hSw); go_simp)
              simp only [Act.put, List.setIfInBounds_toArray, List.set_cons_zero, List.set_cons_succ]
              refine take_dst (i := 5) (d := 74) (v := .agg #[.int .i64 0, .slice za 0 zc]) rfl rfl (by kernel_rfl) (by kernel_rfl) (by kernel_rfl) (fun _ _ _ h => h) (Or.inl ⟨by rfl, ?_⟩) hHeld ?_
              · (intro w0 hSw; (try dsimp only at hSw); go_simp)
              simp only [Act.put, List.setIfInBounds_toArray, List.set_cons_zero, List.set_cons_succ]
              refine take_dst (i := 6) (d := 75) (v := .int .i64 1) rfl rfl (by kernel_rfl) (by kernel_rfl) (by kernel_rfl) (fun _ _ _ h => h) (Or.inl ⟨by rfl, ?_⟩) hHeld ?_
              · (intro w0 hSw; (try dsimp only at hSw); go_simp)
              simp only [Act.put, List.setIfInBounds_toArray, List.set_cons_zero, List.set_cons_succ]
              have z0_19 := cells_at qB_18 0 _ rfl
              have y0_19 := frozen_at qB_18 0
              have z1_19 := cells_at qB_18 1 _ rfl
              have y1_19 := frozen_at qB_18 1
              refine wpAnyH_ready (rs := [8]) (by kernel_rfl) (by simp) (AllReadyH.cons rfl (fun K hK => ?_) AllReadyH.nil)
              refine step_store rfl rfl ((V17.setCell ⟨b14, 0, none⟩ (.int .i64 0)).setCell ⟨b14, 1, none⟩ (.slice za 0 zc)) (by go_simp) ?_
              have qB_19 : ((V17.setCell ⟨b14, 0, none⟩ (.int .i64 0)).setCell ⟨b14, 1, none⟩ (.slice za 0 zc)).heap[b14]? = some (.cells #[.int .i64 0, .slice za 0 zc] 24 (0, 0)) := by simpa using (heap_setCell_same _ _ 1 _ _ (.slice za 0 zc) (heap_setCell_same _ _ 0 _ _ (.int .i64 0) qB_18))
              have q_19 := (heap_far (j := 1) (v := .slice za 0 zc) (heap_far (j := 0) (v := .int .i64 0) q_18 hn_14) hn_14)
              have hB_19 := ((hB_18.setCell (p := ⟨b14, 0, none⟩) hl_14 (.int .i64 0)).setCell (p := ⟨b14, 1, none⟩) hl_14 (.slice za 0 zc))
              refine hK.out _ _ ⟨cells_at q_19 0 _ rfl, cells_at q_19 1 _ rfl⟩ (fun hHeld => ?_)
              generalize ((V17.setCell ⟨b14, 0, none⟩ (.int .i64 0)).setCell ⟨b14, 1, none⟩ (.slice za 0 zc)) = V19 at qB_19 q_19 hB_19 hHeld ⊢
              refine take_dst (i := 9) (d := 12) (v := .int .i64 1) rfl rfl (by kernel_rfl) (by kernel_rfl) (by kernel_rfl) (fun _ _ _ h => h) (Or.inl ⟨by rfl, ?_⟩) hHeld ?_
              · (intro w0 hSw; (try dsimp only at hSw); go_simp)
              simp only [Act.put, List.setIfInBounds_toArray, List.set_cons_zero, List.set_cons_succ]
              refine wpAnyH_done (by kernel_rfl) ?_ _
              go_wp2_with fail
              go_meet
              case rel => exact ⟨rfl, hB_19⟩
          · skip
            refine step_run rfl 11 rfl (.pointer (some ⟨V0.heap.size, 0, none⟩)) (V0.alloc (.cells #[.int .i64 0, .slice none 0 0] 24)) (by go_simp) ?_
            have hA_20 : Below V0.heap.size V0 (V0.alloc (.cells #[.int .i64 0, .slice none 0 0] 24)) := (Below.refl _ _).alloc (Nat.le_refl _) _
            have qN_20 := heap_alloc_new V0 (.cells #[.int .i64 0, .slice none 0 0] 24)
            have hn_20 : w.heap.size ≠ V0.heap.size := by have := lt_of_heap qV0; omega
            have hl_20 : wr.heap.size ≤ V0.heap.size := hV0.size
            have q_21 := (hA_20.block _ (lt_of_heap qV0)).trans qV0
            have hB_21 := hV0.trans (hA_20.mono hV0.size)
            refine hK.out _ _ ⟨cells_at q_21 0 _ rfl, cells_at q_21 1 _ rfl⟩ (fun hHeld => ?_)
            simp only [Act.put, List.setIfInBounds_toArray, List.set_cons_zero, List.set_cons_succ]
            generalize V0.alloc (.cells #[.int .i64 0, .slice none 0 0] 24) = V20 at hA_20 qN_20 q_21 hB_21 ⊢
            clear hA_20
            generalize V0.heap.size = b20 at qN_20 hn_20 hl_20 ⊢
            refine wpAnyH_ready (rs := [1]) (by kernel_rfl) (by simp) (AllReadyH.cons rfl (fun K hK => ?_) AllReadyH.nil)
            refine step_run rfl 71 rfl (.slice (some ⟨V20.heap.size, 0, none⟩) 30 30) (V20.alloc (.cells (ub z30).toArray 5)) (by go_simp) ?_
            have hA_22 : Below V20.heap.size V20 (V20.alloc (.cells (ub z30).toArray 5)) := (Below.refl _ _).alloc (Nat.le_refl _) _
            have qN_22 := heap_alloc_new V20 (.cells (ub z30).toArray 5)
            have hn_22 : w.heap.size ≠ V20.heap.size := by have := lt_of_heap q_21; omega
            have hl_22 : wr.heap.size ≤ V20.heap.size := hB_21.size
            have q_23 := (hA_22.block _ (lt_of_heap q_21)).trans q_21
            have qB_23 := (hA_22.block _ (lt_of_heap qN_20)).trans qN_20
            have hB_23 := hB_21.trans (hA_22.mono hB_21.size)
            refine hK.out _ _ ⟨cells_at q_23 0 _ rfl, cells_at q_23 1 _ rfl⟩ (fun hHeld => ?_)
            simp only [Act.put, List.setIfInBounds_toArray, List.set_cons_zero, List.set_cons_succ]
            generalize V20.alloc (.cells (ub z30).toArray 5) = V22 at hA_22 qN_22 q_23 qB_23 hB_23 ⊢
            clear hA_22
            generalize V20.heap.size = b22 at qN_22 hn_22 hl_22 ⊢
            refine wpAnyH_ready (rs := [2]) (by kernel_rfl) (by simp) (AllReadyH.cons rfl (fun K hK => ?_) AllReadyH.nil)
            have cv_24 := run_text V22 (some ⟨b22, 0, none⟩) 30 30 z30 rfl (z_slice qN_22 rfl)
            refine step_run rfl 72 rfl (.string (bstr z30)) V22 (by go_simp) ?_
            clear cv_24
            refine hK.out _ _ ⟨cells_at q_23 0 _ rfl, cells_at q_23 1 _ rfl⟩ (fun hHeld => ?_)
            simp only [Act.put, List.setIfInBounds_toArray, List.set_cons_zero, List.set_cons_succ]
            refine wpAnyH_ready (rs := [3]) (by kernel_rfl) (by simp) (AllReadyH.cons rfl (fun K hK => ?_) AllReadyH.nil)
            refine step_calls_dst rfl 73 rfl 16 [.tmp 70, .tmp 72] #[24, 9] rfl [.agg #[.int .i64 1, .slice va n vc], .string (bstr z30)] rfl (enters_of Try.func16 (by kernel_rfl) rfl) (fun v w' => (∃ za zc, v = .tuple #[.agg #[.int .i64 0, .slice za 0 zc], .int .i64 1]) ∧ Below V22.heap.size V22 w') ((HD.out V22 hB_23).mono (fun e w2 h => by obtain ⟨za, zc, h1, h2⟩ := h; exact ⟨_, h1, ⟨za, zc, rfl⟩, h2⟩)) ?_
            rintro v V25 ⟨⟨za, zc, rfl⟩, hb_25⟩
            have q_26 := (hb_25.block _ (lt_of_heap q_23)).trans q_23
            have qZ_26 := (hb_25.block _ (lt_of_heap qN_22)).trans qN_22
            have qB_26 := (hb_25.block _ (lt_of_heap qB_23)).trans qB_23
            have hB_26 := hB_23.trans (hb_25.mono hB_23.size)
            refine hK.out _ _ ⟨cells_at q_26 0 _ rfl, cells_at q_26 1 _ rfl⟩ (fun hHeld => ?_)
            simp only [Act.put, List.setIfInBounds_toArray, List.set_cons_zero, List.set_cons_succ]
            refine take_dst (i := 4) (d := 69) (v := .tuple #[.agg #[.int .i64 0, .slice za 0 zc], .int .i64 1]) rfl rfl (by kernel_rfl) (by kernel_rfl) (by kernel_rfl) (fun _ _ _ h => h) (Or.inl ⟨by rfl, ?_⟩) hHeld ?_
            · (intro w0 hSw; (try dsimp only at hSw); go_simp)
            simp only [Act.put, List.setIfInBounds_toArray, List.set_cons_zero, List.set_cons_succ]
            refine take_dst (i := 5) (d := 74) (v := .agg #[.int .i64 0, .slice za 0 zc]) rfl rfl (by kernel_rfl) (by kernel_rfl) (by kernel_rfl) (fun _ _ _ h => h) (Or.inl ⟨by rfl, ?_⟩) hHeld ?_
            · (intro w0 hSw; (try dsimp only at hSw); go_simp)
            simp only [Act.put, List.setIfInBounds_toArray, List.set_cons_zero, List.set_cons_succ]
            refine take_dst (i := 6) (d := 75) (v := .int .i64 1) rfl rfl (by kernel_rfl) (by kernel_rfl) (by kernel_rfl) (fun _ _ _ h => h) (Or.inl ⟨by rfl, ?_⟩) hHeld ?_
            · (intro w0 hSw; (try dsimp only at hSw); go_simp)
            simp only [Act.put, List.setIfInBounds_toArray, List.set_cons_zero, List.set_cons_succ]
            have z0_27 := cells_at qB_26 0 _ rfl
            have y0_27 := frozen_at qB_26 0
            have z1_27 := cells_at qB_26 1 _ rfl
            have y1_27 := frozen_at qB_26 1
            refine wpAnyH_ready (rs := [8]) (by kernel_rfl) (by simp) (AllReadyH.cons rfl (fun K hK => ?_) AllReadyH.nil)
            refine step_store rfl rfl ((V25.setCell ⟨b20, 0, none⟩ (.int .i64 0)).setCell ⟨b20, 1, none⟩ (.slice za 0 zc)) (by go_simp) ?_
            have qB_27 : ((V25.setCell ⟨b20, 0, none⟩ (.int .i64 0)).setCell ⟨b20, 1, none⟩ (.slice za 0 zc)).heap[b20]? = some (.cells #[.int .i64 0, .slice za 0 zc] 24 (0, 0)) := by simpa using (heap_setCell_same _ _ 1 _ _ (.slice za 0 zc) (heap_setCell_same _ _ 0 _ _ (.int .i64 0) qB_26))
            have q_27 := (heap_far (j := 1) (v := .slice za 0 zc) (heap_far (j := 0) (v := .int .i64 0) q_26 hn_20) hn_20)
            have hB_27 := ((hB_26.setCell (p := ⟨b20, 0, none⟩) hl_20 (.int .i64 0)).setCell (p := ⟨b20, 1, none⟩) hl_20 (.slice za 0 zc))
            refine hK.out _ _ ⟨cells_at q_27 0 _ rfl, cells_at q_27 1 _ rfl⟩ (fun hHeld => ?_)
            generalize ((V25.setCell ⟨b20, 0, none⟩ (.int .i64 0)).setCell ⟨b20, 1, none⟩ (.slice za 0 zc)) = V27 at qB_27 q_27 hB_27 hHeld ⊢
            refine take_dst (i := 9) (d := 12) (v := .int .i64 1) rfl rfl (by kernel_rfl) (by kernel_rfl) (by kernel_rfl) (fun _ _ _ h => h) (Or.inl ⟨by rfl, ?_⟩) hHeld ?_
            · (intro w0 hSw; (try dsimp only at hSw); go_simp)
            simp only [Act.put, List.setIfInBounds_toArray, List.set_cons_zero, List.set_cons_succ]
            refine wpAnyH_done (by kernel_rfl) ?_ _
            go_wp2_with fail
            go_meet
            case rel => exact ⟨rfl, hB_27⟩
        case rest =>
          obtain ⟨rfl, hbc⟩ := hcut
          have s0 := (hbc.block _ (lt_of_heap r0)).trans r0
          clear c0 c1
          have c1 : wc.cell? ⟨w.heap.size, 1, none⟩ = some (.slice va n vc) := cells_at s0 1 _ rfl
          have hBc := hW.trans (hbc.mono hW.size)
          go_wp2_with fail
          refine (FIN.out _ hbc).mono ?_
          rintro e w5 ⟨he, hb5⟩
          subst he
          dsimp only
          go_wp2_with fail
          go_ret
          exact ⟨by rfl, hBc.trans (hb5.mono hBc.size)⟩
end Go.Proofs.Ytikolpdedmhljaa
