/- The document's PoolSealed: what it answers, for every argument. -/
import Derived.Test.YtikolpdedmhljaaAddF
import Derived.Test.YtikolpdedmhljaaRPool
import Derived.Test.YtikolpdedmhljaaTxA
import Derived.Test.YtikolpdedmhljaaRawU
import Derived.Test.YtikolpdedmhljaaOwnL
namespace Go.Proofs.Ytikolpdedmhljaa
open Go.RowKit

set_option maxRecDepth 100000 in
theorem owns_grown {w w' : World} {base n : Nat} {e : TypeId} {s : Nat} {u : Value} {xs : List Value} {r : Option Nat} (h : w.ownsRow base e s u n xs) (hg : w.grownBy w' r) (hne : ∀ q, u.ownBlock = some q → r ≠ some q) : w'.ownsRow base e s u n xs := by
  have hB : ∀ q, u.ownBlock = some q → q < w.heap.size := fun q e => (h.lt q e).2
  obtain ⟨h1, h2⟩ := h
  refine ⟨h1, ?_⟩
  rcases h2 with h2 | ⟨g, cap, cur, rfl, hgb, hc, r⟩
  · exact .inl h2
  · exact .inr ⟨g, cap, cur, rfl, hgb, (hg.block g (hB g rfl) (fun e => hne g rfl e.symm)).trans hc, r⟩
set_option maxRecDepth 100000 in
set_option maxHeartbeats 4000000 in
theorem poolSealed_any (nx : Int) (sa : Option Addr) (n cap : Nat) (ss : List ByteArray) (au : Int) (w : World) (hn : n = ss.length) (hs : TxsAt w sa cap ss) :
    Calls Try.prog 20 #[.agg #[.int .i64 nx, .slice sa n cap], .int .i64 au] w fun e w' => SealAt w w' e nx ss au := by
  subst hn
  have hA : Below w.heap.size w (((w.alloc (.cells #[.int .i64 nx, .slice sa ss.length cap] 24)).alloc (.cells #[.int .i64 0, .slice none 0 0] 24)).alloc (.cells #[.int .i64 0, .int .i64 0, .slice none 0 0] 34)) := (((Below.refl _ _).alloc (Nat.le_refl _) _).alloc (by simp) _).alloc (by simp; omega) _
  have r0 := heap_keep (o := .cells #[.int .i64 0, .int .i64 0, .slice none 0 0] 34) (heap_alloc2_old w (.cells #[.int .i64 nx, .slice sa ss.length cap] 24) (.cells #[.int .i64 0, .slice none 0 0] 24))
  have r1 := heap_keep (o := .cells #[.int .i64 0, .int .i64 0, .slice none 0 0] 34) (heap_alloc2_new w (.cells #[.int .i64 nx, .slice sa ss.length cap] 24) (.cells #[.int .i64 0, .slice none 0 0] 24))
  have r2 := heap_new_at ((w.alloc (.cells #[.int .i64 nx, .slice sa ss.length cap] 24)).alloc (.cells #[.int .i64 0, .slice none 0 0] 24)) (.cells #[.int .i64 0, .int .i64 0, .slice none 0 0] 34) (w.heap.size + 1 + 1) (by simp)
  have hle := hs.le
  have hmx := hs.max
  unfold maxLen at hmx
  have HC : Hid (∀ W : World, Below w.heap.size w W → Calls Try.prog 15 #[.agg #[.int .i64 nx, .slice sa ss.length cap]] W fun e w' => e = .returned (.int .i64 (poolF nx ss)) ∧ Below W.heap.size W w') := by
    show ∀ _, _
    intro W hW
    exact poolFault_any nx sa _ cap ss W rfl (hs.below hW)
  have HH : Hid (TxsAt w sa cap ss) := hs
  clear hs
  go_enter Try.func20, Try.ntmps20
  go_wp2_with fail
  generalize ((w.alloc (.cells #[.int .i64 nx, .slice sa ss.length cap] 24)).alloc (.cells #[.int .i64 0, .slice none 0 0] 24)).alloc (.cells #[.int .i64 0, .int .i64 0, .slice none 0 0] 34) = W0 at hA r0 r1 r2 ⊢
  refine (HC.out W0 hA).mono ?_
  rintro e w1 ⟨he, hb1⟩
  subst he
  dsimp only
  have hB1 := hA.trans (hb1.mono hA.size)
  have p0 := (hb1.block _ (lt_of_heap r0)).trans r0
  have p1 := (hb1.block _ (lt_of_heap r1)).trans r1
  have p2 := (hb1.block _ (lt_of_heap r2)).trans r2
  have c0 : w1.cell? ⟨w.heap.size, 0, none⟩ = some (.int .i64 nx) := cells_at p0 0 _ rfl
  have c1 : w1.cell? ⟨w.heap.size, 1, none⟩ = some (.slice sa ss.length cap) := cells_at p0 1 _ rfl
  have d0 : w1.cell? ⟨w.heap.size + 1, 0, none⟩ = some (.int .i64 0) := cells_at p1 0 _ rfl
  have d1 : w1.cell? ⟨w.heap.size + 1, 1, none⟩ = some (.slice none 0 0) := cells_at p1 1 _ rfl
  have f0 := frozen_at p1 0
  have f1 := frozen_at p1 1
  have m0 : w1.cell? ⟨w.heap.size + 1 + 1, 0, none⟩ = some (.int .i64 0) := cells_at p2 0 _ rfl
  have m1 : w1.cell? ⟨w.heap.size + 1 + 1, 1, none⟩ = some (.int .i64 0) := cells_at p2 1 _ rfl
  have m2 : w1.cell? ⟨w.heap.size + 1 + 1, 2, none⟩ = some (.slice none 0 0) := cells_at p2 2 _ rfl
  have g0 := frozen_at p2 0
  have g1 := frozen_at p2 1
  have g2 := frozen_at p2 2
  have hbad := (((((hB1.setCell (p := ⟨w.heap.size + 1, 0, none⟩) (by simp) (.int .i64 0)).setCell (p := ⟨w.heap.size + 1, 1, none⟩) (by simp) (.slice none 0 0)).setCell (p := ⟨w.heap.size + 1 + 1, 0, none⟩) (by simp; omega) (.int .i64 0)).setCell (p := ⟨w.heap.size + 1 + 1, 1, none⟩) (by simp; omega) (.int .i64 0)).setCell (p := ⟨w.heap.size + 1 + 1, 2, none⟩) (by simp; omega) (.slice none 0 0))
  by_cases hc : poolF nx ss = 0
  · have hF := sealF_good (au := au) hc
    obtain ⟨hn1, hn2, hlen, _⟩ := poolF_len hc
    rw [hc]
    by_cases ha : 0 ≤ au ∧ au ≤ 3
    · by_cases hz : ss.length = 0
      · have HF : Hid (sealF nx ss au = 8) := by show _ = _; rw [hF, sealsF, if_neg (by omega), if_pos hz]
        clear hF hc
        have hzI : ((ss.length : Int) == 0) = true := by simp [hz]
        go_wp2_with (go_at_call 30; refine (in_true _ _ _ _ ha).mono ?_; rintro e w9 ⟨rfl, rfl⟩)
        refine bodyPost_ret (v := .tuple #[.agg #[.int .i64 0, .slice none 0 0], .agg #[.int .i64 0, .int .i64 0, .slice none 0 0], .int .i64 8]) (by simp [results, Try.results20, go_sem, d0, d1, m0, m1, m2]) rfl (SealAt.bad HF.out (by decide) hbad)
      · have hzI : ((ss.length : Int) == 0) = false := beq_eq_false_iff_ne.2 (by omega)
        by_cases hx : 1048576 < nx
        · have HF : Hid (sealF nx ss au = 6) := by show _ = _; rw [hF, sealsF, if_neg (by omega), if_neg hz, if_pos hx]
          clear hF hc
          go_wp2_with (go_at_call 30; refine (in_true _ _ _ _ ha).mono ?_; rintro e w9 ⟨rfl, rfl⟩)
          refine bodyPost_ret (v := .tuple #[.agg #[.int .i64 0, .slice none 0 0], .agg #[.int .i64 0, .int .i64 0, .slice none 0 0], .int .i64 6]) (by simp [results, Try.results20, go_sem, d0, d1, m0, m1, m2]) rfl (SealAt.bad HF.out (by decide) hbad)
        · have HF : Hid (sealF nx ss au = 0) := by show _ = _; rw [hF, sealsF, if_neg (by omega), if_neg hz, if_neg hx]
          have hw : IntKind.i64.wrap (nx + 1) = nx + 1 := by rw [IntKind.wrap_i64]; omega
          have hA1 := (hB1.alloc hB1.size (.cells #[.int .i64 (nx + 1), .slice none 0 0] 24)).alloc (le_alloc hB1.size _) (.cells #[.int .i64 au, .int .i64 nx, .slice none 0 0] 34)
          have cA0 : (w1.alloc (.cells #[.int .i64 (nx + 1), .slice none 0 0] 24)).cell? ⟨w.heap.size, 0, none⟩ = some (.int .i64 nx) := cells_at (heap_keep p0) 0 _ rfl
          have q0 := heap_keep (o := .cells #[.int .i64 au, .int .i64 nx, .slice none 0 0] 34) (heap_keep (o := .cells #[.int .i64 (nx + 1), .slice none 0 0] 24) p0)
          have q1 := heap_keep (o := .cells #[.int .i64 au, .int .i64 nx, .slice none 0 0] 34) (heap_keep (o := .cells #[.int .i64 (nx + 1), .slice none 0 0] 24) p1)
          have q2 := heap_keep (o := .cells #[.int .i64 au, .int .i64 nx, .slice none 0 0] 34) (heap_keep (o := .cells #[.int .i64 (nx + 1), .slice none 0 0] 24) p2)
          have qO := heap_alloc2_old w1 (.cells #[.int .i64 (nx + 1), .slice none 0 0] 24) (.cells #[.int .i64 au, .int .i64 nx, .slice none 0 0] 34)
          have qb := heap_alloc2_new w1 (.cells #[.int .i64 (nx + 1), .slice none 0 0] 24) (.cells #[.int .i64 au, .int .i64 nx, .slice none 0 0] 34)
          have hO : w.heap.size + 1 + 1 < w1.heap.size := lt_of_heap p2
          obtain ⟨i, hi, hz0, hz1, hz2⟩ := info_parts infoStr
          clear hF hc hbad d0 d1 f0 f1 m0 m1 m2 g0 g1 g2
          go_wp2_with (go_at_call 30; refine (in_true _ _ _ _ ha).mono ?_; rintro e w9 ⟨rfl, rfl⟩)
          generalize (w1.alloc (.cells #[.int .i64 (nx + 1), .slice none 0 0] 24)).alloc (.cells #[.int .i64 au, .int .i64 nx, .slice none 0 0] 34) = W1 at hA1 q0 q1 q2 qO qb ⊢
          generalize w1.heap.size = O at *
          clear c0 c1 cA0
          go_loopw [10] (fun j wr => ∃ (k : Nat) (v u : Value), k ≤ ss.length ∧ j = .int .i64 k ∧ Below w.heap.size w wr ∧ wr.heap[w.heap.size]? = some (.cells #[.int .i64 nx, .slice sa ss.length cap] 24 (0, 0)) ∧ wr.heap[w.heap.size + 1]? = some (.cells #[.int .i64 0, .slice none 0 0] 24 (0, 0)) ∧ wr.heap[w.heap.size + 1 + 1]? = some (.cells #[.int .i64 0, .int .i64 0, .slice none 0 0] 34 (0, 0)) ∧ wr.heap[O]? = some (.cells #[.int .i64 (nx + 1), v] 24 (0, 0)) ∧ wr.heap[O + 1]? = some (.cells #[.int .i64 au, .int .i64 nx, u] 34 (0, 0)) ∧ wr.ownsRow (O + 2) 9 1 v (k - 4) (sv ((ss.take k).drop 4)) ∧ wr.ownsRow (O + 2) 9 1 u (min k 4) (sv ((ss.take k).take 4)) ∧ ∀ q, v.ownBlock = some q → u.ownBlock ≠ some q) (fun j _ => ss.length - (intOf j).toNat)
          case atStart => exact ⟨0, _, _, Nat.zero_le _, rfl, hA1, q0, q1, q2, qO, qb, World.ownsRow_nil _ _ _ _, World.ownsRow_nil _ _ _ _, fun q e => by cases e⟩
          case round =>
            clear hA1 q0 q1 q2 qO qb
            obtain ⟨k, v, u, hk, rfl, hW, r0, r1, r2, rO, rb, hov, hou, hap⟩ := hrel
            have c1 : wr.cell? ⟨w.heap.size, 1, none⟩ = some (.slice sa ss.length cap) := cells_at r0 1 _ rfl
            have hN : O + 1 < wr.heap.size := lt_of_heap rb
            by_cases hlt : k < ss.length
            · obtain ⟨sb, so, rfl, hcw⟩ : ∃ sb so, sa = some ⟨sb, so, none⟩ ∧ ∀ j, j < ss.length → w.cell? ⟨sb, so + j, none⟩ = some (.string (ss.getD j ByteArray.empty)) := by
                rcases HH.out.strs.cells with h | h
                · rw [h] at hlt; simp at hlt
                · exact h
              have hsbN : sb < w.heap.size := block_lt_of_cell (hcw k hlt)
              have ck : wr.cell? ⟨sb, so + k, none⟩ = some (.string (ss.getD k ByteArray.empty)) := (hW.cell (p := ⟨sb, so + k, none⟩) hsbN).trans (hcw k hlt)
              have hltI : (k : Int) < ss.length := by omega
              have h0 : (0 : Int) ≤ k := by omega
              have hst : Hid (ss.take (k + 1) = ss.take k ++ [ss.getD k ByteArray.empty]) := take_more hlt
              clear hcw
              generalize ss.getD k ByteArray.empty = x at *
              have r0A := heap_keep (o := .cells #[.string x] 9) r0
              have r1A := heap_keep (o := .cells #[.string x] 9) r1
              have r2A := heap_keep (o := .cells #[.string x] 9) r2
              have rOA := heap_keep (o := .cells #[.string x] 9) rO
              have rbA := heap_keep (o := .cells #[.string x] 9) rb
              have hA9 : Below wr.heap.size wr (wr.alloc (.cells #[.string x] 9)) := (Below.refl _ _).alloc (Nat.le_refl _) _
              have ckA : (wr.alloc (.cells #[.string x] 9)).drew.cell? ⟨sb, so + k, none⟩ = some (.string x) := (hA9.cell (p := ⟨sb, so + k, none⟩) (block_lt_of_cell ck)).trans ck
              have hu0 : ∀ q, q < O + 2 → u.ownBlock ≠ some q := fun q hq e => by have := (hou.lt _ e).1; omega
              have hv0 : ∀ q, q < O + 2 → v.ownBlock ≠ some q := fun q hq e => by have := (hov.lt _ e).1; omega
              by_cases h4 : k < 4
              · have h4I : (k : Int) < 4 := by omega
                have hm4 : min k 4 = k := by omega
                rw [hm4] at hou
                have o2 : wr.cell? ⟨O + 1, 2, none⟩ = some u := cells_at rb 2 _ rfl
                have of2 := frozen_at rb 2
                go_wp2_with fail
                go_region_law ((refine step_append_at rfl _ _ 22 rfl (O + 2) 9 i (.string ByteArray.empty) 1 16 Try.underlying22 hi hz0 hz1 hz2 rfl (by decide) _ k _ rfl (World.ownsRow.alloc hou.drew _) ⟨wr.heap.size, 0, none⟩ 1 1 [.string x] rfl rfl (cells_new _ _ _) (sv_one [_]) (by unfold maxLen; omega) (by omega) (le_alloc hN _) ?_; intro u1 w2 ho1 G1; have s0 := G1.row r0A (hu0 _ (by omega)); have s1 := G1.row r1A (hu0 _ (by omega)); have s2 := G1.row r2A (hu0 _ (by omega)); have sO := G1.row rOA (hu0 _ (by omega)); have sB := G1.row rbA (hu0 _ (by omega)); have p2 : w2.cell? ⟨O + 1, 2, none⟩ = some u := cells_at sB 2 _ rfl; have p4 : w2.cell? ⟨w.heap.size, 1, none⟩ = some (.slice (some ⟨sb, so, none⟩) ss.length cap) := cells_at s0 1 _ rfl; have pk' : w2.cell? ⟨sb, so + k, none⟩ = some (.string x) := (World.cell?_of_block (G1.grown.block sb (block_lt_of_cell ckA) (fun e => hu0 sb (by omega) e.symm))).trans ckA; have pf2 := frozen_at sB 2; obtain ⟨qa, qc, hq⟩ := owns_shape ho1; subst hq))
                all_goals
                  go_wp2_with fail
                  go_roundw
                  case rel =>
                    have hb2 : Below w.heap.size w w2 := (hW.drew.alloc hW.size _).trans ((G1.below (base := w.heap.size) (le_alloc hW.size _) (fun q e => by have := (hou.lt q e).1; omega)))
                    have hv1 : ((ss.take (k + 1)).drop 4) = [] := by rw [List.drop_of_length_le]; rw [List.length_take]; omega
                    have hv2 : ((ss.take k).drop 4) = [] := by rw [List.drop_of_length_le]; rw [List.length_take]; omega
                    have hu1 : (ss.take (k + 1)).take 4 = (ss.take k).take 4 ++ [x] := by rw [hst.out, List.take_of_length_le (show (ss.take k ++ [x]).length ≤ 4 by rw [List.length_append, List.length_take]; simp; omega), List.take_of_length_le (show (ss.take k).length ≤ 4 by rw [List.length_take]; omega)]
                    rw [hv2, show k - 4 = 0 by omega] at hov
                    have hov2 : w2.ownsRow (O + 2) 9 1 v 0 (sv []) := owns_grown (World.ownsRow.alloc hov.drew _) G1.grown (fun q e => hap q e)
                    refine ⟨k + 1, v, .slice qa (k + 1) qc, by omega, by go_num, hb2.setCell (by simp; omega) _, heap_far s0 (by omega), heap_far s1 (by omega), heap_far s2 (by omega), heap_far sO (by omega), by simpa using heap_setCell_same _ _ 2 _ _ (.slice qa (k + 1) qc) sB, ?_, ?_, ?_⟩
                    · rw [hv1, show k + 1 - 4 = 0 by omega]; exact owns_far hov2 _ _ _ (by omega)
                    · rw [hu1, sv_app, show min (k + 1) 4 = k + 1 by omega]; exact owns_far ho1 _ _ _ (by omega)
                    · intro q e e2
                      rcases G1.fresh q e2 with g | g
                      · exact hap q e g
                      · have := (hov.lt q e).2; simp at g; omega
                  case measure => simp [intOf]; omega
              · have h4I : ¬ (k : Int) < 4 := by omega
                have hm4 : min k 4 = 4 := by omega
                rw [hm4] at hou
                have o2 : wr.cell? ⟨O, 1, none⟩ = some v := cells_at rO 1 _ rfl
                have of2 := frozen_at rO 1
                have oA : (wr.alloc (.cells #[.string x] 9)).cell? ⟨O, 1, none⟩ = some v := cells_at rOA 1 _ rfl
                have hO2 : O < wr.heap.size := lt_of_heap rO
                go_wp2_with fail
                go_region_law ((refine step_append_at rfl _ _ 22 rfl (O + 2) 9 i (.string ByteArray.empty) 1 16 Try.underlying22 hi hz0 hz1 hz2 rfl (by decide) _ (k - 4) _ rfl (World.ownsRow.alloc hov.drew _) ⟨wr.heap.size, 0, none⟩ 1 1 [.string x] rfl rfl (cells_new _ _ _) (sv_one [_]) (by unfold maxLen; omega) (by omega) (le_alloc hN _) ?_; intro u1 w2 ho1 G1; have s0 := G1.row r0A (hv0 _ (by omega)); have s1 := G1.row r1A (hv0 _ (by omega)); have s2 := G1.row r2A (hv0 _ (by omega)); have sO := G1.row rOA (hv0 _ (by omega)); have sB := G1.row rbA (hv0 _ (by omega)); have p2 : w2.cell? ⟨O, 1, none⟩ = some v := cells_at sO 1 _ rfl; have p4 : w2.cell? ⟨w.heap.size, 1, none⟩ = some (.slice (some ⟨sb, so, none⟩) ss.length cap) := cells_at s0 1 _ rfl; have pk' : w2.cell? ⟨sb, so + k, none⟩ = some (.string x) := (World.cell?_of_block (G1.grown.block sb (block_lt_of_cell ckA) (fun e => hv0 sb (by omega) e.symm))).trans ckA; have pf2 := frozen_at sO 1; obtain ⟨qa, qc, hq⟩ := owns_shape ho1; subst hq))
                all_goals
                  go_wp2_with fail
                  go_roundw
                  case rel =>
                    have hb2 : Below w.heap.size w w2 := (hW.drew.alloc hW.size _).trans ((G1.below (base := w.heap.size) (le_alloc hW.size _) (fun q e => by have := (hov.lt q e).1; omega)))
                    have hu1 : (ss.take (k + 1)).take 4 = (ss.take k).take 4 := by rw [List.take_take, List.take_take, show min 4 (k + 1) = min 4 k by omega]
                    have hv1 : (ss.take (k + 1)).drop 4 = (ss.take k).drop 4 ++ [x] := by rw [hst.out, List.drop_append_of_le_length (by rw [List.length_take]; omega)]
                    have hou2 : w2.ownsRow (O + 2) 9 1 u 4 (sv ((ss.take k).take 4)) := owns_grown (World.ownsRow.alloc hou.drew _) G1.grown (fun q e e2 => hap q e2 e)
                    refine ⟨k + 1, .slice qa (k - 4 + 1) qc, u, by omega, by go_num, hb2.setCell (by simp; omega) _, heap_far s0 (by omega), heap_far s1 (by omega), heap_far s2 (by omega), by simpa using heap_setCell_same _ _ 1 _ _ (.slice qa (k - 4 + 1) qc) sO, heap_far sB (by omega), ?_, ?_, ?_⟩
                    · rw [hv1, sv_app, show k + 1 - 4 = k - 4 + 1 by omega]; exact owns_far ho1 _ _ _ (by omega)
                    · rw [hu1, show min (k + 1) 4 = 4 by omega]; exact owns_far hou2 _ _ _ (by omega)
                    · intro q e e2
                      rcases G1.fresh q e with g | g
                      · exact hap q g e2
                      · have := (hou.lt q e2).2; simp at g; omega
                  case measure => simp [intOf]; omega
            · obtain rfl : k = ss.length := by omega
              rw [List.take_of_length_le (Nat.le_refl _)] at hov hou
              have hltI : ¬ (ss.length : Int) < ss.length := by omega
              obtain ⟨va, vc, rfl⟩ := owns_shape hov
              obtain ⟨ua, uc, rfl⟩ := owns_shape hou
              have x0 : wr.cell? ⟨O, 0, none⟩ = some (.int .i64 (nx + 1)) := cells_at rO 0 _ rfl
              have x1 : wr.cell? ⟨O, 1, none⟩ = some (.slice va (ss.length - 4) vc) := cells_at rO 1 _ rfl
              have y0 : wr.cell? ⟨O + 1, 0, none⟩ = some (.int .i64 au) := cells_at rb 0 _ rfl
              have y1 : wr.cell? ⟨O + 1, 1, none⟩ = some (.int .i64 nx) := cells_at rb 1 _ rfl
              have y2 : wr.cell? ⟨O + 1, 2, none⟩ = some (.slice ua (min ss.length 4) uc) := cells_at rb 2 _ rfl
              have d0 : wr.cell? ⟨w.heap.size + 1, 0, none⟩ = some (.int .i64 0) := cells_at r1 0 _ rfl
              have d1 : wr.cell? ⟨w.heap.size + 1, 1, none⟩ = some (.slice none 0 0) := cells_at r1 1 _ rfl
              have f0 := frozen_at r1 0
              have f1 := frozen_at r1 1
              have m0 : wr.cell? ⟨w.heap.size + 1 + 1, 0, none⟩ = some (.int .i64 0) := cells_at r2 0 _ rfl
              have m1 : wr.cell? ⟨w.heap.size + 1 + 1, 1, none⟩ = some (.int .i64 0) := cells_at r2 1 _ rfl
              have m2 : wr.cell? ⟨w.heap.size + 1 + 1, 2, none⟩ = some (.slice none 0 0) := cells_at r2 2 _ rfl
              have g0 := frozen_at r2 0
              have g1 := frozen_at r2 1
              have g2 := frozen_at r2 2
              go_wp2_with fail
              go_region
              all_goals
                go_wp2_with fail
                refine bodyPost_ret (v := .tuple #[.agg #[.int .i64 (nx + 1), .slice va (ss.length - 4) vc], .agg #[.int .i64 au, .int .i64 nx, .slice ua (min ss.length 4) uc], .int .i64 0]) (by simp [results, Try.results20, go_sem, d0, d1, m0, m1, m2]) rfl (SealAt.good (k := ss.length - 4) (m := min ss.length 4) HF.out (by rw [List.length_drop]) (by rw [List.length_take] <;> omega) ?_ ?_ ?_)
                · exact ownsRow_base' (World.ownsRow.drew (owns_far (owns_far (owns_far (owns_far (owns_far hov _ _ _ (by omega)) _ _ _ (by omega)) _ _ _ (by omega)) _ _ _ (by omega)) _ _ _ (by omega))) (by omega)
                · exact ownsRow_base' (World.ownsRow.drew (owns_far (owns_far (owns_far (owns_far (owns_far hou _ _ _ (by omega)) _ _ _ (by omega)) _ _ _ (by omega)) _ _ _ (by omega)) _ _ _ (by omega))) (by omega)
                · exact (((((hW.setCell (by simp <;> omega) _).setCell (by simp <;> omega) _).setCell (by simp <;> omega) _).setCell (by simp <;> omega) _).setCell (by simp <;> omega) _).drew
    · have HF : Hid (sealF nx ss au = 2) := by show _ = _; rw [hF, sealsF, if_pos (by omega)]
      clear hF hc
      go_wp2_with (go_at_call 30; refine (in_false _ _ _ _ ha).mono ?_; rintro e w9 ⟨rfl, rfl⟩)
      refine bodyPost_ret (v := .tuple #[.agg #[.int .i64 0, .slice none 0 0], .agg #[.int .i64 0, .int .i64 0, .slice none 0 0], .int .i64 2]) (by simp [results, Try.results20, go_sem, d0, d1, m0, m1, m2]) rfl (SealAt.bad HF.out (by decide) hbad)
  · have hF := sealF_bad (au := au) hc
    have h12 : poolF nx ss = 12 := by rcases poolF_cases nx ss with h | h; exact absurd h hc; exact h
    rw [h12]
    clear hc h12
    go_wp2_with fail
    refine bodyPost_ret (v := .tuple #[.agg #[.int .i64 0, .slice none 0 0], .agg #[.int .i64 0, .int .i64 0, .slice none 0 0], .int .i64 12]) (by simp [results, Try.results20, go_sem, d0, d1, m0, m1, m2]) rfl (SealAt.bad hF (by decide) hbad)
end Go.Proofs.Ytikolpdedmhljaa
