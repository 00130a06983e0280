/- The document's PoolAdded: what it answers, for every argument. -/
import Derived.Test.YtikolpdedmhljaaAddF
import Derived.Test.YtikolpdedmhljaaRPool
import Derived.Test.YtikolpdedmhljaaRTxC
import Derived.Test.YtikolpdedmhljaaRawU
import Derived.Test.YtikolpdedmhljaaOwnL
namespace Go.Proofs.Ytikolpdedmhljaa
open Go.RowKit

set_option maxRecDepth 100000 in
set_option maxHeartbeats 2000000 in
theorem poolAdded_any (nx : Int) (sa : Option Addr) (n cap : Nat) (ss : List ByteArray) (t : ByteArray) (w : World) (hn : n = ss.length) (hs : TxsAt w sa cap ss) (ht : t.size ≤ maxLen) :
    Calls Try.prog 17 #[.agg #[.int .i64 nx, .slice sa n cap], .string t] w fun e w' => AddAt w w' e nx ss t := by
  subst hn
  have hA : Below w.heap.size w ((w.alloc (.cells #[.int .i64 nx, .slice sa ss.length cap] 24)).alloc (.cells #[.int .i64 0, .slice none 0 0] 24)) := ((Below.refl _ _).alloc (Nat.le_refl _) _).alloc (by simp) _
  have r0 := heap_alloc2_old w (.cells #[.int .i64 nx, .slice sa ss.length cap] 24) (.cells #[.int .i64 0, .slice none 0 0] 24)
  have r1 := heap_alloc2_new w (.cells #[.int .i64 nx, .slice sa ss.length cap] 24) (.cells #[.int .i64 0, .slice none 0 0] 24)
  have hle := hs.le
  have hmx := hs.max
  unfold maxLen at hmx ht
  have HC : Hid (∀ W : World, Below w.heap.size w W → Calls Try.prog 15 #[.agg #[.int .i64 nx, .slice sa ss.length cap]] W fun e w' => e = .returned (.int .i64 (poolF nx ss)) ∧ Below W.heap.size W w') := by
    show ∀ _, _
    intro W hW
    exact poolFault_any nx sa _ cap ss W rfl (hs.below hW)
  have HI : Hid (∀ W : World, Calls Try.prog 30 #[.int .i64 (t.size : Int), .int .i64 1, .int .i64 20] W fun e w' => e = .returned (.bool (txOk t)) ∧ W = w') := by
    show ∀ _, _
    intro W
    exact in_bool _ _ _ _ _ (by rw [txOk]; exact decide_eq_decide.2 (by omega))
  have HT : Hid (∀ W : World, Below w.heap.size w W → Calls Try.prog 31 #[.slice sa ss.length cap, .string t] W fun e w' => e = .returned (.bool (inS t ss)) ∧ W = w') := by
    show ∀ _, _
    intro W hW
    exact inTexts_any ss sa _ cap t W rfl (by unfold maxLen; omega) (hs.strs.below hW)
  have HX : Hid (ss.length ≤ 40 → ∀ W : World, Below w.heap.size w W → Calls Try.prog 34 #[.slice sa ss.length cap] W fun e w' => ∃ v, e = .returned v ∧ w'.ownsRow W.heap.size 9 1 v ss.length (sv ss) ∧ Below W.heap.size W w') := by
    show _ → ∀ _, _
    intro hl W hW
    exact textsCopy_own ss sa _ cap W rfl (hs.below hW) (by omega)
  clear hs
  go_enter Try.func17, Try.ntmps17
  go_wp2_with fail
  generalize (w.alloc (.cells #[.int .i64 nx, .slice sa ss.length cap] 24)).alloc (.cells #[.int .i64 0, .slice none 0 0] 24) = W0 at hA r0 r1 ⊢
  refine (HC.out W0 hA).mono ?_
  rintro e w2 ⟨he, hb1⟩
  subst he
  dsimp only
  have hB2 := hA.trans (hb1.mono hA.size)
  have q0 := (hb1.block _ (lt_of_heap r0)).trans r0
  have q1 := (hb1.block _ (lt_of_heap r1)).trans r1
  have c0 : w2.cell? ⟨w.heap.size, 0, none⟩ = some (.int .i64 nx) := cells_at q0 0 _ rfl
  have c1 : w2.cell? ⟨w.heap.size, 1, none⟩ = some (.slice sa ss.length cap) := cells_at q0 1 _ rfl
  have d0 : w2.cell? ⟨w.heap.size + 1, 0, none⟩ = some (.int .i64 0) := cells_at q1 0 _ rfl
  have d1 : w2.cell? ⟨w.heap.size + 1, 1, none⟩ = some (.slice none 0 0) := cells_at q1 1 _ rfl
  have f0 := frozen_at q1 0
  have f1 := frozen_at q1 1
  have hlt := lt_of_heap q1
  by_cases hc : poolF nx ss = 0
  · have hF := addF_good (t := t) hc
    have hlen := (poolF_len hc).2.2.1
    rw [hc]
    have hI := HI.out w2
    have hT := HT.out w2 hB2
    cases h1 : txOk t with
    | false =>
      have HF : Hid (addF nx ss t = 1) := by show _ = _; rw [hF, takesF, if_pos h1]
      rw [h1] at hI
      clear hF hc h1 hT
      go_wp2_with (go_at_call 30; refine hI.mono ?_; rintro e w9 ⟨rfl, rfl⟩)
      refine bodyPost_ret (v := .tuple #[.agg #[.int .i64 0, .slice none 0 0], .int .i64 1]) (by simp [results, Try.results17, go_sem, d0, d1]) rfl (AddAt.bad HF.out (by decide) ?_)
      exact (hB2.setCell (by simp) _).setCell (by simp) _
    | true =>
      rw [h1] at hI
      cases h2 : inS t ss with
      | true =>
        have HF : Hid (addF nx ss t = 7) := by show _ = _; rw [hF, takesF, if_neg (by simp [h1]), if_pos h2]
        rw [h2] at hT
        clear hF hc h1 h2
        go_wp2_with (first | (go_at_call 30; refine hI.mono ?_; rintro e w9 ⟨rfl, rfl⟩) | (go_at_call 31; refine hT.mono ?_; rintro e w9 ⟨rfl, rfl⟩))
        refine bodyPost_ret (v := .tuple #[.agg #[.int .i64 0, .slice none 0 0], .int .i64 7]) (by simp [results, Try.results17, go_sem, d0, d1]) rfl (AddAt.bad HF.out (by decide) ?_)
        exact (hB2.setCell (by simp) _).setCell (by simp) _
      | false =>
        rw [h2] at hT
        by_cases h3 : 40 ≤ ss.length
        · have HF : Hid (addF nx ss t = 6) := by show _ = _; rw [hF, takesF, if_neg (by simp [h1]), if_neg (by simp [h2]), if_pos h3]
          have h3I : (40 : Int) ≤ ss.length := by omega
          clear hF hc h1 h2
          go_wp2_with (first | (go_at_call 30; refine hI.mono ?_; rintro e w9 ⟨rfl, rfl⟩) | (go_at_call 31; refine hT.mono ?_; rintro e w9 ⟨rfl, rfl⟩))
          refine bodyPost_ret (v := .tuple #[.agg #[.int .i64 0, .slice none 0 0], .int .i64 6]) (by simp [results, Try.results17, go_sem, d0, d1]) rfl (AddAt.bad HF.out (by decide) ?_)
          exact (hB2.setCell (by simp) _).setCell (by simp) _
        · have HF : Hid (addF nx ss t = 0) := by show _ = _; rw [hF, takesF, if_neg (by simp [h1]), if_neg (by simp [h2]), if_neg h3]
          have h3I : ¬ (40 : Int) ≤ ss.length := by omega
          obtain ⟨i, hi, hz0, hz1, hz2⟩ := info_parts infoStr
          clear hF hc h1 h2
          go_wp2_with (first | (go_at_call 30; refine hI.mono ?_; rintro e w9 ⟨rfl, rfl⟩) | (go_at_call 31; refine hT.mono ?_; rintro e w9 ⟨rfl, rfl⟩))
          have cA0 : (w2.alloc (.cells #[.string t] 9)).drew.cell? ⟨w.heap.size, 0, none⟩ = some (.int .i64 nx) := cells_at (heap_keep q0) 0 _ rfl
          have cA1 : (w2.alloc (.cells #[.string t] 9)).drew.cell? ⟨w.heap.size, 1, none⟩ = some (.slice sa ss.length cap) := cells_at (heap_keep q0) 1 _ rfl
          go_region_held3 (fun w' => w'.cell? ⟨w.heap.size, 0, none⟩ = some (.int .i64 nx) ∧ w'.cell? ⟨w.heap.size, 1, none⟩ = some (.slice sa ss.length cap)) (go_keep) (first
            | (go_at_call 34; refine (HX.out hlen w2.drew hB2.drew).mono ?_; rintro e w3 ⟨v3, rfl, ho3, hb3⟩; have hbA := below_drew hb3; have s0 := (hbA.block _ (lt_of_heap q0)).trans q0; have s1 := (hbA.block _ (lt_of_heap q1)).trans q1; have g0 : w3.cell? ⟨w.heap.size, 0, none⟩ = some (.int .i64 nx) := cells_at s0 0 _ rfl; have g1 : w3.cell? ⟨w.heap.size, 1, none⟩ = some (.slice sa ss.length cap) := cells_at s0 1 _ rfl; have gA0 : (w3.alloc (.cells #[.string t] 9)).cell? ⟨w.heap.size, 0, none⟩ = some (.int .i64 nx) := cells_at (heap_keep s0) 0 _ rfl; have gA1 : (w3.alloc (.cells #[.string t] 9)).cell? ⟨w.heap.size, 1, none⟩ = some (.slice sa ss.length cap) := cells_at (heap_keep s0) 1 _ rfl)
            | (go_at_call 34; refine (HX.out hlen (w2.drew.alloc (.cells #[.string t] 9)) (hB2.drew.alloc hB2.size _)).mono ?_; rintro e w3 ⟨v3, rfl, ho3, hb3⟩; have hbB := hb3; have s0 := (hbB.block _ (by rw [size_alloc]; have := lt_of_heap q0; simp; omega)).trans (heap_keep (o := .cells #[.string t] 9) (w := w2.drew) q0); have s1 := (hbB.block _ (by rw [size_alloc]; have := lt_of_heap q1; simp; omega)).trans (heap_keep (o := .cells #[.string t] 9) (w := w2.drew) q1); have sN := row_new hbB; have g0 : w3.cell? ⟨w.heap.size, 0, none⟩ = some (.int .i64 nx) := cells_at s0 0 _ rfl; have g1 : w3.cell? ⟨w.heap.size, 1, none⟩ = some (.slice sa ss.length cap) := cells_at s0 1 _ rfl)
            | (refine step_append_at rfl _ _ 22 rfl w2.heap.size 9 i (.string ByteArray.empty) 1 16 Try.underlying22 hi hz0 hz1 hz2 rfl (by decide) v3 ss.length (sv ss) rfl (ownsRow_base' ho3 (by simp)) ⟨w2.heap.size, 0, none⟩ 1 1 [.string t] rfl rfl (by intro j u hu; obtain rfl : j = 0 := (by rcases j with _ | j; rfl; simp at hu); exact (cells_at sN 0 _ rfl).trans (by simpa using hu)) (sv_one [t]) (by unfold maxLen; omega) (by omega) (by have := hbB.size; simp at this; omega) ?_; intro v5 w5 ho5 G5; have hgB := G5; have t0 := G5.row s0 (fun e => by have := (ho3.lt _ e).1; simp at this; omega); have t1 := G5.row s1 (fun e => by have := (ho3.lt _ e).1; simp at this; omega); have e0 : w5.cell? ⟨w.heap.size + 1, 0, none⟩ = some (.int .i64 0) := cells_at t1 0 _ rfl; have e1 : w5.cell? ⟨w.heap.size + 1, 1, none⟩ = some (.slice none 0 0) := cells_at t1 1 _ rfl; have k0 := frozen_at t1 0; have k1 := frozen_at t1 1; have l0 : w5.cell? ⟨w.heap.size, 0, none⟩ = some (.int .i64 nx) := cells_at t0 0 _ rfl; have l1 : w5.cell? ⟨w.heap.size, 1, none⟩ = some (.slice sa ss.length cap) := cells_at t0 1 _ rfl; have hB5 : Below w.heap.size w w5 := (hB2.drew.alloc hB2.size _).trans ((hbB.trans ((G5.below (base := w2.heap.size + 1) (by have := hbB.size; simp at this; omega) (fun q e => by have := (ho3.lt q e).1; simpa using this)).mono (by simp))).mono (by simp; have := hB2.size; omega)); obtain ⟨za, zc, rfl⟩ := owns_shape ho5)
            | (refine step_append_at rfl _ _ 22 rfl w2.heap.size 9 i (.string ByteArray.empty) 1 16 Try.underlying22 hi hz0 hz1 hz2 rfl (by decide) v3 ss.length (sv ss) rfl (World.ownsRow.alloc ho3 _) ⟨w3.heap.size, 0, none⟩ 1 1 [.string t] rfl rfl (cells_new w3 [.string t] 9) (sv_one [t]) (by unfold maxLen; omega) (by omega) (by rw [size_alloc]; have := hbA.size; omega) ?_; intro v5 w5 ho5 G5; have hgA := G5; have t0 := G5.row (heap_keep s0) (fun e => by have := (ho3.lt _ e).1; simp at this; omega); have t1 := G5.row (heap_keep s1) (fun e => by have := (ho3.lt _ e).1; simp at this; omega); have e0 : w5.cell? ⟨w.heap.size + 1, 0, none⟩ = some (.int .i64 0) := cells_at t1 0 _ rfl; have e1 : w5.cell? ⟨w.heap.size + 1, 1, none⟩ = some (.slice none 0 0) := cells_at t1 1 _ rfl; have k0 := frozen_at t1 0; have k1 := frozen_at t1 1; have l0 : w5.cell? ⟨w.heap.size, 0, none⟩ = some (.int .i64 nx) := cells_at t0 0 _ rfl; have l1 : w5.cell? ⟨w.heap.size, 1, none⟩ = some (.slice sa ss.length cap) := cells_at t0 1 _ rfl; have hB5 : Below w.heap.size w w5 := hB2.trans (((hbA.alloc hbA.size _).trans (G5.below (base := w2.heap.size) (by rw [size_alloc]; have := hbA.size; omega) (fun q e => by have := (ho3.lt q e).1; simpa using this))).mono hB2.size); obtain ⟨za, zc, rfl⟩ := owns_shape ho5))
          all_goals
            go_wp2_with fail
            refine bodyPost_ret (v := .tuple #[.agg #[.int .i64 nx, .slice za (ss.length + 1) zc], .int .i64 0]) (by simp [results, Try.results17, go_sem, e0, e1]) rfl (AddAt.good HF.out rfl ?_ ?_)
            · rw [sv_app]; exact ownsRow_base' (owns_far (owns_far ho5 _ _ _ hlt) _ _ _ hlt) hB2.size
            · exact (hB5.setCell (by simp) _).setCell (by simp) _
  · have hF := addF_bad (t := t) hc
    have h12 : poolF nx ss = 12 := by rcases poolF_cases nx ss with h | h; exact absurd h hc; exact h
    rw [h12]
    clear hc h12
    go_wp2_with fail
    refine bodyPost_ret (v := .tuple #[.agg #[.int .i64 0, .slice none 0 0], .int .i64 12]) (by simp [results, Try.results17, go_sem, d0, d1]) rfl (AddAt.bad hF (by decide) ?_)
    exact (hB2.setCell (by simp) _).setCell (by simp) _
end Go.Proofs.Ytikolpdedmhljaa
