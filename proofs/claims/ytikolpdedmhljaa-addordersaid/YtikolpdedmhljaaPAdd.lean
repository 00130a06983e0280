/- pool.Add: what it answers, for every argument. -/
import Derived.Test.YtikolpdedmhljaaAddF
import Derived.Test.YtikolpdedmhljaaPChk
import Derived.Test.YtikolpdedmhljaaPJoin
import Derived.Test.YtikolpdedmhljaaRawU
namespace Go.Proofs.Ytikolpdedmhljaa
open Go.RowKit

set_option maxRecDepth 100000 in
set_option maxHeartbeats 1000000 in
theorem poolAdd_any (nx : Int) (sa : Option Addr) (n cap : Nat) (ss : List ByteArray) (t : ByteArray) (w : World) (hn : n = ss.length) (hs : TxsAt w sa cap ss) (ht : t.size ≤ maxLen) :
    Calls Try.prog 16 #[.agg #[.int .i64 nx, .slice sa n cap], .string t] w fun e w' => AddAt w w' e nx ss t := by
  subst hn
  have hA : Below w.heap.size w ((w.alloc (.cells #[.int .i64 nx, .slice sa ss.length cap] 24)).alloc (.cells #[.int .i64 0, .slice none 0 0] 24)) := ((Below.refl _ _).alloc (Nat.le_refl _) _).alloc (by simp) _
  have r0 := heap_alloc2_old w (.cells #[.int .i64 nx, .slice sa ss.length cap] 24) (.cells #[.int .i64 0, .slice none 0 0] 24)
  have r1 := heap_alloc2_new w (.cells #[.int .i64 nx, .slice sa ss.length cap] 24) (.cells #[.int .i64 0, .slice none 0 0] 24)
  have HC : Hid (∀ W : World, Below w.heap.size w W → Calls Try.prog 13 #[.agg #[.int .i64 nx, .slice sa ss.length cap]] W fun e w' => e = .returned (.int .i64 (poolF nx ss)) ∧ Below W.heap.size W w') := by
    show ∀ _, _
    intro W hW
    exact poolCheck_any nx sa _ cap ss W rfl (hs.below hW)
  have HT : Hid (∀ W : World, Below w.heap.size w W → Calls Try.prog 32 #[.agg #[.int .i64 nx, .slice sa ss.length cap], .string t] W fun e w' => e = .returned (.int .i64 (takesF ss t)) ∧ Below W.heap.size W w') := by
    show ∀ _, _
    intro W hW
    exact takes_any nx sa _ cap ss t W rfl (hs.below hW) ht
  have HJ : Hid (ss.length ≤ 40 → ∀ W : World, Below w.heap.size w W → Calls Try.prog 33 #[.slice sa ss.length cap, .slice (some ⟨W.heap.size, 0, none⟩) 1 1] (W.alloc (.cells #[.string t] 9)) fun e w' => ∃ v, e = .returned v ∧ w'.ownsRow (W.alloc (.cells #[.string t] 9)).heap.size 9 1 v (ss.length + 1) (sv (ss ++ [t])) ∧ Below (W.alloc (.cells #[.string t] 9)).heap.size (W.alloc (.cells #[.string t] 9)) w') := by
    show _ → ∀ _, _
    intro hl W hW
    have hWA : Below W.heap.size W (W.alloc (.cells #[.string t] 9)) := (Below.refl _ _).alloc (Nat.le_refl _) _
    have h1 : ∀ s ∈ [t], s.size ≤ maxLen := fun s h => by rw [show s = t by simpa using h]; exact ht
    refine joined_any ss [t] sa _ _ 1 cap 1 _ rfl rfl (hs.below (hW.trans (hWA.mono hW.size))) ⟨by simp, by decide, (fun e => by cases e), ⟨.inr ⟨W.heap.size, 0, rfl, fun j hj => ?_⟩, h1⟩⟩ (by omega)
    obtain rfl : j = 0 := by simp at hj; omega
    exact laid_cell W #[.string t] 9 0 _ rfl
  clear hs
  go_enter Try.func16, Try.ntmps16
  go_wp2_with fail
  generalize (w.alloc (.cells #[.int .i64 nx, .slice sa ss.length cap] 24)).alloc (.cells #[.int .i64 0, .slice none 0 0] 24) = W0 at hA r0 r1 ⊢
  refine (HC.out W0 hA).mono ?_
  rintro e w1 ⟨he, hb1⟩
  subst he
  dsimp only
  have hB1 := hA.trans (hb1.mono hA.size)
  have p0 := (hb1.block _ (lt_of_heap r0)).trans r0
  have p1 := (hb1.block _ (lt_of_heap r1)).trans r1
  have c0 : w1.cell? ⟨w.heap.size, 0, none⟩ = some (.int .i64 nx) := cells_at p0 0 _ rfl
  have c1 : w1.cell? ⟨w.heap.size, 1, none⟩ = some (.slice sa ss.length cap) := cells_at p0 1 _ rfl
  have d0 : w1.cell? ⟨w.heap.size + 1, 0, none⟩ = some (.int .i64 0) := cells_at p1 0 _ rfl
  have d1 : w1.cell? ⟨w.heap.size + 1, 1, none⟩ = some (.slice none 0 0) := cells_at p1 1 _ rfl
  have f0 := frozen_at p1 0
  have f1 := frozen_at p1 1
  by_cases hc : poolF nx ss = 0
  · have hF := addF_good (t := t) hc
    have hlen := (poolF_len hc).2.2.1
    rw [hc]
    go_wp2_with fail
    refine (HT.out w1 hB1).mono ?_
    rintro e w2 ⟨he, hb2⟩
    subst he
    dsimp only
    have hB2 := hB1.trans (hb2.mono hB1.size)
    have q0 := (hb2.block _ (lt_of_heap p0)).trans p0
    have q1 := (hb2.block _ (lt_of_heap p1)).trans p1
    clear c0 c1 d0 d1 f0 f1
    have c0 : w2.cell? ⟨w.heap.size, 0, none⟩ = some (.int .i64 nx) := cells_at q0 0 _ rfl
    have c1 : w2.cell? ⟨w.heap.size, 1, none⟩ = some (.slice sa ss.length cap) := cells_at q0 1 _ rfl
    have d0 : w2.cell? ⟨w.heap.size + 1, 0, none⟩ = some (.int .i64 0) := cells_at q1 0 _ rfl
    have d1 : w2.cell? ⟨w.heap.size + 1, 1, none⟩ = some (.slice none 0 0) := cells_at q1 1 _ rfl
    have f0 := frozen_at q1 0
    have f1 := frozen_at q1 1
    by_cases hk : takesF ss t = 0
    · rw [hk] at hF ⊢
      have HF : Hid (addF nx ss t = 0) := hF
      have hlt := lt_of_heap q1
      clear hF hc hk
      go_wp2_with fail
      go_region_held3 (fun w' => w'.cell? ⟨w.heap.size, 0, none⟩ = some (.int .i64 nx) ∧ w'.cell? ⟨w.heap.size, 1, none⟩ = some (.slice sa ss.length cap)) (go_keep) ((go_at_call 33; refine (HJ.out hlen _ hB2.drew).mono ?_; rintro e w3 ⟨v3, rfl, ho3, hb3⟩; replace hb3 := below_drew (below_alloc hb3); have s0 := (hb3.block _ (lt_of_heap q0)).trans q0; have s1 := (hb3.block _ (lt_of_heap q1)).trans q1; have g0 : w3.cell? ⟨w.heap.size, 0, none⟩ = some (.int .i64 nx) := cells_at s0 0 _ rfl; have g1 : w3.cell? ⟨w.heap.size, 1, none⟩ = some (.slice sa ss.length cap) := cells_at s0 1 _ rfl; have e0 : w3.cell? ⟨w.heap.size + 1, 0, none⟩ = some (.int .i64 0) := cells_at s1 0 _ rfl; have e1 : w3.cell? ⟨w.heap.size + 1, 1, none⟩ = some (.slice none 0 0) := cells_at s1 1 _ rfl; have k0 := frozen_at s1 0; have k1 := frozen_at s1 1; obtain ⟨za, zc, rfl⟩ := owns_shape ho3))
      all_goals
        go_wp2_with fail
        refine bodyPost_ret (v := .tuple #[.agg #[.int .i64 nx, .slice za (ss.length + 1) zc], .int .i64 0]) (by simp [results, Try.results16, go_sem, e0, e1]) rfl (AddAt.good HF.out rfl ?_ ?_)
        · exact ownsRow_base' (owns_far (owns_far ho3 _ _ _ (by simp; omega)) _ _ _ (by simp; omega)) (by simp; have := hB2.size; omega)
        · exact ((hB2.trans (hb3.mono hB2.size)).setCell (by simp) _).setCell (by simp) _
    · rw [← hF]
      have h9 : ¬ addF nx ss t = 0 := by rw [hF]; exact hk
      have h9b : (addF nx ss t != 0) = true := by simpa using h9
      have HF : Hid (addF nx ss t ≠ 0) := h9
      clear hF hc hk h9
      generalize hE : addF nx ss t = ec at *
      go_wp2_with fail
      refine bodyPost_ret (v := .tuple #[.agg #[.int .i64 0, .slice none 0 0], .int .i64 ec]) (by simp [results, Try.results16, go_sem, d0, d1]) rfl (AddAt.bad hE HF.out ?_)
      exact (hB2.setCell (by simp) _).setCell (by simp) _
  · have hF := addF_bad (t := t) hc
    have h12 : poolF nx ss = 12 := by rcases poolF_cases nx ss with h | h; exact absurd h hc; exact h
    rw [h12]
    clear hc h12
    go_wp2_with fail
    refine bodyPost_ret (v := .tuple #[.agg #[.int .i64 0, .slice none 0 0], .int .i64 12]) (by simp [results, Try.results16, go_sem, d0, d1]) rfl (AddAt.bad hF (by decide) ?_)
    exact (hB1.setCell (by simp) _).setCell (by simp) _
end Go.Proofs.Ytikolpdedmhljaa
