/- sheaveslaw.texts and pools: copies. -/
import Derived.Test.YtikolpdedmhljaaTxA
import Derived.Test.YtikolpdedmhljaaRawU
namespace Go.Proofs.Ytikolpdedmhljaa
open Go.RowKit

set_option maxRecDepth 100000 in
set_option maxHeartbeats 400000 in
theorem texts_own (ss : List ByteArray) (sa : Option Addr) (n cap : Nat) (w : World) (hn : n = ss.length) (hs : TxsAt w sa cap ss) (hl : n * 16 ≤ 140737488355328) :
    Calls Try.prog 29 #[.slice sa n cap] w fun e w' => ∃ v, e = .returned v ∧ w'.ownsRow w.heap.size 9 1 v n (sv ss) ∧ Below w.heap.size w w' := by
  have Hn : Hid (n = ss.length) := hn
  clear hn
  go_enter Try.func29, Try.ntmps29
  go_wp2_with (at_builtin; refine wpList_append_txs rfl _ _ rfl w.heap.size _ 0 [] rfl (World.ownsRow_nil _ _ _ _) sa n cap ss rfl Hn.out hs (by omega) (Nat.le_refl _) ?_; intro v1 w1 ho1 hg1)
  go_ret
  rw [Nat.zero_add] at ho1
  exact ⟨v1, rfl, ho1, grown_none hg1⟩
set_option maxRecDepth 100000 in
set_option maxHeartbeats 1000000 in
theorem pools_any (nx : Int) (sa : Option Addr) (n cap : Nat) (ss : List ByteArray) (w : World) (hn : n = ss.length) (hs : TextsAt w sa cap ss) :
    Calls Try.prog 14 #[.agg #[.int .i64 nx, .slice sa n cap]] w fun e w' => ∃ ra rc, e = .returned (.agg #[.int .i64 nx, .slice ra n rc]) ∧ TxsAt w' ra rc ss ∧ Below w.heap.size w w' := by
  have hA : Below w.heap.size w ((w.alloc (.cells #[.int .i64 nx, .slice sa n cap] 24)).alloc (.cells #[.int .i64 0, .slice none 0 0] 24)) := ((Below.refl _ _).alloc (Nat.le_refl _) _).alloc (by simp) _
  have r0 := heap_alloc2_old w (.cells #[.int .i64 nx, .slice sa n cap] 24) (.cells #[.int .i64 0, .slice none 0 0] 24)
  have r1 := heap_alloc2_new w (.cells #[.int .i64 nx, .slice sa n cap] 24) (.cells #[.int .i64 0, .slice none 0 0] 24)
  have HT : Hid (∀ W : World, Below w.heap.size w W → Calls Try.prog 29 #[.slice sa n cap] W fun e w' => ∃ v, e = .returned v ∧ w'.ownsRow W.heap.size 9 1 v n (sv ss) ∧ Below W.heap.size W w') := by
    show ∀ _, _
    intro W hW
    exact texts_own ss sa n cap W hn (hs.txs.below hW) (by have := hs.le; have := hs.reach; omega)
  have HZ : Hid (∀ s ∈ ss, s.size ≤ maxLen) := hs.strs.size
  have Hn : Hid (n = ss.length) := hn
  clear hs hn
  go_enter Try.func14, Try.ntmps14
  go_wp2_with fail
  generalize (w.alloc (.cells #[.int .i64 nx, .slice sa n cap] 24)).alloc (.cells #[.int .i64 0, .slice none 0 0] 24) = W0 at hA r0 r1 ⊢
  have c0 : W0.cell? ⟨w.heap.size, 0, none⟩ = some (.int .i64 nx) := cells_at r0 0 _ rfl
  have c1 : W0.cell? ⟨w.heap.size, 1, none⟩ = some (.slice sa n cap) := cells_at r0 1 _ rfl
  have hlt := lt_of_heap r1
  go_region_held3 (fun w' => w'.cell? ⟨w.heap.size, 0, none⟩ = some (.int .i64 nx) ∧ w'.cell? ⟨w.heap.size, 1, none⟩ = some (.slice sa n cap)) (go_keep) ((go_at_call 29; refine (HT.out _ hA.drew).mono ?_; rintro e w3 ⟨v3, rfl, ho3, hb3⟩; replace hb3 := below_drew hb3; have s0 := (hb3.block _ (lt_of_heap r0)).trans r0; have s1 := (hb3.block _ (lt_of_heap r1)).trans r1; have g0 : w3.cell? ⟨w.heap.size, 0, none⟩ = some (.int .i64 nx) := cells_at s0 0 _ rfl; have g1 : w3.cell? ⟨w.heap.size, 1, none⟩ = some (.slice sa n cap) := cells_at s0 1 _ rfl; have e0 : w3.cell? ⟨w.heap.size + 1, 0, none⟩ = some (.int .i64 0) := cells_at s1 0 _ rfl; have e1 : w3.cell? ⟨w.heap.size + 1, 1, none⟩ = some (.slice none 0 0) := cells_at s1 1 _ rfl; have k0 := frozen_at s1 0; have k1 := frozen_at s1 1; obtain ⟨za, zc, rfl⟩ := owns_shape ho3))
  all_goals
    go_wp2_with fail
    have ho4 := owns_far (owns_far ho3 (w.heap.size + 1) 0 (.int .i64 nx) hlt) (w.heap.size + 1) 1 (.slice za n zc) hlt
    obtain ⟨ra, rc, hv, hl, ht, _⟩ := txsAt_of_owns ho4 HZ.out
    simp only [Value.slice.injEq] at hv
    obtain ⟨rfl, _, rfl⟩ := hv
    refine bodyPost_ret (v := .agg #[.int .i64 nx, .slice za n zc]) (by simp [results, Try.results14, go_sem, e0, e1]) rfl ⟨za, zc, rfl, ht, ?_⟩
    exact ((hA.trans (hb3.mono hA.size)).setCell (by simp) _).setCell (by simp) _
end Go.Proofs.Ytikolpdedmhljaa
