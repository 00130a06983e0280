/- The walk of PoolAdds. -/
import Derived.Test.YtikolpdedmhljaaPools
import Derived.Test.YtikolpdedmhljaaPAdd
import Derived.Test.YtikolpdedmhljaaRAddP
import Derived.Test.YtikolpdedmhljaaSameP
import Derived.Test.YtikolpdedmhljaaOpenP
namespace Go.Proofs.Ytikolpdedmhljaa
open Go.RowKit

set_option maxRecDepth 100000 in
theorem addS_size {nx : Int} {ss : List ByteArray} {t : ByteArray} (h : ∀ s ∈ ss, s.size ≤ maxLen) (ht : t.size ≤ maxLen) : ∀ s ∈ addS nx ss t, s.size ≤ maxLen := by
  intro s hs
  unfold addS at hs
  split at hs
  · rcases List.mem_append.1 hs with g | g
    · exact h s g
    · rw [show s = t by simpa using g]; exact ht
  · cases hs
set_option maxRecDepth 100000 in
theorem addS_len {nx : Int} {ss : List ByteArray} {t : ByteArray} : (addS nx ss t).length ≤ 41 := by
  unfold addS
  split
  · rename_i h
    unfold addF at h
    split at h
    · rename_i h2
      have := (poolF_len h2).2.2.1
      simp; omega
    · cases h
  · simp
set_option maxRecDepth 100000 in
set_option maxHeartbeats 2000000 in
theorem poolAdds_walk (nx : Int) (sa : Option Addr) (cap : Nat) (ss : List ByteArray) (t : ByteArray) (w : World) (_h1 : I64 nx) (hs : TextsAt w sa cap ss) (ht : t.size ≤ maxLen) :
    Calls Try.prog 4 #[.agg #[.int .i64 nx, .slice sa ss.length cap], .string t] w fun e w' => e = .returned (.bool true) ∧ Below w.heap.size w w' := by
  have hA : Below w.heap.size w (w.alloc (.cells #[.int .i64 nx, .slice sa ss.length cap] 24)) := (Below.refl _ _).alloc (Nat.le_refl _) _
  have r0 := heap_alloc_new w (.cells #[.int .i64 nx, .slice sa ss.length cap] 24)
  have hm : ss.length ≤ maxLen := by have := hs.le; have := hs.reach; unfold maxLen; omega
  have hZ := hs.strs.size
  go_enter Try.func4, Try.ntmps4
  go_wp2_with fail
  generalize w.alloc (.cells #[.int .i64 nx, .slice sa ss.length cap] 24) = W0 at hA r0 ⊢
  refine (pools_any nx sa _ cap ss W0 rfl (hs.below hA)).mono ?_
  rintro e w1 ⟨ra, rc, he, hs1, hb1⟩
  subst he
  dsimp only
  have hB1 := hA.trans (hb1.mono hA.size)
  have p0 := (hb1.block _ (lt_of_heap r0)).trans r0
  go_wp2_with fail
  have hA1 : Below w1.heap.size w1 (w1.alloc (.cells #[.int .i64 nx, .slice ra ss.length rc] 24)) := (Below.refl _ _).alloc (Nat.le_refl _) _
  have pN := heap_alloc_new w1 (.cells #[.int .i64 nx, .slice ra ss.length rc] 24)
  have p0A := heap_keep (o := .cells #[.int .i64 nx, .slice ra ss.length rc] 24) p0
  generalize w1.alloc (.cells #[.int .i64 nx, .slice ra ss.length rc] 24) = W1 at hA1 pN p0A ⊢
  have hB1A := hB1.trans (hA1.mono hB1.size)
  refine (poolAdd_any nx ra _ rc ss t W1 rfl (hs1.below hA1) ht).mono ?_
  rintro e w2 ⟨v2, he, ho2, hb2⟩
  subst he
  dsimp only
  obtain ⟨xa, xc, hv, _, hx2, _⟩ := txsAt_of_owns ho2 (addS_size hZ ht)
  subst hv
  have hB2 := hB1A.trans (hb2.mono hB1A.size)
  have q0 := (hb2.block _ (lt_of_heap p0A)).trans p0A
  have qN := (hb2.block _ (lt_of_heap pN)).trans pN
  have c0 : w2.cell? ⟨w.heap.size, 0, none⟩ = some (.int .i64 nx) := cells_at q0 0 _ rfl
  have c1 : w2.cell? ⟨w.heap.size, 1, none⟩ = some (.slice sa ss.length cap) := cells_at q0 1 _ rfl
  generalize hXN : addN nx ss t = XN at *
  generalize hXF : addF nx ss t = XF at *
  generalize hXS : addS nx ss t = XS at *
  have cA0 : (w2.alloc (.cells #[.int .i64 XN, .slice xa XS.length xc] 24)).cell? ⟨w.heap.size, 0, none⟩ = some (.int .i64 nx) := cells_at (heap_keep q0) 0 _ rfl
  have cA1 : (w2.alloc (.cells #[.int .i64 XN, .slice xa XS.length xc] 24)).cell? ⟨w.heap.size, 1, none⟩ = some (.slice sa ss.length cap) := cells_at (heap_keep q0) 1 _ rfl
  go_wp2_with fail
  have hA2 : Below w2.heap.size w2 (w2.alloc (.cells #[.int .i64 XN, .slice xa XS.length xc] 24)) := (Below.refl _ _).alloc (Nat.le_refl _) _
  have qX := heap_alloc_new w2 (.cells #[.int .i64 XN, .slice xa XS.length xc] 24)
  have q0A := heap_keep (o := .cells #[.int .i64 XN, .slice xa XS.length xc] 24) q0
  have qNA := heap_keep (o := .cells #[.int .i64 XN, .slice xa XS.length xc] 24) qN
  generalize w2.alloc (.cells #[.int .i64 XN, .slice xa XS.length xc] 24) = W2 at hA2 qX q0A qNA cA0 cA1 ⊢
  have hB2A := hB2.trans (hA2.mono hB2.size)
  refine (poolAdded_any nx sa _ cap ss t W2 rfl (hs.txs.below hB2A) ht).mono ?_
  rintro e w3 ⟨v3, he, ho3, hb3⟩
  rw [hXN, hXF] at he
  rw [hXS] at ho3
  subst he
  dsimp only
  obtain ⟨ya, yc, hv, _, hx3, _⟩ := txsAt_of_owns ho3 (by rw [← hXS]; exact addS_size hZ ht)
  subst hv
  have hl3 : XS.length ≤ maxLen := by rw [← hXS]; have := addS_len (nx := nx) (ss := ss) (t := t); unfold maxLen; omega
  have hB3 := hB2A.trans (hb3.mono hB2A.size)
  have s0 := (hb3.block _ (lt_of_heap q0A)).trans q0A
  have sN := (hb3.block _ (lt_of_heap qNA)).trans qNA
  have sX := (hb3.block _ (lt_of_heap qX)).trans qX
  have hA3 : Below w3.heap.size w3 (w3.alloc (.cells #[.int .i64 XN, .slice ya XS.length yc] 24)) := (Below.refl _ _).alloc (Nat.le_refl _) _
  have t0 := heap_keep (o := .cells #[.int .i64 XN, .slice ya XS.length yc] 24) s0
  have tN := heap_keep (o := .cells #[.int .i64 XN, .slice ya XS.length yc] 24) sN
  have tX := heap_keep (o := .cells #[.int .i64 XN, .slice ya XS.length yc] 24) sX
  have tY := heap_alloc_new w3 (.cells #[.int .i64 XN, .slice ya XS.length yc] 24)
  have hX4 := ((hx2.strs.below hA2).below hb3).below hA3
  have hY4 := hx3.strs.below hA3
  have hC4 := (((hs1.strs.below hA1).below hb2).below hA2 |>.below hb3).below hA3
  have hB4 := hB3.trans (hA3.mono hB3.size)
  have hP4 := hs.strs.below hB4
  have hbe : (XF == XF) = true := by simp
  have u0 := cells_at tX 0 _ rfl
  have u1 := cells_at tX 1 _ rfl
  have x0 := cells_at tY 0 _ rfl
  have x1 := cells_at tY 1 _ rfl
  clear hXN hXF hXS c0 c1 cA0 cA1 hZ
  go_wp2_with fail
  refine (samePool_eq XN XS xa ya _ _ xc yc _ rfl rfl hl3 hX4 hY4).mono ?_
  rintro e w4 ⟨he, hb4⟩
  subst he
  dsimp only
  have z0 := (hb4.block _ (lt_of_heap t0)).trans t0
  have zN := (hb4.block _ (lt_of_heap tN)).trans tN
  have c0 : w4.cell? ⟨w.heap.size, 0, none⟩ = some (.int .i64 nx) := cells_at z0 0 _ rfl
  have c1 : w4.cell? ⟨w.heap.size, 1, none⟩ = some (.slice sa ss.length cap) := cells_at z0 1 _ rfl
  have n0 := cells_at zN 0 _ rfl
  have n1 := cells_at zN 1 _ rfl
  go_wp2_with fail
  refine (samePool_eq nx ss ra sa _ _ rc cap _ rfl rfl hm (hC4.below hb4) (hP4.below hb4)).mono ?_
  rintro e w5 ⟨he, hb5⟩
  subst he
  dsimp only
  go_wp2_with fail
  go_ret
  exact ⟨by rfl, (hB4.trans (hb4.mono hB4.size)).trans (hb5.mono (Nat.le_trans hB4.size hb4.size))⟩
end Go.Proofs.Ytikolpdedmhljaa
