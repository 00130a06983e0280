/- The walk of PoolSeals. -/
import Derived.Test.YtikolpdedmhljaaPools
import Derived.Test.YtikolpdedmhljaaPSeal
import Derived.Test.YtikolpdedmhljaaRSealP
import Derived.Test.YtikolpdedmhljaaSameP
import Derived.Test.YtikolpdedmhljaaOpenP
namespace Go.Proofs.Ytikolpdedmhljaa
open Go.RowKit

set_option maxRecDepth 100000 in
theorem sealP_size {nx au : Int} {ss : List ByteArray} (h : ∀ s ∈ ss, s.size ≤ maxLen) : ∀ s ∈ sealP nx ss au, s.size ≤ maxLen := by
  intro s hs
  unfold sealP at hs
  split at hs
  · exact h s (List.mem_of_mem_drop hs)
  · cases hs
set_option maxRecDepth 100000 in
theorem sealB_size {nx au : Int} {ss : List ByteArray} (h : ∀ s ∈ ss, s.size ≤ maxLen) : ∀ s ∈ sealB nx ss au, s.size ≤ maxLen := by
  intro s hs
  unfold sealB at hs
  split at hs
  · exact h s (List.mem_of_mem_take hs)
  · cases hs
set_option maxRecDepth 100000 in
theorem sealP_len {nx au : Int} {ss : List ByteArray} : (sealP nx ss au).length ≤ ss.length := by
  unfold sealP
  split
  · rw [List.length_drop]; omega
  · simp
set_option maxRecDepth 100000 in
theorem sealB_len {nx au : Int} {ss : List ByteArray} : (sealB nx ss au).length ≤ 4 := by
  unfold sealB
  split
  · rw [List.length_take]; omega
  · simp
set_option maxRecDepth 100000 in
set_option maxHeartbeats 2000000 in
theorem poolSeals_walk (nx : Int) (sa : Option Addr) (cap : Nat) (ss : List ByteArray) (au : Int) (w : World) (_h1 : I64 nx) (hs : TextsAt w sa cap ss) (_h3 : -9223372036854775808 ≤ au) (_h4 : au ≤ 9223372036854775807) :
    Calls Try.prog 5 #[.agg #[.int .i64 nx, .slice sa ss.length cap], .int .i64 au] w fun e w' => e = .returned (.bool true) ∧ Below w.heap.size w w' := by
  have hA : Below w.heap.size w (w.alloc (.cells #[.int .i64 nx, .slice sa ss.length cap] 24)) := (Below.refl _ _).alloc (Nat.le_refl _) _
  have r0 := heap_alloc_new w (.cells #[.int .i64 nx, .slice sa ss.length cap] 24)
  have hm : ss.length ≤ maxLen := by have := hs.le; have := hs.reach; unfold maxLen; omega
  have hZ := hs.strs.size
  go_enter Try.func5, Try.ntmps5
  go_wp2_with fail
  generalize w.alloc (.cells #[.int .i64 nx, .slice sa ss.length cap] 24) = W0 at hA r0 ⊢
  refine (pools_any nx sa _ cap ss W0 rfl (hs.below hA)).mono ?_
  rintro e w1 ⟨ra, rc, he, hs1, hb1⟩
  subst he
  dsimp only
  have hB1 := hA.trans (hb1.mono hA.size)
  have p0 := (hb1.block _ (lt_of_heap r0)).trans r0
  go_wp2_with fail
  have hA1 : Below w1.heap.size w1 (w1.alloc (.cells #[.int .i64 nx, .slice ra ss.length rc] 24)) := (Below.refl _ _).alloc (Nat.le_refl _) _
  have pN := heap_alloc_new w1 (.cells #[.int .i64 nx, .slice ra ss.length rc] 24)
  have p0A := heap_keep (o := .cells #[.int .i64 nx, .slice ra ss.length rc] 24) p0
  generalize w1.alloc (.cells #[.int .i64 nx, .slice ra ss.length rc] 24) = W1 at hA1 pN p0A ⊢
  have hB1A := hB1.trans (hA1.mono hB1.size)
  refine (poolSeal_any nx ra _ rc ss au W1 rfl (hs1.below hA1)).mono ?_
  rintro e w2 ⟨v2, u2, he, ho2, hq2, hb2⟩
  subst he
  dsimp only
  obtain ⟨xa, xc, hv, _, hx2, _⟩ := txsAt_of_owns ho2 (sealP_size hZ)
  subst hv
  obtain ⟨ba, bc, hv, _, hy2, _⟩ := txsAt_of_owns hq2 (sealB_size hZ)
  subst hv
  have hB2 := hB1A.trans (hb2.mono hB1A.size)
  have q0 := (hb2.block _ (lt_of_heap p0A)).trans p0A
  have qN := (hb2.block _ (lt_of_heap pN)).trans pN
  have hlP : (sealP nx ss au).length ≤ maxLen := Nat.le_trans sealP_len hm
  have hlB : (sealB nx ss au).length ≤ maxLen := by have := sealB_len (nx := nx) (ss := ss) (au := au); unfold maxLen; omega
  have hzP := sealP_size (nx := nx) (au := au) hZ
  have hzB := sealB_size (nx := nx) (au := au) hZ
  generalize hXN : sealN nx ss au = XN at *
  generalize hXF : sealF nx ss au = XF at *
  generalize hXS : sealP nx ss au = XS at *
  generalize hXA : sealA nx ss au = XA at *
  generalize hXM : sealNo nx ss au = XM at *
  generalize hXB : sealB nx ss au = XB at *
  have q0A := heap_keep (o := .cells #[.int .i64 XA, .int .i64 XM, .slice ba XB.length bc] 34) (heap_keep (o := .cells #[.int .i64 XN, .slice xa XS.length xc] 24) q0)
  have cA0 : ((w2.alloc (.cells #[.int .i64 XN, .slice xa XS.length xc] 24)).alloc (.cells #[.int .i64 XA, .int .i64 XM, .slice ba XB.length bc] 34)).cell? ⟨w.heap.size, 0, none⟩ = some (.int .i64 nx) := cells_at q0A 0 _ rfl
  have cA1 : ((w2.alloc (.cells #[.int .i64 XN, .slice xa XS.length xc] 24)).alloc (.cells #[.int .i64 XA, .int .i64 XM, .slice ba XB.length bc] 34)).cell? ⟨w.heap.size, 1, none⟩ = some (.slice sa ss.length cap) := cells_at q0A 1 _ rfl
  go_wp2_with fail
  have hA2 : Below w2.heap.size w2 ((w2.alloc (.cells #[.int .i64 XN, .slice xa XS.length xc] 24)).alloc (.cells #[.int .i64 XA, .int .i64 XM, .slice ba XB.length bc] 34)) := ((Below.refl _ _).alloc (Nat.le_refl _) _).alloc (by simp) _
  have qX := heap_alloc2_old w2 (.cells #[.int .i64 XN, .slice xa XS.length xc] 24) (.cells #[.int .i64 XA, .int .i64 XM, .slice ba XB.length bc] 34)
  have qY := heap_alloc2_new w2 (.cells #[.int .i64 XN, .slice xa XS.length xc] 24) (.cells #[.int .i64 XA, .int .i64 XM, .slice ba XB.length bc] 34)
  have qNA := heap_keep (o := .cells #[.int .i64 XA, .int .i64 XM, .slice ba XB.length bc] 34) (heap_keep (o := .cells #[.int .i64 XN, .slice xa XS.length xc] 24) qN)
  generalize (w2.alloc (.cells #[.int .i64 XN, .slice xa XS.length xc] 24)).alloc (.cells #[.int .i64 XA, .int .i64 XM, .slice ba XB.length bc] 34) = W2 at hA2 qX qY q0A qNA cA0 cA1 ⊢
  have hB2A := hB2.trans (hA2.mono hB2.size)
  refine (poolSealed_any nx sa _ cap ss au W2 rfl (hs.txs.below hB2A)).mono ?_
  rintro e w3 ⟨v3, u3, he, ho3, hq3, hb3⟩
  rw [hXN, hXF, hXA, hXM] at he
  rw [hXS] at ho3
  rw [hXB] at hq3
  subst he
  dsimp only
  obtain ⟨ya, yc, hv, _, hx3, _⟩ := txsAt_of_owns ho3 hzP
  subst hv
  obtain ⟨da, dc, hv, _, hy3, _⟩ := txsAt_of_owns hq3 hzB
  subst hv
  have hB3 := hB2A.trans (hb3.mono hB2A.size)
  have s0 := (hb3.block _ (lt_of_heap q0A)).trans q0A
  have sN := (hb3.block _ (lt_of_heap qNA)).trans qNA
  have sX := (hb3.block _ (lt_of_heap qX)).trans qX
  have sY := (hb3.block _ (lt_of_heap qY)).trans qY
  have hA3 : Below w3.heap.size w3 ((w3.alloc (.cells #[.int .i64 XN, .slice ya XS.length yc] 24)).alloc (.cells #[.int .i64 XA, .int .i64 XM, .slice da XB.length dc] 34)) := ((Below.refl _ _).alloc (Nat.le_refl _) _).alloc (by simp) _
  have t0 := (hA3.block _ (lt_of_heap s0)).trans s0
  have tN := (hA3.block _ (lt_of_heap sN)).trans sN
  have tX := (hA3.block _ (lt_of_heap sX)).trans sX
  have tY := (hA3.block _ (lt_of_heap sY)).trans sY
  have tU := heap_alloc2_old w3 (.cells #[.int .i64 XN, .slice ya XS.length yc] 24) (.cells #[.int .i64 XA, .int .i64 XM, .slice da XB.length dc] 34)
  have tV := heap_alloc2_new w3 (.cells #[.int .i64 XN, .slice ya XS.length yc] 24) (.cells #[.int .i64 XA, .int .i64 XM, .slice da XB.length dc] 34)
  have hX4 := ((hx2.strs.below hA2).below hb3).below hA3
  have hY4 := hx3.strs.below hA3
  have hE4 := ((hy2.strs.below hA2).below hb3).below hA3
  have hG4 := hy3.strs.below hA3
  have hC4 := (((hs1.strs.below hA1).below hb2).below hA2 |>.below hb3).below hA3
  have hB4 := hB3.trans (hA3.mono hB3.size)
  have hP4 := hs.strs.below hB4
  have hbe : (XF == XF) = true := by simp
  have u0 := cells_at tX 0 _ rfl
  have u1 := cells_at tX 1 _ rfl
  have x0 := cells_at tU 0 _ rfl
  have x1 := cells_at tU 1 _ rfl
  clear hXN hXF hXS hXA hXM hXB cA0 cA1 hZ hzP hzB
  go_wp2_with fail
  generalize (w3.alloc (.cells #[.int .i64 XN, .slice ya XS.length yc] 24)).alloc (.cells #[.int .i64 XA, .int .i64 XM, .slice da XB.length dc] 34) = W3 at *
  refine (samePool_eq XN XS xa ya _ _ xc yc _ rfl rfl hlP hX4 hY4).mono ?_
  rintro e w4 ⟨he, hb4⟩
  subst he
  dsimp only
  have z0 := (hb4.block _ (lt_of_heap t0)).trans t0
  have zN := (hb4.block _ (lt_of_heap tN)).trans tN
  have zY := (hb4.block _ (lt_of_heap tY)).trans tY
  have zV := (hb4.block _ (lt_of_heap tV)).trans tV
  have k0 := cells_at zY 0 _ rfl
  have k1 := cells_at zY 1 _ rfl
  have k2 := cells_at zY 2 _ rfl
  have l0 := cells_at zV 0 _ rfl
  have l1 := cells_at zV 1 _ rfl
  have l2 := cells_at zV 2 _ rfl
  go_wp2_with fail
  refine (sameBatchL_eq XA XM XB ba da _ _ bc dc _ rfl rfl hlB (hE4.below hb4) (hG4.below hb4)).mono ?_
  rintro e w5 ⟨he, hb5⟩
  subst he
  dsimp only
  have i0 := (hb5.block _ (lt_of_heap z0)).trans z0
  have iN := (hb5.block _ (lt_of_heap zN)).trans zN
  have c0 : w5.cell? ⟨w.heap.size, 0, none⟩ = some (.int .i64 nx) := cells_at i0 0 _ rfl
  have c1 : w5.cell? ⟨w.heap.size, 1, none⟩ = some (.slice sa ss.length cap) := cells_at i0 1 _ rfl
  have n0 := cells_at iN 0 _ rfl
  have n1 := cells_at iN 1 _ rfl
  go_wp2_with fail
  refine (samePool_eq nx ss ra sa _ _ rc cap _ rfl rfl hm ((hC4.below hb4).below hb5) ((hP4.below hb4).below hb5)).mono ?_
  rintro e w6 ⟨he, hb6⟩
  subst he
  dsimp only
  go_wp2_with fail
  go_ret
  exact ⟨by rfl, ((hB4.trans (hb4.mono hB4.size)).trans (hb5.mono (Nat.le_trans hB4.size hb4.size))).trans (hb6.mono (Nat.le_trans (Nat.le_trans hB4.size hb4.size) hb5.size))⟩
end Go.Proofs.Ytikolpdedmhljaa
