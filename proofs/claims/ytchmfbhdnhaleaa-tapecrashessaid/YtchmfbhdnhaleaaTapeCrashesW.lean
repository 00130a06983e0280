/- The walk of TapeCrashes. -/
import Derived.Test.YtchmfbhdnhaleaaTapes
import Derived.Test.YtchmfbhdnhaleaaTCrash
import Derived.Test.YtchmfbhdnhaleaaRTapC
namespace Go.Proofs.Ytchmfbhdnhaleaa
open Go.RowKit

set_option maxRecDepth 100000 in
set_option maxHeartbeats 2000000 in
theorem tapeCrashes_walk (sa : Option Addr) (cap : Nat) (bs : List Int) (sy : Int) (keep : Int) (w : World) (hs : SliceAt w sa cap bs) (_hu : AllU8 bs) (hr : cap ≤ 140737488351232) (_hy : I64 sy) (hk0 : -9223372036854775808 ≤ keep) (hk1 : keep ≤ 9223372036854775807) :
    Calls Try.prog 6 #[.agg #[.slice sa bs.length cap, .int .i64 sy], .int .i64 keep] w fun e w' => e = .returned (.bool true) ∧ Below w.heap.size w w' := by
  have hA : Below w.heap.size w (w.alloc (.cells #[.slice sa bs.length cap, .int .i64 sy] 41)) := (Below.refl _ _).alloc (Nat.le_refl _) _
  have r0 := heap_alloc_new w (.cells #[.slice sa bs.length cap, .int .i64 sy] 41)
  have hl : bs.length ≤ 140737488355328 := by have := hs.le; omega
  go_enter Try.func6, Try.ntmps6
  go_wp2_with fail
  generalize w.alloc (.cells #[.slice sa bs.length cap, .int .i64 sy] 41) = W0 at hA r0 ⊢
  refine (tapes_any sy sa _ cap bs W0 rfl (hs.below hA) hr).mono ?_
  rintro e w1 ⟨ra, rc, he, hs1, _, hb1⟩
  subst he
  dsimp only
  have hB1 := hA.trans (hb1.mono hA.size)
  have p0 := (hb1.block _ (lt_of_heap r0)).trans r0
  go_wp2_with fail
  have hA1 : Below w1.heap.size w1 (w1.alloc (.cells #[.slice ra bs.length rc, .int .i64 sy] 41)) := (Below.refl _ _).alloc (Nat.le_refl _) _
  have pN := heap_alloc_new w1 (.cells #[.slice ra bs.length rc, .int .i64 sy] 41)
  have p0A := heap_keep (o := .cells #[.slice ra bs.length rc, .int .i64 sy] 41) p0
  generalize w1.alloc (.cells #[.slice ra bs.length rc, .int .i64 sy] 41) = W1 at hA1 pN p0A ⊢
  have hB1A := hB1.trans (hA1.mono hB1.size)
  refine (tapeCrash_any bs ra _ rc sy keep W1 rfl (hs1.below hA1) hl (by omega) (by omega)).mono ?_
  generalize hXN : crashN bs.length sy keep = XN
  generalize hXF : crashF bs.length sy keep = XF
  generalize hXS : bs.take XN = XS
  rintro e w2 ⟨xa, xc, he, hx2, _, hb2⟩
  subst he
  dsimp only
  have hB2 := hB1A.trans (hb2.mono hB1A.size)
  have q0 := (hb2.block _ (lt_of_heap p0A)).trans p0A
  have qN := (hb2.block _ (lt_of_heap pN)).trans pN
  have c0 : w2.cell? ⟨w.heap.size, 0, none⟩ = some (.slice sa bs.length cap) := cells_at q0 0 _ rfl
  have c1 : w2.cell? ⟨w.heap.size, 1, none⟩ = some (.int .i64 sy) := cells_at q0 1 _ rfl
  have cA0 : (w2.alloc (.cells #[.slice xa XS.length xc, .int .i64 (XN : Int)] 41)).cell? ⟨w.heap.size, 0, none⟩ = some (.slice sa bs.length cap) := cells_at (heap_keep q0) 0 _ rfl
  have cA1 : (w2.alloc (.cells #[.slice xa XS.length xc, .int .i64 (XN : Int)] 41)).cell? ⟨w.heap.size, 1, none⟩ = some (.int .i64 sy) := cells_at (heap_keep q0) 1 _ rfl
  go_wp2_with fail
  have hA2 : Below w2.heap.size w2 (w2.alloc (.cells #[.slice xa XS.length xc, .int .i64 (XN : Int)] 41)) := (Below.refl _ _).alloc (Nat.le_refl _) _
  have qX := heap_alloc_new w2 (.cells #[.slice xa XS.length xc, .int .i64 (XN : Int)] 41)
  have q0A := heap_keep (o := .cells #[.slice xa XS.length xc, .int .i64 (XN : Int)] 41) q0
  have qNA := heap_keep (o := .cells #[.slice xa XS.length xc, .int .i64 (XN : Int)] 41) qN
  generalize w2.alloc (.cells #[.slice xa XS.length xc, .int .i64 (XN : Int)] 41) = W2 at hA2 qX q0A qNA cA0 cA1 ⊢
  have hB2A := hB2.trans (hA2.mono hB2.size)
  have hR := tapeCrashed_any bs sa _ cap sy keep W2 rfl (hs.below hB2A) hl (by omega) (by omega)
  rw [hXN, hXF, hXS] at hR
  refine hR.mono ?_
  clear hR
  rintro e w3 ⟨ya, yc, he, hx3, _, hb3⟩
  subst he
  dsimp only
  have hB3 := hB2A.trans (hb3.mono hB2A.size)
  have s0 := (hb3.block _ (lt_of_heap q0A)).trans q0A
  have sN := (hb3.block _ (lt_of_heap qNA)).trans qNA
  have sX := (hb3.block _ (lt_of_heap qX)).trans qX
  have hA3 : Below w3.heap.size w3 (w3.alloc (.cells #[.slice ya XS.length yc, .int .i64 (XN : Int)] 41)) := (Below.refl _ _).alloc (Nat.le_refl _) _
  have t0 := heap_keep (o := .cells #[.slice ya XS.length yc, .int .i64 (XN : Int)] 41) s0
  have tN := heap_keep (o := .cells #[.slice ya XS.length yc, .int .i64 (XN : Int)] 41) sN
  have tX := heap_keep (o := .cells #[.slice ya XS.length yc, .int .i64 (XN : Int)] 41) sX
  have tY := heap_alloc_new w3 (.cells #[.slice ya XS.length yc, .int .i64 (XN : Int)] 41)
  have hX4 := ((hx2.below hA2).below hb3).below hA3
  have hY4 := hx3.below hA3
  have hC4 := (((hs1.below hA1).below hb2).below hA2 |>.below hb3).below hA3
  have hB4 := hB3.trans (hA3.mono hB3.size)
  have hP4 := hs.below hB4
  have hbe : (XF == XF) = true := by simp
  have u0 := cells_at tX 0 _ rfl
  have u1 := cells_at tX 1 _ rfl
  have x0 := cells_at tY 0 _ rfl
  have x1 := cells_at tY 1 _ rfl
  clear hXN hXF hXS c0 c1 cA0 cA1
  go_wp2_with fail
  refine (sameTape_eq (XN : Int) XS xa ya _ _ xc yc _ rfl rfl hX4 hY4).mono ?_
  rintro e w4 ⟨he, hb4⟩
  subst he
  dsimp only
  have z0 := (hb4.block _ (lt_of_heap t0)).trans t0
  have zN := (hb4.block _ (lt_of_heap tN)).trans tN
  have c0 : w4.cell? ⟨w.heap.size, 0, none⟩ = some (.slice sa bs.length cap) := cells_at z0 0 _ rfl
  have c1 : w4.cell? ⟨w.heap.size, 1, none⟩ = some (.int .i64 sy) := cells_at z0 1 _ rfl
  have n0 := cells_at zN 0 _ rfl
  have n1 := cells_at zN 1 _ rfl
  have hB5 := hB4.trans (hb4.mono hB4.size)
  go_wp2_with fail
  refine (sameTape_eq sy bs ra sa _ _ rc cap _ rfl rfl (hC4.below hb4) (hP4.below hb4)).mono ?_
  rintro e w5 ⟨he, hb5⟩
  subst he
  dsimp only
  go_wp2_with fail
  go_ret
  exact ⟨rfl, hB5.trans (hb5.mono hB5.size)⟩
end Go.Proofs.Ytchmfbhdnhaleaa
