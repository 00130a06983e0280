/- The walk of WireHeaders. -/
import Derived.Test.YtplmploigfhkkaaCHead
import Derived.Test.YtplmploigfhkkaaRHead
import Derived.Test.YtplmploigfhkkaaOpenL
namespace Go.Proofs.Ytplmploigfhkkaa
open Go.RowKit

theorem headerF_same (au rd : Int) {xs bl ys pl : List Part} (h1 : Same xs bl) (h2 : Same ys pl) : headerF au rd xs ys = headerF au rd bl pl := by
  rw [headerF, headerF, digF_same h1, digF_same h2, h1.length, h2.length]
set_option maxHeartbeats 1000000 in
theorem wireHeaders_walk (au rd : Int) (ba : Option Addr) (bc : Nat) (bl : List Part) (pa : Option Addr) (pc : Nat) (pl : List Part) (w : World) (_h1 : I64 au) (_h2 : I64 rd) (hb : ReadAt w ba bc bl) (hp : ReadAt w pa pc pl) :
    Calls Try.prog 4 #[.agg #[.int .i64 au, .int .i64 rd, .slice ba bl.length bc, .slice pa pl.length pc]] w fun e w' => e = .returned (.bool true) ∧ Below w.heap.size w w' := by
  have hA : Below w.heap.size w (w.alloc (.cells #[.int .i64 au, .int .i64 rd, .slice ba bl.length bc, .slice pa pl.length pc] 31)) := (Below.refl _ _).alloc (Nat.le_refl _) _
  go_enter Try.func4, Try.ntmps4
  go_wp2_with fail
  refine (headerCopy_any au rd ba bc bl pa pc pl _ (hb.below hA) (hp.below hA)).mono ?_
  rintro e w1 ⟨xa, xc, xs, ya, yc, ys, he, hS1, hS2, hL1, hL2, hb1, _, _⟩
  subst he
  dsimp only
  have hC := checkHeader_any au rd xa xc xs ya yc ys w1 hL1 hL2
  rw [headerF_same au rd hS1 hS2, hS1.length, hS2.length] at hC
  go_wp2_with fail
  refine hC.mono ?_
  rintro e w2 ⟨he, hb2⟩
  subst he
  dsimp only
  have hb12 := hb1.trans (hb2.mono hb1.size)
  have r2 := row_new hb12
  have c0 : w2.cell? ⟨w.heap.size, 0, none⟩ = some (.int .i64 au) := cells_at r2 0 _ rfl
  have c1 : w2.cell? ⟨w.heap.size, 1, none⟩ = some (.int .i64 rd) := cells_at r2 1 _ rfl
  have c2 : w2.cell? ⟨w.heap.size, 2, none⟩ = some (.slice ba bl.length bc) := cells_at r2 2 _ rfl
  have c3 : w2.cell? ⟨w.heap.size, 3, none⟩ = some (.slice pa pl.length pc) := cells_at r2 3 _ rfl
  replace hb12 := below_alloc hb12
  go_wp2_with fail
  refine (headerFault_any au rd ba bc bl pa pc pl w2 (hb.list.below hb12) (hp.list.below hb12)).mono ?_
  rintro e w3 ⟨he, hb3⟩
  subst he
  dsimp only
  go_wp2_with fail
  go_ret
  exact ⟨by simp, hb12.trans (hb3.mono hb12.size)⟩
end Go.Proofs.Ytplmploigfhkkaa
