/- The walk of WireCerts. -/
import Derived.Test.YtplmploigfhkkaaCCert
import Derived.Test.YtplmploigfhkkaaRCert
import Derived.Test.YtplmploigfhkkaaCCopy
import Derived.Test.YtplmploigfhkkaaOpenC
namespace Go.Proofs.Ytplmploigfhkkaa
open Go.RowKit

theorem certF_same (au rd : Int) {xs bl ys pl : List Part} (vl : List Int) (h1 : Same xs bl) (h2 : Same ys pl) : certF au rd xs ys vl = certF au rd bl pl vl := by
  have e : headerF au rd xs ys = headerF au rd bl pl := by rw [headerF, headerF, digF_same h1, digF_same h2, h1.length, h2.length]
  rw [certF, certF, e]
set_option maxHeartbeats 1000000 in
theorem wireCerts_walk (au rd : Int) (ba : Option Addr) (bc : Nat) (bl : List Part) (pa : Option Addr) (pc : Nat) (pl : List Part) (va : Option Addr) (vc : Nat) (vl : List Int) (w : World) (_h1 : I64 au) (_h2 : I64 rd) (hb : ReadAt w ba bc bl) (hp : ReadAt w pa pc pl) (hn : NumsAt w va vc vl) :
    Calls Try.prog 5 #[.agg #[.int .i64 au, .int .i64 rd, .slice ba bl.length bc, .slice pa pl.length pc, .slice va vl.length vc]] w fun e w' => e = .returned (.bool true) ∧ Below w.heap.size w w' := by
  have hA : Below w.heap.size w (w.alloc (.cells #[.int .i64 au, .int .i64 rd, .slice ba bl.length bc, .slice pa pl.length pc, .slice va vl.length vc] 37)) := (Below.refl _ _).alloc (Nat.le_refl _) _
  have hle := hn.le
  have hre := hn.reach
  go_enter Try.func5, Try.ntmps5
  go_wp2_with fail
  refine (certCopy_any au rd ba bc bl pa pc pl va vc vl _ (hb.below hA) (hp.below hA) (hn.ints.below hA) (by omega)).mono ?_
  rintro e w1 ⟨xa, xc, xs, ya, yc, ys, za, zc, he, hS1, hS2, hL1, hL2, hI, hb1⟩
  subst he
  dsimp only
  have hC := checkCert_any au rd xa xc xs ya yc ys za zc vl w1 hL1 hL2 hI (by omega)
  rw [certF_same au rd vl hS1 hS2, hS1.length, hS2.length] at hC
  go_wp2_with fail
  refine hC.mono ?_
  rintro e w2 ⟨he, hb2⟩
  subst he
  dsimp only
  have hb12 := hb1.trans (hb2.mono hb1.size)
  have r2 := row_new hb12
  have c0 : w2.cell? ⟨w.heap.size, 0, none⟩ = some (.int .i64 au) := cells_at r2 0 _ rfl
  have c1 : w2.cell? ⟨w.heap.size, 1, none⟩ = some (.int .i64 rd) := cells_at r2 1 _ rfl
  have c2 : w2.cell? ⟨w.heap.size, 2, none⟩ = some (.slice ba bl.length bc) := cells_at r2 2 _ rfl
  have c3 : w2.cell? ⟨w.heap.size, 3, none⟩ = some (.slice pa pl.length pc) := cells_at r2 3 _ rfl
  have c4 : w2.cell? ⟨w.heap.size, 4, none⟩ = some (.slice va vl.length vc) := cells_at r2 4 _ rfl
  replace hb12 := below_alloc hb12
  go_wp2_with fail
  refine (certFault_any au rd ba bc bl pa pc pl va vc vl w2 (hb.list.below hb12) (hp.list.below hb12) (hn.ints.below hb12) (by omega)).mono ?_
  rintro e w3 ⟨he, hb3⟩
  subst he
  dsimp only
  go_wp2_with fail
  go_ret
  exact ⟨by simp, hb12.trans (hb3.mono hb12.size)⟩
end Go.Proofs.Ytplmploigfhkkaa
