/- The walk of WireBatches. -/
import Derived.Test.YtplmploigfhkkaaCBatch
import Derived.Test.YtplmploigfhkkaaRBatch
import Derived.Test.YtplmploigfhkkaaOpenT
namespace Go.Proofs.Ytplmploigfhkkaa
open Go.RowKit

set_option maxHeartbeats 1000000 in
theorem wireBatches_walk (au nu : Int) (sa : Option Addr) (cap : Nat) (ss : List ByteArray) (w : World) (_h1 : I64 au) (_h2 : I64 nu) (hs : TextsAt w sa cap ss) :
    Calls Try.prog 3 #[.agg #[.int .i64 au, .int .i64 nu, .slice sa ss.length cap]] w fun e w' => e = .returned (.bool true) ∧ Below w.heap.size w w' := by
  have hm : ss.length ≤ maxLen := by have := hs.le; have := hs.reach; unfold maxLen; omega
  go_enter Try.func3, Try.ntmps3
  go_wp2_with fail
  refine (batch_any au nu ss sa _ cap _ rfl (hs.below ((Below.refl _ _).alloc (Nat.le_refl _) _))).mono ?_
  rintro e w1 ⟨ra, rc, rfl, hs1, hb1⟩
  go_wp2_with fail
  refine (checkBatch_any au nu ra _ rc ss w1 rfl hm hs1).mono ?_
  rintro e w2 ⟨rfl, hb2⟩
  have hb12 := hb1.trans (hb2.mono hb1.size)
  have c0 := kept_cell hb12 0 _ rfl
  have c1 := kept_cell hb12 1 _ rfl
  have c2 := kept_cell hb12 2 _ rfl
  replace hb12 := below_alloc hb12
  go_wp2_with fail
  refine (batchFault_any au nu sa _ cap ss w2 rfl hm (hs.strs.below hb12)).mono ?_
  rintro e w3 ⟨rfl, hb3⟩
  go_wp2_with fail
  go_ret
  exact ⟨by simp, hb12.trans (hb3.mono hb12.size)⟩
end Go.Proofs.Ytplmploigfhkkaa
