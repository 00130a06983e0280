/- The walk of PoolChecks. -/
import Derived.Test.YtikolpdedmhljaaPools
import Derived.Test.YtikolpdedmhljaaPChk
import Derived.Test.YtikolpdedmhljaaRPool
import Derived.Test.YtikolpdedmhljaaOpenP
namespace Go.Proofs.Ytikolpdedmhljaa
open Go.RowKit

set_option maxRecDepth 100000 in
set_option maxHeartbeats 1000000 in
theorem poolChecks_walk (nx : Int) (sa : Option Addr) (cap : Nat) (ss : List ByteArray) (w : World) (_h1 : I64 nx) (hs : TextsAt w sa cap ss) :
    Calls Try.prog 3 #[.agg #[.int .i64 nx, .slice sa ss.length cap]] w fun e w' => e = .returned (.bool true) ∧ Below w.heap.size w w' := by
  go_enter Try.func3, Try.ntmps3
  go_wp2_with fail
  refine (pools_any nx sa _ cap ss _ rfl (hs.below ((Below.refl _ _).alloc (Nat.le_refl _) _))).mono ?_
  rintro e w1 ⟨ra, rc, rfl, hs1, hb1⟩
  go_wp2_with fail
  refine (poolCheck_any nx ra _ rc ss w1 rfl hs1).mono ?_
  rintro e w2 ⟨rfl, hb2⟩
  have hb12 := hb1.trans (hb2.mono hb1.size)
  have c0 := kept_cell hb12 0 _ rfl
  have c1 := kept_cell hb12 1 _ rfl
  replace hb12 := below_alloc hb12
  go_wp2_with fail
  refine (poolFault_any nx sa _ cap ss w2 rfl (hs.txs.below hb12)).mono ?_
  rintro e w3 ⟨rfl, hb3⟩
  go_wp2_with fail
  go_ret
  exact ⟨by simp, hb12.trans (hb3.mono hb12.size)⟩
end Go.Proofs.Ytikolpdedmhljaa
