/- The walk of WireSlots. -/
import Derived.Test.YtplmploigfhkkaaCSlot
import Derived.Test.YtplmploigfhkkaaRSlot
import Derived.Test.YtplmploigfhkkaaOpenS
import Derived.Test.YtplmploigfhkkaaSx
namespace Go.Proofs.Ytplmploigfhkkaa
open Go.RowKit

set_option maxHeartbeats 1000000 in
theorem wireSlots_walk (au rd : Int) (sa : Option Addr) (cap : Nat) (bs : List Int) (w : World) (_h1 : I64 au) (_h2 : I64 rd) (_h3 : SliceAt w sa cap bs) (_h4 : AllU8 bs) :
    Calls Try.prog 6 #[.agg #[.int .i64 au, .int .i64 rd, .slice sa bs.length cap]] w fun e w' => e = .returned (.bool true) ∧ Below w.heap.size w w' := by
  go_enter Try.func6, Try.ntmps6
  go_wp2_with fail
  refine (checkSlot_any au rd sa bs.length cap _).mono ?_
  rintro e w1 ⟨rfl, hb1⟩
  have c0 := kept_cell hb1 0 _ rfl
  have c1 := kept_cell hb1 1 _ rfl
  have c2 := kept_cell hb1 2 _ rfl
  replace hb1 := below_alloc hb1
  go_wp2_with fail
  refine (slotFault_any au rd sa bs.length cap _).mono ?_
  rintro e w2 ⟨rfl, hb2⟩
  go_wp2_with fail
  go_ret
  exact ⟨rfl, hb1.trans (hb2.mono hb1.size)⟩
end Go.Proofs.Ytplmploigfhkkaa
