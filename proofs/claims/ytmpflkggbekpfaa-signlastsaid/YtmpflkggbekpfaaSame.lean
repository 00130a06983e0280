/- sheaveskeep.same: two slices of the same bytes are the same. -/
import Derived.Test.YtmpflkggbekpfaaApp
namespace Go.Proofs.Ytmpflkggbekpfaa
open Go.RowKit

set_option maxRecDepth 100000 in
set_option maxHeartbeats 400000 in
theorem same_eq (bs : List Int) (sa sb : Option Addr) (n m c d : Nat) (w : World) (hn : n = bs.length) (hm : m = bs.length) (ha : SliceAt w sa c bs) (hb : SliceAt w sb d bs) :
    Calls Try.prog 19 #[.slice sa n c, .slice sb m d] w fun e w' => e = .returned (.bool true) ∧ w = w' := by
  have h1 := run_text w sa n c bs hn ha
  have h2 := run_text w sb m d bs hm hb
  clear hn hm ha hb
  go_enter Try.func19, Try.ntmps19
  go_wp2_with fail
  go_ret
  exact ⟨by simp, rfl⟩
end Go.Proofs.Ytmpflkggbekpfaa
