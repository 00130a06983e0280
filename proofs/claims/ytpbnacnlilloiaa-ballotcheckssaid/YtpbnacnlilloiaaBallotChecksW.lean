/- The walk of BallotChecks. -/
import Derived.Test.YtpbnacnlilloiaaCTab
import Derived.Test.YtpbnacnlilloiaaRTab
import Derived.Test.YtpbnacnlilloiaaSCopy
import Derived.Test.YtpbnacnlilloiaaOpenTb
namespace Go.Proofs.Ytpbnacnlilloiaa
open Go.RowKit

set_option maxRecDepth 100000 in
set_option maxHeartbeats 1000000 in
theorem ballotChecks_walk (sa : Option Addr) (cap : Nat) (ls : List Sl) (w : World) (ht : TableAt w sa cap ls) (_h : ∀ s ∈ ls, I64 s.au ∧ I64 s.rd ∧ AllU8 s.p.bs) :
    Calls Try.prog 3 #[.slice sa ls.length cap] w fun e w' => e = .returned (.bool true) ∧ Below w.heap.size w w' := by
  go_enter Try.func3, Try.ntmps3
  go_wp2_with fail
  refine (slotsCopy_any ls sa _ cap w rfl ht).mono ?_
  rintro e w1 ⟨ra, rc, ks, rfl, hS, hT1, hb1, _⟩
  have hlen : ls.length = ks.length := by have := congrArg List.length hS; rw [vs_length, vs_length] at this; exact this.symm
  rw [hlen]
  go_wp2_with fail
  refine (checkTab_any ks ra _ rc w1 rfl hT1).mono ?_
  rintro e w2 ⟨rfl, hb2⟩
  have hb12 := hb1.trans (hb2.mono hb1.size)
  go_wp2_with fail
  refine (tableFault_any ls sa _ cap w2 (by first | rfl | exact hlen.symm) (ht.tab.below hb12)).mono ?_
  rintro e w3 ⟨rfl, hb3⟩
  go_wp2_with fail
  go_ret
  exact ⟨by simp, hb12.trans (hb3.mono hb12.size)⟩
end Go.Proofs.Ytpbnacnlilloiaa
