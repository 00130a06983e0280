/- The walk of SealChecks. -/
import Derived.Test.YtdjaafnghlcjbaaCSeal
import Derived.Test.YtdjaafnghlcjbaaRSigs
import Derived.Test.YtdjaafnghlcjbaaGCopy
import Derived.Test.YtdjaafnghlcjbaaOpenG
namespace Go.Proofs.Ytdjaafnghlcjbaa
open Go.RowKit

set_option maxRecDepth 100000 in
set_option maxHeartbeats 1000000 in
theorem sealChecks_walk (sa : Option Addr) (cap : Nat) (ls : List Sg) (w : World) (ht : GRead w sa cap ls) (_h : ∀ s ∈ ls, I64 s.nd ∧ I64 s.au ∧ I64 s.rd) :
    Calls Try.prog 3 #[.slice sa ls.length cap] w fun e w' => e = .returned (.bool true) ∧ Below w.heap.size w w' := by
  go_enter Try.func3, Try.ntmps3
  go_wp2_with fail
  refine (signsCopy_any ls sa _ cap w rfl ht).mono ?_
  rintro e w1 ⟨ra, rc, ks, he, hS, hT1, hb1, _⟩
  subst he
  dsimp only
  have hlen : ls.length = ks.length := by have := congrArg List.length hS; rw [gvs_length, gvs_length] at this; exact this.symm
  have HC := sealCheck_any ks ra _ rc w1 hlen hT1.small hT1.slots
  rw [hS] at HC
  have HR := fun W (hW : Below w.heap.size w W) => signsFault_any ls sa _ cap W rfl (ht.tab.below hW)
  generalize signsF (gvs ls) = x at HC HR
  clear hlen hS hT1
  go_wp2_with fail
  refine HC.mono ?_
  rintro e w2 ⟨he, hb2⟩
  subst he
  dsimp only
  have hb12 := hb1.trans (hb2.mono hb1.size)
  go_wp2_with fail
  refine (HR w2 hb12).mono ?_
  rintro e w3 ⟨he, hb3⟩
  subst he
  dsimp only
  go_wp2_with fail
  go_ret
  exact ⟨by simp, hb12.trans (hb3.mono hb12.size)⟩
end Go.Proofs.Ytdjaafnghlcjbaa
