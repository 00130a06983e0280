/- dag.Check, for every dag. -/
import Derived.Test.YtnpjhpmgelaonaaDoorGLateF
namespace Go.Proofs.YtnpjhpmgelaonaaDoor
open Go.RowKit

set_option maxRecDepth 100000 in
set_option maxHeartbeats 1000000 in
theorem dagCheck_any (ls : List Ct) (sa : Option Addr) (n cap : Nat) (w : World) (hn : n = ls.length) (hd : DagAt w sa cap ls) (hT : Tabs w) :
    Calls Tryd.prog 25 #[.agg #[.slice sa n cap]] w fun e w' => e = .returned (.int .i64 (dagF (cvs ls))) ∧ Below w.heap.size w w' := by
  subst hn
  have hA := (Below.refl w.heap.size w).alloc (Nat.le_refl _) (.cells #[.slice sa ls.length cap] 27)
  go_enter Tryd.func25, Tryd.ntmps25
  go_wp2_with fail
  generalize w.alloc (.cells #[.slice sa ls.length cap] 27) = W0 at hA ⊢
  refine (open_any ls sa _ cap W0 rfl (hd.below hA) (hT.below hA)).mono ?_
  intro e w1 hO
  have hb1 := hO.below
  have hOo := hO.out
  clear hO
  have hB1 := hA.trans (hb1.mono hA.size)
  rcases hOo with ⟨hF, he⟩ | ⟨hF, s, ks, he, -, -⟩
  · have HF : Hid _ := hF
    clear hF
    subst he
    dsimp only
    go_wp2_with fail
    go_ret
    exact ⟨ret_int HF.out.symm, hB1⟩
  · have HF : Hid _ := hF
    clear hF
    subst he
    dsimp only
    go_wp2_with fail
    go_ret
    exact ⟨ret_int HF.out.symm, hB1⟩
end Go.Proofs.YtnpjhpmgelaonaaDoor
