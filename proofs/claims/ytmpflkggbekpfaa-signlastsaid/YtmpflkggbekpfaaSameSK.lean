/- sheaveskeep.sameSlot of slots that are the same. -/
import Derived.Test.YtmpflkggbekpfaaSame
import Derived.Test.YtmpflkggbekpfaaSx
namespace Go.Proofs.Ytmpflkggbekpfaa
open Go.RowKit

set_option maxRecDepth 100000 in
set_option maxHeartbeats 1000000 in
theorem sameSlotK_eq (au rd : Int) (bs : List Int) (sa sb : Option Addr) (n m c d : Nat) (w : World) (hn : n = bs.length) (hm : m = bs.length) (ha : SliceAt w sa c bs) (hb : SliceAt w sb d bs) :
    Calls Try.prog 12 #[.agg #[.int .i64 au, .int .i64 rd, .slice sa n c], .agg #[.int .i64 au, .int .i64 rd, .slice sb m d]] w fun e w' => e = .returned (.bool true) ∧ Below w.heap.size w w' := by
  subst hn hm
  have hA : Below w.heap.size w ((w.alloc (.cells #[.int .i64 au, .int .i64 rd, .slice sa bs.length c] 28)).alloc (.cells #[.int .i64 au, .int .i64 rd, .slice sb bs.length d] 28)) := ((Below.refl _ _).alloc (Nat.le_refl _) _).alloc (by simp) _
  have HS := same_eq bs sa sb _ _ c d _ rfl rfl (ha.below hA) (hb.below hA)
  go_enter Try.func12, Try.ntmps12
  go_wp2_with fail
  refine HS.mono ?_
  rintro e w1 ⟨he, hb1⟩
  subst he
  dsimp only
  go_wp2_with fail
  go_ret
  first | exact ⟨by first | rfl | simp, hA.trans (hb1.mono hA.size)⟩ | (subst hb1; exact ⟨by first | rfl | simp, hA⟩)
end Go.Proofs.Ytmpflkggbekpfaa
