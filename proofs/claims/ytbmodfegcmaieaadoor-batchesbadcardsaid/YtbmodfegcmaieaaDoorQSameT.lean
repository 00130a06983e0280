/- sheaveskeep.sameTexts, sameBatch and same, for every argument. -/
import Derived.Test.YtbmodfegcmaieaaDoorQSameTx
import Derived.Test.YtbmodfegcmaieaaDoorGAppB
import Derived.Test.YtbmodfegcmaieaaDoorGApp
import Derived.Test.YtbmodfegcmaieaaDoorGAppR
import Derived.Test.YtbmodfegcmaieaaDoorGBstr
import Derived.Deep.RegionHeld3
namespace Go.Proofs.YtbmodfegcmaieaaDoor
open Go.RowKit

set_option maxRecDepth 100000 in
set_option maxHeartbeats 1000000 in
theorem sameBatch_any (au nu au' nu' : Int) (xs ys : List ByteArray) (sa sb : Option Addr) (n m c d : Nat) (w : World) (hn : n = xs.length) (hm : m = ys.length) (hx : n ≤ 1000) (hy : m ≤ 1000) (ha : StrsAt w sa xs) (hb : StrsAt w sb ys) :
    Calls Tryd.prog 47 #[.agg #[.int .i64 au, .int .i64 nu, .slice sa n c], .agg #[.int .i64 au', .int .i64 nu', .slice sb m d]] w fun e w' => e = .returned (.bool (decide (au = au' ∧ nu = nu' ∧ xs = ys))) ∧ Below w.heap.size w w' := by
  have hA : Below w.heap.size w ((w.alloc (.cells #[.int .i64 au, .int .i64 nu, .slice sa n c] 42)).alloc (.cells #[.int .i64 au', .int .i64 nu', .slice sb m d] 42)) := ((Below.refl _ _).alloc (Nat.le_refl _) _).alloc (by simp) _
  have hT := sameTexts_any xs ys sa sb n m c d _ hn hm hx hy (ha.below hA) (hb.below hA)
  clear hn hm hx hy
  by_cases h1 : au = au'
  · subst h1
    by_cases h2 : nu = nu'
    · subst h2
      have hF : Hid (decide (au = au ∧ nu = nu ∧ xs = ys) = decide (xs = ys)) := by show _ = _; simp
      generalize decide (xs = ys) = r at *
      generalize decide (au = au ∧ nu = nu ∧ xs = ys) = r' at *
      go_enter Tryd.func47, Tryd.ntmps47
      go_wp2_with fail
      refine hT.mono ?_
      rintro e w1 ⟨he, hb1⟩
      subst he
      dsimp only
      go_wp2_with fail
      go_ret
      exact ⟨ret_bool hF.out.symm, below_alloc (below_alloc hb1)⟩
    · have hF : Hid (decide (au = au ∧ nu = nu' ∧ xs = ys) = false) := by show _ = _; simp [h2]
      have h2b : (nu == nu') = false := by simpa using h2
      go_enter Tryd.func47, Tryd.ntmps47
      go_wp2_with fail
      go_ret
      exact ⟨by first | rfl | exact ret_bool hF.out.symm, hA⟩
  · have hF : Hid (decide (au = au' ∧ nu = nu' ∧ xs = ys) = false) := by show _ = _; simp [h1]
    have h1b : (au == au') = false := by simpa using h1
    go_enter Tryd.func47, Tryd.ntmps47
    go_wp2_with fail
    go_ret
    exact ⟨by first | rfl | exact ret_bool hF.out.symm, hA⟩
set_option maxRecDepth 100000 in
set_option maxHeartbeats 400000 in
theorem same_any (xs ys : List Int) (sa sb : Option Addr) (n m c d : Nat) (w : World) (hn : n = xs.length) (hm : m = ys.length) (ha : SliceAt w sa c xs) (hb : SliceAt w sb d ys) (hx : ∀ x ∈ xs, 0 ≤ x ∧ x ≤ 255) (hy : ∀ x ∈ ys, 0 ≤ x ∧ x ≤ 255) :
    Calls Tryd.prog 37 #[.slice sa n c, .slice sb m d] w fun e w' => e = .returned (.bool (decide (xs = ys))) ∧ w = w' := by
  have h1 := run_text w sa n c xs hn ha
  have h2 := run_text w sb m d ys hm hb
  have hF : Hid (((bstr xs).toList == (bstr ys).toList) = decide (xs = ys)) := by
    show _ = _
    by_cases h : xs = ys
    · simp [h]
    · rw [decide_eq_false h, beq_eq_false_iff_ne]
      exact fun e => h (bstr_inj hx hy (ba_ext e))
  clear hn hm ha hb hx hy
  generalize bstr xs = A at *
  generalize bstr ys = B at *
  go_enter Tryd.func37, Tryd.ntmps37
  go_wp2_with fail
  go_ret
  exact ⟨ret_bool (by rw [← hF.out]), rfl⟩
end Go.Proofs.YtbmodfegcmaieaaDoor
