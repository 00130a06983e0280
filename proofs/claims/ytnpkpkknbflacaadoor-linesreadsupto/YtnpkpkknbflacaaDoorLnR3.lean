/- lines.readPart: what is told of a part stands in the act then. -/
import Derived.Test.YtnpkpkknbflacaaDoorLnR2
namespace Go.Proofs.YtnpkpkknbflacaaDoor
open Go.RowKit

set_option maxRecDepth 100000 in
theorem Upd.of_below {A : Nat} {o : Obj} {w w' : World} (h : w.heap[A]? = some o) (hb : Below w.heap.size w w') : Upd A o w w' :=
  ⟨hb.os, hb.tape, hb.output, hb.size, fun k hk _ => hb.block k hk, (hb.block A (lt_of_heap h)).trans h⟩
set_option maxRecDepth 100000 in
set_option maxHeartbeats 1000000 in
theorem readPart0 (A : Nat) (k n p : Int) (t s : ByteArray) (w : World) (hs : s.size ≤ 140737488355328) (hA : w.heap[A]? = some (.cells #[.int .i64 k, .int .i64 n, .int .i64 p, .string t] 30 (0, 0))) (hT : LTabs w) :
    Calls Tryd.prog 45 #[.pointer (some ⟨A, 0, none⟩), .int .i64 0, .string s] w fun e w' => e = .returned (.bool (numB s.data.toList)) ∧ Upd A (.cells #[.int .i64 k, .int .i64 (numA s.data.toList), .int .i64 p, .string t] 30 (0, 0)) w w' := by
  have HN := readNumber_any s w hs hT
  generalize numA s.data.toList = na at *
  generalize numB s.data.toList = nb at *
  go_enter Tryd.func45, Tryd.ntmps45
  go_wp2_with fail
  refine HN.mono ?_
  rintro e w1 ⟨he, hb⟩
  subst he
  dsimp only
  have hU := Upd.of_below hA hb
  have q := hU.here
  have c1 := cells_at q 1 _ rfl
  have f1 := frozen_at q 1
  have hU2 := hU.setCell 1 (.int .i64 na)
  go_wp2_with fail
  go_ret
  exact ⟨rfl, hU2⟩
set_option maxRecDepth 100000 in
set_option maxHeartbeats 1000000 in
theorem readPart1 (A : Nat) (k n p : Int) (t s : ByteArray) (w : World) (hs : s.size ≤ 140737488355328) (hA : w.heap[A]? = some (.cells #[.int .i64 k, .int .i64 n, .int .i64 p, .string t] 30 (0, 0))) (hT : LTabs w) :
    Calls Tryd.prog 45 #[.pointer (some ⟨A, 0, none⟩), .int .i64 1, .string s] w fun e w' => e = .returned (.bool (numB s.data.toList)) ∧ Upd A (.cells #[.int .i64 k, .int .i64 n, .int .i64 (numA s.data.toList), .string t] 30 (0, 0)) w w' := by
  have HN := readNumber_any s w hs hT
  generalize numA s.data.toList = na at *
  generalize numB s.data.toList = nb at *
  go_enter Tryd.func45, Tryd.ntmps45
  go_wp2_with fail
  refine HN.mono ?_
  rintro e w1 ⟨he, hb⟩
  subst he
  dsimp only
  have hU := Upd.of_below hA hb
  have q := hU.here
  have c1 := cells_at q 2 _ rfl
  have f1 := frozen_at q 2
  have hU2 := hU.setCell 2 (.int .i64 na)
  go_wp2_with fail
  go_ret
  exact ⟨rfl, hU2⟩
set_option maxRecDepth 100000 in
set_option maxHeartbeats 1000000 in
theorem readPart2 (A : Nat) (k n p : Int) (t s : ByteArray) (w : World) (hs : s.size ≤ 140737488355328) (hA : w.heap[A]? = some (.cells #[.int .i64 k, .int .i64 n, .int .i64 p, .string t] 30 (0, 0))) :
    Calls Tryd.prog 45 #[.pointer (some ⟨A, 0, none⟩), .int .i64 2, .string s] w fun e w' => e = .returned (.bool (txtB s.data.toList)) ∧ Upd A (.cells #[.int .i64 k, .int .i64 n, .int .i64 p, .string ⟨(txtA s.data.toList).toArray⟩] 30 (0, 0)) w w' := by
  have HN := readText_any s w hs
  generalize (⟨(txtA s.data.toList).toArray⟩ : ByteArray) = ta at *
  generalize txtB s.data.toList = nb at *
  go_enter Tryd.func45, Tryd.ntmps45
  go_wp2_with fail
  refine HN.mono ?_
  rintro e w1 ⟨he, hb⟩
  subst he
  dsimp only
  have hU := Upd.of_below hA hb
  have q := hU.here
  have c1 := cells_at q 3 _ rfl
  have f1 := frozen_at q 3
  have hU2 := hU.setCell 3 (.string ta)
  go_wp2_with fail
  go_ret
  exact ⟨rfl, hU2⟩
end Go.Proofs.YtnpkpkknbflacaaDoor
