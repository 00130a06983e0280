/-
  NARROWER THAN 'FOR EVERY INPUT', by the rows' own cells (each row's printed sentence says how): DagClosed: laid · InsertOnce: laid · InsertNone: laid · RoundNext: laid · DagGrows: laid · DagBad: laid.
  DERIVED. THE GIVEN ROWS OF THIS SEAT. 6 by the template 'for every input the law returns true; each argument reads behind the call as it read before'; 0 by the template 'total and deterministic' (their statements: YtnpjhpmgelaonaaDoorTotals.lean).
  GIVEN WITH THE SEED: the statements are not yours to turn. If you find one false, say at which input.
  Laid BY PROGRAM, IN A SANDBOX (cutbox-rows.mjs): the forced cells as the released guide's own fill.sh prints them over the translation bd482a5892b8effb… (all of the seat's roots in one cut). By AI agents, Wed Nov 11 2026. No macro, syntax, notation, axiom, sorry.
-/
import Derived.Test.YtnpjhpmgelaonaaDoorChecked
import GoSem.Claim
import GoSem.ClaimJoined
import GoSem.ClaimMapViews
import Derived.JoinedTies
import Derived.KernelRfl
namespace Go.Proofs.YtnpjhpmgelaonaaDoor
/- THE CELL 'sum', in the pinned program and in every row, IS THE sha256 OF THE DUMP (.gsa) THAT YtnpjhpmgelaonaaDoorProg.lean LOADS. Nothing in Lean hashes anything: it is a label: what it is worth is what the hold of that sum in a sandbox is worth. -/
noncomputable def Tryd.pinned : Pinned := { name := "ytnpjhpmgelaonaadoor", sum := "bd482a5892b8effb5bb387a04942ca2e3778fb10af52efa40fc87557f4e11ed3", checked := Tryd.checked }
namespace Rows
def none {H : Type} : Left H := { results := [], args := [] }

/- WHAT THE LISTED PACKAGE-LEVEL VARIABLES READ AS WHEN THE CALL BEGINS. Each datum BY PROGRAM (the guide's laid-datum.mjs) off the statement by which the dump's own 'gosem.cut.vars' lays the variable. In a bare row this is a premise. The card (YtnpjhpmgelaonaaDoorCards.lean) ties it to the program's text. -/
def laid_sheaves_blake_firstWords {H : Type} : DataW H := .agg [.lit (.int .u32 1779033703), .lit (.int .u32 3144134277), .lit (.int .u32 1013904242), .lit (.int .u32 2773480762), .lit (.int .u32 1359893119), .lit (.int .u32 2600822924), .lit (.int .u32 528734635), .lit (.int .u32 1541459225)]
def laid_sheaves_blake_orders {H : Type} : DataW H := .agg [.agg [.lit (.int .u8 0), .lit (.int .u8 1), .lit (.int .u8 2), .lit (.int .u8 3), .lit (.int .u8 4), .lit (.int .u8 5), .lit (.int .u8 6), .lit (.int .u8 7), .lit (.int .u8 8), .lit (.int .u8 9), .lit (.int .u8 10), .lit (.int .u8 11), .lit (.int .u8 12), .lit (.int .u8 13), .lit (.int .u8 14), .lit (.int .u8 15)], .agg [.lit (.int .u8 14), .lit (.int .u8 10), .lit (.int .u8 4), .lit (.int .u8 8), .lit (.int .u8 9), .lit (.int .u8 15), .lit (.int .u8 13), .lit (.int .u8 6), .lit (.int .u8 1), .lit (.int .u8 12), .lit (.int .u8 0), .lit (.int .u8 2), .lit (.int .u8 11), .lit (.int .u8 7), .lit (.int .u8 5), .lit (.int .u8 3)], .agg [.lit (.int .u8 11), .lit (.int .u8 8), .lit (.int .u8 12), .lit (.int .u8 0), .lit (.int .u8 5), .lit (.int .u8 2), .lit (.int .u8 15), .lit (.int .u8 13), .lit (.int .u8 10), .lit (.int .u8 14), .lit (.int .u8 3), .lit (.int .u8 6), .lit (.int .u8 7), .lit (.int .u8 1), .lit (.int .u8 9), .lit (.int .u8 4)], .agg [.lit (.int .u8 7), .lit (.int .u8 9), .lit (.int .u8 3), .lit (.int .u8 1), .lit (.int .u8 13), .lit (.int .u8 12), .lit (.int .u8 11), .lit (.int .u8 14), .lit (.int .u8 2), .lit (.int .u8 6), .lit (.int .u8 5), .lit (.int .u8 10), .lit (.int .u8 4), .lit (.int .u8 0), .lit (.int .u8 15), .lit (.int .u8 8)], .agg [.lit (.int .u8 9), .lit (.int .u8 0), .lit (.int .u8 5), .lit (.int .u8 7), .lit (.int .u8 2), .lit (.int .u8 4), .lit (.int .u8 10), .lit (.int .u8 15), .lit (.int .u8 14), .lit (.int .u8 1), .lit (.int .u8 11), .lit (.int .u8 12), .lit (.int .u8 6), .lit (.int .u8 8), .lit (.int .u8 3), .lit (.int .u8 13)], .agg [.lit (.int .u8 2), .lit (.int .u8 12), .lit (.int .u8 6), .lit (.int .u8 10), .lit (.int .u8 0), .lit (.int .u8 11), .lit (.int .u8 8), .lit (.int .u8 3), .lit (.int .u8 4), .lit (.int .u8 13), .lit (.int .u8 7), .lit (.int .u8 5), .lit (.int .u8 15), .lit (.int .u8 14), .lit (.int .u8 1), .lit (.int .u8 9)], .agg [.lit (.int .u8 12), .lit (.int .u8 5), .lit (.int .u8 1), .lit (.int .u8 15), .lit (.int .u8 14), .lit (.int .u8 13), .lit (.int .u8 4), .lit (.int .u8 10), .lit (.int .u8 0), .lit (.int .u8 7), .lit (.int .u8 6), .lit (.int .u8 3), .lit (.int .u8 9), .lit (.int .u8 2), .lit (.int .u8 8), .lit (.int .u8 11)], .agg [.lit (.int .u8 13), .lit (.int .u8 11), .lit (.int .u8 7), .lit (.int .u8 14), .lit (.int .u8 12), .lit (.int .u8 1), .lit (.int .u8 3), .lit (.int .u8 9), .lit (.int .u8 5), .lit (.int .u8 0), .lit (.int .u8 15), .lit (.int .u8 4), .lit (.int .u8 8), .lit (.int .u8 6), .lit (.int .u8 2), .lit (.int .u8 10)], .agg [.lit (.int .u8 6), .lit (.int .u8 15), .lit (.int .u8 14), .lit (.int .u8 9), .lit (.int .u8 11), .lit (.int .u8 3), .lit (.int .u8 0), .lit (.int .u8 8), .lit (.int .u8 12), .lit (.int .u8 2), .lit (.int .u8 13), .lit (.int .u8 7), .lit (.int .u8 1), .lit (.int .u8 4), .lit (.int .u8 10), .lit (.int .u8 5)], .agg [.lit (.int .u8 10), .lit (.int .u8 2), .lit (.int .u8 8), .lit (.int .u8 4), .lit (.int .u8 7), .lit (.int .u8 6), .lit (.int .u8 1), .lit (.int .u8 5), .lit (.int .u8 15), .lit (.int .u8 11), .lit (.int .u8 9), .lit (.int .u8 14), .lit (.int .u8 3), .lit (.int .u8 12), .lit (.int .u8 13), .lit (.int .u8 0)]]
def laid_sheaves_blake_lanes {H : Type} : DataW H := .agg [.agg [.lit (.int .u8 0), .lit (.int .u8 4), .lit (.int .u8 8), .lit (.int .u8 12)], .agg [.lit (.int .u8 1), .lit (.int .u8 5), .lit (.int .u8 9), .lit (.int .u8 13)], .agg [.lit (.int .u8 2), .lit (.int .u8 6), .lit (.int .u8 10), .lit (.int .u8 14)], .agg [.lit (.int .u8 3), .lit (.int .u8 7), .lit (.int .u8 11), .lit (.int .u8 15)], .agg [.lit (.int .u8 0), .lit (.int .u8 5), .lit (.int .u8 10), .lit (.int .u8 15)], .agg [.lit (.int .u8 1), .lit (.int .u8 6), .lit (.int .u8 11), .lit (.int .u8 12)], .agg [.lit (.int .u8 2), .lit (.int .u8 7), .lit (.int .u8 8), .lit (.int .u8 13)], .agg [.lit (.int .u8 3), .lit (.int .u8 4), .lit (.int .u8 9), .lit (.int .u8 14)]]

/-- 'sheaveskeep.DagClosed': WHATEVER THE INPUT: true; the input reads as it did. -/
def dagClosedSpec : ChangeSpec := { name := "dagClosed", fn := fun _ => fun
  | [d] => { results := [.lit (.bool true)], args := [d] }
  | _ => none }
def dagClosedRow : OpenClaim := { program := "ytnpjhpmgelaonaadoor", sum := "bd482a5892b8effb5bb387a04942ca2e3778fb10af52efa40fc87557f4e11ed3", func := "sheaves/sheaveskeep.DagClosed", spec := "dagClosed", unfollowed := true, recurses := true, named := ["sheaves/blake.firstWords", "sheaves/blake.orders", "sheaves/blake.lanes"], apart := false, laid := [("sheaves/blake.firstWords", laid_sheaves_blake_firstWords), ("sheaves/blake.orders", laid_sheaves_blake_orders), ("sheaves/blake.lanes", laid_sheaves_blake_lanes)] }
def DagClosedSaid : Prop := dagClosedRow.holds Tryd.pinned (OpenSpec.ofChange dagClosedSpec)

/-- ITS FALSE NEIGHBOUR: 'it returns false'. Refute it at one input. -/
def dagClosedWrong : ChangeSpec := { name := "dagClosed", fn := fun _ => fun
  | [d] => { results := [.lit (.bool false)], args := [d] }
  | _ => none }
def DagClosedWrongFalsely : Prop := dagClosedRow.holds Tryd.pinned (OpenSpec.ofChange dagClosedWrong)

/-- 'sheaveskeep.InsertOnce': WHATEVER THE INPUT: true; the input reads as it did. -/
def insertOnceSpec : ChangeSpec := { name := "insertOnce", fn := fun _ => fun
  | [d1, d2] => { results := [.lit (.bool true)], args := [d1, d2] }
  | _ => none }
def insertOnceRow : OpenClaim := { program := "ytnpjhpmgelaonaadoor", sum := "bd482a5892b8effb5bb387a04942ca2e3778fb10af52efa40fc87557f4e11ed3", func := "sheaves/sheaveskeep.InsertOnce", spec := "insertOnce", unfollowed := true, recurses := true, named := ["sheaves/blake.firstWords", "sheaves/blake.orders", "sheaves/blake.lanes"], apart := false, laid := [("sheaves/blake.firstWords", laid_sheaves_blake_firstWords), ("sheaves/blake.orders", laid_sheaves_blake_orders), ("sheaves/blake.lanes", laid_sheaves_blake_lanes)] }
def InsertOnceSaid : Prop := insertOnceRow.holds Tryd.pinned (OpenSpec.ofChange insertOnceSpec)

/-- ITS FALSE NEIGHBOUR: 'it returns false'. Refute it at one input. -/
def insertOnceWrong : ChangeSpec := { name := "insertOnce", fn := fun _ => fun
  | [d1, d2] => { results := [.lit (.bool false)], args := [d1, d2] }
  | _ => none }
def InsertOnceWrongFalsely : Prop := insertOnceRow.holds Tryd.pinned (OpenSpec.ofChange insertOnceWrong)

/-- 'sheaveskeep.InsertNone': WHATEVER THE INPUT: true; the input reads as it did. -/
def insertNoneSpec : ChangeSpec := { name := "insertNone", fn := fun _ => fun
  | [d1, d2] => { results := [.lit (.bool true)], args := [d1, d2] }
  | _ => none }
def insertNoneRow : OpenClaim := { program := "ytnpjhpmgelaonaadoor", sum := "bd482a5892b8effb5bb387a04942ca2e3778fb10af52efa40fc87557f4e11ed3", func := "sheaves/sheaveskeep.InsertNone", spec := "insertNone", unfollowed := true, recurses := true, named := ["sheaves/blake.firstWords", "sheaves/blake.orders", "sheaves/blake.lanes"], apart := false, laid := [("sheaves/blake.firstWords", laid_sheaves_blake_firstWords), ("sheaves/blake.orders", laid_sheaves_blake_orders), ("sheaves/blake.lanes", laid_sheaves_blake_lanes)] }
def InsertNoneSaid : Prop := insertNoneRow.holds Tryd.pinned (OpenSpec.ofChange insertNoneSpec)

/-- ITS FALSE NEIGHBOUR: 'it returns false'. Refute it at one input. -/
def insertNoneWrong : ChangeSpec := { name := "insertNone", fn := fun _ => fun
  | [d1, d2] => { results := [.lit (.bool false)], args := [d1, d2] }
  | _ => none }
def InsertNoneWrongFalsely : Prop := insertNoneRow.holds Tryd.pinned (OpenSpec.ofChange insertNoneWrong)

/-- 'sheaveskeep.RoundNext': WHATEVER THE INPUT: true; the input reads as it did. -/
def roundNextSpec : ChangeSpec := { name := "roundNext", fn := fun _ => fun
  | [d] => { results := [.lit (.bool true)], args := [d] }
  | _ => none }
def roundNextRow : OpenClaim := { program := "ytnpjhpmgelaonaadoor", sum := "bd482a5892b8effb5bb387a04942ca2e3778fb10af52efa40fc87557f4e11ed3", func := "sheaves/sheaveskeep.RoundNext", spec := "roundNext", unfollowed := true, recurses := true, named := ["sheaves/blake.firstWords", "sheaves/blake.orders", "sheaves/blake.lanes"], apart := false, laid := [("sheaves/blake.firstWords", laid_sheaves_blake_firstWords), ("sheaves/blake.orders", laid_sheaves_blake_orders), ("sheaves/blake.lanes", laid_sheaves_blake_lanes)] }
def RoundNextSaid : Prop := roundNextRow.holds Tryd.pinned (OpenSpec.ofChange roundNextSpec)

/-- ITS FALSE NEIGHBOUR: 'it returns false'. Refute it at one input. -/
def roundNextWrong : ChangeSpec := { name := "roundNext", fn := fun _ => fun
  | [d] => { results := [.lit (.bool false)], args := [d] }
  | _ => none }
def RoundNextWrongFalsely : Prop := roundNextRow.holds Tryd.pinned (OpenSpec.ofChange roundNextWrong)

/-- 'sheaveskeep.DagGrows': WHATEVER THE INPUT: true; the input reads as it did. -/
def dagGrowsSpec : ChangeSpec := { name := "dagGrows", fn := fun _ => fun
  | [d1, d2] => { results := [.lit (.bool true)], args := [d1, d2] }
  | _ => none }
def dagGrowsRow : OpenClaim := { program := "ytnpjhpmgelaonaadoor", sum := "bd482a5892b8effb5bb387a04942ca2e3778fb10af52efa40fc87557f4e11ed3", func := "sheaves/sheaveskeep.DagGrows", spec := "dagGrows", unfollowed := true, recurses := true, named := ["sheaves/blake.firstWords", "sheaves/blake.orders", "sheaves/blake.lanes"], apart := false, laid := [("sheaves/blake.firstWords", laid_sheaves_blake_firstWords), ("sheaves/blake.orders", laid_sheaves_blake_orders), ("sheaves/blake.lanes", laid_sheaves_blake_lanes)] }
def DagGrowsSaid : Prop := dagGrowsRow.holds Tryd.pinned (OpenSpec.ofChange dagGrowsSpec)

/-- ITS FALSE NEIGHBOUR: 'it returns false'. Refute it at one input. -/
def dagGrowsWrong : ChangeSpec := { name := "dagGrows", fn := fun _ => fun
  | [d1, d2] => { results := [.lit (.bool false)], args := [d1, d2] }
  | _ => none }
def DagGrowsWrongFalsely : Prop := dagGrowsRow.holds Tryd.pinned (OpenSpec.ofChange dagGrowsWrong)

/-- 'sheaveskeep.DagBad': WHATEVER THE INPUT: true; the input reads as it did. -/
def dagBadSpec : ChangeSpec := { name := "dagBad", fn := fun _ => fun
  | [d1, d2] => { results := [.lit (.bool true)], args := [d1, d2] }
  | _ => none }
def dagBadRow : OpenClaim := { program := "ytnpjhpmgelaonaadoor", sum := "bd482a5892b8effb5bb387a04942ca2e3778fb10af52efa40fc87557f4e11ed3", func := "sheaves/sheaveskeep.DagBad", spec := "dagBad", unfollowed := true, recurses := true, named := ["sheaves/blake.firstWords", "sheaves/blake.orders", "sheaves/blake.lanes"], apart := false, laid := [("sheaves/blake.firstWords", laid_sheaves_blake_firstWords), ("sheaves/blake.orders", laid_sheaves_blake_orders), ("sheaves/blake.lanes", laid_sheaves_blake_lanes)] }
def DagBadSaid : Prop := dagBadRow.holds Tryd.pinned (OpenSpec.ofChange dagBadSpec)

/-- ITS FALSE NEIGHBOUR: 'it returns false'. Refute it at one input. -/
def dagBadWrong : ChangeSpec := { name := "dagBad", fn := fun _ => fun
  | [d1, d2] => { results := [.lit (.bool false)], args := [d1, d2] }
  | _ => none }
def DagBadWrongFalsely : Prop := dagBadRow.holds Tryd.pinned (OpenSpec.ofChange dagBadWrong)

/- THE SECOND FORM. 'bulk': how many values and letters a reading holds, each counted each time it is reached (what is shared counts as often as it is met; a slice's spare places count too). A statement '..UptoSaid' is the law's where the arguments, and the package variables that the reading takes, are together of bulk at most 1048576: NARROWER than '..Said'. Prove '..Said' where nothing that the law and all that it calls make is longer than what came in: it says more and counts as full. Else prove '..UptoSaid'. A law counts once. -/
mutual
def uptoBulk {H : Type} : DataW H → Nat
  | .lit (.string bytes) => bytes.length + 1
  | .lit _ => 1
  | .nil => 1
  | .ptr d => uptoBulk d + 1
  | .slice elems spare => uptoBulkAll elems + uptoBulkAll spare + 1
  | .agg parts => uptoBulkAll parts + 1
  | .iface _ d => uptoBulk d + 1
  | .map entries => uptoBulkEntries entries + 1
  | .held _ => 1
def uptoBulkAll {H : Type} : List (DataW H) → Nat
  | [] => 0
  | d :: r => uptoBulk d + uptoBulkAll r
def uptoBulkEntries {H : Type} : List (Lit × DataW H) → Nat
  | [] => 0
  | x :: r => uptoBulkEntry x + uptoBulkEntries r
def uptoBulkEntry {H : Type} : Lit × DataW H → Nat
  | (.string bytes, d) => bytes.length + uptoBulk d + 1
  | (_, d) => uptoBulk d + 1
 end
def uptoSmall : (H : Type) → List (DataW H) → Bool := fun _ ds => decide (uptoBulkAll ds ≤ 1048576)
def OpenSpec.upto (s : _root_.Go.ChangeSpec) : _root_.Go.OpenSpec := { _root_.Go.OpenSpec.ofChange s with cond := some uptoSmall }

/-- 'sheaveskeep.DagClosed', WHERE WHAT IT READS IS OF BULK AT MOST 1048576: true; the input reads as it did. -/
def dagClosedUptoRow : OpenClaim := { program := "ytnpjhpmgelaonaadoor", sum := "bd482a5892b8effb5bb387a04942ca2e3778fb10af52efa40fc87557f4e11ed3", func := "sheaves/sheaveskeep.DagClosed", spec := "dagClosed", unfollowed := true, recurses := true, named := ["sheaves/blake.firstWords", "sheaves/blake.orders", "sheaves/blake.lanes"], apart := false, laid := [("sheaves/blake.firstWords", laid_sheaves_blake_firstWords), ("sheaves/blake.orders", laid_sheaves_blake_orders), ("sheaves/blake.lanes", laid_sheaves_blake_lanes)], narrowed := true }
def DagClosedUptoSaid : Prop := dagClosedUptoRow.holds Tryd.pinned (OpenSpec.upto dagClosedSpec)

/-- 'sheaveskeep.InsertOnce', WHERE WHAT IT READS IS OF BULK AT MOST 1048576: true; the input reads as it did. -/
def insertOnceUptoRow : OpenClaim := { program := "ytnpjhpmgelaonaadoor", sum := "bd482a5892b8effb5bb387a04942ca2e3778fb10af52efa40fc87557f4e11ed3", func := "sheaves/sheaveskeep.InsertOnce", spec := "insertOnce", unfollowed := true, recurses := true, named := ["sheaves/blake.firstWords", "sheaves/blake.orders", "sheaves/blake.lanes"], apart := false, laid := [("sheaves/blake.firstWords", laid_sheaves_blake_firstWords), ("sheaves/blake.orders", laid_sheaves_blake_orders), ("sheaves/blake.lanes", laid_sheaves_blake_lanes)], narrowed := true }
def InsertOnceUptoSaid : Prop := insertOnceUptoRow.holds Tryd.pinned (OpenSpec.upto insertOnceSpec)

/-- 'sheaveskeep.InsertNone', WHERE WHAT IT READS IS OF BULK AT MOST 1048576: true; the input reads as it did. -/
def insertNoneUptoRow : OpenClaim := { program := "ytnpjhpmgelaonaadoor", sum := "bd482a5892b8effb5bb387a04942ca2e3778fb10af52efa40fc87557f4e11ed3", func := "sheaves/sheaveskeep.InsertNone", spec := "insertNone", unfollowed := true, recurses := true, named := ["sheaves/blake.firstWords", "sheaves/blake.orders", "sheaves/blake.lanes"], apart := false, laid := [("sheaves/blake.firstWords", laid_sheaves_blake_firstWords), ("sheaves/blake.orders", laid_sheaves_blake_orders), ("sheaves/blake.lanes", laid_sheaves_blake_lanes)], narrowed := true }
def InsertNoneUptoSaid : Prop := insertNoneUptoRow.holds Tryd.pinned (OpenSpec.upto insertNoneSpec)

/-- 'sheaveskeep.RoundNext', WHERE WHAT IT READS IS OF BULK AT MOST 1048576: true; the input reads as it did. -/
def roundNextUptoRow : OpenClaim := { program := "ytnpjhpmgelaonaadoor", sum := "bd482a5892b8effb5bb387a04942ca2e3778fb10af52efa40fc87557f4e11ed3", func := "sheaves/sheaveskeep.RoundNext", spec := "roundNext", unfollowed := true, recurses := true, named := ["sheaves/blake.firstWords", "sheaves/blake.orders", "sheaves/blake.lanes"], apart := false, laid := [("sheaves/blake.firstWords", laid_sheaves_blake_firstWords), ("sheaves/blake.orders", laid_sheaves_blake_orders), ("sheaves/blake.lanes", laid_sheaves_blake_lanes)], narrowed := true }
def RoundNextUptoSaid : Prop := roundNextUptoRow.holds Tryd.pinned (OpenSpec.upto roundNextSpec)

/-- 'sheaveskeep.DagGrows', WHERE WHAT IT READS IS OF BULK AT MOST 1048576: true; the input reads as it did. -/
def dagGrowsUptoRow : OpenClaim := { program := "ytnpjhpmgelaonaadoor", sum := "bd482a5892b8effb5bb387a04942ca2e3778fb10af52efa40fc87557f4e11ed3", func := "sheaves/sheaveskeep.DagGrows", spec := "dagGrows", unfollowed := true, recurses := true, named := ["sheaves/blake.firstWords", "sheaves/blake.orders", "sheaves/blake.lanes"], apart := false, laid := [("sheaves/blake.firstWords", laid_sheaves_blake_firstWords), ("sheaves/blake.orders", laid_sheaves_blake_orders), ("sheaves/blake.lanes", laid_sheaves_blake_lanes)], narrowed := true }
def DagGrowsUptoSaid : Prop := dagGrowsUptoRow.holds Tryd.pinned (OpenSpec.upto dagGrowsSpec)

/-- 'sheaveskeep.DagBad', WHERE WHAT IT READS IS OF BULK AT MOST 1048576: true; the input reads as it did. -/
def dagBadUptoRow : OpenClaim := { program := "ytnpjhpmgelaonaadoor", sum := "bd482a5892b8effb5bb387a04942ca2e3778fb10af52efa40fc87557f4e11ed3", func := "sheaves/sheaveskeep.DagBad", spec := "dagBad", unfollowed := true, recurses := true, named := ["sheaves/blake.firstWords", "sheaves/blake.orders", "sheaves/blake.lanes"], apart := false, laid := [("sheaves/blake.firstWords", laid_sheaves_blake_firstWords), ("sheaves/blake.orders", laid_sheaves_blake_orders), ("sheaves/blake.lanes", laid_sheaves_blake_lanes)], narrowed := true }
def DagBadUptoSaid : Prop := dagBadUptoRow.holds Tryd.pinned (OpenSpec.upto dagBadSpec)

end Rows
end Go.Proofs.YtnpjhpmgelaonaaDoor
