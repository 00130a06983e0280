/-
  NARROWER THAN 'FOR EVERY INPUT', by the rows' own cells (each row's printed sentence says how): DigestsNone: laid · InsertBad: laid · MissingSome: laid · DagVoters: laid.
  DERIVED. THE GIVEN ROWS OF THIS SEAT. 4 by the template 'for every input the law returns true; each argument reads behind the call as it read before'; 0 by the template 'total and deterministic' (their statements: YtnpjhpmgelaonabDoorTotals.lean).
  GIVEN WITH THE SEED: the statements are not yours to turn. If you find one false, say at which input.
  Laid BY PROGRAM, IN A SANDBOX (cutbox-rows.mjs): the forced cells as the released guide's own fill.sh prints them over the translation 69518bf215249297… (all of the seat's roots in one cut). By AI agents, Wed Nov 11 2026. No macro, syntax, notation, axiom, sorry.
-/
import Derived.Test.YtnpjhpmgelaonabDoorChecked
import GoSem.Claim
import GoSem.ClaimJoined
import GoSem.ClaimMapViews
import Derived.JoinedTies
import Derived.KernelRfl
namespace Go.Proofs.YtnpjhpmgelaonabDoor
/- THE CELL 'sum', in the pinned program and in every row, IS THE sha256 OF THE DUMP (.gsa) THAT YtnpjhpmgelaonabDoorProg.lean LOADS. Nothing in Lean hashes anything: it is a label: what it is worth is what the hold of that sum in a sandbox is worth. -/
noncomputable def Tryd.pinned : Pinned := { name := "ytnpjhpmgelaonabdoor", sum := "69518bf21524929712b5f4d19e7af8b941817d56ff73c70cec32828f4b05df62", checked := Tryd.checked }
namespace Rows
def none {H : Type} : Left H := { results := [], args := [] }

/- WHAT THE LISTED PACKAGE-LEVEL VARIABLES READ AS WHEN THE CALL BEGINS. Each datum BY PROGRAM (the guide's laid-datum.mjs) off the statement by which the dump's own 'gosem.cut.vars' lays the variable. In a bare row this is a premise. The card (YtnpjhpmgelaonabDoorCards.lean) ties it to the program's text. -/
def laid_sheaves_blake_firstWords {H : Type} : DataW H := .agg [.lit (.int .u32 1779033703), .lit (.int .u32 3144134277), .lit (.int .u32 1013904242), .lit (.int .u32 2773480762), .lit (.int .u32 1359893119), .lit (.int .u32 2600822924), .lit (.int .u32 528734635), .lit (.int .u32 1541459225)]
def laid_sheaves_blake_orders {H : Type} : DataW H := .agg [.agg [.lit (.int .u8 0), .lit (.int .u8 1), .lit (.int .u8 2), .lit (.int .u8 3), .lit (.int .u8 4), .lit (.int .u8 5), .lit (.int .u8 6), .lit (.int .u8 7), .lit (.int .u8 8), .lit (.int .u8 9), .lit (.int .u8 10), .lit (.int .u8 11), .lit (.int .u8 12), .lit (.int .u8 13), .lit (.int .u8 14), .lit (.int .u8 15)], .agg [.lit (.int .u8 14), .lit (.int .u8 10), .lit (.int .u8 4), .lit (.int .u8 8), .lit (.int .u8 9), .lit (.int .u8 15), .lit (.int .u8 13), .lit (.int .u8 6), .lit (.int .u8 1), .lit (.int .u8 12), .lit (.int .u8 0), .lit (.int .u8 2), .lit (.int .u8 11), .lit (.int .u8 7), .lit (.int .u8 5), .lit (.int .u8 3)], .agg [.lit (.int .u8 11), .lit (.int .u8 8), .lit (.int .u8 12), .lit (.int .u8 0), .lit (.int .u8 5), .lit (.int .u8 2), .lit (.int .u8 15), .lit (.int .u8 13), .lit (.int .u8 10), .lit (.int .u8 14), .lit (.int .u8 3), .lit (.int .u8 6), .lit (.int .u8 7), .lit (.int .u8 1), .lit (.int .u8 9), .lit (.int .u8 4)], .agg [.lit (.int .u8 7), .lit (.int .u8 9), .lit (.int .u8 3), .lit (.int .u8 1), .lit (.int .u8 13), .lit (.int .u8 12), .lit (.int .u8 11), .lit (.int .u8 14), .lit (.int .u8 2), .lit (.int .u8 6), .lit (.int .u8 5), .lit (.int .u8 10), .lit (.int .u8 4), .lit (.int .u8 0), .lit (.int .u8 15), .lit (.int .u8 8)], .agg [.lit (.int .u8 9), .lit (.int .u8 0), .lit (.int .u8 5), .lit (.int .u8 7), .lit (.int .u8 2), .lit (.int .u8 4), .lit (.int .u8 10), .lit (.int .u8 15), .lit (.int .u8 14), .lit (.int .u8 1), .lit (.int .u8 11), .lit (.int .u8 12), .lit (.int .u8 6), .lit (.int .u8 8), .lit (.int .u8 3), .lit (.int .u8 13)], .agg [.lit (.int .u8 2), .lit (.int .u8 12), .lit (.int .u8 6), .lit (.int .u8 10), .lit (.int .u8 0), .lit (.int .u8 11), .lit (.int .u8 8), .lit (.int .u8 3), .lit (.int .u8 4), .lit (.int .u8 13), .lit (.int .u8 7), .lit (.int .u8 5), .lit (.int .u8 15), .lit (.int .u8 14), .lit (.int .u8 1), .lit (.int .u8 9)], .agg [.lit (.int .u8 12), .lit (.int .u8 5), .lit (.int .u8 1), .lit (.int .u8 15), .lit (.int .u8 14), .lit (.int .u8 13), .lit (.int .u8 4), .lit (.int .u8 10), .lit (.int .u8 0), .lit (.int .u8 7), .lit (.int .u8 6), .lit (.int .u8 3), .lit (.int .u8 9), .lit (.int .u8 2), .lit (.int .u8 8), .lit (.int .u8 11)], .agg [.lit (.int .u8 13), .lit (.int .u8 11), .lit (.int .u8 7), .lit (.int .u8 14), .lit (.int .u8 12), .lit (.int .u8 1), .lit (.int .u8 3), .lit (.int .u8 9), .lit (.int .u8 5), .lit (.int .u8 0), .lit (.int .u8 15), .lit (.int .u8 4), .lit (.int .u8 8), .lit (.int .u8 6), .lit (.int .u8 2), .lit (.int .u8 10)], .agg [.lit (.int .u8 6), .lit (.int .u8 15), .lit (.int .u8 14), .lit (.int .u8 9), .lit (.int .u8 11), .lit (.int .u8 3), .lit (.int .u8 0), .lit (.int .u8 8), .lit (.int .u8 12), .lit (.int .u8 2), .lit (.int .u8 13), .lit (.int .u8 7), .lit (.int .u8 1), .lit (.int .u8 4), .lit (.int .u8 10), .lit (.int .u8 5)], .agg [.lit (.int .u8 10), .lit (.int .u8 2), .lit (.int .u8 8), .lit (.int .u8 4), .lit (.int .u8 7), .lit (.int .u8 6), .lit (.int .u8 1), .lit (.int .u8 5), .lit (.int .u8 15), .lit (.int .u8 11), .lit (.int .u8 9), .lit (.int .u8 14), .lit (.int .u8 3), .lit (.int .u8 12), .lit (.int .u8 13), .lit (.int .u8 0)]]
def laid_sheaves_blake_lanes {H : Type} : DataW H := .agg [.agg [.lit (.int .u8 0), .lit (.int .u8 4), .lit (.int .u8 8), .lit (.int .u8 12)], .agg [.lit (.int .u8 1), .lit (.int .u8 5), .lit (.int .u8 9), .lit (.int .u8 13)], .agg [.lit (.int .u8 2), .lit (.int .u8 6), .lit (.int .u8 10), .lit (.int .u8 14)], .agg [.lit (.int .u8 3), .lit (.int .u8 7), .lit (.int .u8 11), .lit (.int .u8 15)], .agg [.lit (.int .u8 0), .lit (.int .u8 5), .lit (.int .u8 10), .lit (.int .u8 15)], .agg [.lit (.int .u8 1), .lit (.int .u8 6), .lit (.int .u8 11), .lit (.int .u8 12)], .agg [.lit (.int .u8 2), .lit (.int .u8 7), .lit (.int .u8 8), .lit (.int .u8 13)], .agg [.lit (.int .u8 3), .lit (.int .u8 4), .lit (.int .u8 9), .lit (.int .u8 14)]]

/-- 'sheaveskeep.DigestsNone': WHATEVER THE INPUT: true; the input reads as it did. -/
def digestsNoneSpec : ChangeSpec := { name := "digestsNone", fn := fun _ => fun
  | [d1, d2] => { results := [.lit (.bool true)], args := [d1, d2] }
  | _ => none }
def digestsNoneRow : OpenClaim := { program := "ytnpjhpmgelaonabdoor", sum := "69518bf21524929712b5f4d19e7af8b941817d56ff73c70cec32828f4b05df62", func := "sheaves/sheaveskeep.DigestsNone", spec := "digestsNone", unfollowed := true, recurses := true, named := ["sheaves/blake.firstWords", "sheaves/blake.orders", "sheaves/blake.lanes"], apart := false, laid := [("sheaves/blake.firstWords", laid_sheaves_blake_firstWords), ("sheaves/blake.orders", laid_sheaves_blake_orders), ("sheaves/blake.lanes", laid_sheaves_blake_lanes)] }
def DigestsNoneSaid : Prop := digestsNoneRow.holds Tryd.pinned (OpenSpec.ofChange digestsNoneSpec)

/-- ITS FALSE NEIGHBOUR: 'it returns false'. Refute it at one input. -/
def digestsNoneWrong : ChangeSpec := { name := "digestsNone", fn := fun _ => fun
  | [d1, d2] => { results := [.lit (.bool false)], args := [d1, d2] }
  | _ => none }
def DigestsNoneWrongFalsely : Prop := digestsNoneRow.holds Tryd.pinned (OpenSpec.ofChange digestsNoneWrong)

/-- 'sheaveskeep.InsertBad': WHATEVER THE INPUT: true; the input reads as it did. -/
def insertBadSpec : ChangeSpec := { name := "insertBad", fn := fun _ => fun
  | [d1, d2] => { results := [.lit (.bool true)], args := [d1, d2] }
  | _ => none }
def insertBadRow : OpenClaim := { program := "ytnpjhpmgelaonabdoor", sum := "69518bf21524929712b5f4d19e7af8b941817d56ff73c70cec32828f4b05df62", func := "sheaves/sheaveskeep.InsertBad", spec := "insertBad", unfollowed := true, recurses := true, named := ["sheaves/blake.firstWords", "sheaves/blake.orders", "sheaves/blake.lanes"], apart := false, laid := [("sheaves/blake.firstWords", laid_sheaves_blake_firstWords), ("sheaves/blake.orders", laid_sheaves_blake_orders), ("sheaves/blake.lanes", laid_sheaves_blake_lanes)] }
def InsertBadSaid : Prop := insertBadRow.holds Tryd.pinned (OpenSpec.ofChange insertBadSpec)

/-- ITS FALSE NEIGHBOUR: 'it returns false'. Refute it at one input. -/
def insertBadWrong : ChangeSpec := { name := "insertBad", fn := fun _ => fun
  | [d1, d2] => { results := [.lit (.bool false)], args := [d1, d2] }
  | _ => none }
def InsertBadWrongFalsely : Prop := insertBadRow.holds Tryd.pinned (OpenSpec.ofChange insertBadWrong)

/-- 'sheaveskeep.MissingSome': WHATEVER THE INPUT: true; the input reads as it did. -/
def missingSomeSpec : ChangeSpec := { name := "missingSome", fn := fun _ => fun
  | [d1, d2] => { results := [.lit (.bool true)], args := [d1, d2] }
  | _ => none }
def missingSomeRow : OpenClaim := { program := "ytnpjhpmgelaonabdoor", sum := "69518bf21524929712b5f4d19e7af8b941817d56ff73c70cec32828f4b05df62", func := "sheaves/sheaveskeep.MissingSome", spec := "missingSome", unfollowed := true, recurses := true, named := ["sheaves/blake.firstWords", "sheaves/blake.orders", "sheaves/blake.lanes"], apart := false, laid := [("sheaves/blake.firstWords", laid_sheaves_blake_firstWords), ("sheaves/blake.orders", laid_sheaves_blake_orders), ("sheaves/blake.lanes", laid_sheaves_blake_lanes)] }
def MissingSomeSaid : Prop := missingSomeRow.holds Tryd.pinned (OpenSpec.ofChange missingSomeSpec)

/-- ITS FALSE NEIGHBOUR: 'it returns false'. Refute it at one input. -/
def missingSomeWrong : ChangeSpec := { name := "missingSome", fn := fun _ => fun
  | [d1, d2] => { results := [.lit (.bool false)], args := [d1, d2] }
  | _ => none }
def MissingSomeWrongFalsely : Prop := missingSomeRow.holds Tryd.pinned (OpenSpec.ofChange missingSomeWrong)

/-- 'sheaveskeep.DagVoters': WHATEVER THE INPUT: true; the input reads as it did. -/
def dagVotersSpec : ChangeSpec := { name := "dagVoters", fn := fun _ => fun
  | [d1, d2, d3] => { results := [.lit (.bool true)], args := [d1, d2, d3] }
  | _ => none }
def dagVotersRow : OpenClaim := { program := "ytnpjhpmgelaonabdoor", sum := "69518bf21524929712b5f4d19e7af8b941817d56ff73c70cec32828f4b05df62", func := "sheaves/sheaveskeep.DagVoters", spec := "dagVoters", unfollowed := true, recurses := true, named := ["sheaves/blake.firstWords", "sheaves/blake.orders", "sheaves/blake.lanes"], apart := false, laid := [("sheaves/blake.firstWords", laid_sheaves_blake_firstWords), ("sheaves/blake.orders", laid_sheaves_blake_orders), ("sheaves/blake.lanes", laid_sheaves_blake_lanes)] }
def DagVotersSaid : Prop := dagVotersRow.holds Tryd.pinned (OpenSpec.ofChange dagVotersSpec)

/-- ITS FALSE NEIGHBOUR: 'it returns false'. Refute it at one input. -/
def dagVotersWrong : ChangeSpec := { name := "dagVoters", fn := fun _ => fun
  | [d1, d2, d3] => { results := [.lit (.bool false)], args := [d1, d2, d3] }
  | _ => none }
def DagVotersWrongFalsely : Prop := dagVotersRow.holds Tryd.pinned (OpenSpec.ofChange dagVotersWrong)

/- THE SECOND FORM. 'bulk': how many values and letters a reading holds, each counted each time it is reached (what is shared counts as often as it is met; a slice's spare places count too). A statement '..UptoSaid' is the law's where the arguments, and the package variables that the reading takes, are together of bulk at most 1048576: NARROWER than '..Said'. Prove '..Said' where nothing that the law and all that it calls make is longer than what came in: it says more and counts as full. Else prove '..UptoSaid'. A law counts once. -/
mutual
def uptoBulk {H : Type} : DataW H → Nat
  | .lit (.string bytes) => bytes.length + 1
  | .lit _ => 1
  | .nil => 1
  | .ptr d => uptoBulk d + 1
  | .slice elems spare => uptoBulkAll elems + uptoBulkAll spare + 1
  | .agg parts => uptoBulkAll parts + 1
  | .iface _ d => uptoBulk d + 1
  | .map entries => uptoBulkEntries entries + 1
  | .held _ => 1
def uptoBulkAll {H : Type} : List (DataW H) → Nat
  | [] => 0
  | d :: r => uptoBulk d + uptoBulkAll r
def uptoBulkEntries {H : Type} : List (Lit × DataW H) → Nat
  | [] => 0
  | x :: r => uptoBulkEntry x + uptoBulkEntries r
def uptoBulkEntry {H : Type} : Lit × DataW H → Nat
  | (.string bytes, d) => bytes.length + uptoBulk d + 1
  | (_, d) => uptoBulk d + 1
 end
def uptoSmall : (H : Type) → List (DataW H) → Bool := fun _ ds => decide (uptoBulkAll ds ≤ 1048576)
def OpenSpec.upto (s : _root_.Go.ChangeSpec) : _root_.Go.OpenSpec := { _root_.Go.OpenSpec.ofChange s with cond := some uptoSmall }

/-- 'sheaveskeep.DigestsNone', WHERE WHAT IT READS IS OF BULK AT MOST 1048576: true; the input reads as it did. -/
def digestsNoneUptoRow : OpenClaim := { program := "ytnpjhpmgelaonabdoor", sum := "69518bf21524929712b5f4d19e7af8b941817d56ff73c70cec32828f4b05df62", func := "sheaves/sheaveskeep.DigestsNone", spec := "digestsNone", unfollowed := true, recurses := true, named := ["sheaves/blake.firstWords", "sheaves/blake.orders", "sheaves/blake.lanes"], apart := false, laid := [("sheaves/blake.firstWords", laid_sheaves_blake_firstWords), ("sheaves/blake.orders", laid_sheaves_blake_orders), ("sheaves/blake.lanes", laid_sheaves_blake_lanes)], narrowed := true }
def DigestsNoneUptoSaid : Prop := digestsNoneUptoRow.holds Tryd.pinned (OpenSpec.upto digestsNoneSpec)

/-- 'sheaveskeep.InsertBad', WHERE WHAT IT READS IS OF BULK AT MOST 1048576: true; the input reads as it did. -/
def insertBadUptoRow : OpenClaim := { program := "ytnpjhpmgelaonabdoor", sum := "69518bf21524929712b5f4d19e7af8b941817d56ff73c70cec32828f4b05df62", func := "sheaves/sheaveskeep.InsertBad", spec := "insertBad", unfollowed := true, recurses := true, named := ["sheaves/blake.firstWords", "sheaves/blake.orders", "sheaves/blake.lanes"], apart := false, laid := [("sheaves/blake.firstWords", laid_sheaves_blake_firstWords), ("sheaves/blake.orders", laid_sheaves_blake_orders), ("sheaves/blake.lanes", laid_sheaves_blake_lanes)], narrowed := true }
def InsertBadUptoSaid : Prop := insertBadUptoRow.holds Tryd.pinned (OpenSpec.upto insertBadSpec)

/-- 'sheaveskeep.MissingSome', WHERE WHAT IT READS IS OF BULK AT MOST 1048576: true; the input reads as it did. -/
def missingSomeUptoRow : OpenClaim := { program := "ytnpjhpmgelaonabdoor", sum := "69518bf21524929712b5f4d19e7af8b941817d56ff73c70cec32828f4b05df62", func := "sheaves/sheaveskeep.MissingSome", spec := "missingSome", unfollowed := true, recurses := true, named := ["sheaves/blake.firstWords", "sheaves/blake.orders", "sheaves/blake.lanes"], apart := false, laid := [("sheaves/blake.firstWords", laid_sheaves_blake_firstWords), ("sheaves/blake.orders", laid_sheaves_blake_orders), ("sheaves/blake.lanes", laid_sheaves_blake_lanes)], narrowed := true }
def MissingSomeUptoSaid : Prop := missingSomeUptoRow.holds Tryd.pinned (OpenSpec.upto missingSomeSpec)

/-- 'sheaveskeep.DagVoters', WHERE WHAT IT READS IS OF BULK AT MOST 1048576: true; the input reads as it did. -/
def dagVotersUptoRow : OpenClaim := { program := "ytnpjhpmgelaonabdoor", sum := "69518bf21524929712b5f4d19e7af8b941817d56ff73c70cec32828f4b05df62", func := "sheaves/sheaveskeep.DagVoters", spec := "dagVoters", unfollowed := true, recurses := true, named := ["sheaves/blake.firstWords", "sheaves/blake.orders", "sheaves/blake.lanes"], apart := false, laid := [("sheaves/blake.firstWords", laid_sheaves_blake_firstWords), ("sheaves/blake.orders", laid_sheaves_blake_orders), ("sheaves/blake.lanes", laid_sheaves_blake_lanes)], narrowed := true }
def DagVotersUptoSaid : Prop := dagVotersUptoRow.holds Tryd.pinned (OpenSpec.upto dagVotersSpec)

end Rows
end Go.Proofs.YtnpjhpmgelaonabDoor
