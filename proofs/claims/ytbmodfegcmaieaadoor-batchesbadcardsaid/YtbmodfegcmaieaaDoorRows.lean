/-
  NARROWER THAN 'FOR EVERY INPUT', by the rows' own cells (each row's printed sentence says how): OrderBatches: laid · HistoryClosed: laid · HistoryLeast: laid · BlockOnce: laid · BlockSame: laid · BlockNone: laid · HistoryOne: laid · BlockGrows: laid · BatchesBad: laid · HistoryOrder: laid.
  DERIVED. THE GIVEN ROWS OF THIS SEAT. 10 by the template 'for every input the law returns true; each argument reads behind the call as it read before'; 0 by the template 'total and deterministic' (their statements: YtbmodfegcmaieaaDoorTotals.lean).
  GIVEN WITH THE SEED: the statements are not yours to turn. If you find one false, say at which input.
  Laid BY PROGRAM, IN A SANDBOX (cutbox-rows.mjs): the forced cells as the released guide's own fill.sh prints them over the translation 5e8bec3ba1e14b01… (all of the seat's roots in one cut). By AI agents, Wed Nov 11 2026. No macro, syntax, notation, axiom, sorry.
-/
import Derived.Test.YtbmodfegcmaieaaDoorChecked
import GoSem.Claim
import GoSem.ClaimJoined
import GoSem.ClaimMapViews
import Derived.JoinedTies
import Derived.KernelRfl
namespace Go.Proofs.YtbmodfegcmaieaaDoor
/- THE CELL 'sum', in the pinned program and in every row, IS THE sha256 OF THE DUMP (.gsa) THAT YtbmodfegcmaieaaDoorProg.lean LOADS. Nothing in Lean hashes anything: it is a label: what it is worth is what the hold of that sum in a sandbox is worth. -/
noncomputable def Tryd.pinned : Pinned := { name := "ytbmodfegcmaieaadoor", sum := "5e8bec3ba1e14b018458eb6cfd88ad3e3106274d242c2610d6c38336b949dbca", checked := Tryd.checked }
namespace Rows
def none {H : Type} : Left H := { results := [], args := [] }

/- WHAT THE LISTED PACKAGE-LEVEL VARIABLES READ AS WHEN THE CALL BEGINS. Each datum BY PROGRAM (the guide's laid-datum.mjs) off the statement by which the dump's own 'gosem.cut.vars' lays the variable. In a bare row this is a premise. The card (YtbmodfegcmaieaaDoorCards.lean) ties it to the program's text. -/
def laid_sheaves_blake_firstWords {H : Type} : DataW H := .agg [.lit (.int .u32 1779033703), .lit (.int .u32 3144134277), .lit (.int .u32 1013904242), .lit (.int .u32 2773480762), .lit (.int .u32 1359893119), .lit (.int .u32 2600822924), .lit (.int .u32 528734635), .lit (.int .u32 1541459225)]
def laid_sheaves_blake_orders {H : Type} : DataW H := .agg [.agg [.lit (.int .u8 0), .lit (.int .u8 1), .lit (.int .u8 2), .lit (.int .u8 3), .lit (.int .u8 4), .lit (.int .u8 5), .lit (.int .u8 6), .lit (.int .u8 7), .lit (.int .u8 8), .lit (.int .u8 9), .lit (.int .u8 10), .lit (.int .u8 11), .lit (.int .u8 12), .lit (.int .u8 13), .lit (.int .u8 14), .lit (.int .u8 15)], .agg [.lit (.int .u8 14), .lit (.int .u8 10), .lit (.int .u8 4), .lit (.int .u8 8), .lit (.int .u8 9), .lit (.int .u8 15), .lit (.int .u8 13), .lit (.int .u8 6), .lit (.int .u8 1), .lit (.int .u8 12), .lit (.int .u8 0), .lit (.int .u8 2), .lit (.int .u8 11), .lit (.int .u8 7), .lit (.int .u8 5), .lit (.int .u8 3)], .agg [.lit (.int .u8 11), .lit (.int .u8 8), .lit (.int .u8 12), .lit (.int .u8 0), .lit (.int .u8 5), .lit (.int .u8 2), .lit (.int .u8 15), .lit (.int .u8 13), .lit (.int .u8 10), .lit (.int .u8 14), .lit (.int .u8 3), .lit (.int .u8 6), .lit (.int .u8 7), .lit (.int .u8 1), .lit (.int .u8 9), .lit (.int .u8 4)], .agg [.lit (.int .u8 7), .lit (.int .u8 9), .lit (.int .u8 3), .lit (.int .u8 1), .lit (.int .u8 13), .lit (.int .u8 12), .lit (.int .u8 11), .lit (.int .u8 14), .lit (.int .u8 2), .lit (.int .u8 6), .lit (.int .u8 5), .lit (.int .u8 10), .lit (.int .u8 4), .lit (.int .u8 0), .lit (.int .u8 15), .lit (.int .u8 8)], .agg [.lit (.int .u8 9), .lit (.int .u8 0), .lit (.int .u8 5), .lit (.int .u8 7), .lit (.int .u8 2), .lit (.int .u8 4), .lit (.int .u8 10), .lit (.int .u8 15), .lit (.int .u8 14), .lit (.int .u8 1), .lit (.int .u8 11), .lit (.int .u8 12), .lit (.int .u8 6), .lit (.int .u8 8), .lit (.int .u8 3), .lit (.int .u8 13)], .agg [.lit (.int .u8 2), .lit (.int .u8 12), .lit (.int .u8 6), .lit (.int .u8 10), .lit (.int .u8 0), .lit (.int .u8 11), .lit (.int .u8 8), .lit (.int .u8 3), .lit (.int .u8 4), .lit (.int .u8 13), .lit (.int .u8 7), .lit (.int .u8 5), .lit (.int .u8 15), .lit (.int .u8 14), .lit (.int .u8 1), .lit (.int .u8 9)], .agg [.lit (.int .u8 12), .lit (.int .u8 5), .lit (.int .u8 1), .lit (.int .u8 15), .lit (.int .u8 14), .lit (.int .u8 13), .lit (.int .u8 4), .lit (.int .u8 10), .lit (.int .u8 0), .lit (.int .u8 7), .lit (.int .u8 6), .lit (.int .u8 3), .lit (.int .u8 9), .lit (.int .u8 2), .lit (.int .u8 8), .lit (.int .u8 11)], .agg [.lit (.int .u8 13), .lit (.int .u8 11), .lit (.int .u8 7), .lit (.int .u8 14), .lit (.int .u8 12), .lit (.int .u8 1), .lit (.int .u8 3), .lit (.int .u8 9), .lit (.int .u8 5), .lit (.int .u8 0), .lit (.int .u8 15), .lit (.int .u8 4), .lit (.int .u8 8), .lit (.int .u8 6), .lit (.int .u8 2), .lit (.int .u8 10)], .agg [.lit (.int .u8 6), .lit (.int .u8 15), .lit (.int .u8 14), .lit (.int .u8 9), .lit (.int .u8 11), .lit (.int .u8 3), .lit (.int .u8 0), .lit (.int .u8 8), .lit (.int .u8 12), .lit (.int .u8 2), .lit (.int .u8 13), .lit (.int .u8 7), .lit (.int .u8 1), .lit (.int .u8 4), .lit (.int .u8 10), .lit (.int .u8 5)], .agg [.lit (.int .u8 10), .lit (.int .u8 2), .lit (.int .u8 8), .lit (.int .u8 4), .lit (.int .u8 7), .lit (.int .u8 6), .lit (.int .u8 1), .lit (.int .u8 5), .lit (.int .u8 15), .lit (.int .u8 11), .lit (.int .u8 9), .lit (.int .u8 14), .lit (.int .u8 3), .lit (.int .u8 12), .lit (.int .u8 13), .lit (.int .u8 0)]]
def laid_sheaves_blake_lanes {H : Type} : DataW H := .agg [.agg [.lit (.int .u8 0), .lit (.int .u8 4), .lit (.int .u8 8), .lit (.int .u8 12)], .agg [.lit (.int .u8 1), .lit (.int .u8 5), .lit (.int .u8 9), .lit (.int .u8 13)], .agg [.lit (.int .u8 2), .lit (.int .u8 6), .lit (.int .u8 10), .lit (.int .u8 14)], .agg [.lit (.int .u8 3), .lit (.int .u8 7), .lit (.int .u8 11), .lit (.int .u8 15)], .agg [.lit (.int .u8 0), .lit (.int .u8 5), .lit (.int .u8 10), .lit (.int .u8 15)], .agg [.lit (.int .u8 1), .lit (.int .u8 6), .lit (.int .u8 11), .lit (.int .u8 12)], .agg [.lit (.int .u8 2), .lit (.int .u8 7), .lit (.int .u8 8), .lit (.int .u8 13)], .agg [.lit (.int .u8 3), .lit (.int .u8 4), .lit (.int .u8 9), .lit (.int .u8 14)]]

/-- 'sheaveslaw.OrderBatches': WHATEVER THE INPUT: true; the input reads as it did. -/
def orderBatchesSpec : ChangeSpec := { name := "orderBatches", fn := fun _ => fun
  | [d] => { results := [.lit (.bool true)], args := [d] }
  | _ => none }
def orderBatchesRow : OpenClaim := { program := "ytbmodfegcmaieaadoor", sum := "5e8bec3ba1e14b018458eb6cfd88ad3e3106274d242c2610d6c38336b949dbca", func := "sheaves/sheaveslaw.OrderBatches", spec := "orderBatches", named := ["sheaves/blake.firstWords", "sheaves/blake.orders", "sheaves/blake.lanes"], apart := false, laid := [("sheaves/blake.firstWords", laid_sheaves_blake_firstWords), ("sheaves/blake.orders", laid_sheaves_blake_orders), ("sheaves/blake.lanes", laid_sheaves_blake_lanes)] }
def OrderBatchesSaid : Prop := orderBatchesRow.holds Tryd.pinned (OpenSpec.ofChange orderBatchesSpec)

/-- ITS FALSE NEIGHBOUR: 'it returns false'. Refute it at one input. -/
def orderBatchesWrong : ChangeSpec := { name := "orderBatches", fn := fun _ => fun
  | [d] => { results := [.lit (.bool false)], args := [d] }
  | _ => none }
def OrderBatchesWrongFalsely : Prop := orderBatchesRow.holds Tryd.pinned (OpenSpec.ofChange orderBatchesWrong)

/-- 'sheaveskeep.HistoryClosed': WHATEVER THE INPUT: true; the input reads as it did. -/
def historyClosedSpec : ChangeSpec := { name := "historyClosed", fn := fun _ => fun
  | [d1, d2] => { results := [.lit (.bool true)], args := [d1, d2] }
  | _ => none }
def historyClosedRow : OpenClaim := { program := "ytbmodfegcmaieaadoor", sum := "5e8bec3ba1e14b018458eb6cfd88ad3e3106274d242c2610d6c38336b949dbca", func := "sheaves/sheaveskeep.HistoryClosed", spec := "historyClosed", unfollowed := true, recurses := true, named := ["sheaves/blake.firstWords", "sheaves/blake.orders", "sheaves/blake.lanes"], apart := false, laid := [("sheaves/blake.firstWords", laid_sheaves_blake_firstWords), ("sheaves/blake.orders", laid_sheaves_blake_orders), ("sheaves/blake.lanes", laid_sheaves_blake_lanes)] }
def HistoryClosedSaid : Prop := historyClosedRow.holds Tryd.pinned (OpenSpec.ofChange historyClosedSpec)

/-- ITS FALSE NEIGHBOUR: 'it returns false'. Refute it at one input. -/
def historyClosedWrong : ChangeSpec := { name := "historyClosed", fn := fun _ => fun
  | [d1, d2] => { results := [.lit (.bool false)], args := [d1, d2] }
  | _ => none }
def HistoryClosedWrongFalsely : Prop := historyClosedRow.holds Tryd.pinned (OpenSpec.ofChange historyClosedWrong)

/-- 'sheaveskeep.HistoryLeast': WHATEVER THE INPUT: true; the input reads as it did. -/
def historyLeastSpec : ChangeSpec := { name := "historyLeast", fn := fun _ => fun
  | [d1, d2, d3] => { results := [.lit (.bool true)], args := [d1, d2, d3] }
  | _ => none }
def historyLeastRow : OpenClaim := { program := "ytbmodfegcmaieaadoor", sum := "5e8bec3ba1e14b018458eb6cfd88ad3e3106274d242c2610d6c38336b949dbca", func := "sheaves/sheaveskeep.HistoryLeast", spec := "historyLeast", unfollowed := true, recurses := true, named := ["sheaves/blake.firstWords", "sheaves/blake.orders", "sheaves/blake.lanes"], apart := false, laid := [("sheaves/blake.firstWords", laid_sheaves_blake_firstWords), ("sheaves/blake.orders", laid_sheaves_blake_orders), ("sheaves/blake.lanes", laid_sheaves_blake_lanes)] }
def HistoryLeastSaid : Prop := historyLeastRow.holds Tryd.pinned (OpenSpec.ofChange historyLeastSpec)

/-- ITS FALSE NEIGHBOUR: 'it returns false'. Refute it at one input. -/
def historyLeastWrong : ChangeSpec := { name := "historyLeast", fn := fun _ => fun
  | [d1, d2, d3] => { results := [.lit (.bool false)], args := [d1, d2, d3] }
  | _ => none }
def HistoryLeastWrongFalsely : Prop := historyLeastRow.holds Tryd.pinned (OpenSpec.ofChange historyLeastWrong)

/-- 'sheaveskeep.BlockOnce': WHATEVER THE INPUT: true; the input reads as it did. -/
def blockOnceSpec : ChangeSpec := { name := "blockOnce", fn := fun _ => fun
  | [d1, d2] => { results := [.lit (.bool true)], args := [d1, d2] }
  | _ => none }
def blockOnceRow : OpenClaim := { program := "ytbmodfegcmaieaadoor", sum := "5e8bec3ba1e14b018458eb6cfd88ad3e3106274d242c2610d6c38336b949dbca", func := "sheaves/sheaveskeep.BlockOnce", spec := "blockOnce", unfollowed := true, recurses := true, named := ["sheaves/blake.firstWords", "sheaves/blake.orders", "sheaves/blake.lanes"], apart := false, laid := [("sheaves/blake.firstWords", laid_sheaves_blake_firstWords), ("sheaves/blake.orders", laid_sheaves_blake_orders), ("sheaves/blake.lanes", laid_sheaves_blake_lanes)] }
def BlockOnceSaid : Prop := blockOnceRow.holds Tryd.pinned (OpenSpec.ofChange blockOnceSpec)

/-- ITS FALSE NEIGHBOUR: 'it returns false'. Refute it at one input. -/
def blockOnceWrong : ChangeSpec := { name := "blockOnce", fn := fun _ => fun
  | [d1, d2] => { results := [.lit (.bool false)], args := [d1, d2] }
  | _ => none }
def BlockOnceWrongFalsely : Prop := blockOnceRow.holds Tryd.pinned (OpenSpec.ofChange blockOnceWrong)

/-- 'sheaveskeep.BlockSame': WHATEVER THE INPUT: true; the input reads as it did. -/
def blockSameSpec : ChangeSpec := { name := "blockSame", fn := fun _ => fun
  | [d1, d2, d3] => { results := [.lit (.bool true)], args := [d1, d2, d3] }
  | _ => none }
def blockSameRow : OpenClaim := { program := "ytbmodfegcmaieaadoor", sum := "5e8bec3ba1e14b018458eb6cfd88ad3e3106274d242c2610d6c38336b949dbca", func := "sheaves/sheaveskeep.BlockSame", spec := "blockSame", unfollowed := true, recurses := true, named := ["sheaves/blake.firstWords", "sheaves/blake.orders", "sheaves/blake.lanes"], apart := false, laid := [("sheaves/blake.firstWords", laid_sheaves_blake_firstWords), ("sheaves/blake.orders", laid_sheaves_blake_orders), ("sheaves/blake.lanes", laid_sheaves_blake_lanes)] }
def BlockSameSaid : Prop := blockSameRow.holds Tryd.pinned (OpenSpec.ofChange blockSameSpec)

/-- ITS FALSE NEIGHBOUR: 'it returns false'. Refute it at one input. -/
def blockSameWrong : ChangeSpec := { name := "blockSame", fn := fun _ => fun
  | [d1, d2, d3] => { results := [.lit (.bool false)], args := [d1, d2, d3] }
  | _ => none }
def BlockSameWrongFalsely : Prop := blockSameRow.holds Tryd.pinned (OpenSpec.ofChange blockSameWrong)

/-- 'sheaveskeep.BlockNone': WHATEVER THE INPUT: true; the input reads as it did. -/
def blockNoneSpec : ChangeSpec := { name := "blockNone", fn := fun _ => fun
  | [d1, d2, d3] => { results := [.lit (.bool true)], args := [d1, d2, d3] }
  | _ => none }
def blockNoneRow : OpenClaim := { program := "ytbmodfegcmaieaadoor", sum := "5e8bec3ba1e14b018458eb6cfd88ad3e3106274d242c2610d6c38336b949dbca", func := "sheaves/sheaveskeep.BlockNone", spec := "blockNone", unfollowed := true, recurses := true, named := ["sheaves/blake.firstWords", "sheaves/blake.orders", "sheaves/blake.lanes"], apart := false, laid := [("sheaves/blake.firstWords", laid_sheaves_blake_firstWords), ("sheaves/blake.orders", laid_sheaves_blake_orders), ("sheaves/blake.lanes", laid_sheaves_blake_lanes)] }
def BlockNoneSaid : Prop := blockNoneRow.holds Tryd.pinned (OpenSpec.ofChange blockNoneSpec)

/-- ITS FALSE NEIGHBOUR: 'it returns false'. Refute it at one input. -/
def blockNoneWrong : ChangeSpec := { name := "blockNone", fn := fun _ => fun
  | [d1, d2, d3] => { results := [.lit (.bool false)], args := [d1, d2, d3] }
  | _ => none }
def BlockNoneWrongFalsely : Prop := blockNoneRow.holds Tryd.pinned (OpenSpec.ofChange blockNoneWrong)

/-- 'sheaveskeep.HistoryOne': WHATEVER THE INPUT: true; the input reads as it did. -/
def historyOneSpec : ChangeSpec := { name := "historyOne", fn := fun _ => fun
  | [d] => { results := [.lit (.bool true)], args := [d] }
  | _ => none }
def historyOneRow : OpenClaim := { program := "ytbmodfegcmaieaadoor", sum := "5e8bec3ba1e14b018458eb6cfd88ad3e3106274d242c2610d6c38336b949dbca", func := "sheaves/sheaveskeep.HistoryOne", spec := "historyOne", unfollowed := true, recurses := true, named := ["sheaves/blake.firstWords", "sheaves/blake.orders", "sheaves/blake.lanes"], apart := false, laid := [("sheaves/blake.firstWords", laid_sheaves_blake_firstWords), ("sheaves/blake.orders", laid_sheaves_blake_orders), ("sheaves/blake.lanes", laid_sheaves_blake_lanes)] }
def HistoryOneSaid : Prop := historyOneRow.holds Tryd.pinned (OpenSpec.ofChange historyOneSpec)

/-- ITS FALSE NEIGHBOUR: 'it returns false'. Refute it at one input. -/
def historyOneWrong : ChangeSpec := { name := "historyOne", fn := fun _ => fun
  | [d] => { results := [.lit (.bool false)], args := [d] }
  | _ => none }
def HistoryOneWrongFalsely : Prop := historyOneRow.holds Tryd.pinned (OpenSpec.ofChange historyOneWrong)

/-- 'sheaveskeep.BlockGrows': WHATEVER THE INPUT: true; the input reads as it did. -/
def blockGrowsSpec : ChangeSpec := { name := "blockGrows", fn := fun _ => fun
  | [d1, d2] => { results := [.lit (.bool true)], args := [d1, d2] }
  | _ => none }
def blockGrowsRow : OpenClaim := { program := "ytbmodfegcmaieaadoor", sum := "5e8bec3ba1e14b018458eb6cfd88ad3e3106274d242c2610d6c38336b949dbca", func := "sheaves/sheaveskeep.BlockGrows", spec := "blockGrows", unfollowed := true, recurses := true, named := ["sheaves/blake.firstWords", "sheaves/blake.orders", "sheaves/blake.lanes"], apart := false, laid := [("sheaves/blake.firstWords", laid_sheaves_blake_firstWords), ("sheaves/blake.orders", laid_sheaves_blake_orders), ("sheaves/blake.lanes", laid_sheaves_blake_lanes)] }
def BlockGrowsSaid : Prop := blockGrowsRow.holds Tryd.pinned (OpenSpec.ofChange blockGrowsSpec)

/-- ITS FALSE NEIGHBOUR: 'it returns false'. Refute it at one input. -/
def blockGrowsWrong : ChangeSpec := { name := "blockGrows", fn := fun _ => fun
  | [d1, d2] => { results := [.lit (.bool false)], args := [d1, d2] }
  | _ => none }
def BlockGrowsWrongFalsely : Prop := blockGrowsRow.holds Tryd.pinned (OpenSpec.ofChange blockGrowsWrong)

/-- 'sheaveskeep.BatchesBad': WHATEVER THE INPUT: true; the input reads as it did. -/
def batchesBadSpec : ChangeSpec := { name := "batchesBad", fn := fun _ => fun
  | [d1, d2] => { results := [.lit (.bool true)], args := [d1, d2] }
  | _ => none }
def batchesBadRow : OpenClaim := { program := "ytbmodfegcmaieaadoor", sum := "5e8bec3ba1e14b018458eb6cfd88ad3e3106274d242c2610d6c38336b949dbca", func := "sheaves/sheaveskeep.BatchesBad", spec := "batchesBad", unfollowed := true, recurses := true, named := ["sheaves/blake.firstWords", "sheaves/blake.orders", "sheaves/blake.lanes"], apart := false, laid := [("sheaves/blake.firstWords", laid_sheaves_blake_firstWords), ("sheaves/blake.orders", laid_sheaves_blake_orders), ("sheaves/blake.lanes", laid_sheaves_blake_lanes)] }
def BatchesBadSaid : Prop := batchesBadRow.holds Tryd.pinned (OpenSpec.ofChange batchesBadSpec)

/-- ITS FALSE NEIGHBOUR: 'it returns false'. Refute it at one input. -/
def batchesBadWrong : ChangeSpec := { name := "batchesBad", fn := fun _ => fun
  | [d1, d2] => { results := [.lit (.bool false)], args := [d1, d2] }
  | _ => none }
def BatchesBadWrongFalsely : Prop := batchesBadRow.holds Tryd.pinned (OpenSpec.ofChange batchesBadWrong)

/-- 'sheaveskeep.HistoryOrder': WHATEVER THE INPUT: true; the input reads as it did. -/
def historyOrderSpec : ChangeSpec := { name := "historyOrder", fn := fun _ => fun
  | [d1, d2, d3] => { results := [.lit (.bool true)], args := [d1, d2, d3] }
  | _ => none }
def historyOrderRow : OpenClaim := { program := "ytbmodfegcmaieaadoor", sum := "5e8bec3ba1e14b018458eb6cfd88ad3e3106274d242c2610d6c38336b949dbca", func := "sheaves/sheaveskeep.HistoryOrder", spec := "historyOrder", unfollowed := true, recurses := true, named := ["sheaves/blake.firstWords", "sheaves/blake.orders", "sheaves/blake.lanes"], apart := false, laid := [("sheaves/blake.firstWords", laid_sheaves_blake_firstWords), ("sheaves/blake.orders", laid_sheaves_blake_orders), ("sheaves/blake.lanes", laid_sheaves_blake_lanes)] }
def HistoryOrderSaid : Prop := historyOrderRow.holds Tryd.pinned (OpenSpec.ofChange historyOrderSpec)

/-- ITS FALSE NEIGHBOUR: 'it returns false'. Refute it at one input. -/
def historyOrderWrong : ChangeSpec := { name := "historyOrder", fn := fun _ => fun
  | [d1, d2, d3] => { results := [.lit (.bool false)], args := [d1, d2, d3] }
  | _ => none }
def HistoryOrderWrongFalsely : Prop := historyOrderRow.holds Tryd.pinned (OpenSpec.ofChange historyOrderWrong)

/- THE SECOND FORM. 'bulk': how many values and letters a reading holds, each counted each time it is reached (what is shared counts as often as it is met; a slice's spare places count too). A statement '..UptoSaid' is the law's where the arguments, and the package variables that the reading takes, are together of bulk at most 1048576: NARROWER than '..Said'. Prove '..Said' where nothing that the law and all that it calls make is longer than what came in: it says more and counts as full. Else prove '..UptoSaid'. A law counts once. -/
mutual
def uptoBulk {H : Type} : DataW H → Nat
  | .lit (.string bytes) => bytes.length + 1
  | .lit _ => 1
  | .nil => 1
  | .ptr d => uptoBulk d + 1
  | .slice elems spare => uptoBulkAll elems + uptoBulkAll spare + 1
  | .agg parts => uptoBulkAll parts + 1
  | .iface _ d => uptoBulk d + 1
  | .map entries => uptoBulkEntries entries + 1
  | .held _ => 1
def uptoBulkAll {H : Type} : List (DataW H) → Nat
  | [] => 0
  | d :: r => uptoBulk d + uptoBulkAll r
def uptoBulkEntries {H : Type} : List (Lit × DataW H) → Nat
  | [] => 0
  | x :: r => uptoBulkEntry x + uptoBulkEntries r
def uptoBulkEntry {H : Type} : Lit × DataW H → Nat
  | (.string bytes, d) => bytes.length + uptoBulk d + 1
  | (_, d) => uptoBulk d + 1
 end
def uptoSmall : (H : Type) → List (DataW H) → Bool := fun _ ds => decide (uptoBulkAll ds ≤ 1048576)
def OpenSpec.upto (s : _root_.Go.ChangeSpec) : _root_.Go.OpenSpec := { _root_.Go.OpenSpec.ofChange s with cond := some uptoSmall }

/-- 'sheaveslaw.OrderBatches', WHERE WHAT IT READS IS OF BULK AT MOST 1048576: true; the input reads as it did. -/
def orderBatchesUptoRow : OpenClaim := { program := "ytbmodfegcmaieaadoor", sum := "5e8bec3ba1e14b018458eb6cfd88ad3e3106274d242c2610d6c38336b949dbca", func := "sheaves/sheaveslaw.OrderBatches", spec := "orderBatches", named := ["sheaves/blake.firstWords", "sheaves/blake.orders", "sheaves/blake.lanes"], apart := false, laid := [("sheaves/blake.firstWords", laid_sheaves_blake_firstWords), ("sheaves/blake.orders", laid_sheaves_blake_orders), ("sheaves/blake.lanes", laid_sheaves_blake_lanes)], narrowed := true }
def OrderBatchesUptoSaid : Prop := orderBatchesUptoRow.holds Tryd.pinned (OpenSpec.upto orderBatchesSpec)

/-- 'sheaveskeep.HistoryClosed', WHERE WHAT IT READS IS OF BULK AT MOST 1048576: true; the input reads as it did. -/
def historyClosedUptoRow : OpenClaim := { program := "ytbmodfegcmaieaadoor", sum := "5e8bec3ba1e14b018458eb6cfd88ad3e3106274d242c2610d6c38336b949dbca", func := "sheaves/sheaveskeep.HistoryClosed", spec := "historyClosed", unfollowed := true, recurses := true, named := ["sheaves/blake.firstWords", "sheaves/blake.orders", "sheaves/blake.lanes"], apart := false, laid := [("sheaves/blake.firstWords", laid_sheaves_blake_firstWords), ("sheaves/blake.orders", laid_sheaves_blake_orders), ("sheaves/blake.lanes", laid_sheaves_blake_lanes)], narrowed := true }
def HistoryClosedUptoSaid : Prop := historyClosedUptoRow.holds Tryd.pinned (OpenSpec.upto historyClosedSpec)

/-- 'sheaveskeep.HistoryLeast', WHERE WHAT IT READS IS OF BULK AT MOST 1048576: true; the input reads as it did. -/
def historyLeastUptoRow : OpenClaim := { program := "ytbmodfegcmaieaadoor", sum := "5e8bec3ba1e14b018458eb6cfd88ad3e3106274d242c2610d6c38336b949dbca", func := "sheaves/sheaveskeep.HistoryLeast", spec := "historyLeast", unfollowed := true, recurses := true, named := ["sheaves/blake.firstWords", "sheaves/blake.orders", "sheaves/blake.lanes"], apart := false, laid := [("sheaves/blake.firstWords", laid_sheaves_blake_firstWords), ("sheaves/blake.orders", laid_sheaves_blake_orders), ("sheaves/blake.lanes", laid_sheaves_blake_lanes)], narrowed := true }
def HistoryLeastUptoSaid : Prop := historyLeastUptoRow.holds Tryd.pinned (OpenSpec.upto historyLeastSpec)

/-- 'sheaveskeep.BlockOnce', WHERE WHAT IT READS IS OF BULK AT MOST 1048576: true; the input reads as it did. -/
def blockOnceUptoRow : OpenClaim := { program := "ytbmodfegcmaieaadoor", sum := "5e8bec3ba1e14b018458eb6cfd88ad3e3106274d242c2610d6c38336b949dbca", func := "sheaves/sheaveskeep.BlockOnce", spec := "blockOnce", unfollowed := true, recurses := true, named := ["sheaves/blake.firstWords", "sheaves/blake.orders", "sheaves/blake.lanes"], apart := false, laid := [("sheaves/blake.firstWords", laid_sheaves_blake_firstWords), ("sheaves/blake.orders", laid_sheaves_blake_orders), ("sheaves/blake.lanes", laid_sheaves_blake_lanes)], narrowed := true }
def BlockOnceUptoSaid : Prop := blockOnceUptoRow.holds Tryd.pinned (OpenSpec.upto blockOnceSpec)

/-- 'sheaveskeep.BlockSame', WHERE WHAT IT READS IS OF BULK AT MOST 1048576: true; the input reads as it did. -/
def blockSameUptoRow : OpenClaim := { program := "ytbmodfegcmaieaadoor", sum := "5e8bec3ba1e14b018458eb6cfd88ad3e3106274d242c2610d6c38336b949dbca", func := "sheaves/sheaveskeep.BlockSame", spec := "blockSame", unfollowed := true, recurses := true, named := ["sheaves/blake.firstWords", "sheaves/blake.orders", "sheaves/blake.lanes"], apart := false, laid := [("sheaves/blake.firstWords", laid_sheaves_blake_firstWords), ("sheaves/blake.orders", laid_sheaves_blake_orders), ("sheaves/blake.lanes", laid_sheaves_blake_lanes)], narrowed := true }
def BlockSameUptoSaid : Prop := blockSameUptoRow.holds Tryd.pinned (OpenSpec.upto blockSameSpec)

/-- 'sheaveskeep.BlockNone', WHERE WHAT IT READS IS OF BULK AT MOST 1048576: true; the input reads as it did. -/
def blockNoneUptoRow : OpenClaim := { program := "ytbmodfegcmaieaadoor", sum := "5e8bec3ba1e14b018458eb6cfd88ad3e3106274d242c2610d6c38336b949dbca", func := "sheaves/sheaveskeep.BlockNone", spec := "blockNone", unfollowed := true, recurses := true, named := ["sheaves/blake.firstWords", "sheaves/blake.orders", "sheaves/blake.lanes"], apart := false, laid := [("sheaves/blake.firstWords", laid_sheaves_blake_firstWords), ("sheaves/blake.orders", laid_sheaves_blake_orders), ("sheaves/blake.lanes", laid_sheaves_blake_lanes)], narrowed := true }
def BlockNoneUptoSaid : Prop := blockNoneUptoRow.holds Tryd.pinned (OpenSpec.upto blockNoneSpec)

/-- 'sheaveskeep.HistoryOne', WHERE WHAT IT READS IS OF BULK AT MOST 1048576: true; the input reads as it did. -/
def historyOneUptoRow : OpenClaim := { program := "ytbmodfegcmaieaadoor", sum := "5e8bec3ba1e14b018458eb6cfd88ad3e3106274d242c2610d6c38336b949dbca", func := "sheaves/sheaveskeep.HistoryOne", spec := "historyOne", unfollowed := true, recurses := true, named := ["sheaves/blake.firstWords", "sheaves/blake.orders", "sheaves/blake.lanes"], apart := false, laid := [("sheaves/blake.firstWords", laid_sheaves_blake_firstWords), ("sheaves/blake.orders", laid_sheaves_blake_orders), ("sheaves/blake.lanes", laid_sheaves_blake_lanes)], narrowed := true }
def HistoryOneUptoSaid : Prop := historyOneUptoRow.holds Tryd.pinned (OpenSpec.upto historyOneSpec)

/-- 'sheaveskeep.BlockGrows', WHERE WHAT IT READS IS OF BULK AT MOST 1048576: true; the input reads as it did. -/
def blockGrowsUptoRow : OpenClaim := { program := "ytbmodfegcmaieaadoor", sum := "5e8bec3ba1e14b018458eb6cfd88ad3e3106274d242c2610d6c38336b949dbca", func := "sheaves/sheaveskeep.BlockGrows", spec := "blockGrows", unfollowed := true, recurses := true, named := ["sheaves/blake.firstWords", "sheaves/blake.orders", "sheaves/blake.lanes"], apart := false, laid := [("sheaves/blake.firstWords", laid_sheaves_blake_firstWords), ("sheaves/blake.orders", laid_sheaves_blake_orders), ("sheaves/blake.lanes", laid_sheaves_blake_lanes)], narrowed := true }
def BlockGrowsUptoSaid : Prop := blockGrowsUptoRow.holds Tryd.pinned (OpenSpec.upto blockGrowsSpec)

/-- 'sheaveskeep.BatchesBad', WHERE WHAT IT READS IS OF BULK AT MOST 1048576: true; the input reads as it did. -/
def batchesBadUptoRow : OpenClaim := { program := "ytbmodfegcmaieaadoor", sum := "5e8bec3ba1e14b018458eb6cfd88ad3e3106274d242c2610d6c38336b949dbca", func := "sheaves/sheaveskeep.BatchesBad", spec := "batchesBad", unfollowed := true, recurses := true, named := ["sheaves/blake.firstWords", "sheaves/blake.orders", "sheaves/blake.lanes"], apart := false, laid := [("sheaves/blake.firstWords", laid_sheaves_blake_firstWords), ("sheaves/blake.orders", laid_sheaves_blake_orders), ("sheaves/blake.lanes", laid_sheaves_blake_lanes)], narrowed := true }
def BatchesBadUptoSaid : Prop := batchesBadUptoRow.holds Tryd.pinned (OpenSpec.upto batchesBadSpec)

/-- 'sheaveskeep.HistoryOrder', WHERE WHAT IT READS IS OF BULK AT MOST 1048576: true; the input reads as it did. -/
def historyOrderUptoRow : OpenClaim := { program := "ytbmodfegcmaieaadoor", sum := "5e8bec3ba1e14b018458eb6cfd88ad3e3106274d242c2610d6c38336b949dbca", func := "sheaves/sheaveskeep.HistoryOrder", spec := "historyOrder", unfollowed := true, recurses := true, named := ["sheaves/blake.firstWords", "sheaves/blake.orders", "sheaves/blake.lanes"], apart := false, laid := [("sheaves/blake.firstWords", laid_sheaves_blake_firstWords), ("sheaves/blake.orders", laid_sheaves_blake_orders), ("sheaves/blake.lanes", laid_sheaves_blake_lanes)], narrowed := true }
def HistoryOrderUptoSaid : Prop := historyOrderUptoRow.holds Tryd.pinned (OpenSpec.upto historyOrderSpec)

end Rows
end Go.Proofs.YtbmodfegcmaieaaDoor
