/-
  NARROWER THAN 'FOR EVERY INPUT', by the rows' own cells (each row's printed sentence says how): WireBatchDigests: laid · WireHeaderDigests: laid · DigestMade: laid · HeaderBad: laid · BatchBad: laid.
  DERIVED. THE GIVEN ROWS OF THIS SEAT. 5 by the template 'for every input the law returns true; each argument reads behind the call as it read before'; 0 by the template 'total and deterministic' (their statements: YtcecjdoabnhcgaaDoorTotals.lean).
  GIVEN WITH THE SEED: the statements are not yours to turn. If you find one false, say at which input.
  Laid BY PROGRAM, IN A SANDBOX (cutbox-rows.mjs): the forced cells as the released guide's own fill.sh prints them over the translation 6e8ff4b8ab5f3c9c… (all of the seat's roots in one cut). By AI agents, Wed Nov 11 2026. No macro, syntax, notation, axiom, sorry.
-/
import Derived.Test.YtcecjdoabnhcgaaDoorChecked
import GoSem.Claim
import GoSem.ClaimJoined
import GoSem.ClaimMapViews
import Derived.JoinedTies
import Derived.KernelRfl
namespace Go.Proofs.YtcecjdoabnhcgaaDoor
/- THE CELL 'sum', in the pinned program and in every row, IS THE sha256 OF THE DUMP (.gsa) THAT YtcecjdoabnhcgaaDoorProg.lean LOADS. Nothing in Lean hashes anything: it is a label: what it is worth is what the hold of that sum in a sandbox is worth. -/
noncomputable def Tryd.pinned : Pinned := { name := "ytcecjdoabnhcgaadoor", sum := "6e8ff4b8ab5f3c9c5ebbbb4ad21a9a66fd26e13ec8d4df208e82b7edbdcd18c5", checked := Tryd.checked }
namespace Rows
def none {H : Type} : Left H := { results := [], args := [] }

/- WHAT THE LISTED PACKAGE-LEVEL VARIABLES READ AS WHEN THE CALL BEGINS. Each datum BY PROGRAM (the guide's laid-datum.mjs) off the statement by which the dump's own 'gosem.cut.vars' lays the variable. In a bare row this is a premise. The card (YtcecjdoabnhcgaaDoorCards.lean) ties it to the program's text. -/
def laid_sheaves_blake_firstWords {H : Type} : DataW H := .agg [.lit (.int .u32 1779033703), .lit (.int .u32 3144134277), .lit (.int .u32 1013904242), .lit (.int .u32 2773480762), .lit (.int .u32 1359893119), .lit (.int .u32 2600822924), .lit (.int .u32 528734635), .lit (.int .u32 1541459225)]
def laid_sheaves_blake_orders {H : Type} : DataW H := .agg [.agg [.lit (.int .u8 0), .lit (.int .u8 1), .lit (.int .u8 2), .lit (.int .u8 3), .lit (.int .u8 4), .lit (.int .u8 5), .lit (.int .u8 6), .lit (.int .u8 7), .lit (.int .u8 8), .lit (.int .u8 9), .lit (.int .u8 10), .lit (.int .u8 11), .lit (.int .u8 12), .lit (.int .u8 13), .lit (.int .u8 14), .lit (.int .u8 15)], .agg [.lit (.int .u8 14), .lit (.int .u8 10), .lit (.int .u8 4), .lit (.int .u8 8), .lit (.int .u8 9), .lit (.int .u8 15), .lit (.int .u8 13), .lit (.int .u8 6), .lit (.int .u8 1), .lit (.int .u8 12), .lit (.int .u8 0), .lit (.int .u8 2), .lit (.int .u8 11), .lit (.int .u8 7), .lit (.int .u8 5), .lit (.int .u8 3)], .agg [.lit (.int .u8 11), .lit (.int .u8 8), .lit (.int .u8 12), .lit (.int .u8 0), .lit (.int .u8 5), .lit (.int .u8 2), .lit (.int .u8 15), .lit (.int .u8 13), .lit (.int .u8 10), .lit (.int .u8 14), .lit (.int .u8 3), .lit (.int .u8 6), .lit (.int .u8 7), .lit (.int .u8 1), .lit (.int .u8 9), .lit (.int .u8 4)], .agg [.lit (.int .u8 7), .lit (.int .u8 9), .lit (.int .u8 3), .lit (.int .u8 1), .lit (.int .u8 13), .lit (.int .u8 12), .lit (.int .u8 11), .lit (.int .u8 14), .lit (.int .u8 2), .lit (.int .u8 6), .lit (.int .u8 5), .lit (.int .u8 10), .lit (.int .u8 4), .lit (.int .u8 0), .lit (.int .u8 15), .lit (.int .u8 8)], .agg [.lit (.int .u8 9), .lit (.int .u8 0), .lit (.int .u8 5), .lit (.int .u8 7), .lit (.int .u8 2), .lit (.int .u8 4), .lit (.int .u8 10), .lit (.int .u8 15), .lit (.int .u8 14), .lit (.int .u8 1), .lit (.int .u8 11), .lit (.int .u8 12), .lit (.int .u8 6), .lit (.int .u8 8), .lit (.int .u8 3), .lit (.int .u8 13)], .agg [.lit (.int .u8 2), .lit (.int .u8 12), .lit (.int .u8 6), .lit (.int .u8 10), .lit (.int .u8 0), .lit (.int .u8 11), .lit (.int .u8 8), .lit (.int .u8 3), .lit (.int .u8 4), .lit (.int .u8 13), .lit (.int .u8 7), .lit (.int .u8 5), .lit (.int .u8 15), .lit (.int .u8 14), .lit (.int .u8 1), .lit (.int .u8 9)], .agg [.lit (.int .u8 12), .lit (.int .u8 5), .lit (.int .u8 1), .lit (.int .u8 15), .lit (.int .u8 14), .lit (.int .u8 13), .lit (.int .u8 4), .lit (.int .u8 10), .lit (.int .u8 0), .lit (.int .u8 7), .lit (.int .u8 6), .lit (.int .u8 3), .lit (.int .u8 9), .lit (.int .u8 2), .lit (.int .u8 8), .lit (.int .u8 11)], .agg [.lit (.int .u8 13), .lit (.int .u8 11), .lit (.int .u8 7), .lit (.int .u8 14), .lit (.int .u8 12), .lit (.int .u8 1), .lit (.int .u8 3), .lit (.int .u8 9), .lit (.int .u8 5), .lit (.int .u8 0), .lit (.int .u8 15), .lit (.int .u8 4), .lit (.int .u8 8), .lit (.int .u8 6), .lit (.int .u8 2), .lit (.int .u8 10)], .agg [.lit (.int .u8 6), .lit (.int .u8 15), .lit (.int .u8 14), .lit (.int .u8 9), .lit (.int .u8 11), .lit (.int .u8 3), .lit (.int .u8 0), .lit (.int .u8 8), .lit (.int .u8 12), .lit (.int .u8 2), .lit (.int .u8 13), .lit (.int .u8 7), .lit (.int .u8 1), .lit (.int .u8 4), .lit (.int .u8 10), .lit (.int .u8 5)], .agg [.lit (.int .u8 10), .lit (.int .u8 2), .lit (.int .u8 8), .lit (.int .u8 4), .lit (.int .u8 7), .lit (.int .u8 6), .lit (.int .u8 1), .lit (.int .u8 5), .lit (.int .u8 15), .lit (.int .u8 11), .lit (.int .u8 9), .lit (.int .u8 14), .lit (.int .u8 3), .lit (.int .u8 12), .lit (.int .u8 13), .lit (.int .u8 0)]]
def laid_sheaves_blake_lanes {H : Type} : DataW H := .agg [.agg [.lit (.int .u8 0), .lit (.int .u8 4), .lit (.int .u8 8), .lit (.int .u8 12)], .agg [.lit (.int .u8 1), .lit (.int .u8 5), .lit (.int .u8 9), .lit (.int .u8 13)], .agg [.lit (.int .u8 2), .lit (.int .u8 6), .lit (.int .u8 10), .lit (.int .u8 14)], .agg [.lit (.int .u8 3), .lit (.int .u8 7), .lit (.int .u8 11), .lit (.int .u8 15)], .agg [.lit (.int .u8 0), .lit (.int .u8 5), .lit (.int .u8 10), .lit (.int .u8 15)], .agg [.lit (.int .u8 1), .lit (.int .u8 6), .lit (.int .u8 11), .lit (.int .u8 12)], .agg [.lit (.int .u8 2), .lit (.int .u8 7), .lit (.int .u8 8), .lit (.int .u8 13)], .agg [.lit (.int .u8 3), .lit (.int .u8 4), .lit (.int .u8 9), .lit (.int .u8 14)]]

/-- 'sheaveslaw.WireBatchDigests': WHATEVER THE INPUT: true; the input reads as it did. -/
def wireBatchDigestsSpec : ChangeSpec := { name := "wireBatchDigests", fn := fun _ => fun
  | [d] => { results := [.lit (.bool true)], args := [d] }
  | _ => none }
def wireBatchDigestsRow : OpenClaim := { program := "ytcecjdoabnhcgaadoor", sum := "6e8ff4b8ab5f3c9c5ebbbb4ad21a9a66fd26e13ec8d4df208e82b7edbdcd18c5", func := "sheaves/sheaveslaw.WireBatchDigests", spec := "wireBatchDigests", named := ["sheaves/blake.firstWords", "sheaves/blake.orders", "sheaves/blake.lanes"], apart := false, laid := [("sheaves/blake.firstWords", laid_sheaves_blake_firstWords), ("sheaves/blake.orders", laid_sheaves_blake_orders), ("sheaves/blake.lanes", laid_sheaves_blake_lanes)] }
def WireBatchDigestsSaid : Prop := wireBatchDigestsRow.holds Tryd.pinned (OpenSpec.ofChange wireBatchDigestsSpec)

/-- ITS FALSE NEIGHBOUR: 'it returns false'. Refute it at one input. -/
def wireBatchDigestsWrong : ChangeSpec := { name := "wireBatchDigests", fn := fun _ => fun
  | [d] => { results := [.lit (.bool false)], args := [d] }
  | _ => none }
def WireBatchDigestsWrongFalsely : Prop := wireBatchDigestsRow.holds Tryd.pinned (OpenSpec.ofChange wireBatchDigestsWrong)

/-- 'sheaveslaw.WireHeaderDigests': WHATEVER THE INPUT: true; the input reads as it did. -/
def wireHeaderDigestsSpec : ChangeSpec := { name := "wireHeaderDigests", fn := fun _ => fun
  | [d] => { results := [.lit (.bool true)], args := [d] }
  | _ => none }
def wireHeaderDigestsRow : OpenClaim := { program := "ytcecjdoabnhcgaadoor", sum := "6e8ff4b8ab5f3c9c5ebbbb4ad21a9a66fd26e13ec8d4df208e82b7edbdcd18c5", func := "sheaves/sheaveslaw.WireHeaderDigests", spec := "wireHeaderDigests", unfollowed := true, recurses := true, named := ["sheaves/blake.firstWords", "sheaves/blake.orders", "sheaves/blake.lanes"], apart := false, laid := [("sheaves/blake.firstWords", laid_sheaves_blake_firstWords), ("sheaves/blake.orders", laid_sheaves_blake_orders), ("sheaves/blake.lanes", laid_sheaves_blake_lanes)] }
def WireHeaderDigestsSaid : Prop := wireHeaderDigestsRow.holds Tryd.pinned (OpenSpec.ofChange wireHeaderDigestsSpec)

/-- ITS FALSE NEIGHBOUR: 'it returns false'. Refute it at one input. -/
def wireHeaderDigestsWrong : ChangeSpec := { name := "wireHeaderDigests", fn := fun _ => fun
  | [d] => { results := [.lit (.bool false)], args := [d] }
  | _ => none }
def WireHeaderDigestsWrongFalsely : Prop := wireHeaderDigestsRow.holds Tryd.pinned (OpenSpec.ofChange wireHeaderDigestsWrong)

/-- 'sheaveskeep.DigestMade': WHATEVER THE INPUT: true; the input reads as it did. -/
def digestMadeSpec : ChangeSpec := { name := "digestMade", fn := fun _ => fun
  | [d] => { results := [.lit (.bool true)], args := [d] }
  | _ => none }
def digestMadeRow : OpenClaim := { program := "ytcecjdoabnhcgaadoor", sum := "6e8ff4b8ab5f3c9c5ebbbb4ad21a9a66fd26e13ec8d4df208e82b7edbdcd18c5", func := "sheaves/sheaveskeep.DigestMade", spec := "digestMade", unfollowed := true, recurses := true, named := ["sheaves/blake.firstWords", "sheaves/blake.orders", "sheaves/blake.lanes"], apart := false, laid := [("sheaves/blake.firstWords", laid_sheaves_blake_firstWords), ("sheaves/blake.orders", laid_sheaves_blake_orders), ("sheaves/blake.lanes", laid_sheaves_blake_lanes)] }
def DigestMadeSaid : Prop := digestMadeRow.holds Tryd.pinned (OpenSpec.ofChange digestMadeSpec)

/-- ITS FALSE NEIGHBOUR: 'it returns false'. Refute it at one input. -/
def digestMadeWrong : ChangeSpec := { name := "digestMade", fn := fun _ => fun
  | [d] => { results := [.lit (.bool false)], args := [d] }
  | _ => none }
def DigestMadeWrongFalsely : Prop := digestMadeRow.holds Tryd.pinned (OpenSpec.ofChange digestMadeWrong)

/-- 'sheaveskeep.HeaderBad': WHATEVER THE INPUT: true; the input reads as it did. -/
def headerBadSpec : ChangeSpec := { name := "headerBad", fn := fun _ => fun
  | [d1, d2] => { results := [.lit (.bool true)], args := [d1, d2] }
  | _ => none }
def headerBadRow : OpenClaim := { program := "ytcecjdoabnhcgaadoor", sum := "6e8ff4b8ab5f3c9c5ebbbb4ad21a9a66fd26e13ec8d4df208e82b7edbdcd18c5", func := "sheaves/sheaveskeep.HeaderBad", spec := "headerBad", unfollowed := true, recurses := true, named := ["sheaves/blake.firstWords", "sheaves/blake.orders", "sheaves/blake.lanes"], apart := false, laid := [("sheaves/blake.firstWords", laid_sheaves_blake_firstWords), ("sheaves/blake.orders", laid_sheaves_blake_orders), ("sheaves/blake.lanes", laid_sheaves_blake_lanes)] }
def HeaderBadSaid : Prop := headerBadRow.holds Tryd.pinned (OpenSpec.ofChange headerBadSpec)

/-- ITS FALSE NEIGHBOUR: 'it returns false'. Refute it at one input. -/
def headerBadWrong : ChangeSpec := { name := "headerBad", fn := fun _ => fun
  | [d1, d2] => { results := [.lit (.bool false)], args := [d1, d2] }
  | _ => none }
def HeaderBadWrongFalsely : Prop := headerBadRow.holds Tryd.pinned (OpenSpec.ofChange headerBadWrong)

/-- 'sheaveskeep.BatchBad': WHATEVER THE INPUT: true; the input reads as it did. -/
def batchBadSpec : ChangeSpec := { name := "batchBad", fn := fun _ => fun
  | [d1, d2] => { results := [.lit (.bool true)], args := [d1, d2] }
  | _ => none }
def batchBadRow : OpenClaim := { program := "ytcecjdoabnhcgaadoor", sum := "6e8ff4b8ab5f3c9c5ebbbb4ad21a9a66fd26e13ec8d4df208e82b7edbdcd18c5", func := "sheaves/sheaveskeep.BatchBad", spec := "batchBad", named := ["sheaves/blake.firstWords", "sheaves/blake.orders", "sheaves/blake.lanes"], apart := false, laid := [("sheaves/blake.firstWords", laid_sheaves_blake_firstWords), ("sheaves/blake.orders", laid_sheaves_blake_orders), ("sheaves/blake.lanes", laid_sheaves_blake_lanes)] }
def BatchBadSaid : Prop := batchBadRow.holds Tryd.pinned (OpenSpec.ofChange batchBadSpec)

/-- ITS FALSE NEIGHBOUR: 'it returns false'. Refute it at one input. -/
def batchBadWrong : ChangeSpec := { name := "batchBad", fn := fun _ => fun
  | [d1, d2] => { results := [.lit (.bool false)], args := [d1, d2] }
  | _ => none }
def BatchBadWrongFalsely : Prop := batchBadRow.holds Tryd.pinned (OpenSpec.ofChange batchBadWrong)

/- THE SECOND FORM. 'bulk': how many values and letters a reading holds, each counted each time it is reached (what is shared counts as often as it is met; a slice's spare places count too). A statement '..UptoSaid' is the law's where the arguments, and the package variables that the reading takes, are together of bulk at most 1048576: NARROWER than '..Said'. Prove '..Said' where nothing that the law and all that it calls make is longer than what came in: it says more and counts as full. Else prove '..UptoSaid'. A law counts once. -/
mutual
def uptoBulk {H : Type} : DataW H → Nat
  | .lit (.string bytes) => bytes.length + 1
  | .lit _ => 1
  | .nil => 1
  | .ptr d => uptoBulk d + 1
  | .slice elems spare => uptoBulkAll elems + uptoBulkAll spare + 1
  | .agg parts => uptoBulkAll parts + 1
  | .iface _ d => uptoBulk d + 1
  | .map entries => uptoBulkEntries entries + 1
  | .held _ => 1
def uptoBulkAll {H : Type} : List (DataW H) → Nat
  | [] => 0
  | d :: r => uptoBulk d + uptoBulkAll r
def uptoBulkEntries {H : Type} : List (Lit × DataW H) → Nat
  | [] => 0
  | x :: r => uptoBulkEntry x + uptoBulkEntries r
def uptoBulkEntry {H : Type} : Lit × DataW H → Nat
  | (.string bytes, d) => bytes.length + uptoBulk d + 1
  | (_, d) => uptoBulk d + 1
 end
def uptoSmall : (H : Type) → List (DataW H) → Bool := fun _ ds => decide (uptoBulkAll ds ≤ 1048576)
def OpenSpec.upto (s : _root_.Go.ChangeSpec) : _root_.Go.OpenSpec := { _root_.Go.OpenSpec.ofChange s with cond := some uptoSmall }

/-- 'sheaveslaw.WireBatchDigests', WHERE WHAT IT READS IS OF BULK AT MOST 1048576: true; the input reads as it did. -/
def wireBatchDigestsUptoRow : OpenClaim := { program := "ytcecjdoabnhcgaadoor", sum := "6e8ff4b8ab5f3c9c5ebbbb4ad21a9a66fd26e13ec8d4df208e82b7edbdcd18c5", func := "sheaves/sheaveslaw.WireBatchDigests", spec := "wireBatchDigests", named := ["sheaves/blake.firstWords", "sheaves/blake.orders", "sheaves/blake.lanes"], apart := false, laid := [("sheaves/blake.firstWords", laid_sheaves_blake_firstWords), ("sheaves/blake.orders", laid_sheaves_blake_orders), ("sheaves/blake.lanes", laid_sheaves_blake_lanes)], narrowed := true }
def WireBatchDigestsUptoSaid : Prop := wireBatchDigestsUptoRow.holds Tryd.pinned (OpenSpec.upto wireBatchDigestsSpec)

/-- 'sheaveslaw.WireHeaderDigests', WHERE WHAT IT READS IS OF BULK AT MOST 1048576: true; the input reads as it did. -/
def wireHeaderDigestsUptoRow : OpenClaim := { program := "ytcecjdoabnhcgaadoor", sum := "6e8ff4b8ab5f3c9c5ebbbb4ad21a9a66fd26e13ec8d4df208e82b7edbdcd18c5", func := "sheaves/sheaveslaw.WireHeaderDigests", spec := "wireHeaderDigests", unfollowed := true, recurses := true, named := ["sheaves/blake.firstWords", "sheaves/blake.orders", "sheaves/blake.lanes"], apart := false, laid := [("sheaves/blake.firstWords", laid_sheaves_blake_firstWords), ("sheaves/blake.orders", laid_sheaves_blake_orders), ("sheaves/blake.lanes", laid_sheaves_blake_lanes)], narrowed := true }
def WireHeaderDigestsUptoSaid : Prop := wireHeaderDigestsUptoRow.holds Tryd.pinned (OpenSpec.upto wireHeaderDigestsSpec)

/-- 'sheaveskeep.DigestMade', WHERE WHAT IT READS IS OF BULK AT MOST 1048576: true; the input reads as it did. -/
def digestMadeUptoRow : OpenClaim := { program := "ytcecjdoabnhcgaadoor", sum := "6e8ff4b8ab5f3c9c5ebbbb4ad21a9a66fd26e13ec8d4df208e82b7edbdcd18c5", func := "sheaves/sheaveskeep.DigestMade", spec := "digestMade", unfollowed := true, recurses := true, named := ["sheaves/blake.firstWords", "sheaves/blake.orders", "sheaves/blake.lanes"], apart := false, laid := [("sheaves/blake.firstWords", laid_sheaves_blake_firstWords), ("sheaves/blake.orders", laid_sheaves_blake_orders), ("sheaves/blake.lanes", laid_sheaves_blake_lanes)], narrowed := true }
def DigestMadeUptoSaid : Prop := digestMadeUptoRow.holds Tryd.pinned (OpenSpec.upto digestMadeSpec)

/-- 'sheaveskeep.HeaderBad', WHERE WHAT IT READS IS OF BULK AT MOST 1048576: true; the input reads as it did. -/
def headerBadUptoRow : OpenClaim := { program := "ytcecjdoabnhcgaadoor", sum := "6e8ff4b8ab5f3c9c5ebbbb4ad21a9a66fd26e13ec8d4df208e82b7edbdcd18c5", func := "sheaves/sheaveskeep.HeaderBad", spec := "headerBad", unfollowed := true, recurses := true, named := ["sheaves/blake.firstWords", "sheaves/blake.orders", "sheaves/blake.lanes"], apart := false, laid := [("sheaves/blake.firstWords", laid_sheaves_blake_firstWords), ("sheaves/blake.orders", laid_sheaves_blake_orders), ("sheaves/blake.lanes", laid_sheaves_blake_lanes)], narrowed := true }
def HeaderBadUptoSaid : Prop := headerBadUptoRow.holds Tryd.pinned (OpenSpec.upto headerBadSpec)

/-- 'sheaveskeep.BatchBad', WHERE WHAT IT READS IS OF BULK AT MOST 1048576: true; the input reads as it did. -/
def batchBadUptoRow : OpenClaim := { program := "ytcecjdoabnhcgaadoor", sum := "6e8ff4b8ab5f3c9c5ebbbb4ad21a9a66fd26e13ec8d4df208e82b7edbdcd18c5", func := "sheaves/sheaveskeep.BatchBad", spec := "batchBad", named := ["sheaves/blake.firstWords", "sheaves/blake.orders", "sheaves/blake.lanes"], apart := false, laid := [("sheaves/blake.firstWords", laid_sheaves_blake_firstWords), ("sheaves/blake.orders", laid_sheaves_blake_orders), ("sheaves/blake.lanes", laid_sheaves_blake_lanes)], narrowed := true }
def BatchBadUptoSaid : Prop := batchBadUptoRow.holds Tryd.pinned (OpenSpec.upto batchBadSpec)

end Rows
end Go.Proofs.YtcecjdoabnhcgaaDoor
