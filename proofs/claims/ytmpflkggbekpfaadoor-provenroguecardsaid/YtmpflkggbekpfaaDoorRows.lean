/-
  NARROWER THAN 'FOR EVERY INPUT', by the rows' own cells (each row's printed sentence says how): SealProven: laid · ProvenAll: laid · ProvenJust: laid · ProvenForm: laid · ProvenRogue: laid.
  DERIVED. THE GIVEN ROWS OF THIS SEAT. 5 by the template 'for every input the law returns true; each argument reads behind the call as it read before'; 0 by the template 'total and deterministic' (their statements: YtmpflkggbekpfaaDoorTotals.lean).
  GIVEN WITH THE SEED: the statements are not yours to turn. If you find one false, say at which input.
  Laid BY PROGRAM, IN A SANDBOX (cutbox-rows.mjs): the forced cells as the released guide's own fill.sh prints them over the translation 461a6bb67e3ad413… (all of the seat's roots in one cut). By AI agents, Wed Nov 11 2026. No macro, syntax, notation, axiom, sorry.
-/
import Derived.Test.YtmpflkggbekpfaaDoorChecked
import GoSem.Claim
import GoSem.ClaimJoined
import GoSem.ClaimMapViews
import Derived.JoinedTies
import Derived.KernelRfl
namespace Go.Proofs.YtmpflkggbekpfaaDoor
/- THE CELL 'sum', in the pinned program and in every row, IS THE sha256 OF THE DUMP (.gsa) THAT YtmpflkggbekpfaaDoorProg.lean LOADS. Nothing in Lean hashes anything: it is a label: what it is worth is what the hold of that sum in a sandbox is worth. -/
noncomputable def Tryd.pinned : Pinned := { name := "ytmpflkggbekpfaadoor", sum := "461a6bb67e3ad41344a4553efd63475a72698b45e1a3211a9e8d2b5e034e73c0", checked := Tryd.checked }
namespace Rows
def none {H : Type} : Left H := { results := [], args := [] }

/- WHAT THE LISTED PACKAGE-LEVEL VARIABLES READ AS WHEN THE CALL BEGINS. Each datum BY PROGRAM (the guide's laid-datum.mjs) off the statement by which the dump's own 'gosem.cut.vars' lays the variable. In a bare row this is a premise. The card (YtmpflkggbekpfaaDoorCards.lean) ties it to the program's text. -/
def laid_sheaves_blake_firstWords {H : Type} : DataW H := .agg [.lit (.int .u32 1779033703), .lit (.int .u32 3144134277), .lit (.int .u32 1013904242), .lit (.int .u32 2773480762), .lit (.int .u32 1359893119), .lit (.int .u32 2600822924), .lit (.int .u32 528734635), .lit (.int .u32 1541459225)]
def laid_sheaves_blake_orders {H : Type} : DataW H := .agg [.agg [.lit (.int .u8 0), .lit (.int .u8 1), .lit (.int .u8 2), .lit (.int .u8 3), .lit (.int .u8 4), .lit (.int .u8 5), .lit (.int .u8 6), .lit (.int .u8 7), .lit (.int .u8 8), .lit (.int .u8 9), .lit (.int .u8 10), .lit (.int .u8 11), .lit (.int .u8 12), .lit (.int .u8 13), .lit (.int .u8 14), .lit (.int .u8 15)], .agg [.lit (.int .u8 14), .lit (.int .u8 10), .lit (.int .u8 4), .lit (.int .u8 8), .lit (.int .u8 9), .lit (.int .u8 15), .lit (.int .u8 13), .lit (.int .u8 6), .lit (.int .u8 1), .lit (.int .u8 12), .lit (.int .u8 0), .lit (.int .u8 2), .lit (.int .u8 11), .lit (.int .u8 7), .lit (.int .u8 5), .lit (.int .u8 3)], .agg [.lit (.int .u8 11), .lit (.int .u8 8), .lit (.int .u8 12), .lit (.int .u8 0), .lit (.int .u8 5), .lit (.int .u8 2), .lit (.int .u8 15), .lit (.int .u8 13), .lit (.int .u8 10), .lit (.int .u8 14), .lit (.int .u8 3), .lit (.int .u8 6), .lit (.int .u8 7), .lit (.int .u8 1), .lit (.int .u8 9), .lit (.int .u8 4)], .agg [.lit (.int .u8 7), .lit (.int .u8 9), .lit (.int .u8 3), .lit (.int .u8 1), .lit (.int .u8 13), .lit (.int .u8 12), .lit (.int .u8 11), .lit (.int .u8 14), .lit (.int .u8 2), .lit (.int .u8 6), .lit (.int .u8 5), .lit (.int .u8 10), .lit (.int .u8 4), .lit (.int .u8 0), .lit (.int .u8 15), .lit (.int .u8 8)], .agg [.lit (.int .u8 9), .lit (.int .u8 0), .lit (.int .u8 5), .lit (.int .u8 7), .lit (.int .u8 2), .lit (.int .u8 4), .lit (.int .u8 10), .lit (.int .u8 15), .lit (.int .u8 14), .lit (.int .u8 1), .lit (.int .u8 11), .lit (.int .u8 12), .lit (.int .u8 6), .lit (.int .u8 8), .lit (.int .u8 3), .lit (.int .u8 13)], .agg [.lit (.int .u8 2), .lit (.int .u8 12), .lit (.int .u8 6), .lit (.int .u8 10), .lit (.int .u8 0), .lit (.int .u8 11), .lit (.int .u8 8), .lit (.int .u8 3), .lit (.int .u8 4), .lit (.int .u8 13), .lit (.int .u8 7), .lit (.int .u8 5), .lit (.int .u8 15), .lit (.int .u8 14), .lit (.int .u8 1), .lit (.int .u8 9)], .agg [.lit (.int .u8 12), .lit (.int .u8 5), .lit (.int .u8 1), .lit (.int .u8 15), .lit (.int .u8 14), .lit (.int .u8 13), .lit (.int .u8 4), .lit (.int .u8 10), .lit (.int .u8 0), .lit (.int .u8 7), .lit (.int .u8 6), .lit (.int .u8 3), .lit (.int .u8 9), .lit (.int .u8 2), .lit (.int .u8 8), .lit (.int .u8 11)], .agg [.lit (.int .u8 13), .lit (.int .u8 11), .lit (.int .u8 7), .lit (.int .u8 14), .lit (.int .u8 12), .lit (.int .u8 1), .lit (.int .u8 3), .lit (.int .u8 9), .lit (.int .u8 5), .lit (.int .u8 0), .lit (.int .u8 15), .lit (.int .u8 4), .lit (.int .u8 8), .lit (.int .u8 6), .lit (.int .u8 2), .lit (.int .u8 10)], .agg [.lit (.int .u8 6), .lit (.int .u8 15), .lit (.int .u8 14), .lit (.int .u8 9), .lit (.int .u8 11), .lit (.int .u8 3), .lit (.int .u8 0), .lit (.int .u8 8), .lit (.int .u8 12), .lit (.int .u8 2), .lit (.int .u8 13), .lit (.int .u8 7), .lit (.int .u8 1), .lit (.int .u8 4), .lit (.int .u8 10), .lit (.int .u8 5)], .agg [.lit (.int .u8 10), .lit (.int .u8 2), .lit (.int .u8 8), .lit (.int .u8 4), .lit (.int .u8 7), .lit (.int .u8 6), .lit (.int .u8 1), .lit (.int .u8 5), .lit (.int .u8 15), .lit (.int .u8 11), .lit (.int .u8 9), .lit (.int .u8 14), .lit (.int .u8 3), .lit (.int .u8 12), .lit (.int .u8 13), .lit (.int .u8 0)]]
def laid_sheaves_blake_lanes {H : Type} : DataW H := .agg [.agg [.lit (.int .u8 0), .lit (.int .u8 4), .lit (.int .u8 8), .lit (.int .u8 12)], .agg [.lit (.int .u8 1), .lit (.int .u8 5), .lit (.int .u8 9), .lit (.int .u8 13)], .agg [.lit (.int .u8 2), .lit (.int .u8 6), .lit (.int .u8 10), .lit (.int .u8 14)], .agg [.lit (.int .u8 3), .lit (.int .u8 7), .lit (.int .u8 11), .lit (.int .u8 15)], .agg [.lit (.int .u8 0), .lit (.int .u8 5), .lit (.int .u8 10), .lit (.int .u8 15)], .agg [.lit (.int .u8 1), .lit (.int .u8 6), .lit (.int .u8 11), .lit (.int .u8 12)], .agg [.lit (.int .u8 2), .lit (.int .u8 7), .lit (.int .u8 8), .lit (.int .u8 13)], .agg [.lit (.int .u8 3), .lit (.int .u8 4), .lit (.int .u8 9), .lit (.int .u8 14)]]

/-- 'sheaveslaw.SealProven': WHATEVER THE INPUT: true; the input reads as it did. -/
def sealProvenSpec : ChangeSpec := { name := "sealProven", fn := fun _ => fun
  | [d1, d2, d3] => { results := [.lit (.bool true)], args := [d1, d2, d3] }
  | _ => none }
def sealProvenRow : OpenClaim := { program := "ytmpflkggbekpfaadoor", sum := "461a6bb67e3ad41344a4553efd63475a72698b45e1a3211a9e8d2b5e034e73c0", func := "sheaves/sheaveslaw.SealProven", spec := "sealProven", unfollowed := true, recurses := true, named := ["sheaves/blake.firstWords", "sheaves/blake.orders", "sheaves/blake.lanes"], plainKeys := false, apart := false, laid := [("sheaves/blake.firstWords", laid_sheaves_blake_firstWords), ("sheaves/blake.orders", laid_sheaves_blake_orders), ("sheaves/blake.lanes", laid_sheaves_blake_lanes)] }
def SealProvenSaid : Prop := sealProvenRow.holds Tryd.pinned (OpenSpec.ofChange sealProvenSpec)

/-- ITS FALSE NEIGHBOUR: 'it returns false'. Refute it at one input. -/
def sealProvenWrong : ChangeSpec := { name := "sealProven", fn := fun _ => fun
  | [d1, d2, d3] => { results := [.lit (.bool false)], args := [d1, d2, d3] }
  | _ => none }
def SealProvenWrongFalsely : Prop := sealProvenRow.holds Tryd.pinned (OpenSpec.ofChange sealProvenWrong)

/-- 'sheaveskeep.ProvenAll': WHATEVER THE INPUT: true; the input reads as it did. -/
def provenAllSpec : ChangeSpec := { name := "provenAll", fn := fun _ => fun
  | [d1, d2] => { results := [.lit (.bool true)], args := [d1, d2] }
  | _ => none }
def provenAllRow : OpenClaim := { program := "ytmpflkggbekpfaadoor", sum := "461a6bb67e3ad41344a4553efd63475a72698b45e1a3211a9e8d2b5e034e73c0", func := "sheaves/sheaveskeep.ProvenAll", spec := "provenAll", unfollowed := true, recurses := true, named := ["sheaves/blake.firstWords", "sheaves/blake.orders", "sheaves/blake.lanes"], plainKeys := false, apart := false, laid := [("sheaves/blake.firstWords", laid_sheaves_blake_firstWords), ("sheaves/blake.orders", laid_sheaves_blake_orders), ("sheaves/blake.lanes", laid_sheaves_blake_lanes)] }
def ProvenAllSaid : Prop := provenAllRow.holds Tryd.pinned (OpenSpec.ofChange provenAllSpec)

/-- ITS FALSE NEIGHBOUR: 'it returns false'. Refute it at one input. -/
def provenAllWrong : ChangeSpec := { name := "provenAll", fn := fun _ => fun
  | [d1, d2] => { results := [.lit (.bool false)], args := [d1, d2] }
  | _ => none }
def ProvenAllWrongFalsely : Prop := provenAllRow.holds Tryd.pinned (OpenSpec.ofChange provenAllWrong)

/-- 'sheaveskeep.ProvenJust': WHATEVER THE INPUT: true; the input reads as it did. -/
def provenJustSpec : ChangeSpec := { name := "provenJust", fn := fun _ => fun
  | [d1, d2] => { results := [.lit (.bool true)], args := [d1, d2] }
  | _ => none }
def provenJustRow : OpenClaim := { program := "ytmpflkggbekpfaadoor", sum := "461a6bb67e3ad41344a4553efd63475a72698b45e1a3211a9e8d2b5e034e73c0", func := "sheaves/sheaveskeep.ProvenJust", spec := "provenJust", unfollowed := true, recurses := true, named := ["sheaves/blake.firstWords", "sheaves/blake.orders", "sheaves/blake.lanes"], plainKeys := false, apart := false, laid := [("sheaves/blake.firstWords", laid_sheaves_blake_firstWords), ("sheaves/blake.orders", laid_sheaves_blake_orders), ("sheaves/blake.lanes", laid_sheaves_blake_lanes)] }
def ProvenJustSaid : Prop := provenJustRow.holds Tryd.pinned (OpenSpec.ofChange provenJustSpec)

/-- ITS FALSE NEIGHBOUR: 'it returns false'. Refute it at one input. -/
def provenJustWrong : ChangeSpec := { name := "provenJust", fn := fun _ => fun
  | [d1, d2] => { results := [.lit (.bool false)], args := [d1, d2] }
  | _ => none }
def ProvenJustWrongFalsely : Prop := provenJustRow.holds Tryd.pinned (OpenSpec.ofChange provenJustWrong)

/-- 'sheaveskeep.ProvenForm': WHATEVER THE INPUT: true; the input reads as it did. -/
def provenFormSpec : ChangeSpec := { name := "provenForm", fn := fun _ => fun
  | [d1, d2] => { results := [.lit (.bool true)], args := [d1, d2] }
  | _ => none }
def provenFormRow : OpenClaim := { program := "ytmpflkggbekpfaadoor", sum := "461a6bb67e3ad41344a4553efd63475a72698b45e1a3211a9e8d2b5e034e73c0", func := "sheaves/sheaveskeep.ProvenForm", spec := "provenForm", unfollowed := true, recurses := true, named := ["sheaves/blake.firstWords", "sheaves/blake.orders", "sheaves/blake.lanes"], plainKeys := false, apart := false, laid := [("sheaves/blake.firstWords", laid_sheaves_blake_firstWords), ("sheaves/blake.orders", laid_sheaves_blake_orders), ("sheaves/blake.lanes", laid_sheaves_blake_lanes)] }
def ProvenFormSaid : Prop := provenFormRow.holds Tryd.pinned (OpenSpec.ofChange provenFormSpec)

/-- ITS FALSE NEIGHBOUR: 'it returns false'. Refute it at one input. -/
def provenFormWrong : ChangeSpec := { name := "provenForm", fn := fun _ => fun
  | [d1, d2] => { results := [.lit (.bool false)], args := [d1, d2] }
  | _ => none }
def ProvenFormWrongFalsely : Prop := provenFormRow.holds Tryd.pinned (OpenSpec.ofChange provenFormWrong)

/-- 'sheaveskeep.ProvenRogue': WHATEVER THE INPUT: true; the input reads as it did. -/
def provenRogueSpec : ChangeSpec := { name := "provenRogue", fn := fun _ => fun
  | [d1, d2] => { results := [.lit (.bool true)], args := [d1, d2] }
  | _ => none }
def provenRogueRow : OpenClaim := { program := "ytmpflkggbekpfaadoor", sum := "461a6bb67e3ad41344a4553efd63475a72698b45e1a3211a9e8d2b5e034e73c0", func := "sheaves/sheaveskeep.ProvenRogue", spec := "provenRogue", unfollowed := true, recurses := true, named := ["sheaves/blake.firstWords", "sheaves/blake.orders", "sheaves/blake.lanes"], plainKeys := false, apart := false, laid := [("sheaves/blake.firstWords", laid_sheaves_blake_firstWords), ("sheaves/blake.orders", laid_sheaves_blake_orders), ("sheaves/blake.lanes", laid_sheaves_blake_lanes)] }
def ProvenRogueSaid : Prop := provenRogueRow.holds Tryd.pinned (OpenSpec.ofChange provenRogueSpec)

/-- ITS FALSE NEIGHBOUR: 'it returns false'. Refute it at one input. -/
def provenRogueWrong : ChangeSpec := { name := "provenRogue", fn := fun _ => fun
  | [d1, d2] => { results := [.lit (.bool false)], args := [d1, d2] }
  | _ => none }
def ProvenRogueWrongFalsely : Prop := provenRogueRow.holds Tryd.pinned (OpenSpec.ofChange provenRogueWrong)

/- THE SECOND FORM. 'bulk': how many values and letters a reading holds, each counted each time it is reached (what is shared counts as often as it is met; a slice's spare places count too). A statement '..UptoSaid' is the law's where the arguments, and the package variables that the reading takes, are together of bulk at most 1048576: NARROWER than '..Said'. Prove '..Said' where nothing that the law and all that it calls make is longer than what came in: it says more and counts as full. Else prove '..UptoSaid'. A law counts once. -/
mutual
def uptoBulk {H : Type} : DataW H → Nat
  | .lit (.string bytes) => bytes.length + 1
  | .lit _ => 1
  | .nil => 1
  | .ptr d => uptoBulk d + 1
  | .slice elems spare => uptoBulkAll elems + uptoBulkAll spare + 1
  | .agg parts => uptoBulkAll parts + 1
  | .iface _ d => uptoBulk d + 1
  | .map entries => uptoBulkEntries entries + 1
  | .held _ => 1
def uptoBulkAll {H : Type} : List (DataW H) → Nat
  | [] => 0
  | d :: r => uptoBulk d + uptoBulkAll r
def uptoBulkEntries {H : Type} : List (Lit × DataW H) → Nat
  | [] => 0
  | x :: r => uptoBulkEntry x + uptoBulkEntries r
def uptoBulkEntry {H : Type} : Lit × DataW H → Nat
  | (.string bytes, d) => bytes.length + uptoBulk d + 1
  | (_, d) => uptoBulk d + 1
 end
def uptoSmall : (H : Type) → List (DataW H) → Bool := fun _ ds => decide (uptoBulkAll ds ≤ 1048576)
def OpenSpec.upto (s : _root_.Go.ChangeSpec) : _root_.Go.OpenSpec := { _root_.Go.OpenSpec.ofChange s with cond := some uptoSmall }

/-- 'sheaveslaw.SealProven', WHERE WHAT IT READS IS OF BULK AT MOST 1048576: true; the input reads as it did. -/
def sealProvenUptoRow : OpenClaim := { program := "ytmpflkggbekpfaadoor", sum := "461a6bb67e3ad41344a4553efd63475a72698b45e1a3211a9e8d2b5e034e73c0", func := "sheaves/sheaveslaw.SealProven", spec := "sealProven", unfollowed := true, recurses := true, named := ["sheaves/blake.firstWords", "sheaves/blake.orders", "sheaves/blake.lanes"], plainKeys := false, apart := false, laid := [("sheaves/blake.firstWords", laid_sheaves_blake_firstWords), ("sheaves/blake.orders", laid_sheaves_blake_orders), ("sheaves/blake.lanes", laid_sheaves_blake_lanes)], narrowed := true }
def SealProvenUptoSaid : Prop := sealProvenUptoRow.holds Tryd.pinned (OpenSpec.upto sealProvenSpec)

/-- 'sheaveskeep.ProvenAll', WHERE WHAT IT READS IS OF BULK AT MOST 1048576: true; the input reads as it did. -/
def provenAllUptoRow : OpenClaim := { program := "ytmpflkggbekpfaadoor", sum := "461a6bb67e3ad41344a4553efd63475a72698b45e1a3211a9e8d2b5e034e73c0", func := "sheaves/sheaveskeep.ProvenAll", spec := "provenAll", unfollowed := true, recurses := true, named := ["sheaves/blake.firstWords", "sheaves/blake.orders", "sheaves/blake.lanes"], plainKeys := false, apart := false, laid := [("sheaves/blake.firstWords", laid_sheaves_blake_firstWords), ("sheaves/blake.orders", laid_sheaves_blake_orders), ("sheaves/blake.lanes", laid_sheaves_blake_lanes)], narrowed := true }
def ProvenAllUptoSaid : Prop := provenAllUptoRow.holds Tryd.pinned (OpenSpec.upto provenAllSpec)

/-- 'sheaveskeep.ProvenJust', WHERE WHAT IT READS IS OF BULK AT MOST 1048576: true; the input reads as it did. -/
def provenJustUptoRow : OpenClaim := { program := "ytmpflkggbekpfaadoor", sum := "461a6bb67e3ad41344a4553efd63475a72698b45e1a3211a9e8d2b5e034e73c0", func := "sheaves/sheaveskeep.ProvenJust", spec := "provenJust", unfollowed := true, recurses := true, named := ["sheaves/blake.firstWords", "sheaves/blake.orders", "sheaves/blake.lanes"], plainKeys := false, apart := false, laid := [("sheaves/blake.firstWords", laid_sheaves_blake_firstWords), ("sheaves/blake.orders", laid_sheaves_blake_orders), ("sheaves/blake.lanes", laid_sheaves_blake_lanes)], narrowed := true }
def ProvenJustUptoSaid : Prop := provenJustUptoRow.holds Tryd.pinned (OpenSpec.upto provenJustSpec)

/-- 'sheaveskeep.ProvenForm', WHERE WHAT IT READS IS OF BULK AT MOST 1048576: true; the input reads as it did. -/
def provenFormUptoRow : OpenClaim := { program := "ytmpflkggbekpfaadoor", sum := "461a6bb67e3ad41344a4553efd63475a72698b45e1a3211a9e8d2b5e034e73c0", func := "sheaves/sheaveskeep.ProvenForm", spec := "provenForm", unfollowed := true, recurses := true, named := ["sheaves/blake.firstWords", "sheaves/blake.orders", "sheaves/blake.lanes"], plainKeys := false, apart := false, laid := [("sheaves/blake.firstWords", laid_sheaves_blake_firstWords), ("sheaves/blake.orders", laid_sheaves_blake_orders), ("sheaves/blake.lanes", laid_sheaves_blake_lanes)], narrowed := true }
def ProvenFormUptoSaid : Prop := provenFormUptoRow.holds Tryd.pinned (OpenSpec.upto provenFormSpec)

/-- 'sheaveskeep.ProvenRogue', WHERE WHAT IT READS IS OF BULK AT MOST 1048576: true; the input reads as it did. -/
def provenRogueUptoRow : OpenClaim := { program := "ytmpflkggbekpfaadoor", sum := "461a6bb67e3ad41344a4553efd63475a72698b45e1a3211a9e8d2b5e034e73c0", func := "sheaves/sheaveskeep.ProvenRogue", spec := "provenRogue", unfollowed := true, recurses := true, named := ["sheaves/blake.firstWords", "sheaves/blake.orders", "sheaves/blake.lanes"], plainKeys := false, apart := false, laid := [("sheaves/blake.firstWords", laid_sheaves_blake_firstWords), ("sheaves/blake.orders", laid_sheaves_blake_orders), ("sheaves/blake.lanes", laid_sheaves_blake_lanes)], narrowed := true }
def ProvenRogueUptoSaid : Prop := provenRogueUptoRow.holds Tryd.pinned (OpenSpec.upto provenRogueSpec)

end Rows
end Go.Proofs.YtmpflkggbekpfaaDoor
