/-
  No cell of these rows narrows 'for every input' (looked for: loops, veiled, ifaces, maps, wideKeys, modest, calm, conditions, laid).
  DERIVED. THE GIVEN ROWS OF THIS SEAT. 4 by the template 'for every input the law returns true; each argument reads behind the call as it read before'; 0 by the template 'total and deterministic' (their statements: YtplmploigfhkkaaTotals.lean).
  GIVEN WITH THE SEED: the statements are not yours to turn. If you find one false, say at which input.
  Laid BY PROGRAM, IN A SANDBOX (cutbox-rows.mjs): the forced cells as the released guide's own fill.sh prints them over the translation 08cc70a6a5a9f6cc… (all of the seat's roots in one cut). By AI agents, Wed Nov 11 2026. No macro, syntax, notation, axiom, sorry.
-/
import Derived.Test.YtplmploigfhkkaaChecked
import GoSem.Claim
import GoSem.ClaimJoined
import GoSem.ClaimMapViews
import Derived.JoinedTies
import Derived.KernelRfl
namespace Go.Proofs.Ytplmploigfhkkaa
/- THE CELL 'sum', in the pinned program and in every row, IS THE sha256 OF THE DUMP (.gsa) THAT YtplmploigfhkkaaProg.lean LOADS. Nothing in Lean hashes anything: it is a label: what it is worth is what the hold of that sum in a sandbox is worth. -/
noncomputable def Try.pinned : Pinned := { name := "ytplmploigfhkkaa", sum := "08cc70a6a5a9f6cc607bbc5a5816153f0bb937af33112803228f09e4fa6ff749", checked := Try.checked }
namespace Rows
def none {H : Type} : Left H := { results := [], args := [] }

/-- 'sheaveslaw.WireBatches': WHATEVER THE INPUT: true; the input reads as it did. -/
def wireBatchesSpec : ChangeSpec := { name := "wireBatches", fn := fun _ => fun
  | [d] => { results := [.lit (.bool true)], args := [d] }
  | _ => none }
def wireBatchesRow : OpenClaim := { program := "ytplmploigfhkkaa", sum := "08cc70a6a5a9f6cc607bbc5a5816153f0bb937af33112803228f09e4fa6ff749", func := "sheaves/sheaveslaw.WireBatches", spec := "wireBatches", apart := false }
def WireBatchesSaid : Prop := wireBatchesRow.holds Try.pinned (OpenSpec.ofChange wireBatchesSpec)

/-- ITS FALSE NEIGHBOUR: 'it returns false'. Refute it at one input. -/
def wireBatchesWrong : ChangeSpec := { name := "wireBatches", fn := fun _ => fun
  | [d] => { results := [.lit (.bool false)], args := [d] }
  | _ => none }
def WireBatchesWrongFalsely : Prop := wireBatchesRow.holds Try.pinned (OpenSpec.ofChange wireBatchesWrong)

/-- 'sheaveslaw.WireHeaders': WHATEVER THE INPUT: true; the input reads as it did. -/
def wireHeadersSpec : ChangeSpec := { name := "wireHeaders", fn := fun _ => fun
  | [d] => { results := [.lit (.bool true)], args := [d] }
  | _ => none }
def wireHeadersRow : OpenClaim := { program := "ytplmploigfhkkaa", sum := "08cc70a6a5a9f6cc607bbc5a5816153f0bb937af33112803228f09e4fa6ff749", func := "sheaves/sheaveslaw.WireHeaders", spec := "wireHeaders", unfollowed := true, recurses := true, apart := false }
def WireHeadersSaid : Prop := wireHeadersRow.holds Try.pinned (OpenSpec.ofChange wireHeadersSpec)

/-- ITS FALSE NEIGHBOUR: 'it returns false'. Refute it at one input. -/
def wireHeadersWrong : ChangeSpec := { name := "wireHeaders", fn := fun _ => fun
  | [d] => { results := [.lit (.bool false)], args := [d] }
  | _ => none }
def WireHeadersWrongFalsely : Prop := wireHeadersRow.holds Try.pinned (OpenSpec.ofChange wireHeadersWrong)

/-- 'sheaveslaw.WireCerts': WHATEVER THE INPUT: true; the input reads as it did. -/
def wireCertsSpec : ChangeSpec := { name := "wireCerts", fn := fun _ => fun
  | [d] => { results := [.lit (.bool true)], args := [d] }
  | _ => none }
def wireCertsRow : OpenClaim := { program := "ytplmploigfhkkaa", sum := "08cc70a6a5a9f6cc607bbc5a5816153f0bb937af33112803228f09e4fa6ff749", func := "sheaves/sheaveslaw.WireCerts", spec := "wireCerts", unfollowed := true, recurses := true, apart := false }
def WireCertsSaid : Prop := wireCertsRow.holds Try.pinned (OpenSpec.ofChange wireCertsSpec)

/-- ITS FALSE NEIGHBOUR: 'it returns false'. Refute it at one input. -/
def wireCertsWrong : ChangeSpec := { name := "wireCerts", fn := fun _ => fun
  | [d] => { results := [.lit (.bool false)], args := [d] }
  | _ => none }
def WireCertsWrongFalsely : Prop := wireCertsRow.holds Try.pinned (OpenSpec.ofChange wireCertsWrong)

/-- 'sheaveslaw.WireSlots': WHATEVER THE INPUT: true; the input reads as it did. -/
def wireSlotsSpec : ChangeSpec := { name := "wireSlots", fn := fun _ => fun
  | [d] => { results := [.lit (.bool true)], args := [d] }
  | _ => none }
def wireSlotsRow : OpenClaim := { program := "ytplmploigfhkkaa", sum := "08cc70a6a5a9f6cc607bbc5a5816153f0bb937af33112803228f09e4fa6ff749", func := "sheaves/sheaveslaw.WireSlots", spec := "wireSlots", apart := false }
def WireSlotsSaid : Prop := wireSlotsRow.holds Try.pinned (OpenSpec.ofChange wireSlotsSpec)

/-- ITS FALSE NEIGHBOUR: 'it returns false'. Refute it at one input. -/
def wireSlotsWrong : ChangeSpec := { name := "wireSlots", fn := fun _ => fun
  | [d] => { results := [.lit (.bool false)], args := [d] }
  | _ => none }
def WireSlotsWrongFalsely : Prop := wireSlotsRow.holds Try.pinned (OpenSpec.ofChange wireSlotsWrong)

/- THE SECOND FORM. 'bulk': how many values and letters a reading holds, each counted each time it is reached (what is shared counts as often as it is met; a slice's spare places count too). A statement '..UptoSaid' is the law's where the arguments, and the package variables that the reading takes, are together of bulk at most 1048576: NARROWER than '..Said'. Prove '..Said' where nothing that the law and all that it calls make is longer than what came in: it says more and counts as full. Else prove '..UptoSaid'. A law counts once. -/
mutual
def uptoBulk {H : Type} : DataW H → Nat
  | .lit (.string bytes) => bytes.length + 1
  | .lit _ => 1
  | .nil => 1
  | .ptr d => uptoBulk d + 1
  | .slice elems spare => uptoBulkAll elems + uptoBulkAll spare + 1
  | .agg parts => uptoBulkAll parts + 1
  | .iface _ d => uptoBulk d + 1
  | .map entries => uptoBulkEntries entries + 1
  | .held _ => 1
def uptoBulkAll {H : Type} : List (DataW H) → Nat
  | [] => 0
  | d :: r => uptoBulk d + uptoBulkAll r
def uptoBulkEntries {H : Type} : List (Lit × DataW H) → Nat
  | [] => 0
  | x :: r => uptoBulkEntry x + uptoBulkEntries r
def uptoBulkEntry {H : Type} : Lit × DataW H → Nat
  | (.string bytes, d) => bytes.length + uptoBulk d + 1
  | (_, d) => uptoBulk d + 1
 end
def uptoSmall : (H : Type) → List (DataW H) → Bool := fun _ ds => decide (uptoBulkAll ds ≤ 1048576)
def OpenSpec.upto (s : _root_.Go.ChangeSpec) : _root_.Go.OpenSpec := { _root_.Go.OpenSpec.ofChange s with cond := some uptoSmall }

/-- 'sheaveslaw.WireBatches', WHERE WHAT IT READS IS OF BULK AT MOST 1048576: true; the input reads as it did. -/
def wireBatchesUptoRow : OpenClaim := { program := "ytplmploigfhkkaa", sum := "08cc70a6a5a9f6cc607bbc5a5816153f0bb937af33112803228f09e4fa6ff749", func := "sheaves/sheaveslaw.WireBatches", spec := "wireBatches", apart := false, narrowed := true }
def WireBatchesUptoSaid : Prop := wireBatchesUptoRow.holds Try.pinned (OpenSpec.upto wireBatchesSpec)

/-- 'sheaveslaw.WireHeaders', WHERE WHAT IT READS IS OF BULK AT MOST 1048576: true; the input reads as it did. -/
def wireHeadersUptoRow : OpenClaim := { program := "ytplmploigfhkkaa", sum := "08cc70a6a5a9f6cc607bbc5a5816153f0bb937af33112803228f09e4fa6ff749", func := "sheaves/sheaveslaw.WireHeaders", spec := "wireHeaders", unfollowed := true, recurses := true, apart := false, narrowed := true }
def WireHeadersUptoSaid : Prop := wireHeadersUptoRow.holds Try.pinned (OpenSpec.upto wireHeadersSpec)

/-- 'sheaveslaw.WireCerts', WHERE WHAT IT READS IS OF BULK AT MOST 1048576: true; the input reads as it did. -/
def wireCertsUptoRow : OpenClaim := { program := "ytplmploigfhkkaa", sum := "08cc70a6a5a9f6cc607bbc5a5816153f0bb937af33112803228f09e4fa6ff749", func := "sheaves/sheaveslaw.WireCerts", spec := "wireCerts", unfollowed := true, recurses := true, apart := false, narrowed := true }
def WireCertsUptoSaid : Prop := wireCertsUptoRow.holds Try.pinned (OpenSpec.upto wireCertsSpec)

/-- 'sheaveslaw.WireSlots', WHERE WHAT IT READS IS OF BULK AT MOST 1048576: true; the input reads as it did. -/
def wireSlotsUptoRow : OpenClaim := { program := "ytplmploigfhkkaa", sum := "08cc70a6a5a9f6cc607bbc5a5816153f0bb937af33112803228f09e4fa6ff749", func := "sheaves/sheaveslaw.WireSlots", spec := "wireSlots", apart := false, narrowed := true }
def WireSlotsUptoSaid : Prop := wireSlotsUptoRow.holds Try.pinned (OpenSpec.upto wireSlotsSpec)

end Rows
end Go.Proofs.Ytplmploigfhkkaa
