/-
  No cell of these rows narrows 'for every input' (looked for: loops, veiled, ifaces, maps, wideKeys, modest, calm, conditions, laid).
  DERIVED. THE GIVEN ROWS OF THIS SEAT. 5 by the template 'for every input the law returns true; each argument reads behind the call as it read before'; 0 by the template 'total and deterministic' (their statements: YthijfhbmkpfnkaaTotals.lean).
  GIVEN WITH THE SEED: the statements are not yours to turn. If you find one false, say at which input.
  Laid BY PROGRAM, IN A SANDBOX (cutbox-rows.mjs): the forced cells as the released guide's own fill.sh prints them over the translation 5c2456a5179ed321… (all of the seat's roots in one cut). By AI agents, Wed Nov 11 2026. No macro, syntax, notation, axiom, sorry.
-/
import Derived.Test.YthijfhbmkpfnkaaChecked
import GoSem.Claim
import GoSem.ClaimJoined
import GoSem.ClaimMapViews
import Derived.JoinedTies
import Derived.KernelRfl
namespace Go.Proofs.Ythijfhbmkpfnkaa
/- THE CELL 'sum', in the pinned program and in every row, IS THE sha256 OF THE DUMP (.gsa) THAT YthijfhbmkpfnkaaProg.lean LOADS. Nothing in Lean hashes anything: it is a label: what it is worth is what the hold of that sum in a sandbox is worth. -/
noncomputable def Try.pinned : Pinned := { name := "ythijfhbmkpfnkaa", sum := "5c2456a5179ed321a4dfd1a1b22ecdf5a524347093dda78ca49b9bd361f0ef72", checked := Try.checked }
namespace Rows
def none {H : Type} : Left H := { results := [], args := [] }

/-- 'sheaveskeep.MessageBack': WHATEVER THE INPUT: true; the input reads as it did. -/
def messageBackSpec : ChangeSpec := { name := "messageBack", fn := fun _ => fun
  | [d1, d2] => { results := [.lit (.bool true)], args := [d1, d2] }
  | _ => none }
def messageBackRow : OpenClaim := { program := "ythijfhbmkpfnkaa", sum := "5c2456a5179ed321a4dfd1a1b22ecdf5a524347093dda78ca49b9bd361f0ef72", func := "sheaves/sheaveskeep.MessageBack", spec := "messageBack", unfollowed := true, recurses := true, apart := false }
def MessageBackSaid : Prop := messageBackRow.holds Try.pinned (OpenSpec.ofChange messageBackSpec)

/-- ITS FALSE NEIGHBOUR: 'it returns false'. Refute it at one input. -/
def messageBackWrong : ChangeSpec := { name := "messageBack", fn := fun _ => fun
  | [d1, d2] => { results := [.lit (.bool false)], args := [d1, d2] }
  | _ => none }
def MessageBackWrongFalsely : Prop := messageBackRow.holds Try.pinned (OpenSpec.ofChange messageBackWrong)

/-- 'sheaveskeep.MessageFixed': WHATEVER THE INPUT: true; the input reads as it did. -/
def messageFixedSpec : ChangeSpec := { name := "messageFixed", fn := fun _ => fun
  | [d] => { results := [.lit (.bool true)], args := [d] }
  | _ => none }
def messageFixedRow : OpenClaim := { program := "ythijfhbmkpfnkaa", sum := "5c2456a5179ed321a4dfd1a1b22ecdf5a524347093dda78ca49b9bd361f0ef72", func := "sheaves/sheaveskeep.MessageFixed", spec := "messageFixed", unfollowed := true, recurses := true, apart := false }
def MessageFixedSaid : Prop := messageFixedRow.holds Try.pinned (OpenSpec.ofChange messageFixedSpec)

/-- ITS FALSE NEIGHBOUR: 'it returns false'. Refute it at one input. -/
def messageFixedWrong : ChangeSpec := { name := "messageFixed", fn := fun _ => fun
  | [d] => { results := [.lit (.bool false)], args := [d] }
  | _ => none }
def MessageFixedWrongFalsely : Prop := messageFixedRow.holds Try.pinned (OpenSpec.ofChange messageFixedWrong)

/-- 'sheaveskeep.MessageTorn': WHATEVER THE INPUT: true; the input reads as it did. -/
def messageTornSpec : ChangeSpec := { name := "messageTorn", fn := fun _ => fun
  | [d1, d2] => { results := [.lit (.bool true)], args := [d1, d2] }
  | _ => none }
def messageTornRow : OpenClaim := { program := "ythijfhbmkpfnkaa", sum := "5c2456a5179ed321a4dfd1a1b22ecdf5a524347093dda78ca49b9bd361f0ef72", func := "sheaves/sheaveskeep.MessageTorn", spec := "messageTorn", unfollowed := true, recurses := true, apart := false }
def MessageTornSaid : Prop := messageTornRow.holds Try.pinned (OpenSpec.ofChange messageTornSpec)

/-- ITS FALSE NEIGHBOUR: 'it returns false'. Refute it at one input. -/
def messageTornWrong : ChangeSpec := { name := "messageTorn", fn := fun _ => fun
  | [d1, d2] => { results := [.lit (.bool false)], args := [d1, d2] }
  | _ => none }
def MessageTornWrongFalsely : Prop := messageTornRow.holds Try.pinned (OpenSpec.ofChange messageTornWrong)

/-- 'sheaveskeep.MessageMore': WHATEVER THE INPUT: true; the input reads as it did. -/
def messageMoreSpec : ChangeSpec := { name := "messageMore", fn := fun _ => fun
  | [d1, d2] => { results := [.lit (.bool true)], args := [d1, d2] }
  | _ => none }
def messageMoreRow : OpenClaim := { program := "ythijfhbmkpfnkaa", sum := "5c2456a5179ed321a4dfd1a1b22ecdf5a524347093dda78ca49b9bd361f0ef72", func := "sheaves/sheaveskeep.MessageMore", spec := "messageMore", unfollowed := true, recurses := true, apart := false }
def MessageMoreSaid : Prop := messageMoreRow.holds Try.pinned (OpenSpec.ofChange messageMoreSpec)

/-- ITS FALSE NEIGHBOUR: 'it returns false'. Refute it at one input. -/
def messageMoreWrong : ChangeSpec := { name := "messageMore", fn := fun _ => fun
  | [d1, d2] => { results := [.lit (.bool false)], args := [d1, d2] }
  | _ => none }
def MessageMoreWrongFalsely : Prop := messageMoreRow.holds Try.pinned (OpenSpec.ofChange messageMoreWrong)

/-- 'sheaveskeep.KindBad': WHATEVER THE INPUT: true; the input reads as it did. -/
def kindBadSpec : ChangeSpec := { name := "kindBad", fn := fun _ => fun
  | [d1, d2] => { results := [.lit (.bool true)], args := [d1, d2] }
  | _ => none }
def kindBadRow : OpenClaim := { program := "ythijfhbmkpfnkaa", sum := "5c2456a5179ed321a4dfd1a1b22ecdf5a524347093dda78ca49b9bd361f0ef72", func := "sheaves/sheaveskeep.KindBad", spec := "kindBad", unfollowed := true, recurses := true, apart := false }
def KindBadSaid : Prop := kindBadRow.holds Try.pinned (OpenSpec.ofChange kindBadSpec)

/-- ITS FALSE NEIGHBOUR: 'it returns false'. Refute it at one input. -/
def kindBadWrong : ChangeSpec := { name := "kindBad", fn := fun _ => fun
  | [d1, d2] => { results := [.lit (.bool false)], args := [d1, d2] }
  | _ => none }
def KindBadWrongFalsely : Prop := kindBadRow.holds Try.pinned (OpenSpec.ofChange kindBadWrong)

/- THE SECOND FORM. 'bulk': how many values and letters a reading holds, each counted each time it is reached (what is shared counts as often as it is met; a slice's spare places count too). A statement '..UptoSaid' is the law's where the arguments, and the package variables that the reading takes, are together of bulk at most 1048576: NARROWER than '..Said'. Prove '..Said' where nothing that the law and all that it calls make is longer than what came in: it says more and counts as full. Else prove '..UptoSaid'. A law counts once. -/
mutual
def uptoBulk {H : Type} : DataW H → Nat
  | .lit (.string bytes) => bytes.length + 1
  | .lit _ => 1
  | .nil => 1
  | .ptr d => uptoBulk d + 1
  | .slice elems spare => uptoBulkAll elems + uptoBulkAll spare + 1
  | .agg parts => uptoBulkAll parts + 1
  | .iface _ d => uptoBulk d + 1
  | .map entries => uptoBulkEntries entries + 1
  | .held _ => 1
def uptoBulkAll {H : Type} : List (DataW H) → Nat
  | [] => 0
  | d :: r => uptoBulk d + uptoBulkAll r
def uptoBulkEntries {H : Type} : List (Lit × DataW H) → Nat
  | [] => 0
  | x :: r => uptoBulkEntry x + uptoBulkEntries r
def uptoBulkEntry {H : Type} : Lit × DataW H → Nat
  | (.string bytes, d) => bytes.length + uptoBulk d + 1
  | (_, d) => uptoBulk d + 1
 end
def uptoSmall : (H : Type) → List (DataW H) → Bool := fun _ ds => decide (uptoBulkAll ds ≤ 1048576)
def OpenSpec.upto (s : _root_.Go.ChangeSpec) : _root_.Go.OpenSpec := { _root_.Go.OpenSpec.ofChange s with cond := some uptoSmall }

/-- 'sheaveskeep.MessageBack', WHERE WHAT IT READS IS OF BULK AT MOST 1048576: true; the input reads as it did. -/
def messageBackUptoRow : OpenClaim := { program := "ythijfhbmkpfnkaa", sum := "5c2456a5179ed321a4dfd1a1b22ecdf5a524347093dda78ca49b9bd361f0ef72", func := "sheaves/sheaveskeep.MessageBack", spec := "messageBack", unfollowed := true, recurses := true, apart := false, narrowed := true }
def MessageBackUptoSaid : Prop := messageBackUptoRow.holds Try.pinned (OpenSpec.upto messageBackSpec)

/-- 'sheaveskeep.MessageFixed', WHERE WHAT IT READS IS OF BULK AT MOST 1048576: true; the input reads as it did. -/
def messageFixedUptoRow : OpenClaim := { program := "ythijfhbmkpfnkaa", sum := "5c2456a5179ed321a4dfd1a1b22ecdf5a524347093dda78ca49b9bd361f0ef72", func := "sheaves/sheaveskeep.MessageFixed", spec := "messageFixed", unfollowed := true, recurses := true, apart := false, narrowed := true }
def MessageFixedUptoSaid : Prop := messageFixedUptoRow.holds Try.pinned (OpenSpec.upto messageFixedSpec)

/-- 'sheaveskeep.MessageTorn', WHERE WHAT IT READS IS OF BULK AT MOST 1048576: true; the input reads as it did. -/
def messageTornUptoRow : OpenClaim := { program := "ythijfhbmkpfnkaa", sum := "5c2456a5179ed321a4dfd1a1b22ecdf5a524347093dda78ca49b9bd361f0ef72", func := "sheaves/sheaveskeep.MessageTorn", spec := "messageTorn", unfollowed := true, recurses := true, apart := false, narrowed := true }
def MessageTornUptoSaid : Prop := messageTornUptoRow.holds Try.pinned (OpenSpec.upto messageTornSpec)

/-- 'sheaveskeep.MessageMore', WHERE WHAT IT READS IS OF BULK AT MOST 1048576: true; the input reads as it did. -/
def messageMoreUptoRow : OpenClaim := { program := "ythijfhbmkpfnkaa", sum := "5c2456a5179ed321a4dfd1a1b22ecdf5a524347093dda78ca49b9bd361f0ef72", func := "sheaves/sheaveskeep.MessageMore", spec := "messageMore", unfollowed := true, recurses := true, apart := false, narrowed := true }
def MessageMoreUptoSaid : Prop := messageMoreUptoRow.holds Try.pinned (OpenSpec.upto messageMoreSpec)

/-- 'sheaveskeep.KindBad', WHERE WHAT IT READS IS OF BULK AT MOST 1048576: true; the input reads as it did. -/
def kindBadUptoRow : OpenClaim := { program := "ythijfhbmkpfnkaa", sum := "5c2456a5179ed321a4dfd1a1b22ecdf5a524347093dda78ca49b9bd361f0ef72", func := "sheaves/sheaveskeep.KindBad", spec := "kindBad", unfollowed := true, recurses := true, apart := false, narrowed := true }
def KindBadUptoSaid : Prop := kindBadUptoRow.holds Try.pinned (OpenSpec.upto kindBadSpec)

end Rows
end Go.Proofs.Ythijfhbmkpfnkaa
