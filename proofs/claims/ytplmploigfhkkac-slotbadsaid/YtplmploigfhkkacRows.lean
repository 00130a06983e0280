/-
  No cell of these rows narrows 'for every input' (looked for: loops, veiled, ifaces, maps, wideKeys, modest, calm, conditions, laid).
  DERIVED. THE GIVEN ROWS OF THIS SEAT. 3 by the template 'for every input the law returns true; each argument reads behind the call as it read before'; 0 by the template 'total and deterministic' (their statements: YtplmploigfhkkacTotals.lean).
  GIVEN WITH THE SEED: the statements are not yours to turn. If you find one false, say at which input.
  Laid BY PROGRAM, IN A SANDBOX (cutbox-rows.mjs): the forced cells as the released guide's own fill.sh prints them over the translation 3b286dd5e878febf… (all of the seat's roots in one cut). By AI agents, Wed Nov 11 2026. No macro, syntax, notation, axiom, sorry.
-/
import Derived.Test.YtplmploigfhkkacChecked
import GoSem.Claim
import GoSem.ClaimJoined
import GoSem.ClaimMapViews
import Derived.JoinedTies
import Derived.KernelRfl
namespace Go.Proofs.Ytplmploigfhkkac
/- THE CELL 'sum', in the pinned program and in every row, IS THE sha256 OF THE DUMP (.gsa) THAT YtplmploigfhkkacProg.lean LOADS. Nothing in Lean hashes anything: it is a label: what it is worth is what the hold of that sum in a sandbox is worth. -/
noncomputable def Try.pinned : Pinned := { name := "ytplmploigfhkkac", sum := "3b286dd5e878febfa0ba7ad1fa09c940b8bcc3bee5d2aca24bc15b51224219df", checked := Try.checked }
namespace Rows
def none {H : Type} : Left H := { results := [], args := [] }

/-- 'sheaveskeep.MessageMore': WHATEVER THE INPUT: true; the input reads as it did. -/
def messageMoreSpec : ChangeSpec := { name := "messageMore", fn := fun _ => fun
  | [d1, d2] => { results := [.lit (.bool true)], args := [d1, d2] }
  | _ => none }
def messageMoreRow : OpenClaim := { program := "ytplmploigfhkkac", sum := "3b286dd5e878febfa0ba7ad1fa09c940b8bcc3bee5d2aca24bc15b51224219df", func := "sheaves/sheaveskeep.MessageMore", spec := "messageMore", unfollowed := true, recurses := true, apart := false }
def MessageMoreSaid : Prop := messageMoreRow.holds Try.pinned (OpenSpec.ofChange messageMoreSpec)

/-- ITS FALSE NEIGHBOUR: 'it returns false'. Refute it at one input. -/
def messageMoreWrong : ChangeSpec := { name := "messageMore", fn := fun _ => fun
  | [d1, d2] => { results := [.lit (.bool false)], args := [d1, d2] }
  | _ => none }
def MessageMoreWrongFalsely : Prop := messageMoreRow.holds Try.pinned (OpenSpec.ofChange messageMoreWrong)

/-- 'sheaveskeep.CertBad': WHATEVER THE INPUT: true; the input reads as it did. -/
def certBadSpec : ChangeSpec := { name := "certBad", fn := fun _ => fun
  | [d1, d2] => { results := [.lit (.bool true)], args := [d1, d2] }
  | _ => none }
def certBadRow : OpenClaim := { program := "ytplmploigfhkkac", sum := "3b286dd5e878febfa0ba7ad1fa09c940b8bcc3bee5d2aca24bc15b51224219df", func := "sheaves/sheaveskeep.CertBad", spec := "certBad", unfollowed := true, recurses := true, apart := false }
def CertBadSaid : Prop := certBadRow.holds Try.pinned (OpenSpec.ofChange certBadSpec)

/-- ITS FALSE NEIGHBOUR: 'it returns false'. Refute it at one input. -/
def certBadWrong : ChangeSpec := { name := "certBad", fn := fun _ => fun
  | [d1, d2] => { results := [.lit (.bool false)], args := [d1, d2] }
  | _ => none }
def CertBadWrongFalsely : Prop := certBadRow.holds Try.pinned (OpenSpec.ofChange certBadWrong)

/-- 'sheaveskeep.SlotBad': WHATEVER THE INPUT: true; the input reads as it did. -/
def slotBadSpec : ChangeSpec := { name := "slotBad", fn := fun _ => fun
  | [d1, d2] => { results := [.lit (.bool true)], args := [d1, d2] }
  | _ => none }
def slotBadRow : OpenClaim := { program := "ytplmploigfhkkac", sum := "3b286dd5e878febfa0ba7ad1fa09c940b8bcc3bee5d2aca24bc15b51224219df", func := "sheaves/sheaveskeep.SlotBad", spec := "slotBad", unfollowed := true, recurses := true, apart := false }
def SlotBadSaid : Prop := slotBadRow.holds Try.pinned (OpenSpec.ofChange slotBadSpec)

/-- ITS FALSE NEIGHBOUR: 'it returns false'. Refute it at one input. -/
def slotBadWrong : ChangeSpec := { name := "slotBad", fn := fun _ => fun
  | [d1, d2] => { results := [.lit (.bool false)], args := [d1, d2] }
  | _ => none }
def SlotBadWrongFalsely : Prop := slotBadRow.holds Try.pinned (OpenSpec.ofChange slotBadWrong)

/- THE SECOND FORM. 'bulk': how many values and letters a reading holds, each counted each time it is reached (what is shared counts as often as it is met; a slice's spare places count too). A statement '..UptoSaid' is the law's where the arguments, and the package variables that the reading takes, are together of bulk at most 1048576: NARROWER than '..Said'. Prove '..Said' where nothing that the law and all that it calls make is longer than what came in: it says more and counts as full. Else prove '..UptoSaid'. A law counts once. -/
mutual
def uptoBulk {H : Type} : DataW H → Nat
  | .lit (.string bytes) => bytes.length + 1
  | .lit _ => 1
  | .nil => 1
  | .ptr d => uptoBulk d + 1
  | .slice elems spare => uptoBulkAll elems + uptoBulkAll spare + 1
  | .agg parts => uptoBulkAll parts + 1
  | .iface _ d => uptoBulk d + 1
  | .map entries => uptoBulkEntries entries + 1
  | .held _ => 1
def uptoBulkAll {H : Type} : List (DataW H) → Nat
  | [] => 0
  | d :: r => uptoBulk d + uptoBulkAll r
def uptoBulkEntries {H : Type} : List (Lit × DataW H) → Nat
  | [] => 0
  | x :: r => uptoBulkEntry x + uptoBulkEntries r
def uptoBulkEntry {H : Type} : Lit × DataW H → Nat
  | (.string bytes, d) => bytes.length + uptoBulk d + 1
  | (_, d) => uptoBulk d + 1
 end
def uptoSmall : (H : Type) → List (DataW H) → Bool := fun _ ds => decide (uptoBulkAll ds ≤ 1048576)
def OpenSpec.upto (s : _root_.Go.ChangeSpec) : _root_.Go.OpenSpec := { _root_.Go.OpenSpec.ofChange s with cond := some uptoSmall }

/-- 'sheaveskeep.MessageMore', WHERE WHAT IT READS IS OF BULK AT MOST 1048576: true; the input reads as it did. -/
def messageMoreUptoRow : OpenClaim := { program := "ytplmploigfhkkac", sum := "3b286dd5e878febfa0ba7ad1fa09c940b8bcc3bee5d2aca24bc15b51224219df", func := "sheaves/sheaveskeep.MessageMore", spec := "messageMore", unfollowed := true, recurses := true, apart := false, narrowed := true }
def MessageMoreUptoSaid : Prop := messageMoreUptoRow.holds Try.pinned (OpenSpec.upto messageMoreSpec)

/-- 'sheaveskeep.CertBad', WHERE WHAT IT READS IS OF BULK AT MOST 1048576: true; the input reads as it did. -/
def certBadUptoRow : OpenClaim := { program := "ytplmploigfhkkac", sum := "3b286dd5e878febfa0ba7ad1fa09c940b8bcc3bee5d2aca24bc15b51224219df", func := "sheaves/sheaveskeep.CertBad", spec := "certBad", unfollowed := true, recurses := true, apart := false, narrowed := true }
def CertBadUptoSaid : Prop := certBadUptoRow.holds Try.pinned (OpenSpec.upto certBadSpec)

/-- 'sheaveskeep.SlotBad', WHERE WHAT IT READS IS OF BULK AT MOST 1048576: true; the input reads as it did. -/
def slotBadUptoRow : OpenClaim := { program := "ytplmploigfhkkac", sum := "3b286dd5e878febfa0ba7ad1fa09c940b8bcc3bee5d2aca24bc15b51224219df", func := "sheaves/sheaveskeep.SlotBad", spec := "slotBad", unfollowed := true, recurses := true, apart := false, narrowed := true }
def SlotBadUptoSaid : Prop := slotBadUptoRow.holds Try.pinned (OpenSpec.upto slotBadSpec)

end Rows
end Go.Proofs.Ytplmploigfhkkac
