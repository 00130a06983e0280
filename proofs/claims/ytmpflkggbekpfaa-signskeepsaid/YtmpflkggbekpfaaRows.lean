/-
  No cell of these rows narrows 'for every input' (looked for: loops, veiled, ifaces, maps, wideKeys, modest, calm, conditions, laid).
  DERIVED. THE GIVEN ROWS OF THIS SEAT. 4 by the template 'for every input the law returns true; each argument reads behind the call as it read before'; 0 by the template 'total and deterministic' (their statements: YtmpflkggbekpfaaTotals.lean).
  GIVEN WITH THE SEED: the statements are not yours to turn. If you find one false, say at which input.
  Laid BY PROGRAM, IN A SANDBOX (cutbox-rows.mjs): the forced cells as the released guide's own fill.sh prints them over the translation 427093d18d2731f2… (all of the seat's roots in one cut). By AI agents, Wed Nov 11 2026. No macro, syntax, notation, axiom, sorry.
-/
import Derived.Test.YtmpflkggbekpfaaChecked
import GoSem.Claim
import GoSem.ClaimJoined
import GoSem.ClaimMapViews
import Derived.JoinedTies
import Derived.KernelRfl
namespace Go.Proofs.Ytmpflkggbekpfaa
/- THE CELL 'sum', in the pinned program and in every row, IS THE sha256 OF THE DUMP (.gsa) THAT YtmpflkggbekpfaaProg.lean LOADS. Nothing in Lean hashes anything: it is a label: what it is worth is what the hold of that sum in a sandbox is worth. -/
noncomputable def Try.pinned : Pinned := { name := "ytmpflkggbekpfaa", sum := "427093d18d2731f2749d1e5baa249562261570cefe493f31d3e8b669d0491f50", checked := Try.checked }
namespace Rows
def none {H : Type} : Left H := { results := [], args := [] }

/-- 'sheaveskeep.SignOnce': WHATEVER THE INPUT: true; the input reads as it did. -/
def signOnceSpec : ChangeSpec := { name := "signOnce", fn := fun _ => fun
  | [d1, d2] => { results := [.lit (.bool true)], args := [d1, d2] }
  | _ => none }
def signOnceRow : OpenClaim := { program := "ytmpflkggbekpfaa", sum := "427093d18d2731f2749d1e5baa249562261570cefe493f31d3e8b669d0491f50", func := "sheaves/sheaveskeep.SignOnce", spec := "signOnce", unfollowed := true, recurses := true, plainKeys := false, apart := false }
def SignOnceSaid : Prop := signOnceRow.holds Try.pinned (OpenSpec.ofChange signOnceSpec)

/-- ITS FALSE NEIGHBOUR: 'it returns false'. Refute it at one input. -/
def signOnceWrong : ChangeSpec := { name := "signOnce", fn := fun _ => fun
  | [d1, d2] => { results := [.lit (.bool false)], args := [d1, d2] }
  | _ => none }
def SignOnceWrongFalsely : Prop := signOnceRow.holds Try.pinned (OpenSpec.ofChange signOnceWrong)

/-- 'sheaveskeep.SignOthers': WHATEVER THE INPUT: true; the input reads as it did. -/
def signOthersSpec : ChangeSpec := { name := "signOthers", fn := fun _ => fun
  | [d1, d2, d3] => { results := [.lit (.bool true)], args := [d1, d2, d3] }
  | _ => none }
def signOthersRow : OpenClaim := { program := "ytmpflkggbekpfaa", sum := "427093d18d2731f2749d1e5baa249562261570cefe493f31d3e8b669d0491f50", func := "sheaves/sheaveskeep.SignOthers", spec := "signOthers", unfollowed := true, recurses := true, plainKeys := false, apart := false }
def SignOthersSaid : Prop := signOthersRow.holds Try.pinned (OpenSpec.ofChange signOthersSpec)

/-- ITS FALSE NEIGHBOUR: 'it returns false'. Refute it at one input. -/
def signOthersWrong : ChangeSpec := { name := "signOthers", fn := fun _ => fun
  | [d1, d2, d3] => { results := [.lit (.bool false)], args := [d1, d2, d3] }
  | _ => none }
def SignOthersWrongFalsely : Prop := signOthersRow.holds Try.pinned (OpenSpec.ofChange signOthersWrong)

/-- 'sheaveskeep.SignLast': WHATEVER THE INPUT: true; the input reads as it did. -/
def signLastSpec : ChangeSpec := { name := "signLast", fn := fun _ => fun
  | [d1, d2] => { results := [.lit (.bool true)], args := [d1, d2] }
  | _ => none }
def signLastRow : OpenClaim := { program := "ytmpflkggbekpfaa", sum := "427093d18d2731f2749d1e5baa249562261570cefe493f31d3e8b669d0491f50", func := "sheaves/sheaveskeep.SignLast", spec := "signLast", unfollowed := true, recurses := true, plainKeys := false, apart := false }
def SignLastSaid : Prop := signLastRow.holds Try.pinned (OpenSpec.ofChange signLastSpec)

/-- ITS FALSE NEIGHBOUR: 'it returns false'. Refute it at one input. -/
def signLastWrong : ChangeSpec := { name := "signLast", fn := fun _ => fun
  | [d1, d2] => { results := [.lit (.bool false)], args := [d1, d2] }
  | _ => none }
def SignLastWrongFalsely : Prop := signLastRow.holds Try.pinned (OpenSpec.ofChange signLastWrong)

/-- 'sheaveskeep.SignsKeep': WHATEVER THE INPUT: true; the input reads as it did. -/
def signsKeepSpec : ChangeSpec := { name := "signsKeep", fn := fun _ => fun
  | [d1, d2, d3] => { results := [.lit (.bool true)], args := [d1, d2, d3] }
  | _ => none }
def signsKeepRow : OpenClaim := { program := "ytmpflkggbekpfaa", sum := "427093d18d2731f2749d1e5baa249562261570cefe493f31d3e8b669d0491f50", func := "sheaves/sheaveskeep.SignsKeep", spec := "signsKeep", unfollowed := true, recurses := true, plainKeys := false, apart := false }
def SignsKeepSaid : Prop := signsKeepRow.holds Try.pinned (OpenSpec.ofChange signsKeepSpec)

/-- ITS FALSE NEIGHBOUR: 'it returns false'. Refute it at one input. -/
def signsKeepWrong : ChangeSpec := { name := "signsKeep", fn := fun _ => fun
  | [d1, d2, d3] => { results := [.lit (.bool false)], args := [d1, d2, d3] }
  | _ => none }
def SignsKeepWrongFalsely : Prop := signsKeepRow.holds Try.pinned (OpenSpec.ofChange signsKeepWrong)

/- THE SECOND FORM. 'bulk': how many values and letters a reading holds, each counted each time it is reached (what is shared counts as often as it is met; a slice's spare places count too). A statement '..UptoSaid' is the law's where the arguments, and the package variables that the reading takes, are together of bulk at most 1048576: NARROWER than '..Said'. Prove '..Said' where nothing that the law and all that it calls make is longer than what came in: it says more and counts as full. Else prove '..UptoSaid'. A law counts once. -/
mutual
def uptoBulk {H : Type} : DataW H → Nat
  | .lit (.string bytes) => bytes.length + 1
  | .lit _ => 1
  | .nil => 1
  | .ptr d => uptoBulk d + 1
  | .slice elems spare => uptoBulkAll elems + uptoBulkAll spare + 1
  | .agg parts => uptoBulkAll parts + 1
  | .iface _ d => uptoBulk d + 1
  | .map entries => uptoBulkEntries entries + 1
  | .held _ => 1
def uptoBulkAll {H : Type} : List (DataW H) → Nat
  | [] => 0
  | d :: r => uptoBulk d + uptoBulkAll r
def uptoBulkEntries {H : Type} : List (Lit × DataW H) → Nat
  | [] => 0
  | x :: r => uptoBulkEntry x + uptoBulkEntries r
def uptoBulkEntry {H : Type} : Lit × DataW H → Nat
  | (.string bytes, d) => bytes.length + uptoBulk d + 1
  | (_, d) => uptoBulk d + 1
 end
def uptoSmall : (H : Type) → List (DataW H) → Bool := fun _ ds => decide (uptoBulkAll ds ≤ 1048576)
def OpenSpec.upto (s : _root_.Go.ChangeSpec) : _root_.Go.OpenSpec := { _root_.Go.OpenSpec.ofChange s with cond := some uptoSmall }

/-- 'sheaveskeep.SignOnce', WHERE WHAT IT READS IS OF BULK AT MOST 1048576: true; the input reads as it did. -/
def signOnceUptoRow : OpenClaim := { program := "ytmpflkggbekpfaa", sum := "427093d18d2731f2749d1e5baa249562261570cefe493f31d3e8b669d0491f50", func := "sheaves/sheaveskeep.SignOnce", spec := "signOnce", unfollowed := true, recurses := true, plainKeys := false, apart := false, narrowed := true }
def SignOnceUptoSaid : Prop := signOnceUptoRow.holds Try.pinned (OpenSpec.upto signOnceSpec)

/-- 'sheaveskeep.SignOthers', WHERE WHAT IT READS IS OF BULK AT MOST 1048576: true; the input reads as it did. -/
def signOthersUptoRow : OpenClaim := { program := "ytmpflkggbekpfaa", sum := "427093d18d2731f2749d1e5baa249562261570cefe493f31d3e8b669d0491f50", func := "sheaves/sheaveskeep.SignOthers", spec := "signOthers", unfollowed := true, recurses := true, plainKeys := false, apart := false, narrowed := true }
def SignOthersUptoSaid : Prop := signOthersUptoRow.holds Try.pinned (OpenSpec.upto signOthersSpec)

/-- 'sheaveskeep.SignLast', WHERE WHAT IT READS IS OF BULK AT MOST 1048576: true; the input reads as it did. -/
def signLastUptoRow : OpenClaim := { program := "ytmpflkggbekpfaa", sum := "427093d18d2731f2749d1e5baa249562261570cefe493f31d3e8b669d0491f50", func := "sheaves/sheaveskeep.SignLast", spec := "signLast", unfollowed := true, recurses := true, plainKeys := false, apart := false, narrowed := true }
def SignLastUptoSaid : Prop := signLastUptoRow.holds Try.pinned (OpenSpec.upto signLastSpec)

/-- 'sheaveskeep.SignsKeep', WHERE WHAT IT READS IS OF BULK AT MOST 1048576: true; the input reads as it did. -/
def signsKeepUptoRow : OpenClaim := { program := "ytmpflkggbekpfaa", sum := "427093d18d2731f2749d1e5baa249562261570cefe493f31d3e8b669d0491f50", func := "sheaves/sheaveskeep.SignsKeep", spec := "signsKeep", unfollowed := true, recurses := true, plainKeys := false, apart := false, narrowed := true }
def SignsKeepUptoSaid : Prop := signsKeepUptoRow.holds Try.pinned (OpenSpec.upto signsKeepSpec)

end Rows
end Go.Proofs.Ytmpflkggbekpfaa
