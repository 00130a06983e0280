/-
  No cell of these rows narrows 'for every input' (looked for: loops, veiled, ifaces, maps, wideKeys, modest, calm, conditions, laid).
  DERIVED. THE GIVEN ROWS OF THIS SEAT. 3 by the template 'for every input the law returns true; each argument reads behind the call as it read before'; 0 by the template 'total and deterministic' (their statements: YtdjaafnghlcjbaaTotals.lean).
  GIVEN WITH THE SEED: the statements are not yours to turn. If you find one false, say at which input.
  Laid BY PROGRAM, IN A SANDBOX (cutbox-rows.mjs): the forced cells as the released guide's own fill.sh prints them over the translation 9093c2c4fd6b2e65… (all of the seat's roots in one cut). By AI agents, Wed Nov 11 2026. No macro, syntax, notation, axiom, sorry.
-/
import Derived.Test.YtdjaafnghlcjbaaChecked
import GoSem.Claim
import GoSem.ClaimJoined
import GoSem.ClaimMapViews
import Derived.JoinedTies
import Derived.KernelRfl
namespace Go.Proofs.Ytdjaafnghlcjbaa
/- THE CELL 'sum', in the pinned program and in every row, IS THE sha256 OF THE DUMP (.gsa) THAT YtdjaafnghlcjbaaProg.lean LOADS. Nothing in Lean hashes anything: it is a label: what it is worth is what the hold of that sum in a sandbox is worth. -/
noncomputable def Try.pinned : Pinned := { name := "ytdjaafnghlcjbaa", sum := "9093c2c4fd6b2e65cb636861177785714a06b542651aa16df0e1a076ab665bc3", checked := Try.checked }
namespace Rows
def none {H : Type} : Left H := { results := [], args := [] }

/-- 'sheaveslaw.SealChecks': WHATEVER THE INPUT: true; the input reads as it did. -/
def sealChecksSpec : ChangeSpec := { name := "sealChecks", fn := fun _ => fun
  | [d] => { results := [.lit (.bool true)], args := [d] }
  | _ => none }
def sealChecksRow : OpenClaim := { program := "ytdjaafnghlcjbaa", sum := "9093c2c4fd6b2e65cb636861177785714a06b542651aa16df0e1a076ab665bc3", func := "sheaves/sheaveslaw.SealChecks", spec := "sealChecks", unfollowed := true, recurses := true, plainKeys := false, apart := false }
def SealChecksSaid : Prop := sealChecksRow.holds Try.pinned (OpenSpec.ofChange sealChecksSpec)

/-- ITS FALSE NEIGHBOUR: 'it returns false'. Refute it at one input. -/
def sealChecksWrong : ChangeSpec := { name := "sealChecks", fn := fun _ => fun
  | [d] => { results := [.lit (.bool false)], args := [d] }
  | _ => none }
def SealChecksWrongFalsely : Prop := sealChecksRow.holds Try.pinned (OpenSpec.ofChange sealChecksWrong)

/-- 'sheaveslaw.SealAdds': WHATEVER THE INPUT: true; the input reads as it did. -/
def sealAddsSpec : ChangeSpec := { name := "sealAdds", fn := fun _ => fun
  | [d1, d2] => { results := [.lit (.bool true)], args := [d1, d2] }
  | _ => none }
def sealAddsRow : OpenClaim := { program := "ytdjaafnghlcjbaa", sum := "9093c2c4fd6b2e65cb636861177785714a06b542651aa16df0e1a076ab665bc3", func := "sheaves/sheaveslaw.SealAdds", spec := "sealAdds", unfollowed := true, recurses := true, plainKeys := false, apart := false }
def SealAddsSaid : Prop := sealAddsRow.holds Try.pinned (OpenSpec.ofChange sealAddsSpec)

/-- ITS FALSE NEIGHBOUR: 'it returns false'. Refute it at one input. -/
def sealAddsWrong : ChangeSpec := { name := "sealAdds", fn := fun _ => fun
  | [d1, d2] => { results := [.lit (.bool false)], args := [d1, d2] }
  | _ => none }
def SealAddsWrongFalsely : Prop := sealAddsRow.holds Try.pinned (OpenSpec.ofChange sealAddsWrong)

/-- 'sheaveslaw.SealSigned': WHATEVER THE INPUT: true; the input reads as it did. -/
def sealSignedSpec : ChangeSpec := { name := "sealSigned", fn := fun _ => fun
  | [d1, d2, d3] => { results := [.lit (.bool true)], args := [d1, d2, d3] }
  | _ => none }
def sealSignedRow : OpenClaim := { program := "ytdjaafnghlcjbaa", sum := "9093c2c4fd6b2e65cb636861177785714a06b542651aa16df0e1a076ab665bc3", func := "sheaves/sheaveslaw.SealSigned", spec := "sealSigned", unfollowed := true, recurses := true, plainKeys := false, apart := false }
def SealSignedSaid : Prop := sealSignedRow.holds Try.pinned (OpenSpec.ofChange sealSignedSpec)

/-- ITS FALSE NEIGHBOUR: 'it returns false'. Refute it at one input. -/
def sealSignedWrong : ChangeSpec := { name := "sealSigned", fn := fun _ => fun
  | [d1, d2, d3] => { results := [.lit (.bool false)], args := [d1, d2, d3] }
  | _ => none }
def SealSignedWrongFalsely : Prop := sealSignedRow.holds Try.pinned (OpenSpec.ofChange sealSignedWrong)

/- THE SECOND FORM. 'bulk': how many values and letters a reading holds, each counted each time it is reached (what is shared counts as often as it is met; a slice's spare places count too). A statement '..UptoSaid' is the law's where the arguments, and the package variables that the reading takes, are together of bulk at most 1048576: NARROWER than '..Said'. Prove '..Said' where nothing that the law and all that it calls make is longer than what came in: it says more and counts as full. Else prove '..UptoSaid'. A law counts once. -/
mutual
def uptoBulk {H : Type} : DataW H → Nat
  | .lit (.string bytes) => bytes.length + 1
  | .lit _ => 1
  | .nil => 1
  | .ptr d => uptoBulk d + 1
  | .slice elems spare => uptoBulkAll elems + uptoBulkAll spare + 1
  | .agg parts => uptoBulkAll parts + 1
  | .iface _ d => uptoBulk d + 1
  | .map entries => uptoBulkEntries entries + 1
  | .held _ => 1
def uptoBulkAll {H : Type} : List (DataW H) → Nat
  | [] => 0
  | d :: r => uptoBulk d + uptoBulkAll r
def uptoBulkEntries {H : Type} : List (Lit × DataW H) → Nat
  | [] => 0
  | x :: r => uptoBulkEntry x + uptoBulkEntries r
def uptoBulkEntry {H : Type} : Lit × DataW H → Nat
  | (.string bytes, d) => bytes.length + uptoBulk d + 1
  | (_, d) => uptoBulk d + 1
 end
def uptoSmall : (H : Type) → List (DataW H) → Bool := fun _ ds => decide (uptoBulkAll ds ≤ 1048576)
def OpenSpec.upto (s : _root_.Go.ChangeSpec) : _root_.Go.OpenSpec := { _root_.Go.OpenSpec.ofChange s with cond := some uptoSmall }

/-- 'sheaveslaw.SealChecks', WHERE WHAT IT READS IS OF BULK AT MOST 1048576: true; the input reads as it did. -/
def sealChecksUptoRow : OpenClaim := { program := "ytdjaafnghlcjbaa", sum := "9093c2c4fd6b2e65cb636861177785714a06b542651aa16df0e1a076ab665bc3", func := "sheaves/sheaveslaw.SealChecks", spec := "sealChecks", unfollowed := true, recurses := true, plainKeys := false, apart := false, narrowed := true }
def SealChecksUptoSaid : Prop := sealChecksUptoRow.holds Try.pinned (OpenSpec.upto sealChecksSpec)

/-- 'sheaveslaw.SealAdds', WHERE WHAT IT READS IS OF BULK AT MOST 1048576: true; the input reads as it did. -/
def sealAddsUptoRow : OpenClaim := { program := "ytdjaafnghlcjbaa", sum := "9093c2c4fd6b2e65cb636861177785714a06b542651aa16df0e1a076ab665bc3", func := "sheaves/sheaveslaw.SealAdds", spec := "sealAdds", unfollowed := true, recurses := true, plainKeys := false, apart := false, narrowed := true }
def SealAddsUptoSaid : Prop := sealAddsUptoRow.holds Try.pinned (OpenSpec.upto sealAddsSpec)

/-- 'sheaveslaw.SealSigned', WHERE WHAT IT READS IS OF BULK AT MOST 1048576: true; the input reads as it did. -/
def sealSignedUptoRow : OpenClaim := { program := "ytdjaafnghlcjbaa", sum := "9093c2c4fd6b2e65cb636861177785714a06b542651aa16df0e1a076ab665bc3", func := "sheaves/sheaveslaw.SealSigned", spec := "sealSigned", unfollowed := true, recurses := true, plainKeys := false, apart := false, narrowed := true }
def SealSignedUptoSaid : Prop := sealSignedUptoRow.holds Try.pinned (OpenSpec.upto sealSignedSpec)

end Rows
end Go.Proofs.Ytdjaafnghlcjbaa
