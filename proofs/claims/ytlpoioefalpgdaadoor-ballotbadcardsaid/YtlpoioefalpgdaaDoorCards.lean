/-
  DERIVED. GIVEN WITH THE SEED: THE CARDS: each row of YtlpoioefalpgdaaDoorRows.lean that lists a variable, with what it lists TIED to the program's text (the seventh form; the later family's looks); each row that meets fmt, with fmt's text TOLD by the authors' own Lean function (tested against real Go, not proved from fmt's source: count such statements apart). THE CARD IS WHAT COUNTS. Prove the row's statement (the work); the ties are given (YtlpoioefalpgdaaDoorTie.lean); close each card by the builder's one call (the guide's Derived/Test/ToyasCard.lean, 'card_holds'). Laid BY PROGRAM, IN A SANDBOX (cutbox-door.mjs). By AI agents, Wed Nov 11 2026. No macro, syntax, notation, axiom, sorry.
-/
import Derived.Test.YtlpoioefalpgdaaDoorRows
import GoSem.ClaimSeven
namespace Go.Proofs.YtlpoioefalpgdaaDoor
namespace Rows

/-- THE TIED CARD OF 'sheaveskeep.CastOnce'. -/
def castOnceCard : Claim7 := { stood := { row := castOnceRow, standIns := [], harness := (true, "84d00efa061a06f32a5f9df62bfcde738105fd754200aef83bf64684c68e5486"), looks := false }, kinds := [], alts := [], laidByText := true, laidKinds := [.data, .data, .data], laidTests := true, laidLooks := .later }
def CastOnceCardSaid : Prop := Claim7.holds Tryd.pinned (.plain (OpenSpec.ofChange castOnceSpec)) castOnceCard

/-- THE TIED CARD OF 'sheaveskeep.BallotBad'. -/
def ballotBadCard : Claim7 := { stood := { row := ballotBadRow, standIns := [], harness := (true, "84d00efa061a06f32a5f9df62bfcde738105fd754200aef83bf64684c68e5486"), looks := false }, kinds := [], alts := [], laidByText := true, laidKinds := [.data, .data, .data], laidTests := true, laidLooks := .later }
def BallotBadCardSaid : Prop := Claim7.holds Tryd.pinned (.plain (OpenSpec.ofChange ballotBadSpec)) ballotBadCard

/-- THE SECOND FORM's CARD OF 'sheaveskeep.CastOnce'. -/
def castOnceUptoCard : Claim7 := { stood := { row := castOnceUptoRow, standIns := [], harness := (true, "84d00efa061a06f32a5f9df62bfcde738105fd754200aef83bf64684c68e5486"), looks := false }, kinds := [], alts := [], laidByText := true, laidKinds := [.data, .data, .data], laidTests := true, laidLooks := .later }
def CastOnceUptoCardSaid : Prop := Claim7.holds Tryd.pinned (.plain (OpenSpec.upto castOnceSpec)) castOnceUptoCard

/-- THE SECOND FORM's CARD OF 'sheaveskeep.BallotBad'. -/
def ballotBadUptoCard : Claim7 := { stood := { row := ballotBadUptoRow, standIns := [], harness := (true, "84d00efa061a06f32a5f9df62bfcde738105fd754200aef83bf64684c68e5486"), looks := false }, kinds := [], alts := [], laidByText := true, laidKinds := [.data, .data, .data], laidTests := true, laidLooks := .later }
def BallotBadUptoCardSaid : Prop := Claim7.holds Tryd.pinned (.plain (OpenSpec.upto ballotBadSpec)) ballotBadUptoCard
end Rows
end Go.Proofs.YtlpoioefalpgdaaDoor
