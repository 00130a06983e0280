/-
  DERIVED. GIVEN WITH THE SEED: THE CARDS: each row of YtfnpkiaedbfekaaDoorRows.lean that lists a variable, with what it lists TIED to the program's text (the seventh form; the later family's looks); each row that meets fmt, with fmt's text TOLD by the authors' own Lean function (tested against real Go, not proved from fmt's source: count such statements apart). THE CARD IS WHAT COUNTS. Prove the row's statement (the work); the ties are given (YtfnpkiaedbfekaaDoorTie.lean); close each card by the builder's one call (the guide's Derived/Test/ToyasCard.lean, 'card_holds'). Laid BY PROGRAM, IN A SANDBOX (cutbox-door.mjs). By AI agents, Wed Nov 11 2026. No macro, syntax, notation, axiom, sorry.
-/
import Derived.Test.YtfnpkiaedbfekaaDoorRows
import GoSem.ClaimSeven
namespace Go.Proofs.YtfnpkiaedbfekaaDoor
namespace Rows

/-- THE TIED CARD OF 'sheaveslaw.BallotCasts'. -/
def ballotCastsCard : Claim7 := { stood := { row := ballotCastsRow, standIns := [], harness := (true, "e28145c4042a7b018ea6b1d903f46001cf833970bda8988945b6d48224267846"), looks := false }, kinds := [], alts := [], laidByText := true, laidKinds := [.data, .data, .data], laidTests := true, laidLooks := .later }
def BallotCastsCardSaid : Prop := Claim7.holds Tryd.pinned (.plain (OpenSpec.ofChange ballotCastsSpec)) ballotCastsCard

/-- THE TIED CARD OF 'sheaveskeep.CastApart'. -/
def castApartCard : Claim7 := { stood := { row := castApartRow, standIns := [], harness := (true, "e28145c4042a7b018ea6b1d903f46001cf833970bda8988945b6d48224267846"), looks := false }, kinds := [], alts := [], laidByText := true, laidKinds := [.data, .data, .data], laidTests := true, laidLooks := .later }
def CastApartCardSaid : Prop := Claim7.holds Tryd.pinned (.plain (OpenSpec.ofChange castApartSpec)) castApartCard

/-- THE TIED CARD OF 'sheaveskeep.VotedNone'. -/
def votedNoneCard : Claim7 := { stood := { row := votedNoneRow, standIns := [], harness := (true, "e28145c4042a7b018ea6b1d903f46001cf833970bda8988945b6d48224267846"), looks := false }, kinds := [], alts := [], laidByText := true, laidKinds := [.data, .data, .data], laidTests := true, laidLooks := .later }
def VotedNoneCardSaid : Prop := Claim7.holds Tryd.pinned (.plain (OpenSpec.ofChange votedNoneSpec)) votedNoneCard

/-- THE TIED CARD OF 'sheaveskeep.TableAll'. -/
def tableAllCard : Claim7 := { stood := { row := tableAllRow, standIns := [], harness := (true, "e28145c4042a7b018ea6b1d903f46001cf833970bda8988945b6d48224267846"), looks := false }, kinds := [], alts := [], laidByText := true, laidKinds := [.data, .data, .data], laidTests := true, laidLooks := .later }
def TableAllCardSaid : Prop := Claim7.holds Tryd.pinned (.plain (OpenSpec.ofChange tableAllSpec)) tableAllCard

/-- THE SECOND FORM's CARD OF 'sheaveslaw.BallotCasts'. -/
def ballotCastsUptoCard : Claim7 := { stood := { row := ballotCastsUptoRow, standIns := [], harness := (true, "e28145c4042a7b018ea6b1d903f46001cf833970bda8988945b6d48224267846"), looks := false }, kinds := [], alts := [], laidByText := true, laidKinds := [.data, .data, .data], laidTests := true, laidLooks := .later }
def BallotCastsUptoCardSaid : Prop := Claim7.holds Tryd.pinned (.plain (OpenSpec.upto ballotCastsSpec)) ballotCastsUptoCard

/-- THE SECOND FORM's CARD OF 'sheaveskeep.CastApart'. -/
def castApartUptoCard : Claim7 := { stood := { row := castApartUptoRow, standIns := [], harness := (true, "e28145c4042a7b018ea6b1d903f46001cf833970bda8988945b6d48224267846"), looks := false }, kinds := [], alts := [], laidByText := true, laidKinds := [.data, .data, .data], laidTests := true, laidLooks := .later }
def CastApartUptoCardSaid : Prop := Claim7.holds Tryd.pinned (.plain (OpenSpec.upto castApartSpec)) castApartUptoCard

/-- THE SECOND FORM's CARD OF 'sheaveskeep.VotedNone'. -/
def votedNoneUptoCard : Claim7 := { stood := { row := votedNoneUptoRow, standIns := [], harness := (true, "e28145c4042a7b018ea6b1d903f46001cf833970bda8988945b6d48224267846"), looks := false }, kinds := [], alts := [], laidByText := true, laidKinds := [.data, .data, .data], laidTests := true, laidLooks := .later }
def VotedNoneUptoCardSaid : Prop := Claim7.holds Tryd.pinned (.plain (OpenSpec.upto votedNoneSpec)) votedNoneUptoCard

/-- THE SECOND FORM's CARD OF 'sheaveskeep.TableAll'. -/
def tableAllUptoCard : Claim7 := { stood := { row := tableAllUptoRow, standIns := [], harness := (true, "e28145c4042a7b018ea6b1d903f46001cf833970bda8988945b6d48224267846"), looks := false }, kinds := [], alts := [], laidByText := true, laidKinds := [.data, .data, .data], laidTests := true, laidLooks := .later }
def TableAllUptoCardSaid : Prop := Claim7.holds Tryd.pinned (.plain (OpenSpec.upto tableAllSpec)) tableAllUptoCard
end Rows
end Go.Proofs.YtfnpkiaedbfekaaDoor
