/-
  DERIVED. GIVEN WITH THE SEED: THE CARDS: each row of YtnlfpfajecldkaaGreatDoorRows.lean that lists a variable, with what it lists TIED to the program's text (the seventh form; the later family's looks); each row that meets fmt, with fmt's text TOLD by the authors' own Lean function (tested against real Go, not proved from fmt's source: count such statements apart). THE CARD IS WHAT COUNTS. Prove the row's statement (the work); the ties are given (YtnlfpfajecldkaaGreatDoorTie.lean); close each card by the builder's one call (the guide's Derived/Test/ToyasCard.lean, 'card_holds'). Laid BY PROGRAM, IN A SANDBOX (cutbox-door.mjs). By AI agents, Wed Nov 11 2026. No macro, syntax, notation, axiom, sorry.
-/
import Derived.Test.YtnlfpfajecldkaaGreatDoorRows
import GoSem.ClaimSeven
namespace Go.Proofs.YtnlfpfajecldkaaGreatDoor
namespace Rows

/-- THE TIED CARD OF 'sheavestop.TopFaces'. -/
def topFacesCard : Claim7 := { stood := { row := topFacesRow, standIns := [], harness := (true, "d59cf9b242ae1dd9e9402fcd299acc5fef9b249b0d0dbd087359d88324b70550"), looks := false }, kinds := [], alts := [], laidByText := true, laidKinds := [.data, .data, .data, .data], laidTests := true, laidLooks := .later }
def TopFacesCardSaid : Prop := Claim7.holds Tryz.pinned (.plain (OpenSpec.ofChange topFacesSpec)) topFacesCard

/-- THE TIED CARD OF 'sheavestop.TopSound'. -/
def topSoundCard : Claim7 := { stood := { row := topSoundRow, standIns := [], harness := (true, "d59cf9b242ae1dd9e9402fcd299acc5fef9b249b0d0dbd087359d88324b70550"), looks := false }, kinds := [], alts := [], laidByText := true, laidKinds := [.data, .data, .data, .data], laidTests := true, laidLooks := .later }
def TopSoundCardSaid : Prop := Claim7.holds Tryz.pinned (.plain (OpenSpec.ofChange topSoundSpec)) topSoundCard

/-- THE TIED CARD OF 'sheavestop.TopVotes'. -/
def topVotesCard : Claim7 := { stood := { row := topVotesRow, standIns := [], harness := (true, "d59cf9b242ae1dd9e9402fcd299acc5fef9b249b0d0dbd087359d88324b70550"), looks := false }, kinds := [], alts := [], laidByText := true, laidKinds := [.data, .data, .data, .data], laidTests := true, laidLooks := .later }
def TopVotesCardSaid : Prop := Claim7.holds Tryz.pinned (.plain (OpenSpec.ofChange topVotesSpec)) topVotesCard

/-- THE TIED CARD OF 'sheavestop.TopAlone'. -/
def topAloneCard : Claim7 := { stood := { row := topAloneRow, standIns := [], harness := (true, "d59cf9b242ae1dd9e9402fcd299acc5fef9b249b0d0dbd087359d88324b70550"), looks := false }, kinds := [], alts := [], laidByText := true, laidKinds := [.data, .data, .data, .data], laidTests := true, laidLooks := .later }
def TopAloneCardSaid : Prop := Claim7.holds Tryz.pinned (.plain (OpenSpec.ofChange topAloneSpec)) topAloneCard

/-- THE SECOND FORM's CARD OF 'sheavestop.TopFaces'. -/
def topFacesUptoCard : Claim7 := { stood := { row := topFacesUptoRow, standIns := [], harness := (true, "d59cf9b242ae1dd9e9402fcd299acc5fef9b249b0d0dbd087359d88324b70550"), looks := false }, kinds := [], alts := [], laidByText := true, laidKinds := [.data, .data, .data, .data], laidTests := true, laidLooks := .later }
def TopFacesUptoCardSaid : Prop := Claim7.holds Tryz.pinned (.plain (OpenSpec.upto topFacesSpec)) topFacesUptoCard

/-- THE SECOND FORM's CARD OF 'sheavestop.TopSound'. -/
def topSoundUptoCard : Claim7 := { stood := { row := topSoundUptoRow, standIns := [], harness := (true, "d59cf9b242ae1dd9e9402fcd299acc5fef9b249b0d0dbd087359d88324b70550"), looks := false }, kinds := [], alts := [], laidByText := true, laidKinds := [.data, .data, .data, .data], laidTests := true, laidLooks := .later }
def TopSoundUptoCardSaid : Prop := Claim7.holds Tryz.pinned (.plain (OpenSpec.upto topSoundSpec)) topSoundUptoCard

/-- THE SECOND FORM's CARD OF 'sheavestop.TopVotes'. -/
def topVotesUptoCard : Claim7 := { stood := { row := topVotesUptoRow, standIns := [], harness := (true, "d59cf9b242ae1dd9e9402fcd299acc5fef9b249b0d0dbd087359d88324b70550"), looks := false }, kinds := [], alts := [], laidByText := true, laidKinds := [.data, .data, .data, .data], laidTests := true, laidLooks := .later }
def TopVotesUptoCardSaid : Prop := Claim7.holds Tryz.pinned (.plain (OpenSpec.upto topVotesSpec)) topVotesUptoCard

/-- THE SECOND FORM's CARD OF 'sheavestop.TopAlone'. -/
def topAloneUptoCard : Claim7 := { stood := { row := topAloneUptoRow, standIns := [], harness := (true, "d59cf9b242ae1dd9e9402fcd299acc5fef9b249b0d0dbd087359d88324b70550"), looks := false }, kinds := [], alts := [], laidByText := true, laidKinds := [.data, .data, .data, .data], laidTests := true, laidLooks := .later }
def TopAloneUptoCardSaid : Prop := Claim7.holds Tryz.pinned (.plain (OpenSpec.upto topAloneSpec)) topAloneUptoCard
end Rows
end Go.Proofs.YtnlfpfajecldkaaGreatDoor
