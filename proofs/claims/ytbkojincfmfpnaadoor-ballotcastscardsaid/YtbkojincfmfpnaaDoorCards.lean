/-
  DERIVED. GIVEN WITH THE SEED: THE CARDS: each row of YtbkojincfmfpnaaDoorRows.lean that lists a variable, with what it lists TIED to the program's text (the seventh form; the later family's looks); each row that meets fmt, with fmt's text TOLD by the authors' own Lean function (tested against real Go, not proved from fmt's source: count such statements apart). THE CARD IS WHAT COUNTS. Prove the row's statement (the work); the ties are given (YtbkojincfmfpnaaDoorTie.lean); close each card by the builder's one call (the guide's Derived/Test/ToyasCard.lean, 'card_holds'). Laid BY PROGRAM, IN A SANDBOX (cutbox-door.mjs). By AI agents, Wed Nov 11 2026. No macro, syntax, notation, axiom, sorry.
-/
import Derived.Test.YtbkojincfmfpnaaDoorRows
import GoSem.ClaimSeven
namespace Go.Proofs.YtbkojincfmfpnaaDoor
namespace Rows

/-- THE TIED CARD OF 'sheaveslaw.SealProven'. -/
def sealProvenCard : Claim7 := { stood := { row := sealProvenRow, standIns := [], harness := (true, "489cfb65d5d5fa4d3d638e2b2d8d10dfde5e2d84ea9a19356e902e2edbe09ff2"), looks := false }, kinds := [], alts := [], laidByText := true, laidKinds := [.data, .data, .data], laidTests := true, laidLooks := .later }
def SealProvenCardSaid : Prop := Claim7.holds Tryd.pinned (.plain (OpenSpec.ofChange sealProvenSpec)) sealProvenCard

/-- THE TIED CARD OF 'sheaveskeep.ProvenAll'. -/
def provenAllCard : Claim7 := { stood := { row := provenAllRow, standIns := [], harness := (true, "489cfb65d5d5fa4d3d638e2b2d8d10dfde5e2d84ea9a19356e902e2edbe09ff2"), looks := false }, kinds := [], alts := [], laidByText := true, laidKinds := [.data, .data, .data], laidTests := true, laidLooks := .later }
def ProvenAllCardSaid : Prop := Claim7.holds Tryd.pinned (.plain (OpenSpec.ofChange provenAllSpec)) provenAllCard

/-- THE TIED CARD OF 'sheaveskeep.ProvenJust'. -/
def provenJustCard : Claim7 := { stood := { row := provenJustRow, standIns := [], harness := (true, "489cfb65d5d5fa4d3d638e2b2d8d10dfde5e2d84ea9a19356e902e2edbe09ff2"), looks := false }, kinds := [], alts := [], laidByText := true, laidKinds := [.data, .data, .data], laidTests := true, laidLooks := .later }
def ProvenJustCardSaid : Prop := Claim7.holds Tryd.pinned (.plain (OpenSpec.ofChange provenJustSpec)) provenJustCard

/-- THE TIED CARD OF 'sheaveskeep.ProvenForm'. -/
def provenFormCard : Claim7 := { stood := { row := provenFormRow, standIns := [], harness := (true, "489cfb65d5d5fa4d3d638e2b2d8d10dfde5e2d84ea9a19356e902e2edbe09ff2"), looks := false }, kinds := [], alts := [], laidByText := true, laidKinds := [.data, .data, .data], laidTests := true, laidLooks := .later }
def ProvenFormCardSaid : Prop := Claim7.holds Tryd.pinned (.plain (OpenSpec.ofChange provenFormSpec)) provenFormCard

/-- THE TIED CARD OF 'sheaveskeep.ProvenRogue'. -/
def provenRogueCard : Claim7 := { stood := { row := provenRogueRow, standIns := [], harness := (true, "489cfb65d5d5fa4d3d638e2b2d8d10dfde5e2d84ea9a19356e902e2edbe09ff2"), looks := false }, kinds := [], alts := [], laidByText := true, laidKinds := [.data, .data, .data], laidTests := true, laidLooks := .later }
def ProvenRogueCardSaid : Prop := Claim7.holds Tryd.pinned (.plain (OpenSpec.ofChange provenRogueSpec)) provenRogueCard

/-- THE TIED CARD OF 'sheaveslaw.BallotCasts'. -/
def ballotCastsCard : Claim7 := { stood := { row := ballotCastsRow, standIns := [], harness := (true, "489cfb65d5d5fa4d3d638e2b2d8d10dfde5e2d84ea9a19356e902e2edbe09ff2"), looks := false }, kinds := [], alts := [], laidByText := true, laidKinds := [.data, .data, .data], laidTests := true, laidLooks := .later }
def BallotCastsCardSaid : Prop := Claim7.holds Tryd.pinned (.plain (OpenSpec.ofChange ballotCastsSpec)) ballotCastsCard

/-- THE TIED CARD OF 'sheaveskeep.CastOnce'. -/
def castOnceCard : Claim7 := { stood := { row := castOnceRow, standIns := [], harness := (true, "489cfb65d5d5fa4d3d638e2b2d8d10dfde5e2d84ea9a19356e902e2edbe09ff2"), looks := false }, kinds := [], alts := [], laidByText := true, laidKinds := [.data, .data, .data], laidTests := true, laidLooks := .later }
def CastOnceCardSaid : Prop := Claim7.holds Tryd.pinned (.plain (OpenSpec.ofChange castOnceSpec)) castOnceCard

/-- THE TIED CARD OF 'sheaveskeep.CastApart'. -/
def castApartCard : Claim7 := { stood := { row := castApartRow, standIns := [], harness := (true, "489cfb65d5d5fa4d3d638e2b2d8d10dfde5e2d84ea9a19356e902e2edbe09ff2"), looks := false }, kinds := [], alts := [], laidByText := true, laidKinds := [.data, .data, .data], laidTests := true, laidLooks := .later }
def CastApartCardSaid : Prop := Claim7.holds Tryd.pinned (.plain (OpenSpec.ofChange castApartSpec)) castApartCard

/-- THE TIED CARD OF 'sheaveskeep.BallotBad'. -/
def ballotBadCard : Claim7 := { stood := { row := ballotBadRow, standIns := [], harness := (true, "489cfb65d5d5fa4d3d638e2b2d8d10dfde5e2d84ea9a19356e902e2edbe09ff2"), looks := false }, kinds := [], alts := [], laidByText := true, laidKinds := [.data, .data, .data], laidTests := true, laidLooks := .later }
def BallotBadCardSaid : Prop := Claim7.holds Tryd.pinned (.plain (OpenSpec.ofChange ballotBadSpec)) ballotBadCard

/-- THE TIED CARD OF 'sheaveskeep.VotedNone'. -/
def votedNoneCard : Claim7 := { stood := { row := votedNoneRow, standIns := [], harness := (true, "489cfb65d5d5fa4d3d638e2b2d8d10dfde5e2d84ea9a19356e902e2edbe09ff2"), looks := false }, kinds := [], alts := [], laidByText := true, laidKinds := [.data, .data, .data], laidTests := true, laidLooks := .later }
def VotedNoneCardSaid : Prop := Claim7.holds Tryd.pinned (.plain (OpenSpec.ofChange votedNoneSpec)) votedNoneCard

/-- THE TIED CARD OF 'sheaveskeep.CastBad'. -/
def castBadCard : Claim7 := { stood := { row := castBadRow, standIns := [], harness := (true, "489cfb65d5d5fa4d3d638e2b2d8d10dfde5e2d84ea9a19356e902e2edbe09ff2"), looks := false }, kinds := [], alts := [], laidByText := true, laidKinds := [.data, .data, .data], laidTests := true, laidLooks := .later }
def CastBadCardSaid : Prop := Claim7.holds Tryd.pinned (.plain (OpenSpec.ofChange castBadSpec)) castBadCard

/-- THE TIED CARD OF 'sheaveskeep.TableAll'. -/
def tableAllCard : Claim7 := { stood := { row := tableAllRow, standIns := [], harness := (true, "489cfb65d5d5fa4d3d638e2b2d8d10dfde5e2d84ea9a19356e902e2edbe09ff2"), looks := false }, kinds := [], alts := [], laidByText := true, laidKinds := [.data, .data, .data], laidTests := true, laidLooks := .later }
def TableAllCardSaid : Prop := Claim7.holds Tryd.pinned (.plain (OpenSpec.ofChange tableAllSpec)) tableAllCard

/-- THE SECOND FORM's CARD OF 'sheaveslaw.SealProven'. -/
def sealProvenUptoCard : Claim7 := { stood := { row := sealProvenUptoRow, standIns := [], harness := (true, "489cfb65d5d5fa4d3d638e2b2d8d10dfde5e2d84ea9a19356e902e2edbe09ff2"), looks := false }, kinds := [], alts := [], laidByText := true, laidKinds := [.data, .data, .data], laidTests := true, laidLooks := .later }
def SealProvenUptoCardSaid : Prop := Claim7.holds Tryd.pinned (.plain (OpenSpec.upto sealProvenSpec)) sealProvenUptoCard

/-- THE SECOND FORM's CARD OF 'sheaveskeep.ProvenAll'. -/
def provenAllUptoCard : Claim7 := { stood := { row := provenAllUptoRow, standIns := [], harness := (true, "489cfb65d5d5fa4d3d638e2b2d8d10dfde5e2d84ea9a19356e902e2edbe09ff2"), looks := false }, kinds := [], alts := [], laidByText := true, laidKinds := [.data, .data, .data], laidTests := true, laidLooks := .later }
def ProvenAllUptoCardSaid : Prop := Claim7.holds Tryd.pinned (.plain (OpenSpec.upto provenAllSpec)) provenAllUptoCard

/-- THE SECOND FORM's CARD OF 'sheaveskeep.ProvenJust'. -/
def provenJustUptoCard : Claim7 := { stood := { row := provenJustUptoRow, standIns := [], harness := (true, "489cfb65d5d5fa4d3d638e2b2d8d10dfde5e2d84ea9a19356e902e2edbe09ff2"), looks := false }, kinds := [], alts := [], laidByText := true, laidKinds := [.data, .data, .data], laidTests := true, laidLooks := .later }
def ProvenJustUptoCardSaid : Prop := Claim7.holds Tryd.pinned (.plain (OpenSpec.upto provenJustSpec)) provenJustUptoCard

/-- THE SECOND FORM's CARD OF 'sheaveskeep.ProvenForm'. -/
def provenFormUptoCard : Claim7 := { stood := { row := provenFormUptoRow, standIns := [], harness := (true, "489cfb65d5d5fa4d3d638e2b2d8d10dfde5e2d84ea9a19356e902e2edbe09ff2"), looks := false }, kinds := [], alts := [], laidByText := true, laidKinds := [.data, .data, .data], laidTests := true, laidLooks := .later }
def ProvenFormUptoCardSaid : Prop := Claim7.holds Tryd.pinned (.plain (OpenSpec.upto provenFormSpec)) provenFormUptoCard

/-- THE SECOND FORM's CARD OF 'sheaveskeep.ProvenRogue'. -/
def provenRogueUptoCard : Claim7 := { stood := { row := provenRogueUptoRow, standIns := [], harness := (true, "489cfb65d5d5fa4d3d638e2b2d8d10dfde5e2d84ea9a19356e902e2edbe09ff2"), looks := false }, kinds := [], alts := [], laidByText := true, laidKinds := [.data, .data, .data], laidTests := true, laidLooks := .later }
def ProvenRogueUptoCardSaid : Prop := Claim7.holds Tryd.pinned (.plain (OpenSpec.upto provenRogueSpec)) provenRogueUptoCard

/-- THE SECOND FORM's CARD OF 'sheaveslaw.BallotCasts'. -/
def ballotCastsUptoCard : Claim7 := { stood := { row := ballotCastsUptoRow, standIns := [], harness := (true, "489cfb65d5d5fa4d3d638e2b2d8d10dfde5e2d84ea9a19356e902e2edbe09ff2"), looks := false }, kinds := [], alts := [], laidByText := true, laidKinds := [.data, .data, .data], laidTests := true, laidLooks := .later }
def BallotCastsUptoCardSaid : Prop := Claim7.holds Tryd.pinned (.plain (OpenSpec.upto ballotCastsSpec)) ballotCastsUptoCard

/-- THE SECOND FORM's CARD OF 'sheaveskeep.CastOnce'. -/
def castOnceUptoCard : Claim7 := { stood := { row := castOnceUptoRow, standIns := [], harness := (true, "489cfb65d5d5fa4d3d638e2b2d8d10dfde5e2d84ea9a19356e902e2edbe09ff2"), looks := false }, kinds := [], alts := [], laidByText := true, laidKinds := [.data, .data, .data], laidTests := true, laidLooks := .later }
def CastOnceUptoCardSaid : Prop := Claim7.holds Tryd.pinned (.plain (OpenSpec.upto castOnceSpec)) castOnceUptoCard

/-- THE SECOND FORM's CARD OF 'sheaveskeep.CastApart'. -/
def castApartUptoCard : Claim7 := { stood := { row := castApartUptoRow, standIns := [], harness := (true, "489cfb65d5d5fa4d3d638e2b2d8d10dfde5e2d84ea9a19356e902e2edbe09ff2"), looks := false }, kinds := [], alts := [], laidByText := true, laidKinds := [.data, .data, .data], laidTests := true, laidLooks := .later }
def CastApartUptoCardSaid : Prop := Claim7.holds Tryd.pinned (.plain (OpenSpec.upto castApartSpec)) castApartUptoCard

/-- THE SECOND FORM's CARD OF 'sheaveskeep.BallotBad'. -/
def ballotBadUptoCard : Claim7 := { stood := { row := ballotBadUptoRow, standIns := [], harness := (true, "489cfb65d5d5fa4d3d638e2b2d8d10dfde5e2d84ea9a19356e902e2edbe09ff2"), looks := false }, kinds := [], alts := [], laidByText := true, laidKinds := [.data, .data, .data], laidTests := true, laidLooks := .later }
def BallotBadUptoCardSaid : Prop := Claim7.holds Tryd.pinned (.plain (OpenSpec.upto ballotBadSpec)) ballotBadUptoCard

/-- THE SECOND FORM's CARD OF 'sheaveskeep.VotedNone'. -/
def votedNoneUptoCard : Claim7 := { stood := { row := votedNoneUptoRow, standIns := [], harness := (true, "489cfb65d5d5fa4d3d638e2b2d8d10dfde5e2d84ea9a19356e902e2edbe09ff2"), looks := false }, kinds := [], alts := [], laidByText := true, laidKinds := [.data, .data, .data], laidTests := true, laidLooks := .later }
def VotedNoneUptoCardSaid : Prop := Claim7.holds Tryd.pinned (.plain (OpenSpec.upto votedNoneSpec)) votedNoneUptoCard

/-- THE SECOND FORM's CARD OF 'sheaveskeep.CastBad'. -/
def castBadUptoCard : Claim7 := { stood := { row := castBadUptoRow, standIns := [], harness := (true, "489cfb65d5d5fa4d3d638e2b2d8d10dfde5e2d84ea9a19356e902e2edbe09ff2"), looks := false }, kinds := [], alts := [], laidByText := true, laidKinds := [.data, .data, .data], laidTests := true, laidLooks := .later }
def CastBadUptoCardSaid : Prop := Claim7.holds Tryd.pinned (.plain (OpenSpec.upto castBadSpec)) castBadUptoCard

/-- THE SECOND FORM's CARD OF 'sheaveskeep.TableAll'. -/
def tableAllUptoCard : Claim7 := { stood := { row := tableAllUptoRow, standIns := [], harness := (true, "489cfb65d5d5fa4d3d638e2b2d8d10dfde5e2d84ea9a19356e902e2edbe09ff2"), looks := false }, kinds := [], alts := [], laidByText := true, laidKinds := [.data, .data, .data], laidTests := true, laidLooks := .later }
def TableAllUptoCardSaid : Prop := Claim7.holds Tryd.pinned (.plain (OpenSpec.upto tableAllSpec)) tableAllUptoCard
end Rows
end Go.Proofs.YtbkojincfmfpnaaDoor
