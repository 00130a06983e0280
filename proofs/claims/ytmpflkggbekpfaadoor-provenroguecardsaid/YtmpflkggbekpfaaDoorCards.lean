/-
  DERIVED. GIVEN WITH THE SEED: THE CARDS: each row of YtmpflkggbekpfaaDoorRows.lean that lists a variable, with what it lists TIED to the program's text (the seventh form; the later family's looks); each row that meets fmt, with fmt's text TOLD by the authors' own Lean function (tested against real Go, not proved from fmt's source: count such statements apart). THE CARD IS WHAT COUNTS. Prove the row's statement (the work); the ties are given (YtmpflkggbekpfaaDoorTie.lean); close each card by the builder's one call (the guide's Derived/Test/ToyasCard.lean, 'card_holds'). Laid BY PROGRAM, IN A SANDBOX (cutbox-door.mjs). By AI agents, Wed Nov 11 2026. No macro, syntax, notation, axiom, sorry.
-/
import Derived.Test.YtmpflkggbekpfaaDoorRows
import GoSem.ClaimSeven
namespace Go.Proofs.YtmpflkggbekpfaaDoor
namespace Rows

/-- THE TIED CARD OF 'sheaveslaw.SealProven'. -/
def sealProvenCard : Claim7 := { stood := { row := sealProvenRow, standIns := [], harness := (true, "1cbb8a37b0a0932ee1400be0f2f4fa277225bf520b765ad9353b8687d0902172"), looks := false }, kinds := [], alts := [], laidByText := true, laidKinds := [.data, .data, .data], laidTests := true, laidLooks := .later }
def SealProvenCardSaid : Prop := Claim7.holds Tryd.pinned (.plain (OpenSpec.ofChange sealProvenSpec)) sealProvenCard

/-- THE TIED CARD OF 'sheaveskeep.ProvenAll'. -/
def provenAllCard : Claim7 := { stood := { row := provenAllRow, standIns := [], harness := (true, "1cbb8a37b0a0932ee1400be0f2f4fa277225bf520b765ad9353b8687d0902172"), looks := false }, kinds := [], alts := [], laidByText := true, laidKinds := [.data, .data, .data], laidTests := true, laidLooks := .later }
def ProvenAllCardSaid : Prop := Claim7.holds Tryd.pinned (.plain (OpenSpec.ofChange provenAllSpec)) provenAllCard

/-- THE TIED CARD OF 'sheaveskeep.ProvenJust'. -/
def provenJustCard : Claim7 := { stood := { row := provenJustRow, standIns := [], harness := (true, "1cbb8a37b0a0932ee1400be0f2f4fa277225bf520b765ad9353b8687d0902172"), looks := false }, kinds := [], alts := [], laidByText := true, laidKinds := [.data, .data, .data], laidTests := true, laidLooks := .later }
def ProvenJustCardSaid : Prop := Claim7.holds Tryd.pinned (.plain (OpenSpec.ofChange provenJustSpec)) provenJustCard

/-- THE TIED CARD OF 'sheaveskeep.ProvenForm'. -/
def provenFormCard : Claim7 := { stood := { row := provenFormRow, standIns := [], harness := (true, "1cbb8a37b0a0932ee1400be0f2f4fa277225bf520b765ad9353b8687d0902172"), looks := false }, kinds := [], alts := [], laidByText := true, laidKinds := [.data, .data, .data], laidTests := true, laidLooks := .later }
def ProvenFormCardSaid : Prop := Claim7.holds Tryd.pinned (.plain (OpenSpec.ofChange provenFormSpec)) provenFormCard

/-- THE TIED CARD OF 'sheaveskeep.ProvenRogue'. -/
def provenRogueCard : Claim7 := { stood := { row := provenRogueRow, standIns := [], harness := (true, "1cbb8a37b0a0932ee1400be0f2f4fa277225bf520b765ad9353b8687d0902172"), looks := false }, kinds := [], alts := [], laidByText := true, laidKinds := [.data, .data, .data], laidTests := true, laidLooks := .later }
def ProvenRogueCardSaid : Prop := Claim7.holds Tryd.pinned (.plain (OpenSpec.ofChange provenRogueSpec)) provenRogueCard

/-- THE SECOND FORM's CARD OF 'sheaveslaw.SealProven'. -/
def sealProvenUptoCard : Claim7 := { stood := { row := sealProvenUptoRow, standIns := [], harness := (true, "1cbb8a37b0a0932ee1400be0f2f4fa277225bf520b765ad9353b8687d0902172"), looks := false }, kinds := [], alts := [], laidByText := true, laidKinds := [.data, .data, .data], laidTests := true, laidLooks := .later }
def SealProvenUptoCardSaid : Prop := Claim7.holds Tryd.pinned (.plain (OpenSpec.upto sealProvenSpec)) sealProvenUptoCard

/-- THE SECOND FORM's CARD OF 'sheaveskeep.ProvenAll'. -/
def provenAllUptoCard : Claim7 := { stood := { row := provenAllUptoRow, standIns := [], harness := (true, "1cbb8a37b0a0932ee1400be0f2f4fa277225bf520b765ad9353b8687d0902172"), looks := false }, kinds := [], alts := [], laidByText := true, laidKinds := [.data, .data, .data], laidTests := true, laidLooks := .later }
def ProvenAllUptoCardSaid : Prop := Claim7.holds Tryd.pinned (.plain (OpenSpec.upto provenAllSpec)) provenAllUptoCard

/-- THE SECOND FORM's CARD OF 'sheaveskeep.ProvenJust'. -/
def provenJustUptoCard : Claim7 := { stood := { row := provenJustUptoRow, standIns := [], harness := (true, "1cbb8a37b0a0932ee1400be0f2f4fa277225bf520b765ad9353b8687d0902172"), looks := false }, kinds := [], alts := [], laidByText := true, laidKinds := [.data, .data, .data], laidTests := true, laidLooks := .later }
def ProvenJustUptoCardSaid : Prop := Claim7.holds Tryd.pinned (.plain (OpenSpec.upto provenJustSpec)) provenJustUptoCard

/-- THE SECOND FORM's CARD OF 'sheaveskeep.ProvenForm'. -/
def provenFormUptoCard : Claim7 := { stood := { row := provenFormUptoRow, standIns := [], harness := (true, "1cbb8a37b0a0932ee1400be0f2f4fa277225bf520b765ad9353b8687d0902172"), looks := false }, kinds := [], alts := [], laidByText := true, laidKinds := [.data, .data, .data], laidTests := true, laidLooks := .later }
def ProvenFormUptoCardSaid : Prop := Claim7.holds Tryd.pinned (.plain (OpenSpec.upto provenFormSpec)) provenFormUptoCard

/-- THE SECOND FORM's CARD OF 'sheaveskeep.ProvenRogue'. -/
def provenRogueUptoCard : Claim7 := { stood := { row := provenRogueUptoRow, standIns := [], harness := (true, "1cbb8a37b0a0932ee1400be0f2f4fa277225bf520b765ad9353b8687d0902172"), looks := false }, kinds := [], alts := [], laidByText := true, laidKinds := [.data, .data, .data], laidTests := true, laidLooks := .later }
def ProvenRogueUptoCardSaid : Prop := Claim7.holds Tryd.pinned (.plain (OpenSpec.upto provenRogueSpec)) provenRogueUptoCard
end Rows
end Go.Proofs.YtmpflkggbekpfaaDoor
