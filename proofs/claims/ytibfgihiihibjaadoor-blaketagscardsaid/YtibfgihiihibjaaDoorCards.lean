/-
  DERIVED. GIVEN WITH THE SEED: THE CARDS: each row of YtibfgihiihibjaaDoorRows.lean that lists a variable, with what it lists TIED to the program's text (the seventh form; the later family's looks); each row that meets fmt, with fmt's text TOLD by the authors' own Lean function (tested against real Go, not proved from fmt's source: count such statements apart). THE CARD IS WHAT COUNTS. Prove the row's statement (the work); the ties are given (YtibfgihiihibjaaDoorTie.lean); close each card by the builder's one call (the guide's Derived/Test/ToyasCard.lean, 'card_holds'). Laid BY PROGRAM, IN A SANDBOX (cutbox-door.mjs). By AI agents, Wed Nov 11 2026. No macro, syntax, notation, axiom, sorry.
-/
import Derived.Test.YtibfgihiihibjaaDoorRows
import GoSem.ClaimSeven
namespace Go.Proofs.YtibfgihiihibjaaDoor
namespace Rows

/-- THE TIED CARD OF 'sheaveslaw.BlakeSums'. -/
def blakeSumsCard : Claim7 := { stood := { row := blakeSumsRow, standIns := [], harness := (true, "8c7886434d3d7626849b5fe6392287685c3376833f738de56da75b8dacd87907"), looks := false }, kinds := [], alts := [], laidByText := true, laidKinds := [.data, .data, .data], laidTests := true, laidLooks := .later }
def BlakeSumsCardSaid : Prop := Claim7.holds Tryd.pinned (.plain (OpenSpec.ofChange blakeSumsSpec)) blakeSumsCard

/-- THE TIED CARD OF 'sheaveslaw.BlakeTags'. -/
def blakeTagsCard : Claim7 := { stood := { row := blakeTagsRow, standIns := [], harness := (true, "8c7886434d3d7626849b5fe6392287685c3376833f738de56da75b8dacd87907"), looks := false }, kinds := [], alts := [], laidByText := true, laidKinds := [.data, .data, .data], laidTests := true, laidLooks := .later }
def BlakeTagsCardSaid : Prop := Claim7.holds Tryd.pinned (.plain (OpenSpec.ofChange blakeTagsSpec)) blakeTagsCard

/-- THE SECOND FORM's CARD OF 'sheaveslaw.BlakeSums'. -/
def blakeSumsUptoCard : Claim7 := { stood := { row := blakeSumsUptoRow, standIns := [], harness := (true, "8c7886434d3d7626849b5fe6392287685c3376833f738de56da75b8dacd87907"), looks := false }, kinds := [], alts := [], laidByText := true, laidKinds := [.data, .data, .data], laidTests := true, laidLooks := .later }
def BlakeSumsUptoCardSaid : Prop := Claim7.holds Tryd.pinned (.plain (OpenSpec.upto blakeSumsSpec)) blakeSumsUptoCard

/-- THE SECOND FORM's CARD OF 'sheaveslaw.BlakeTags'. -/
def blakeTagsUptoCard : Claim7 := { stood := { row := blakeTagsUptoRow, standIns := [], harness := (true, "8c7886434d3d7626849b5fe6392287685c3376833f738de56da75b8dacd87907"), looks := false }, kinds := [], alts := [], laidByText := true, laidKinds := [.data, .data, .data], laidTests := true, laidLooks := .later }
def BlakeTagsUptoCardSaid : Prop := Claim7.holds Tryd.pinned (.plain (OpenSpec.upto blakeTagsSpec)) blakeTagsUptoCard
end Rows
end Go.Proofs.YtibfgihiihibjaaDoor
