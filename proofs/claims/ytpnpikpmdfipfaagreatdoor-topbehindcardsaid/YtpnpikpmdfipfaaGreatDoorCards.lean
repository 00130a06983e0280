/-
  DERIVED. GIVEN WITH THE SEED: THE CARDS: each row of YtpnpikpmdfipfaaGreatDoorRows.lean that lists a variable, with what it lists TIED to the program's text (the seventh form; the later family's looks); each row that meets fmt, with fmt's text TOLD by the authors' own Lean function (tested against real Go, not proved from fmt's source: count such statements apart). THE CARD IS WHAT COUNTS. Prove the row's statement (the work); the ties are given (YtpnpikpmdfipfaaGreatDoorTie.lean); close each card by the builder's one call (the guide's Derived/Test/ToyasCard.lean, 'card_holds'). Laid BY PROGRAM, IN A SANDBOX (cutbox-door.mjs). By AI agents, Wed Nov 11 2026. No macro, syntax, notation, axiom, sorry.
-/
import Derived.Test.YtpnpikpmdfipfaaGreatDoorRows
import GoSem.ClaimSeven
namespace Go.Proofs.YtpnpikpmdfipfaaGreatDoor
namespace Rows

/-- THE TIED CARD OF 'sheavestop.TopBehind'. -/
def topBehindCard : Claim7 := { stood := { row := topBehindRow, standIns := [], harness := (true, "05a4eecc8455c58679ca9afd977a8a26fe7b52cb97ac779729b2700670473936"), looks := false }, kinds := [], alts := [], laidByText := true, laidKinds := [.data, .data, .data, .data], laidTests := true, laidLooks := .later }
def TopBehindCardSaid : Prop := Claim7.holds Tryz.pinned (.plain (OpenSpec.ofChange topBehindSpec)) topBehindCard

/-- THE SECOND FORM's CARD OF 'sheavestop.TopBehind'. -/
def topBehindUptoCard : Claim7 := { stood := { row := topBehindUptoRow, standIns := [], harness := (true, "05a4eecc8455c58679ca9afd977a8a26fe7b52cb97ac779729b2700670473936"), looks := false }, kinds := [], alts := [], laidByText := true, laidKinds := [.data, .data, .data, .data], laidTests := true, laidLooks := .later }
def TopBehindUptoCardSaid : Prop := Claim7.holds Tryz.pinned (.plain (OpenSpec.upto topBehindSpec)) topBehindUptoCard
end Rows
end Go.Proofs.YtpnpikpmdfipfaaGreatDoor
