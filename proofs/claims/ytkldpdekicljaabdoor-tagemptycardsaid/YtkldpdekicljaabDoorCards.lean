/-
  DERIVED. GIVEN WITH THE SEED: THE CARDS: each row of YtkldpdekicljaabDoorRows.lean that lists a variable, with what it lists TIED to the program's text (the seventh form; the later family's looks); each row that meets fmt, with fmt's text TOLD by the authors' own Lean function (tested against real Go, not proved from fmt's source: count such statements apart). THE CARD IS WHAT COUNTS. Prove the row's statement (the work); the ties are given (YtkldpdekicljaabDoorTie.lean); close each card by the builder's one call (the guide's Derived/Test/ToyasCard.lean, 'card_holds'). Laid BY PROGRAM, IN A SANDBOX (cutbox-door.mjs). By AI agents, Wed Nov 11 2026. No macro, syntax, notation, axiom, sorry.
-/
import Derived.Test.YtkldpdekicljaabDoorRows
import GoSem.ClaimSeven
namespace Go.Proofs.YtkldpdekicljaabDoor
namespace Rows

/-- THE TIED CARD OF 'sheaveskeep.TagEmpty'. -/
def tagEmptyCard : Claim7 := { stood := { row := tagEmptyRow, standIns := [], harness := (true, "c730d4870aac08c1563675e63ff8ca3ed429722e8d8fe78cb9342705ce05f186"), looks := false }, kinds := [], alts := [], laidByText := true, laidKinds := [.data, .data, .data], laidTests := true, laidLooks := .later }
def TagEmptyCardSaid : Prop := Claim7.holds Tryd.pinned (.plain (OpenSpec.ofChange tagEmptySpec)) tagEmptyCard

/-- THE TIED CARD OF 'sheaveskeep.TagWhole'. -/
def tagWholeCard : Claim7 := { stood := { row := tagWholeRow, standIns := [], harness := (true, "c730d4870aac08c1563675e63ff8ca3ed429722e8d8fe78cb9342705ce05f186"), looks := false }, kinds := [], alts := [], laidByText := true, laidKinds := [.data, .data, .data], laidTests := true, laidLooks := .later }
def TagWholeCardSaid : Prop := Claim7.holds Tryd.pinned (.plain (OpenSpec.ofChange tagWholeSpec)) tagWholeCard

/-- THE SECOND FORM's CARD OF 'sheaveskeep.TagEmpty'. -/
def tagEmptyUptoCard : Claim7 := { stood := { row := tagEmptyUptoRow, standIns := [], harness := (true, "c730d4870aac08c1563675e63ff8ca3ed429722e8d8fe78cb9342705ce05f186"), looks := false }, kinds := [], alts := [], laidByText := true, laidKinds := [.data, .data, .data], laidTests := true, laidLooks := .later }
def TagEmptyUptoCardSaid : Prop := Claim7.holds Tryd.pinned (.plain (OpenSpec.upto tagEmptySpec)) tagEmptyUptoCard

/-- THE SECOND FORM's CARD OF 'sheaveskeep.TagWhole'. -/
def tagWholeUptoCard : Claim7 := { stood := { row := tagWholeUptoRow, standIns := [], harness := (true, "c730d4870aac08c1563675e63ff8ca3ed429722e8d8fe78cb9342705ce05f186"), looks := false }, kinds := [], alts := [], laidByText := true, laidKinds := [.data, .data, .data], laidTests := true, laidLooks := .later }
def TagWholeUptoCardSaid : Prop := Claim7.holds Tryd.pinned (.plain (OpenSpec.upto tagWholeSpec)) tagWholeUptoCard
end Rows
end Go.Proofs.YtkldpdekicljaabDoor
