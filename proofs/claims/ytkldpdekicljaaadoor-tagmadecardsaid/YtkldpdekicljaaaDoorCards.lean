/-
  DERIVED. GIVEN WITH THE SEED: THE CARDS: each row of YtkldpdekicljaaaDoorRows.lean that lists a variable, with what it lists TIED to the program's text (the seventh form; the later family's looks); each row that meets fmt, with fmt's text TOLD by the authors' own Lean function (tested against real Go, not proved from fmt's source: count such statements apart). THE CARD IS WHAT COUNTS. Prove the row's statement (the work); the ties are given (YtkldpdekicljaaaDoorTie.lean); close each card by the builder's one call (the guide's Derived/Test/ToyasCard.lean, 'card_holds'). Laid BY PROGRAM, IN A SANDBOX (cutbox-door.mjs). By AI agents, Wed Nov 11 2026. No macro, syntax, notation, axiom, sorry.
-/
import Derived.Test.YtkldpdekicljaaaDoorRows
import GoSem.ClaimSeven
namespace Go.Proofs.YtkldpdekicljaaaDoor
namespace Rows

/-- THE TIED CARD OF 'sheaveslaw.BlakeSums'. -/
def blakeSumsCard : Claim7 := { stood := { row := blakeSumsRow, standIns := [], harness := (true, "f6db89d87c6be0d4799151193b9e553da5eb544f16642ccbd9b574582887a8b7"), looks := false }, kinds := [], alts := [], laidByText := true, laidKinds := [.data, .data, .data], laidTests := true, laidLooks := .later }
def BlakeSumsCardSaid : Prop := Claim7.holds Tryd.pinned (.plain (OpenSpec.ofChange blakeSumsSpec)) blakeSumsCard

/-- THE TIED CARD OF 'sheaveslaw.BlakeTags'. -/
def blakeTagsCard : Claim7 := { stood := { row := blakeTagsRow, standIns := [], harness := (true, "f6db89d87c6be0d4799151193b9e553da5eb544f16642ccbd9b574582887a8b7"), looks := false }, kinds := [], alts := [], laidByText := true, laidKinds := [.data, .data, .data], laidTests := true, laidLooks := .later }
def BlakeTagsCardSaid : Prop := Claim7.holds Tryd.pinned (.plain (OpenSpec.ofChange blakeTagsSpec)) blakeTagsCard

/-- THE TIED CARD OF 'sheaveskeep.KnownSums'. -/
def knownSumsCard : Claim7 := { stood := { row := knownSumsRow, standIns := [], harness := (true, "f6db89d87c6be0d4799151193b9e553da5eb544f16642ccbd9b574582887a8b7"), looks := false }, kinds := [], alts := [], laidByText := true, laidKinds := [.data, .data, .data], laidTests := true, laidLooks := .later }
def KnownSumsCardSaid : Prop := Claim7.holds Tryd.pinned (.plain (OpenSpec.ofChange knownSumsSpec)) knownSumsCard

/-- THE TIED CARD OF 'sheaveskeep.SumLong'. -/
def sumLongCard : Claim7 := { stood := { row := sumLongRow, standIns := [], harness := (true, "f6db89d87c6be0d4799151193b9e553da5eb544f16642ccbd9b574582887a8b7"), looks := false }, kinds := [], alts := [], laidByText := true, laidKinds := [.data, .data, .data], laidTests := true, laidLooks := .later }
def SumLongCardSaid : Prop := Claim7.holds Tryd.pinned (.plain (OpenSpec.ofChange sumLongSpec)) sumLongCard

/-- THE TIED CARD OF 'sheaveskeep.TagMade'. -/
def tagMadeCard : Claim7 := { stood := { row := tagMadeRow, standIns := [], harness := (true, "f6db89d87c6be0d4799151193b9e553da5eb544f16642ccbd9b574582887a8b7"), looks := false }, kinds := [], alts := [], laidByText := true, laidKinds := [.data, .data, .data], laidTests := true, laidLooks := .later }
def TagMadeCardSaid : Prop := Claim7.holds Tryd.pinned (.plain (OpenSpec.ofChange tagMadeSpec)) tagMadeCard

/-- THE TIED CARD OF 'sheaveskeep.TagLong'. -/
def tagLongCard : Claim7 := { stood := { row := tagLongRow, standIns := [], harness := (true, "f6db89d87c6be0d4799151193b9e553da5eb544f16642ccbd9b574582887a8b7"), looks := false }, kinds := [], alts := [], laidByText := true, laidKinds := [.data, .data, .data], laidTests := true, laidLooks := .later }
def TagLongCardSaid : Prop := Claim7.holds Tryd.pinned (.plain (OpenSpec.ofChange tagLongSpec)) tagLongCard

/-- THE SECOND FORM's CARD OF 'sheaveslaw.BlakeSums'. -/
def blakeSumsUptoCard : Claim7 := { stood := { row := blakeSumsUptoRow, standIns := [], harness := (true, "f6db89d87c6be0d4799151193b9e553da5eb544f16642ccbd9b574582887a8b7"), looks := false }, kinds := [], alts := [], laidByText := true, laidKinds := [.data, .data, .data], laidTests := true, laidLooks := .later }
def BlakeSumsUptoCardSaid : Prop := Claim7.holds Tryd.pinned (.plain (OpenSpec.upto blakeSumsSpec)) blakeSumsUptoCard

/-- THE SECOND FORM's CARD OF 'sheaveslaw.BlakeTags'. -/
def blakeTagsUptoCard : Claim7 := { stood := { row := blakeTagsUptoRow, standIns := [], harness := (true, "f6db89d87c6be0d4799151193b9e553da5eb544f16642ccbd9b574582887a8b7"), looks := false }, kinds := [], alts := [], laidByText := true, laidKinds := [.data, .data, .data], laidTests := true, laidLooks := .later }
def BlakeTagsUptoCardSaid : Prop := Claim7.holds Tryd.pinned (.plain (OpenSpec.upto blakeTagsSpec)) blakeTagsUptoCard

/-- THE SECOND FORM's CARD OF 'sheaveskeep.KnownSums'. -/
def knownSumsUptoCard : Claim7 := { stood := { row := knownSumsUptoRow, standIns := [], harness := (true, "f6db89d87c6be0d4799151193b9e553da5eb544f16642ccbd9b574582887a8b7"), looks := false }, kinds := [], alts := [], laidByText := true, laidKinds := [.data, .data, .data], laidTests := true, laidLooks := .later }
def KnownSumsUptoCardSaid : Prop := Claim7.holds Tryd.pinned (.plain (OpenSpec.upto knownSumsSpec)) knownSumsUptoCard

/-- THE SECOND FORM's CARD OF 'sheaveskeep.SumLong'. -/
def sumLongUptoCard : Claim7 := { stood := { row := sumLongUptoRow, standIns := [], harness := (true, "f6db89d87c6be0d4799151193b9e553da5eb544f16642ccbd9b574582887a8b7"), looks := false }, kinds := [], alts := [], laidByText := true, laidKinds := [.data, .data, .data], laidTests := true, laidLooks := .later }
def SumLongUptoCardSaid : Prop := Claim7.holds Tryd.pinned (.plain (OpenSpec.upto sumLongSpec)) sumLongUptoCard

/-- THE SECOND FORM's CARD OF 'sheaveskeep.TagMade'. -/
def tagMadeUptoCard : Claim7 := { stood := { row := tagMadeUptoRow, standIns := [], harness := (true, "f6db89d87c6be0d4799151193b9e553da5eb544f16642ccbd9b574582887a8b7"), looks := false }, kinds := [], alts := [], laidByText := true, laidKinds := [.data, .data, .data], laidTests := true, laidLooks := .later }
def TagMadeUptoCardSaid : Prop := Claim7.holds Tryd.pinned (.plain (OpenSpec.upto tagMadeSpec)) tagMadeUptoCard

/-- THE SECOND FORM's CARD OF 'sheaveskeep.TagLong'. -/
def tagLongUptoCard : Claim7 := { stood := { row := tagLongUptoRow, standIns := [], harness := (true, "f6db89d87c6be0d4799151193b9e553da5eb544f16642ccbd9b574582887a8b7"), looks := false }, kinds := [], alts := [], laidByText := true, laidKinds := [.data, .data, .data], laidTests := true, laidLooks := .later }
def TagLongUptoCardSaid : Prop := Claim7.holds Tryd.pinned (.plain (OpenSpec.upto tagLongSpec)) tagLongUptoCard
end Rows
end Go.Proofs.YtkldpdekicljaaaDoor
