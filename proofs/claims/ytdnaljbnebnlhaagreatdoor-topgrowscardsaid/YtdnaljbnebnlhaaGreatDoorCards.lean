/-
  DERIVED. GIVEN WITH THE SEED: THE CARDS: each row of YtdnaljbnebnlhaaGreatDoorRows.lean that lists a variable, with what it lists TIED to the program's text (the seventh form; the later family's looks); each row that meets fmt, with fmt's text TOLD by the authors' own Lean function (tested against real Go, not proved from fmt's source: count such statements apart). THE CARD IS WHAT COUNTS. Prove the row's statement (the work); the ties are given (YtdnaljbnebnlhaaGreatDoorTie.lean); close each card by the builder's one call (the guide's Derived/Test/ToyasCard.lean, 'card_holds'). Laid BY PROGRAM, IN A SANDBOX (cutbox-door.mjs). By AI agents, Wed Nov 11 2026. No macro, syntax, notation, axiom, sorry.
-/
import Derived.Test.YtdnaljbnebnlhaaGreatDoorRows
import GoSem.ClaimSeven
namespace Go.Proofs.YtdnaljbnebnlhaaGreatDoor
namespace Rows

/-- THE TIED CARD OF 'sheavestop.TopSingle'. -/
def topSingleCard : Claim7 := { stood := { row := topSingleRow, standIns := [], harness := (true, "dd23152f1eda9b161c4dcea8dbf053d3aa5b8a68a362362a0b3f3c733dbef146"), looks := false }, kinds := [], alts := [], laidByText := true, laidKinds := [.data, .data, .data, .data], laidTests := true, laidLooks := .later }
def TopSingleCardSaid : Prop := Claim7.holds Tryz.pinned (.plain (OpenSpec.ofChange topSingleSpec)) topSingleCard

/-- THE TIED CARD OF 'sheavestop.TopGrows'. -/
def topGrowsCard : Claim7 := { stood := { row := topGrowsRow, standIns := [], harness := (true, "dd23152f1eda9b161c4dcea8dbf053d3aa5b8a68a362362a0b3f3c733dbef146"), looks := false }, kinds := [], alts := [], laidByText := true, laidKinds := [.data, .data, .data, .data], laidTests := true, laidLooks := .later }
def TopGrowsCardSaid : Prop := Claim7.holds Tryz.pinned (.plain (OpenSpec.ofChange topGrowsSpec)) topGrowsCard

/-- THE TIED CARD OF 'sheavestop.TopDown'. -/
def topDownCard : Claim7 := { stood := { row := topDownRow, standIns := [], harness := (true, "dd23152f1eda9b161c4dcea8dbf053d3aa5b8a68a362362a0b3f3c733dbef146"), looks := false }, kinds := [], alts := [], laidByText := true, laidKinds := [.data, .data, .data, .data], laidTests := true, laidLooks := .later }
def TopDownCardSaid : Prop := Claim7.holds Tryz.pinned (.plain (OpenSpec.ofChange topDownSpec)) topDownCard

/-- THE TIED CARD OF 'sheavestop.TopForge'. -/
def topForgeCard : Claim7 := { stood := { row := topForgeRow, standIns := [], harness := (true, "dd23152f1eda9b161c4dcea8dbf053d3aa5b8a68a362362a0b3f3c733dbef146"), looks := false }, kinds := [], alts := [], laidByText := true, laidKinds := [.data, .data, .data, .data], laidTests := true, laidLooks := .later }
def TopForgeCardSaid : Prop := Claim7.holds Tryz.pinned (.plain (OpenSpec.ofChange topForgeSpec)) topForgeCard

/-- THE TIED CARD OF 'sheavestop.TopCodes'. -/
def topCodesCard : Claim7 := { stood := { row := topCodesRow, standIns := [], harness := (true, "dd23152f1eda9b161c4dcea8dbf053d3aa5b8a68a362362a0b3f3c733dbef146"), looks := false }, kinds := [], alts := [], laidByText := true, laidKinds := [.data, .data, .data, .data], laidTests := true, laidLooks := .later }
def TopCodesCardSaid : Prop := Claim7.holds Tryz.pinned (.plain (OpenSpec.ofChange topCodesSpec)) topCodesCard

/-- THE TIED CARD OF 'sheavestop.TopPick'. -/
def topPickCard : Claim7 := { stood := { row := topPickRow, standIns := [], harness := (true, "dd23152f1eda9b161c4dcea8dbf053d3aa5b8a68a362362a0b3f3c733dbef146"), looks := false }, kinds := [], alts := [], laidByText := true, laidKinds := [.data, .data, .data, .data], laidTests := true, laidLooks := .later }
def TopPickCardSaid : Prop := Claim7.holds Tryz.pinned (.plain (OpenSpec.ofChange topPickSpec)) topPickCard

/-- THE SECOND FORM's CARD OF 'sheavestop.TopSingle'. -/
def topSingleUptoCard : Claim7 := { stood := { row := topSingleUptoRow, standIns := [], harness := (true, "dd23152f1eda9b161c4dcea8dbf053d3aa5b8a68a362362a0b3f3c733dbef146"), looks := false }, kinds := [], alts := [], laidByText := true, laidKinds := [.data, .data, .data, .data], laidTests := true, laidLooks := .later }
def TopSingleUptoCardSaid : Prop := Claim7.holds Tryz.pinned (.plain (OpenSpec.upto topSingleSpec)) topSingleUptoCard

/-- THE SECOND FORM's CARD OF 'sheavestop.TopGrows'. -/
def topGrowsUptoCard : Claim7 := { stood := { row := topGrowsUptoRow, standIns := [], harness := (true, "dd23152f1eda9b161c4dcea8dbf053d3aa5b8a68a362362a0b3f3c733dbef146"), looks := false }, kinds := [], alts := [], laidByText := true, laidKinds := [.data, .data, .data, .data], laidTests := true, laidLooks := .later }
def TopGrowsUptoCardSaid : Prop := Claim7.holds Tryz.pinned (.plain (OpenSpec.upto topGrowsSpec)) topGrowsUptoCard

/-- THE SECOND FORM's CARD OF 'sheavestop.TopDown'. -/
def topDownUptoCard : Claim7 := { stood := { row := topDownUptoRow, standIns := [], harness := (true, "dd23152f1eda9b161c4dcea8dbf053d3aa5b8a68a362362a0b3f3c733dbef146"), looks := false }, kinds := [], alts := [], laidByText := true, laidKinds := [.data, .data, .data, .data], laidTests := true, laidLooks := .later }
def TopDownUptoCardSaid : Prop := Claim7.holds Tryz.pinned (.plain (OpenSpec.upto topDownSpec)) topDownUptoCard

/-- THE SECOND FORM's CARD OF 'sheavestop.TopForge'. -/
def topForgeUptoCard : Claim7 := { stood := { row := topForgeUptoRow, standIns := [], harness := (true, "dd23152f1eda9b161c4dcea8dbf053d3aa5b8a68a362362a0b3f3c733dbef146"), looks := false }, kinds := [], alts := [], laidByText := true, laidKinds := [.data, .data, .data, .data], laidTests := true, laidLooks := .later }
def TopForgeUptoCardSaid : Prop := Claim7.holds Tryz.pinned (.plain (OpenSpec.upto topForgeSpec)) topForgeUptoCard

/-- THE SECOND FORM's CARD OF 'sheavestop.TopCodes'. -/
def topCodesUptoCard : Claim7 := { stood := { row := topCodesUptoRow, standIns := [], harness := (true, "dd23152f1eda9b161c4dcea8dbf053d3aa5b8a68a362362a0b3f3c733dbef146"), looks := false }, kinds := [], alts := [], laidByText := true, laidKinds := [.data, .data, .data, .data], laidTests := true, laidLooks := .later }
def TopCodesUptoCardSaid : Prop := Claim7.holds Tryz.pinned (.plain (OpenSpec.upto topCodesSpec)) topCodesUptoCard

/-- THE SECOND FORM's CARD OF 'sheavestop.TopPick'. -/
def topPickUptoCard : Claim7 := { stood := { row := topPickUptoRow, standIns := [], harness := (true, "dd23152f1eda9b161c4dcea8dbf053d3aa5b8a68a362362a0b3f3c733dbef146"), looks := false }, kinds := [], alts := [], laidByText := true, laidKinds := [.data, .data, .data, .data], laidTests := true, laidLooks := .later }
def TopPickUptoCardSaid : Prop := Claim7.holds Tryz.pinned (.plain (OpenSpec.upto topPickSpec)) topPickUptoCard
end Rows
end Go.Proofs.YtdnaljbnebnlhaaGreatDoor
