/-
  DERIVED. GIVEN WITH THE SEED: THE CARDS: each row of YtcecjdoabnhcgaaDoorRows.lean that lists a variable, with what it lists TIED to the program's text (the seventh form; the later family's looks); each row that meets fmt, with fmt's text TOLD by the authors' own Lean function (tested against real Go, not proved from fmt's source: count such statements apart). THE CARD IS WHAT COUNTS. Prove the row's statement (the work); the ties are given (YtcecjdoabnhcgaaDoorTie.lean); close each card by the builder's one call (the guide's Derived/Test/ToyasCard.lean, 'card_holds'). Laid BY PROGRAM, IN A SANDBOX (cutbox-door.mjs). By AI agents, Wed Nov 11 2026. No macro, syntax, notation, axiom, sorry.
-/
import Derived.Test.YtcecjdoabnhcgaaDoorRows
import GoSem.ClaimSeven
namespace Go.Proofs.YtcecjdoabnhcgaaDoor
namespace Rows

/-- THE TIED CARD OF 'sheaveslaw.WireBatchDigests'. -/
def wireBatchDigestsCard : Claim7 := { stood := { row := wireBatchDigestsRow, standIns := [], harness := (true, "b70c93f584b9aa72a04778efe2247e3111f913558f43f074d3ecf955bd13859f"), looks := false }, kinds := [], alts := [], laidByText := true, laidKinds := [.data, .data, .data], laidTests := true, laidLooks := .later }
def WireBatchDigestsCardSaid : Prop := Claim7.holds Tryd.pinned (.plain (OpenSpec.ofChange wireBatchDigestsSpec)) wireBatchDigestsCard

/-- THE TIED CARD OF 'sheaveslaw.WireHeaderDigests'. -/
def wireHeaderDigestsCard : Claim7 := { stood := { row := wireHeaderDigestsRow, standIns := [], harness := (true, "b70c93f584b9aa72a04778efe2247e3111f913558f43f074d3ecf955bd13859f"), looks := false }, kinds := [], alts := [], laidByText := true, laidKinds := [.data, .data, .data], laidTests := true, laidLooks := .later }
def WireHeaderDigestsCardSaid : Prop := Claim7.holds Tryd.pinned (.plain (OpenSpec.ofChange wireHeaderDigestsSpec)) wireHeaderDigestsCard

/-- THE TIED CARD OF 'sheaveskeep.DigestMade'. -/
def digestMadeCard : Claim7 := { stood := { row := digestMadeRow, standIns := [], harness := (true, "b70c93f584b9aa72a04778efe2247e3111f913558f43f074d3ecf955bd13859f"), looks := false }, kinds := [], alts := [], laidByText := true, laidKinds := [.data, .data, .data], laidTests := true, laidLooks := .later }
def DigestMadeCardSaid : Prop := Claim7.holds Tryd.pinned (.plain (OpenSpec.ofChange digestMadeSpec)) digestMadeCard

/-- THE TIED CARD OF 'sheaveskeep.HeaderBad'. -/
def headerBadCard : Claim7 := { stood := { row := headerBadRow, standIns := [], harness := (true, "b70c93f584b9aa72a04778efe2247e3111f913558f43f074d3ecf955bd13859f"), looks := false }, kinds := [], alts := [], laidByText := true, laidKinds := [.data, .data, .data], laidTests := true, laidLooks := .later }
def HeaderBadCardSaid : Prop := Claim7.holds Tryd.pinned (.plain (OpenSpec.ofChange headerBadSpec)) headerBadCard

/-- THE TIED CARD OF 'sheaveskeep.BatchBad'. -/
def batchBadCard : Claim7 := { stood := { row := batchBadRow, standIns := [], harness := (true, "b70c93f584b9aa72a04778efe2247e3111f913558f43f074d3ecf955bd13859f"), looks := false }, kinds := [], alts := [], laidByText := true, laidKinds := [.data, .data, .data], laidTests := true, laidLooks := .later }
def BatchBadCardSaid : Prop := Claim7.holds Tryd.pinned (.plain (OpenSpec.ofChange batchBadSpec)) batchBadCard

/-- THE SECOND FORM's CARD OF 'sheaveslaw.WireBatchDigests'. -/
def wireBatchDigestsUptoCard : Claim7 := { stood := { row := wireBatchDigestsUptoRow, standIns := [], harness := (true, "b70c93f584b9aa72a04778efe2247e3111f913558f43f074d3ecf955bd13859f"), looks := false }, kinds := [], alts := [], laidByText := true, laidKinds := [.data, .data, .data], laidTests := true, laidLooks := .later }
def WireBatchDigestsUptoCardSaid : Prop := Claim7.holds Tryd.pinned (.plain (OpenSpec.upto wireBatchDigestsSpec)) wireBatchDigestsUptoCard

/-- THE SECOND FORM's CARD OF 'sheaveslaw.WireHeaderDigests'. -/
def wireHeaderDigestsUptoCard : Claim7 := { stood := { row := wireHeaderDigestsUptoRow, standIns := [], harness := (true, "b70c93f584b9aa72a04778efe2247e3111f913558f43f074d3ecf955bd13859f"), looks := false }, kinds := [], alts := [], laidByText := true, laidKinds := [.data, .data, .data], laidTests := true, laidLooks := .later }
def WireHeaderDigestsUptoCardSaid : Prop := Claim7.holds Tryd.pinned (.plain (OpenSpec.upto wireHeaderDigestsSpec)) wireHeaderDigestsUptoCard

/-- THE SECOND FORM's CARD OF 'sheaveskeep.DigestMade'. -/
def digestMadeUptoCard : Claim7 := { stood := { row := digestMadeUptoRow, standIns := [], harness := (true, "b70c93f584b9aa72a04778efe2247e3111f913558f43f074d3ecf955bd13859f"), looks := false }, kinds := [], alts := [], laidByText := true, laidKinds := [.data, .data, .data], laidTests := true, laidLooks := .later }
def DigestMadeUptoCardSaid : Prop := Claim7.holds Tryd.pinned (.plain (OpenSpec.upto digestMadeSpec)) digestMadeUptoCard

/-- THE SECOND FORM's CARD OF 'sheaveskeep.HeaderBad'. -/
def headerBadUptoCard : Claim7 := { stood := { row := headerBadUptoRow, standIns := [], harness := (true, "b70c93f584b9aa72a04778efe2247e3111f913558f43f074d3ecf955bd13859f"), looks := false }, kinds := [], alts := [], laidByText := true, laidKinds := [.data, .data, .data], laidTests := true, laidLooks := .later }
def HeaderBadUptoCardSaid : Prop := Claim7.holds Tryd.pinned (.plain (OpenSpec.upto headerBadSpec)) headerBadUptoCard

/-- THE SECOND FORM's CARD OF 'sheaveskeep.BatchBad'. -/
def batchBadUptoCard : Claim7 := { stood := { row := batchBadUptoRow, standIns := [], harness := (true, "b70c93f584b9aa72a04778efe2247e3111f913558f43f074d3ecf955bd13859f"), looks := false }, kinds := [], alts := [], laidByText := true, laidKinds := [.data, .data, .data], laidTests := true, laidLooks := .later }
def BatchBadUptoCardSaid : Prop := Claim7.holds Tryd.pinned (.plain (OpenSpec.upto batchBadSpec)) batchBadUptoCard
end Rows
end Go.Proofs.YtcecjdoabnhcgaaDoor
