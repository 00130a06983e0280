/-
  DERIVED. GIVEN WITH THE SEED: THE CARDS: each row of YtgbomdikhidkoaaDoorRows.lean that lists a variable, with what it lists TIED to the program's text (the seventh form; the later family's looks); each row that meets fmt, with fmt's text TOLD by the authors' own Lean function (tested against real Go, not proved from fmt's source: count such statements apart). THE CARD IS WHAT COUNTS. Prove the row's statement (the work); the ties are given (YtgbomdikhidkoaaDoorTie.lean); close each card by the builder's one call (the guide's Derived/Test/ToyasCard.lean, 'card_holds'). Laid BY PROGRAM, IN A SANDBOX (cutbox-door.mjs). By AI agents, Wed Nov 11 2026. No macro, syntax, notation, axiom, sorry.
-/
import Derived.Test.YtgbomdikhidkoaaDoorRows
import GoSem.ClaimSeven
namespace Go.Proofs.YtgbomdikhidkoaaDoor
namespace Rows

/-- THE TIED CARD OF 'sheaveslaw.DagChecks'. -/
def dagChecksCard : Claim7 := { stood := { row := dagChecksRow, standIns := [], harness := (true, "88453c2c5aad02e3a0592b4813c7e61fcd8082c488abb5b76a96c1763a3c409d"), looks := false }, kinds := [], alts := [], laidByText := true, laidKinds := [.data, .data, .data], laidTests := true, laidLooks := .later }
def DagChecksCardSaid : Prop := Claim7.holds Tryd.pinned (.plain (OpenSpec.ofChange dagChecksSpec)) dagChecksCard

/-- THE TIED CARD OF 'sheaveslaw.DagFinds'. -/
def dagFindsCard : Claim7 := { stood := { row := dagFindsRow, standIns := [], harness := (true, "88453c2c5aad02e3a0592b4813c7e61fcd8082c488abb5b76a96c1763a3c409d"), looks := false }, kinds := [], alts := [], laidByText := true, laidKinds := [.data, .data, .data], laidTests := true, laidLooks := .later }
def DagFindsCardSaid : Prop := Claim7.holds Tryd.pinned (.plain (OpenSpec.ofChange dagFindsSpec)) dagFindsCard

/-- THE TIED CARD OF 'sheaveslaw.DagMissing'. -/
def dagMissingCard : Claim7 := { stood := { row := dagMissingRow, standIns := [], harness := (true, "88453c2c5aad02e3a0592b4813c7e61fcd8082c488abb5b76a96c1763a3c409d"), looks := false }, kinds := [], alts := [], laidByText := true, laidKinds := [.data, .data, .data], laidTests := true, laidLooks := .later }
def DagMissingCardSaid : Prop := Claim7.holds Tryd.pinned (.plain (OpenSpec.ofChange dagMissingSpec)) dagMissingCard

/-- THE TIED CARD OF 'sheaveslaw.DagInserts'. -/
def dagInsertsCard : Claim7 := { stood := { row := dagInsertsRow, standIns := [], harness := (true, "88453c2c5aad02e3a0592b4813c7e61fcd8082c488abb5b76a96c1763a3c409d"), looks := false }, kinds := [], alts := [], laidByText := true, laidKinds := [.data, .data, .data], laidTests := true, laidLooks := .later }
def DagInsertsCardSaid : Prop := Claim7.holds Tryd.pinned (.plain (OpenSpec.ofChange dagInsertsSpec)) dagInsertsCard

/-- THE TIED CARD OF 'sheaveslaw.DagRounds'. -/
def dagRoundsCard : Claim7 := { stood := { row := dagRoundsRow, standIns := [], harness := (true, "88453c2c5aad02e3a0592b4813c7e61fcd8082c488abb5b76a96c1763a3c409d"), looks := false }, kinds := [], alts := [], laidByText := true, laidKinds := [.data, .data, .data], laidTests := true, laidLooks := .later }
def DagRoundsCardSaid : Prop := Claim7.holds Tryd.pinned (.plain (OpenSpec.ofChange dagRoundsSpec)) dagRoundsCard

/-- THE TIED CARD OF 'sheaveslaw.DagDigests'. -/
def dagDigestsCard : Claim7 := { stood := { row := dagDigestsRow, standIns := [], harness := (true, "88453c2c5aad02e3a0592b4813c7e61fcd8082c488abb5b76a96c1763a3c409d"), looks := false }, kinds := [], alts := [], laidByText := true, laidKinds := [.data, .data, .data], laidTests := true, laidLooks := .later }
def DagDigestsCardSaid : Prop := Claim7.holds Tryd.pinned (.plain (OpenSpec.ofChange dagDigestsSpec)) dagDigestsCard

/-- THE SECOND FORM's CARD OF 'sheaveslaw.DagChecks'. -/
def dagChecksUptoCard : Claim7 := { stood := { row := dagChecksUptoRow, standIns := [], harness := (true, "88453c2c5aad02e3a0592b4813c7e61fcd8082c488abb5b76a96c1763a3c409d"), looks := false }, kinds := [], alts := [], laidByText := true, laidKinds := [.data, .data, .data], laidTests := true, laidLooks := .later }
def DagChecksUptoCardSaid : Prop := Claim7.holds Tryd.pinned (.plain (OpenSpec.upto dagChecksSpec)) dagChecksUptoCard

/-- THE SECOND FORM's CARD OF 'sheaveslaw.DagFinds'. -/
def dagFindsUptoCard : Claim7 := { stood := { row := dagFindsUptoRow, standIns := [], harness := (true, "88453c2c5aad02e3a0592b4813c7e61fcd8082c488abb5b76a96c1763a3c409d"), looks := false }, kinds := [], alts := [], laidByText := true, laidKinds := [.data, .data, .data], laidTests := true, laidLooks := .later }
def DagFindsUptoCardSaid : Prop := Claim7.holds Tryd.pinned (.plain (OpenSpec.upto dagFindsSpec)) dagFindsUptoCard

/-- THE SECOND FORM's CARD OF 'sheaveslaw.DagMissing'. -/
def dagMissingUptoCard : Claim7 := { stood := { row := dagMissingUptoRow, standIns := [], harness := (true, "88453c2c5aad02e3a0592b4813c7e61fcd8082c488abb5b76a96c1763a3c409d"), looks := false }, kinds := [], alts := [], laidByText := true, laidKinds := [.data, .data, .data], laidTests := true, laidLooks := .later }
def DagMissingUptoCardSaid : Prop := Claim7.holds Tryd.pinned (.plain (OpenSpec.upto dagMissingSpec)) dagMissingUptoCard

/-- THE SECOND FORM's CARD OF 'sheaveslaw.DagInserts'. -/
def dagInsertsUptoCard : Claim7 := { stood := { row := dagInsertsUptoRow, standIns := [], harness := (true, "88453c2c5aad02e3a0592b4813c7e61fcd8082c488abb5b76a96c1763a3c409d"), looks := false }, kinds := [], alts := [], laidByText := true, laidKinds := [.data, .data, .data], laidTests := true, laidLooks := .later }
def DagInsertsUptoCardSaid : Prop := Claim7.holds Tryd.pinned (.plain (OpenSpec.upto dagInsertsSpec)) dagInsertsUptoCard

/-- THE SECOND FORM's CARD OF 'sheaveslaw.DagRounds'. -/
def dagRoundsUptoCard : Claim7 := { stood := { row := dagRoundsUptoRow, standIns := [], harness := (true, "88453c2c5aad02e3a0592b4813c7e61fcd8082c488abb5b76a96c1763a3c409d"), looks := false }, kinds := [], alts := [], laidByText := true, laidKinds := [.data, .data, .data], laidTests := true, laidLooks := .later }
def DagRoundsUptoCardSaid : Prop := Claim7.holds Tryd.pinned (.plain (OpenSpec.upto dagRoundsSpec)) dagRoundsUptoCard

/-- THE SECOND FORM's CARD OF 'sheaveslaw.DagDigests'. -/
def dagDigestsUptoCard : Claim7 := { stood := { row := dagDigestsUptoRow, standIns := [], harness := (true, "88453c2c5aad02e3a0592b4813c7e61fcd8082c488abb5b76a96c1763a3c409d"), looks := false }, kinds := [], alts := [], laidByText := true, laidKinds := [.data, .data, .data], laidTests := true, laidLooks := .later }
def DagDigestsUptoCardSaid : Prop := Claim7.holds Tryd.pinned (.plain (OpenSpec.upto dagDigestsSpec)) dagDigestsUptoCard
end Rows
end Go.Proofs.YtgbomdikhidkoaaDoor
