/-
  DERIVED. GIVEN WITH THE SEED: THE CARDS: each row of YtlbnjcgdgkgfjaaDoorRows.lean that lists a variable, with what it lists TIED to the program's text (the seventh form; the later family's looks); each row that meets fmt, with fmt's text TOLD by the authors' own Lean function (tested against real Go, not proved from fmt's source: count such statements apart). THE CARD IS WHAT COUNTS. Prove the row's statement (the work); the ties are given (YtlbnjcgdgkgfjaaDoorTie.lean); close each card by the builder's one call (the guide's Derived/Test/ToyasCard.lean, 'card_holds'). Laid BY PROGRAM, IN A SANDBOX (cutbox-door.mjs). By AI agents, Wed Nov 11 2026. No macro, syntax, notation, axiom, sorry.
-/
import Derived.Test.YtlbnjcgdgkgfjaaDoorRows
import GoSem.ClaimSeven
namespace Go.Proofs.YtlbnjcgdgkgfjaaDoor
namespace Rows

/-- THE TIED CARD OF 'sheaveskeep.DagClosed'. -/
def dagClosedCard : Claim7 := { stood := { row := dagClosedRow, standIns := [], harness := (true, "16b14c035713da5284f35c130574cfa32cc5e1540e333c5da4121c33a3588eca"), looks := false }, kinds := [], alts := [], laidByText := true, laidKinds := [.data, .data, .data], laidTests := true, laidLooks := .later }
def DagClosedCardSaid : Prop := Claim7.holds Tryd.pinned (.plain (OpenSpec.ofChange dagClosedSpec)) dagClosedCard

/-- THE TIED CARD OF 'sheaveskeep.InsertOnce'. -/
def insertOnceCard : Claim7 := { stood := { row := insertOnceRow, standIns := [], harness := (true, "16b14c035713da5284f35c130574cfa32cc5e1540e333c5da4121c33a3588eca"), looks := false }, kinds := [], alts := [], laidByText := true, laidKinds := [.data, .data, .data], laidTests := true, laidLooks := .later }
def InsertOnceCardSaid : Prop := Claim7.holds Tryd.pinned (.plain (OpenSpec.ofChange insertOnceSpec)) insertOnceCard

/-- THE TIED CARD OF 'sheaveskeep.InsertNone'. -/
def insertNoneCard : Claim7 := { stood := { row := insertNoneRow, standIns := [], harness := (true, "16b14c035713da5284f35c130574cfa32cc5e1540e333c5da4121c33a3588eca"), looks := false }, kinds := [], alts := [], laidByText := true, laidKinds := [.data, .data, .data], laidTests := true, laidLooks := .later }
def InsertNoneCardSaid : Prop := Claim7.holds Tryd.pinned (.plain (OpenSpec.ofChange insertNoneSpec)) insertNoneCard

/-- THE TIED CARD OF 'sheaveskeep.RoundNext'. -/
def roundNextCard : Claim7 := { stood := { row := roundNextRow, standIns := [], harness := (true, "16b14c035713da5284f35c130574cfa32cc5e1540e333c5da4121c33a3588eca"), looks := false }, kinds := [], alts := [], laidByText := true, laidKinds := [.data, .data, .data], laidTests := true, laidLooks := .later }
def RoundNextCardSaid : Prop := Claim7.holds Tryd.pinned (.plain (OpenSpec.ofChange roundNextSpec)) roundNextCard

/-- THE TIED CARD OF 'sheaveskeep.DagGrows'. -/
def dagGrowsCard : Claim7 := { stood := { row := dagGrowsRow, standIns := [], harness := (true, "16b14c035713da5284f35c130574cfa32cc5e1540e333c5da4121c33a3588eca"), looks := false }, kinds := [], alts := [], laidByText := true, laidKinds := [.data, .data, .data], laidTests := true, laidLooks := .later }
def DagGrowsCardSaid : Prop := Claim7.holds Tryd.pinned (.plain (OpenSpec.ofChange dagGrowsSpec)) dagGrowsCard

/-- THE TIED CARD OF 'sheaveskeep.DagBad'. -/
def dagBadCard : Claim7 := { stood := { row := dagBadRow, standIns := [], harness := (true, "16b14c035713da5284f35c130574cfa32cc5e1540e333c5da4121c33a3588eca"), looks := false }, kinds := [], alts := [], laidByText := true, laidKinds := [.data, .data, .data], laidTests := true, laidLooks := .later }
def DagBadCardSaid : Prop := Claim7.holds Tryd.pinned (.plain (OpenSpec.ofChange dagBadSpec)) dagBadCard

/-- THE TIED CARD OF 'sheaveskeep.DigestsNone'. -/
def digestsNoneCard : Claim7 := { stood := { row := digestsNoneRow, standIns := [], harness := (true, "16b14c035713da5284f35c130574cfa32cc5e1540e333c5da4121c33a3588eca"), looks := false }, kinds := [], alts := [], laidByText := true, laidKinds := [.data, .data, .data], laidTests := true, laidLooks := .later }
def DigestsNoneCardSaid : Prop := Claim7.holds Tryd.pinned (.plain (OpenSpec.ofChange digestsNoneSpec)) digestsNoneCard

/-- THE TIED CARD OF 'sheaveskeep.InsertBad'. -/
def insertBadCard : Claim7 := { stood := { row := insertBadRow, standIns := [], harness := (true, "16b14c035713da5284f35c130574cfa32cc5e1540e333c5da4121c33a3588eca"), looks := false }, kinds := [], alts := [], laidByText := true, laidKinds := [.data, .data, .data], laidTests := true, laidLooks := .later }
def InsertBadCardSaid : Prop := Claim7.holds Tryd.pinned (.plain (OpenSpec.ofChange insertBadSpec)) insertBadCard

/-- THE TIED CARD OF 'sheaveskeep.InsertLate'. -/
def insertLateCard : Claim7 := { stood := { row := insertLateRow, standIns := [], harness := (true, "16b14c035713da5284f35c130574cfa32cc5e1540e333c5da4121c33a3588eca"), looks := false }, kinds := [], alts := [], laidByText := true, laidKinds := [.data, .data, .data], laidTests := true, laidLooks := .later }
def InsertLateCardSaid : Prop := Claim7.holds Tryd.pinned (.plain (OpenSpec.ofChange insertLateSpec)) insertLateCard

/-- THE TIED CARD OF 'sheaveskeep.MissingSome'. -/
def missingSomeCard : Claim7 := { stood := { row := missingSomeRow, standIns := [], harness := (true, "16b14c035713da5284f35c130574cfa32cc5e1540e333c5da4121c33a3588eca"), looks := false }, kinds := [], alts := [], laidByText := true, laidKinds := [.data, .data, .data], laidTests := true, laidLooks := .later }
def MissingSomeCardSaid : Prop := Claim7.holds Tryd.pinned (.plain (OpenSpec.ofChange missingSomeSpec)) missingSomeCard

/-- THE TIED CARD OF 'sheaveskeep.DagVoters'. -/
def dagVotersCard : Claim7 := { stood := { row := dagVotersRow, standIns := [], harness := (true, "16b14c035713da5284f35c130574cfa32cc5e1540e333c5da4121c33a3588eca"), looks := false }, kinds := [], alts := [], laidByText := true, laidKinds := [.data, .data, .data], laidTests := true, laidLooks := .later }
def DagVotersCardSaid : Prop := Claim7.holds Tryd.pinned (.plain (OpenSpec.ofChange dagVotersSpec)) dagVotersCard

/-- THE SECOND FORM's CARD OF 'sheaveskeep.DagClosed'. -/
def dagClosedUptoCard : Claim7 := { stood := { row := dagClosedUptoRow, standIns := [], harness := (true, "16b14c035713da5284f35c130574cfa32cc5e1540e333c5da4121c33a3588eca"), looks := false }, kinds := [], alts := [], laidByText := true, laidKinds := [.data, .data, .data], laidTests := true, laidLooks := .later }
def DagClosedUptoCardSaid : Prop := Claim7.holds Tryd.pinned (.plain (OpenSpec.upto dagClosedSpec)) dagClosedUptoCard

/-- THE SECOND FORM's CARD OF 'sheaveskeep.InsertOnce'. -/
def insertOnceUptoCard : Claim7 := { stood := { row := insertOnceUptoRow, standIns := [], harness := (true, "16b14c035713da5284f35c130574cfa32cc5e1540e333c5da4121c33a3588eca"), looks := false }, kinds := [], alts := [], laidByText := true, laidKinds := [.data, .data, .data], laidTests := true, laidLooks := .later }
def InsertOnceUptoCardSaid : Prop := Claim7.holds Tryd.pinned (.plain (OpenSpec.upto insertOnceSpec)) insertOnceUptoCard

/-- THE SECOND FORM's CARD OF 'sheaveskeep.InsertNone'. -/
def insertNoneUptoCard : Claim7 := { stood := { row := insertNoneUptoRow, standIns := [], harness := (true, "16b14c035713da5284f35c130574cfa32cc5e1540e333c5da4121c33a3588eca"), looks := false }, kinds := [], alts := [], laidByText := true, laidKinds := [.data, .data, .data], laidTests := true, laidLooks := .later }
def InsertNoneUptoCardSaid : Prop := Claim7.holds Tryd.pinned (.plain (OpenSpec.upto insertNoneSpec)) insertNoneUptoCard

/-- THE SECOND FORM's CARD OF 'sheaveskeep.RoundNext'. -/
def roundNextUptoCard : Claim7 := { stood := { row := roundNextUptoRow, standIns := [], harness := (true, "16b14c035713da5284f35c130574cfa32cc5e1540e333c5da4121c33a3588eca"), looks := false }, kinds := [], alts := [], laidByText := true, laidKinds := [.data, .data, .data], laidTests := true, laidLooks := .later }
def RoundNextUptoCardSaid : Prop := Claim7.holds Tryd.pinned (.plain (OpenSpec.upto roundNextSpec)) roundNextUptoCard

/-- THE SECOND FORM's CARD OF 'sheaveskeep.DagGrows'. -/
def dagGrowsUptoCard : Claim7 := { stood := { row := dagGrowsUptoRow, standIns := [], harness := (true, "16b14c035713da5284f35c130574cfa32cc5e1540e333c5da4121c33a3588eca"), looks := false }, kinds := [], alts := [], laidByText := true, laidKinds := [.data, .data, .data], laidTests := true, laidLooks := .later }
def DagGrowsUptoCardSaid : Prop := Claim7.holds Tryd.pinned (.plain (OpenSpec.upto dagGrowsSpec)) dagGrowsUptoCard

/-- THE SECOND FORM's CARD OF 'sheaveskeep.DagBad'. -/
def dagBadUptoCard : Claim7 := { stood := { row := dagBadUptoRow, standIns := [], harness := (true, "16b14c035713da5284f35c130574cfa32cc5e1540e333c5da4121c33a3588eca"), looks := false }, kinds := [], alts := [], laidByText := true, laidKinds := [.data, .data, .data], laidTests := true, laidLooks := .later }
def DagBadUptoCardSaid : Prop := Claim7.holds Tryd.pinned (.plain (OpenSpec.upto dagBadSpec)) dagBadUptoCard

/-- THE SECOND FORM's CARD OF 'sheaveskeep.DigestsNone'. -/
def digestsNoneUptoCard : Claim7 := { stood := { row := digestsNoneUptoRow, standIns := [], harness := (true, "16b14c035713da5284f35c130574cfa32cc5e1540e333c5da4121c33a3588eca"), looks := false }, kinds := [], alts := [], laidByText := true, laidKinds := [.data, .data, .data], laidTests := true, laidLooks := .later }
def DigestsNoneUptoCardSaid : Prop := Claim7.holds Tryd.pinned (.plain (OpenSpec.upto digestsNoneSpec)) digestsNoneUptoCard

/-- THE SECOND FORM's CARD OF 'sheaveskeep.InsertBad'. -/
def insertBadUptoCard : Claim7 := { stood := { row := insertBadUptoRow, standIns := [], harness := (true, "16b14c035713da5284f35c130574cfa32cc5e1540e333c5da4121c33a3588eca"), looks := false }, kinds := [], alts := [], laidByText := true, laidKinds := [.data, .data, .data], laidTests := true, laidLooks := .later }
def InsertBadUptoCardSaid : Prop := Claim7.holds Tryd.pinned (.plain (OpenSpec.upto insertBadSpec)) insertBadUptoCard

/-- THE SECOND FORM's CARD OF 'sheaveskeep.InsertLate'. -/
def insertLateUptoCard : Claim7 := { stood := { row := insertLateUptoRow, standIns := [], harness := (true, "16b14c035713da5284f35c130574cfa32cc5e1540e333c5da4121c33a3588eca"), looks := false }, kinds := [], alts := [], laidByText := true, laidKinds := [.data, .data, .data], laidTests := true, laidLooks := .later }
def InsertLateUptoCardSaid : Prop := Claim7.holds Tryd.pinned (.plain (OpenSpec.upto insertLateSpec)) insertLateUptoCard

/-- THE SECOND FORM's CARD OF 'sheaveskeep.MissingSome'. -/
def missingSomeUptoCard : Claim7 := { stood := { row := missingSomeUptoRow, standIns := [], harness := (true, "16b14c035713da5284f35c130574cfa32cc5e1540e333c5da4121c33a3588eca"), looks := false }, kinds := [], alts := [], laidByText := true, laidKinds := [.data, .data, .data], laidTests := true, laidLooks := .later }
def MissingSomeUptoCardSaid : Prop := Claim7.holds Tryd.pinned (.plain (OpenSpec.upto missingSomeSpec)) missingSomeUptoCard

/-- THE SECOND FORM's CARD OF 'sheaveskeep.DagVoters'. -/
def dagVotersUptoCard : Claim7 := { stood := { row := dagVotersUptoRow, standIns := [], harness := (true, "16b14c035713da5284f35c130574cfa32cc5e1540e333c5da4121c33a3588eca"), looks := false }, kinds := [], alts := [], laidByText := true, laidKinds := [.data, .data, .data], laidTests := true, laidLooks := .later }
def DagVotersUptoCardSaid : Prop := Claim7.holds Tryd.pinned (.plain (OpenSpec.upto dagVotersSpec)) dagVotersUptoCard
end Rows
end Go.Proofs.YtlbnjcgdgkgfjaaDoor
