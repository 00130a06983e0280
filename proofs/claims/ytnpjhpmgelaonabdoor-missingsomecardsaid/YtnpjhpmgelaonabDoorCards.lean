/-
  DERIVED. GIVEN WITH THE SEED: THE CARDS: each row of YtnpjhpmgelaonabDoorRows.lean that lists a variable, with what it lists TIED to the program's text (the seventh form; the later family's looks); each row that meets fmt, with fmt's text TOLD by the authors' own Lean function (tested against real Go, not proved from fmt's source: count such statements apart). THE CARD IS WHAT COUNTS. Prove the row's statement (the work); the ties are given (YtnpjhpmgelaonabDoorTie.lean); close each card by the builder's one call (the guide's Derived/Test/ToyasCard.lean, 'card_holds'). Laid BY PROGRAM, IN A SANDBOX (cutbox-door.mjs). By AI agents, Wed Nov 11 2026. No macro, syntax, notation, axiom, sorry.
-/
import Derived.Test.YtnpjhpmgelaonabDoorRows
import GoSem.ClaimSeven
namespace Go.Proofs.YtnpjhpmgelaonabDoor
namespace Rows

/-- THE TIED CARD OF 'sheaveskeep.DigestsNone'. -/
def digestsNoneCard : Claim7 := { stood := { row := digestsNoneRow, standIns := [], harness := (true, "ec8cd9b817ac46c16ea5b66d6a105fa94d99694c3e54fd09258e988beb531665"), looks := false }, kinds := [], alts := [], laidByText := true, laidKinds := [.data, .data, .data], laidTests := true, laidLooks := .later }
def DigestsNoneCardSaid : Prop := Claim7.holds Tryd.pinned (.plain (OpenSpec.ofChange digestsNoneSpec)) digestsNoneCard

/-- THE TIED CARD OF 'sheaveskeep.InsertBad'. -/
def insertBadCard : Claim7 := { stood := { row := insertBadRow, standIns := [], harness := (true, "ec8cd9b817ac46c16ea5b66d6a105fa94d99694c3e54fd09258e988beb531665"), looks := false }, kinds := [], alts := [], laidByText := true, laidKinds := [.data, .data, .data], laidTests := true, laidLooks := .later }
def InsertBadCardSaid : Prop := Claim7.holds Tryd.pinned (.plain (OpenSpec.ofChange insertBadSpec)) insertBadCard

/-- THE TIED CARD OF 'sheaveskeep.MissingSome'. -/
def missingSomeCard : Claim7 := { stood := { row := missingSomeRow, standIns := [], harness := (true, "ec8cd9b817ac46c16ea5b66d6a105fa94d99694c3e54fd09258e988beb531665"), looks := false }, kinds := [], alts := [], laidByText := true, laidKinds := [.data, .data, .data], laidTests := true, laidLooks := .later }
def MissingSomeCardSaid : Prop := Claim7.holds Tryd.pinned (.plain (OpenSpec.ofChange missingSomeSpec)) missingSomeCard

/-- THE TIED CARD OF 'sheaveskeep.DagVoters'. -/
def dagVotersCard : Claim7 := { stood := { row := dagVotersRow, standIns := [], harness := (true, "ec8cd9b817ac46c16ea5b66d6a105fa94d99694c3e54fd09258e988beb531665"), looks := false }, kinds := [], alts := [], laidByText := true, laidKinds := [.data, .data, .data], laidTests := true, laidLooks := .later }
def DagVotersCardSaid : Prop := Claim7.holds Tryd.pinned (.plain (OpenSpec.ofChange dagVotersSpec)) dagVotersCard

/-- THE SECOND FORM's CARD OF 'sheaveskeep.DigestsNone'. -/
def digestsNoneUptoCard : Claim7 := { stood := { row := digestsNoneUptoRow, standIns := [], harness := (true, "ec8cd9b817ac46c16ea5b66d6a105fa94d99694c3e54fd09258e988beb531665"), looks := false }, kinds := [], alts := [], laidByText := true, laidKinds := [.data, .data, .data], laidTests := true, laidLooks := .later }
def DigestsNoneUptoCardSaid : Prop := Claim7.holds Tryd.pinned (.plain (OpenSpec.upto digestsNoneSpec)) digestsNoneUptoCard

/-- THE SECOND FORM's CARD OF 'sheaveskeep.InsertBad'. -/
def insertBadUptoCard : Claim7 := { stood := { row := insertBadUptoRow, standIns := [], harness := (true, "ec8cd9b817ac46c16ea5b66d6a105fa94d99694c3e54fd09258e988beb531665"), looks := false }, kinds := [], alts := [], laidByText := true, laidKinds := [.data, .data, .data], laidTests := true, laidLooks := .later }
def InsertBadUptoCardSaid : Prop := Claim7.holds Tryd.pinned (.plain (OpenSpec.upto insertBadSpec)) insertBadUptoCard

/-- THE SECOND FORM's CARD OF 'sheaveskeep.MissingSome'. -/
def missingSomeUptoCard : Claim7 := { stood := { row := missingSomeUptoRow, standIns := [], harness := (true, "ec8cd9b817ac46c16ea5b66d6a105fa94d99694c3e54fd09258e988beb531665"), looks := false }, kinds := [], alts := [], laidByText := true, laidKinds := [.data, .data, .data], laidTests := true, laidLooks := .later }
def MissingSomeUptoCardSaid : Prop := Claim7.holds Tryd.pinned (.plain (OpenSpec.upto missingSomeSpec)) missingSomeUptoCard

/-- THE SECOND FORM's CARD OF 'sheaveskeep.DagVoters'. -/
def dagVotersUptoCard : Claim7 := { stood := { row := dagVotersUptoRow, standIns := [], harness := (true, "ec8cd9b817ac46c16ea5b66d6a105fa94d99694c3e54fd09258e988beb531665"), looks := false }, kinds := [], alts := [], laidByText := true, laidKinds := [.data, .data, .data], laidTests := true, laidLooks := .later }
def DagVotersUptoCardSaid : Prop := Claim7.holds Tryd.pinned (.plain (OpenSpec.upto dagVotersSpec)) dagVotersUptoCard
end Rows
end Go.Proofs.YtnpjhpmgelaonabDoor
