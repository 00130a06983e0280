/-
  DERIVED. GIVEN WITH THE SEED: THE CARDS: each row of YtnpjhpmgelaonaaDoorRows.lean that lists a variable, with what it lists TIED to the program's text (the seventh form; the later family's looks); each row that meets fmt, with fmt's text TOLD by the authors' own Lean function (tested against real Go, not proved from fmt's source: count such statements apart). THE CARD IS WHAT COUNTS. Prove the row's statement (the work); the ties are given (YtnpjhpmgelaonaaDoorTie.lean); close each card by the builder's one call (the guide's Derived/Test/ToyasCard.lean, 'card_holds'). Laid BY PROGRAM, IN A SANDBOX (cutbox-door.mjs). By AI agents, Wed Nov 11 2026. No macro, syntax, notation, axiom, sorry.
-/
import Derived.Test.YtnpjhpmgelaonaaDoorRows
import GoSem.ClaimSeven
namespace Go.Proofs.YtnpjhpmgelaonaaDoor
namespace Rows

/-- THE TIED CARD OF 'sheaveskeep.DagClosed'. -/
def dagClosedCard : Claim7 := { stood := { row := dagClosedRow, standIns := [], harness := (true, "7cc27cce900e69b7c46330eacd33ab30bf94eaee50490a664c479a2a21f6327f"), looks := false }, kinds := [], alts := [], laidByText := true, laidKinds := [.data, .data, .data], laidTests := true, laidLooks := .later }
def DagClosedCardSaid : Prop := Claim7.holds Tryd.pinned (.plain (OpenSpec.ofChange dagClosedSpec)) dagClosedCard

/-- THE TIED CARD OF 'sheaveskeep.InsertOnce'. -/
def insertOnceCard : Claim7 := { stood := { row := insertOnceRow, standIns := [], harness := (true, "7cc27cce900e69b7c46330eacd33ab30bf94eaee50490a664c479a2a21f6327f"), looks := false }, kinds := [], alts := [], laidByText := true, laidKinds := [.data, .data, .data], laidTests := true, laidLooks := .later }
def InsertOnceCardSaid : Prop := Claim7.holds Tryd.pinned (.plain (OpenSpec.ofChange insertOnceSpec)) insertOnceCard

/-- THE TIED CARD OF 'sheaveskeep.InsertNone'. -/
def insertNoneCard : Claim7 := { stood := { row := insertNoneRow, standIns := [], harness := (true, "7cc27cce900e69b7c46330eacd33ab30bf94eaee50490a664c479a2a21f6327f"), looks := false }, kinds := [], alts := [], laidByText := true, laidKinds := [.data, .data, .data], laidTests := true, laidLooks := .later }
def InsertNoneCardSaid : Prop := Claim7.holds Tryd.pinned (.plain (OpenSpec.ofChange insertNoneSpec)) insertNoneCard

/-- THE TIED CARD OF 'sheaveskeep.RoundNext'. -/
def roundNextCard : Claim7 := { stood := { row := roundNextRow, standIns := [], harness := (true, "7cc27cce900e69b7c46330eacd33ab30bf94eaee50490a664c479a2a21f6327f"), looks := false }, kinds := [], alts := [], laidByText := true, laidKinds := [.data, .data, .data], laidTests := true, laidLooks := .later }
def RoundNextCardSaid : Prop := Claim7.holds Tryd.pinned (.plain (OpenSpec.ofChange roundNextSpec)) roundNextCard

/-- THE TIED CARD OF 'sheaveskeep.DagGrows'. -/
def dagGrowsCard : Claim7 := { stood := { row := dagGrowsRow, standIns := [], harness := (true, "7cc27cce900e69b7c46330eacd33ab30bf94eaee50490a664c479a2a21f6327f"), looks := false }, kinds := [], alts := [], laidByText := true, laidKinds := [.data, .data, .data], laidTests := true, laidLooks := .later }
def DagGrowsCardSaid : Prop := Claim7.holds Tryd.pinned (.plain (OpenSpec.ofChange dagGrowsSpec)) dagGrowsCard

/-- THE TIED CARD OF 'sheaveskeep.DagBad'. -/
def dagBadCard : Claim7 := { stood := { row := dagBadRow, standIns := [], harness := (true, "7cc27cce900e69b7c46330eacd33ab30bf94eaee50490a664c479a2a21f6327f"), looks := false }, kinds := [], alts := [], laidByText := true, laidKinds := [.data, .data, .data], laidTests := true, laidLooks := .later }
def DagBadCardSaid : Prop := Claim7.holds Tryd.pinned (.plain (OpenSpec.ofChange dagBadSpec)) dagBadCard

/-- THE SECOND FORM's CARD OF 'sheaveskeep.DagClosed'. -/
def dagClosedUptoCard : Claim7 := { stood := { row := dagClosedUptoRow, standIns := [], harness := (true, "7cc27cce900e69b7c46330eacd33ab30bf94eaee50490a664c479a2a21f6327f"), looks := false }, kinds := [], alts := [], laidByText := true, laidKinds := [.data, .data, .data], laidTests := true, laidLooks := .later }
def DagClosedUptoCardSaid : Prop := Claim7.holds Tryd.pinned (.plain (OpenSpec.upto dagClosedSpec)) dagClosedUptoCard

/-- THE SECOND FORM's CARD OF 'sheaveskeep.InsertOnce'. -/
def insertOnceUptoCard : Claim7 := { stood := { row := insertOnceUptoRow, standIns := [], harness := (true, "7cc27cce900e69b7c46330eacd33ab30bf94eaee50490a664c479a2a21f6327f"), looks := false }, kinds := [], alts := [], laidByText := true, laidKinds := [.data, .data, .data], laidTests := true, laidLooks := .later }
def InsertOnceUptoCardSaid : Prop := Claim7.holds Tryd.pinned (.plain (OpenSpec.upto insertOnceSpec)) insertOnceUptoCard

/-- THE SECOND FORM's CARD OF 'sheaveskeep.InsertNone'. -/
def insertNoneUptoCard : Claim7 := { stood := { row := insertNoneUptoRow, standIns := [], harness := (true, "7cc27cce900e69b7c46330eacd33ab30bf94eaee50490a664c479a2a21f6327f"), looks := false }, kinds := [], alts := [], laidByText := true, laidKinds := [.data, .data, .data], laidTests := true, laidLooks := .later }
def InsertNoneUptoCardSaid : Prop := Claim7.holds Tryd.pinned (.plain (OpenSpec.upto insertNoneSpec)) insertNoneUptoCard

/-- THE SECOND FORM's CARD OF 'sheaveskeep.RoundNext'. -/
def roundNextUptoCard : Claim7 := { stood := { row := roundNextUptoRow, standIns := [], harness := (true, "7cc27cce900e69b7c46330eacd33ab30bf94eaee50490a664c479a2a21f6327f"), looks := false }, kinds := [], alts := [], laidByText := true, laidKinds := [.data, .data, .data], laidTests := true, laidLooks := .later }
def RoundNextUptoCardSaid : Prop := Claim7.holds Tryd.pinned (.plain (OpenSpec.upto roundNextSpec)) roundNextUptoCard

/-- THE SECOND FORM's CARD OF 'sheaveskeep.DagGrows'. -/
def dagGrowsUptoCard : Claim7 := { stood := { row := dagGrowsUptoRow, standIns := [], harness := (true, "7cc27cce900e69b7c46330eacd33ab30bf94eaee50490a664c479a2a21f6327f"), looks := false }, kinds := [], alts := [], laidByText := true, laidKinds := [.data, .data, .data], laidTests := true, laidLooks := .later }
def DagGrowsUptoCardSaid : Prop := Claim7.holds Tryd.pinned (.plain (OpenSpec.upto dagGrowsSpec)) dagGrowsUptoCard

/-- THE SECOND FORM's CARD OF 'sheaveskeep.DagBad'. -/
def dagBadUptoCard : Claim7 := { stood := { row := dagBadUptoRow, standIns := [], harness := (true, "7cc27cce900e69b7c46330eacd33ab30bf94eaee50490a664c479a2a21f6327f"), looks := false }, kinds := [], alts := [], laidByText := true, laidKinds := [.data, .data, .data], laidTests := true, laidLooks := .later }
def DagBadUptoCardSaid : Prop := Claim7.holds Tryd.pinned (.plain (OpenSpec.upto dagBadSpec)) dagBadUptoCard
end Rows
end Go.Proofs.YtnpjhpmgelaonaaDoor
