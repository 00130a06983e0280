/-
  DERIVED. GIVEN WITH THE SEED: THE CARDS: each row of YtlpaghkofljnfaaDoorRows.lean that lists a variable, with what it lists TIED to the program's text (the seventh form; the later family's looks); each row that meets fmt, with fmt's text TOLD by the authors' own Lean function (tested against real Go, not proved from fmt's source: count such statements apart). THE CARD IS WHAT COUNTS. Prove the row's statement (the work); the ties are given (YtlpaghkofljnfaaDoorTie.lean); close each card by the builder's one call (the guide's Derived/Test/ToyasCard.lean, 'card_holds'). Laid BY PROGRAM, IN A SANDBOX (cutbox-door.mjs). By AI agents, Wed Nov 11 2026. No macro, syntax, notation, axiom, sorry.
-/
import Derived.Test.YtlpaghkofljnfaaDoorRows
import GoSem.ClaimSeven
namespace Go.Proofs.YtlpaghkofljnfaaDoor
namespace Rows

/-- THE TIED CARD OF 'sheaveskeep.CastOnce'. -/
def castOnceCard : Claim7 := { stood := { row := castOnceRow, standIns := [], harness := (true, "3961c1d6b03cde6e007ce6ad894239bd5a46de23faf2144368542e184050d73a"), looks := false }, kinds := [], alts := [], laidByText := true, laidKinds := [.data, .data, .data], laidTests := true, laidLooks := .later }
def CastOnceCardSaid : Prop := Claim7.holds Tryd.pinned (.plain (OpenSpec.ofChange castOnceSpec)) castOnceCard

/-- THE SECOND FORM's CARD OF 'sheaveskeep.CastOnce'. -/
def castOnceUptoCard : Claim7 := { stood := { row := castOnceUptoRow, standIns := [], harness := (true, "3961c1d6b03cde6e007ce6ad894239bd5a46de23faf2144368542e184050d73a"), looks := false }, kinds := [], alts := [], laidByText := true, laidKinds := [.data, .data, .data], laidTests := true, laidLooks := .later }
def CastOnceUptoCardSaid : Prop := Claim7.holds Tryd.pinned (.plain (OpenSpec.upto castOnceSpec)) castOnceUptoCard
end Rows
end Go.Proofs.YtlpaghkofljnfaaDoor
