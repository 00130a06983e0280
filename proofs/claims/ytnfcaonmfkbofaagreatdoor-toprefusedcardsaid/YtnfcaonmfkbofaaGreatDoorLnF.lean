/- Acts: what counts of one; what a kind has; the table of package lines. -/
import Derived.Test.YtnfcaonmfkbofaaGreatDoorPK
import Derived.Test.YtnfcaonmfkbofaaGreatDoorSx
namespace Go.Proofs.YtnfcaonmfkbofaaGreatDoor
open Go.RowKit

/-- What a kind has: a Node, a Pick, a Text. -/
def hN (k : Int) : Bool := decide (k = 1 ∨ k = 2 ∨ k = 3 ∨ k = 7 ∨ k = 8 ∨ k = 9)
def hP (k : Int) : Bool := decide (4 ≤ k ∧ k ≤ 7)
def hT (k : Int) : Bool := decide (k = 1 ∨ k = 9)
/-- Has the act something that its kind has not? -/
def moreB (k n p : Int) (t : Nat) : Bool := (decide (n ≠ 0) && !hN k) || (decide (p ≠ 0) && !hP k) || (decide (t ≠ 0) && !hT k)
/-- P9.1. -/
def actF (k n p : Int) (t : Nat) : Int :=
  if k < 1 ∨ 10 < k then 3 else if n < 0 ∨ 4 ≤ n then 2 else if p < 0 ∨ 400000 < p then 2 else if 4000 < t then 1 else if moreB k n p t = true then 4 else 0
/-- The words of the kinds. -/
def wordL (k : Int) : List UInt8 :=
  if k = 1 then [115, 117, 98, 109, 105, 116] else if k = 2 then [119, 111, 114, 107] else if k = 3 then [115, 121, 110, 99] else if k = 4 then [116, 97, 107, 101] else if k = 5 then [108, 111, 115, 101]
  else if k = 6 then [99, 111, 112, 121] else if k = 7 then [99, 114, 97, 115, 104] else if k = 8 then [115, 116, 97, 114, 116] else if k = 9 then [102, 111, 114, 103, 101] else if k = 10 then [102, 108, 111, 119] else []
/-- The table of kinds lies as the program's text lays it. -/
structure KTab (w : World) : Prop where
  word : ∀ k : Nat, 1 ≤ k → k ≤ 10 → w.cell? ⟨0, k * 4, none⟩ = some (.string ⟨(wordL k).toArray⟩)
  node : ∀ k : Nat, 1 ≤ k → k ≤ 10 → w.cell? ⟨0, k * 4 + 1, none⟩ = some (.bool (hN k))
  pick : ∀ k : Nat, 1 ≤ k → k ≤ 10 → w.cell? ⟨0, k * 4 + 2, none⟩ = some (.bool (hP k))
  text : ∀ k : Nat, 1 ≤ k → k ≤ 10 → w.cell? ⟨0, k * 4 + 3, none⟩ = some (.bool (hT k))
set_option maxRecDepth 100000 in
theorem KTab.lt {w : World} (h : KTab w) : 0 < w.heap.size := block_lt_of_cell (h.word 1 (by omega) (by omega))
set_option maxRecDepth 100000 in
theorem KTab.below {w w' : World} {B : Nat} (h : KTab w) (hb : Below B w w') (hB : 0 < B) : KTab w' :=
  ⟨fun k h1 h2 => (hb.cell (p := ⟨0, _, none⟩) hB).trans (h.word k h1 h2), fun k h1 h2 => (hb.cell (p := ⟨0, _, none⟩) hB).trans (h.node k h1 h2),
   fun k h1 h2 => (hb.cell (p := ⟨0, _, none⟩) hB).trans (h.pick k h1 h2), fun k h1 h2 => (hb.cell (p := ⟨0, _, none⟩) hB).trans (h.text k h1 h2)⟩
set_option maxRecDepth 100000 in
theorem KTab.alloc {w : World} (h : KTab w) (o : Obj) : KTab (w.alloc o) := h.below ((Below.refl _ _).alloc (Nat.le_refl _) _) h.lt
end Go.Proofs.YtnfcaonmfkbofaaGreatDoor
