/- An order of signs: what seal.compare says. -/
import Derived.Test.YteeiomcgdgehfaaDoorSignsL
import Derived.Lib.Bytealg
import Derived.Sort.Statements
import Derived.Shelf.SlSortCmp.Insertion
namespace Go.Proofs.YteeiomcgdgehfaaDoor
open Go.RowKit

def cI (x y : Int) : Int := if x < y then -1 else if y < x then 1 else 0
/-- A comparison by which just what is the same is even. -/
structure Lin {α : Type} (c : α → α → Int) : Prop where
  refl : ∀ x, c x x = 0
  eq : ∀ x y, c x y = 0 → x = y
  neg : ∀ x y, c x y < 0 → 0 < c y x
  pos : ∀ x y, 0 < c x y → c y x < 0
  trans : ∀ x y z, c x y < 0 → c y z < 0 → c x z < 0
set_option maxRecDepth 100000 in
theorem cI_lt {x y : Int} (h : x < y) : cI x y = -1 := by simp [cI, h]
set_option maxRecDepth 100000 in
theorem cI_gt {x y : Int} (h : y < x) : cI x y = 1 := by have h2 : ¬ x < y := by omega
                                                         simp [cI, h, h2]
set_option maxRecDepth 100000 in
theorem cI_eq (x : Int) : cI x x = 0 := by simp [cI]
set_option maxRecDepth 100000 in
theorem cI_or (x y : Int) : (x < y ∧ cI x y = -1) ∨ (y < x ∧ cI x y = 1) ∨ (x = y ∧ cI x y = 0) := by
  rcases Int.lt_trichotomy x y with h | h | h
  · exact .inl ⟨h, cI_lt h⟩
  · subst h; exact .inr (.inr ⟨rfl, cI_eq _⟩)
  · exact .inr (.inl ⟨h, cI_gt h⟩)
set_option maxRecDepth 100000 in
theorem lin_cI : Lin cI := by
  refine ⟨fun x => cI_eq x, fun x y h => ?_, fun x y h => ?_, fun x y h => ?_, fun x y z h1 h2 => ?_⟩
  · rcases cI_or x y with g | g | g <;> omega
  · rcases cI_or x y with g | g | g <;> rcases cI_or y x with k | k | k <;> omega
  · rcases cI_or x y with g | g | g <;> rcases cI_or y x with k | k | k <;> omega
  · rcases cI_or x y with g | g | g <;> rcases cI_or y z with k | k | k <;> rcases cI_or x z with l | l | l <;> omega
set_option maxRecDepth 100000 in
theorem cb_refl (x : List UInt8) : Lib.compareBytes x x = 0 := by
  induction x with
  | nil => rfl
  | cons a x ih => simp [Lib.compareBytes, ih]
set_option maxRecDepth 100000 in
theorem lin_cB : Lin Lib.compareBytes := by
  refine ⟨cb_refl, fun x => ?_, fun x => ?_, fun x => ?_, fun x => ?_⟩
  · induction x with
    | nil => intro y h; cases y with
      | nil => rfl
      | cons b y => simp [Lib.compareBytes] at h
    | cons a x ih => intro y h; cases y with
      | nil => simp [Lib.compareBytes] at h
      | cons b y =>
        simp only [Lib.compareBytes] at h
        split at h
        · cases h
        · split at h
          · cases h
          · rename_i h1 h2
            have : a = b := UInt8.le_antisymm (UInt8.not_lt.1 h2) (UInt8.not_lt.1 h1)
            rw [this, ih y h]
  · induction x with
    | nil => intro y h; cases y with
      | nil => simp [Lib.compareBytes] at h
      | cons b y => simp [Lib.compareBytes]
    | cons a x ih => intro y h; cases y with
      | nil => simp [Lib.compareBytes] at h
      | cons b y =>
        simp only [Lib.compareBytes] at h ⊢
        split at h
        · rename_i h1
          rw [if_neg (UInt8.not_lt.2 (UInt8.le_of_lt h1)), if_pos h1]; decide
        · rename_i h1
          split at h
          · omega
          · rename_i h2
            rw [if_neg h2, if_neg h1]; exact ih y h
  · induction x with
    | nil => intro y h; cases y with
      | nil => simp [Lib.compareBytes] at h
      | cons b y => simp [Lib.compareBytes] at h
    | cons a x ih => intro y h; cases y with
      | nil => simp [Lib.compareBytes]
      | cons b y =>
        simp only [Lib.compareBytes] at h ⊢
        split at h
        · omega
        · rename_i h1
          split at h
          · rename_i h2
            rw [if_pos h2]; decide
          · rename_i h2
            rw [if_neg h2, if_neg h1]; exact ih y h
  · induction x with
    | nil => intro y z h1 h2; cases y with
      | nil => simp [Lib.compareBytes] at h1
      | cons b y => cases z with
        | nil => simp [Lib.compareBytes] at h2
        | cons c z => simp [Lib.compareBytes]
    | cons a x ih => intro y z h1 h2; cases y with
      | nil => simp [Lib.compareBytes] at h1
      | cons b y => cases z with
        | nil => simp [Lib.compareBytes] at h2
        | cons c z =>
          simp only [Lib.compareBytes] at h1 h2 ⊢
          split at h1
          · rename_i g1
            split at h2
            · rename_i g2
              rw [if_pos (UInt8.lt_trans g1 g2)]; decide
            · rename_i g2
              split at h2
              · omega
              · rename_i g3
                have e : b = c := UInt8.le_antisymm (UInt8.not_lt.1 g3) (UInt8.not_lt.1 g2)
                rw [← e, if_pos g1]; decide
          · rename_i g1
            split at h1
            · omega
            · rename_i g2
              have e : a = b := UInt8.le_antisymm (UInt8.not_lt.1 g2) (UInt8.not_lt.1 g1)
              subst e
              split at h2
              · rename_i g3
                rw [if_pos g3]; decide
              · rename_i g3
                split at h2
                · omega
                · rename_i g4
                  rw [if_neg g3, if_neg g4]; exact ih y z h1 h2
/-- One behind the other. -/
def lexC {α β : Type} (c : α → α → Int) (d : β → β → Int) (x y : α × β) : Int := if c x.1 y.1 ≠ 0 then c x.1 y.1 else d x.2 y.2
set_option maxRecDepth 100000 in
theorem lin_lex {α β : Type} {c : α → α → Int} {d : β → β → Int} (hc : Lin c) (hd : Lin d) : Lin (lexC c d) := by
  refine ⟨fun x => ?_, fun x y h => ?_, fun x y h => ?_, fun x y h => ?_, fun x y z h1 h2 => ?_⟩
  · simp [lexC, hc.refl, hd.refl]
  · unfold lexC at h
    split at h
    · contradiction
    · rename_i g
      have g : c x.1 y.1 = 0 := by simpa using g
      exact Prod.ext (hc.eq _ _ g) (hd.eq _ _ h)
  · unfold lexC at h ⊢
    split at h
    · have := hc.neg _ _ h
      rw [if_pos (by omega)]; exact this
    · rename_i g
      have g : c x.1 y.1 = 0 := by simpa using g
      have e := hc.eq _ _ g
      rw [e, if_neg (by simp [hc.refl])]; exact hd.neg _ _ h
  · unfold lexC at h ⊢
    split at h
    · have := hc.pos _ _ h
      rw [if_pos (by omega)]; exact this
    · rename_i g
      have g : c x.1 y.1 = 0 := by simpa using g
      have e := hc.eq _ _ g
      rw [e, if_neg (by simp [hc.refl])]; exact hd.pos _ _ h
  · unfold lexC at h1 h2 ⊢
    by_cases g1 : c x.1 y.1 = 0
    · have e := hc.eq _ _ g1
      rw [if_neg (by simpa using g1)] at h1
      rw [e]
      by_cases g2 : c y.1 z.1 = 0
      · rw [if_neg (by simpa using g2)] at h2 ⊢
        exact hd.trans _ _ _ h1 h2
      · rw [if_pos g2] at h2 ⊢
        exact h2
    · rw [if_pos g1] at h1
      by_cases g2 : c y.1 z.1 = 0
      · have e := hc.eq _ _ g2
        rw [← e, if_pos g1]; exact h1
      · rw [if_pos g2] at h2
        have := hc.trans _ _ _ h1 h2
        rw [if_pos (by omega)]; exact this
set_option maxRecDepth 100000 in
theorem Lin.swo {α β : Type} {c : α → α → Int} (h : Lin c) (k : β → α) : Go.Sort.SWO (Go.Proofs.ltOf fun x y : β => c (k x) (k y)) := by
  refine ⟨fun x => ?_, fun x y z h1 h2 => ?_, fun x y z h1 h2 => ?_⟩
  · simp [Go.Proofs.ltOf, h.refl]
  · simp only [Go.Proofs.ltOf, decide_eq_true_eq] at *
    exact h.trans _ _ _ h1 h2
  · simp only [Go.Proofs.ltOf, decide_eq_false_iff_not] at *
    intro h3
    rcases Int.lt_trichotomy (c (k x) (k y)) 0 with g | g | g
    · exact h1 g
    · rw [h.eq _ _ g] at h3; exact h2 h3
    · rcases Int.lt_trichotomy (c (k y) (k z)) 0 with g2 | g2 | g2
      · exact h2 g2
      · rw [← h.eq _ _ g2] at h3; exact h1 h3
      · have a := h.trans _ _ _ (h.pos _ _ g2) (h.pos _ _ g)
        have b := h.neg _ _ a
        omega
/-- What is compared of a sign. -/
abbrev GK := Int × Int × Int × List UInt8
def gk (g : GV) : GK := (g.1, g.2.1, g.2.2.1, (bstr g.2.2.2).data.toList)
def cmpK : GK → GK → Int := lexC cI (lexC cI (lexC cI Lib.compareBytes))
set_option maxRecDepth 100000 in
theorem lin_cmpK : Lin cmpK := lin_lex lin_cI (lin_lex lin_cI (lin_lex lin_cI lin_cB))
/-- The first that is not nought. -/
def orF : List Int → Int
  | [] => 0
  | x :: r => if x ≠ 0 then x else orF r
def cmpG (a b : GV) : Int := cmpK (gk a) (gk b)
set_option maxRecDepth 100000 in
theorem cmpG_or (a b : GV) : cmpG a b = orF [cI a.1 b.1, cI a.2.1 b.2.1, cI a.2.2.1 b.2.2.1, Lib.compareBytes (bstr a.2.2.2).data.toList (bstr b.2.2.2).data.toList] := by
  simp only [cmpG, cmpK, lexC, gk, orF]
  by_cases h0 : cI a.1 b.1 = 0
  · by_cases h1 : cI a.2.1 b.2.1 = 0
    · by_cases h2 : cI a.2.2.1 b.2.2.1 = 0
      · by_cases h3 : Lib.compareBytes (bstr a.2.2.2).data.toList (bstr b.2.2.2).data.toList = 0 <;> simp [h0, h1, h2, h3]
      · simp [h0, h1, h2]
    · simp [h0, h1]
  · simp [h0]
set_option maxRecDepth 100000 in
theorem cmpG_zero {a b : GV} (ha : AllU8 a.2.2.2) (hb : AllU8 b.2.2.2) : cmpG a b = 0 ↔ a = b := by
  constructor
  · intro h
    have e := lin_cmpK.eq _ _ h
    obtain ⟨a0, a1, a2, a3⟩ := a
    obtain ⟨b0, b1, b2, b3⟩ := b
    simp only [gk, Prod.mk.injEq] at e
    obtain ⟨e0, e1, e2, e3⟩ := e
    have e4 : a3 = b3 := by
      refine bstr_inj ha hb (ba_ext ?_)
      rw [ByteArray.toList_eq, ByteArray.toList_eq]; exact e3
    rw [e0, e1, e2, e4]
  · intro h; subst h; exact lin_cmpK.refl _
end Go.Proofs.YteeiomcgdgehfaaDoor
