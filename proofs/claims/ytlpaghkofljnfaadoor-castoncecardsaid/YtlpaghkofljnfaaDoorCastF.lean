/- P4.3, as a function. -/
import Derived.Test.YtlpaghkofljnfaaDoorSlotsL
import Derived.Test.YtlpaghkofljnfaaDoorDigs
import Derived.Test.YtlpaghkofljnfaaDoorOwnL
import Derived.Test.YtlpaghkofljnfaaDoorSlCs
namespace Go.Proofs.YtlpaghkofljnfaaDoor
open Go.RowKit

def findTo (l : List SV) (au rd : Int) : Nat → Option Nat
  | 0 => none
  | k + 1 => match findTo l au rd k with
    | some m => some m
    | none => if hit l au rd k = true then some k else none
set_option maxRecDepth 100000 in
theorem findTo_none {l : List SV} {au rd : Int} {k : Nat} (h : ∀ j, j < k → hit l au rd j = false) : findTo l au rd k = none := by
  induction k with
  | zero => rfl
  | succ k ih => rw [findTo, ih (fun j hj => h j (by omega))]; simp [h k (by omega)]
set_option maxRecDepth 100000 in
theorem findTo_some {l : List SV} {au rd : Int} {k m : Nat} (hm : m < k) (h1 : hit l au rd m = true) (h2 : ∀ j, j < m → hit l au rd j = false) : findTo l au rd k = some m := by
  induction k with
  | zero => omega
  | succ k ih =>
    rcases Nat.lt_or_ge m k with g | g
    · rw [findTo, ih g]
    · obtain rfl : m = k := by omega
      rw [findTo, findTo_none h2]; simp [h1]
set_option maxRecDepth 100000 in
/-- What is found, and told. -/
theorem First.found {l : List SV} {au rd : Int} {k : Nat} {r : Int} (h : First l au rd k r) : (∃ m : Nat, m < k ∧ r = m ∧ findTo l au rd k = some m) ∨ (r = -1 ∧ findTo l au rd k = none) := by
  rcases h with ⟨m, hm, rfl, h1, h2⟩ | ⟨rfl, h2⟩
  · exact .inl ⟨m, hm, rfl, findTo_some hm h1 h2⟩
  · exact .inr ⟨rfl, findTo_none h2⟩
/-- A vote: the table behind it. -/
def castF (l : List SV) (s : SV) : List SV × Int := match findTo l s.1 s.2.1 l.length with
  | some m => if txL (svAt l m).2.2 = txL s.2.2 then (l, 0) else ([], 7)
  | none => if 400 ≤ l.length then ([], 6) else (l ++ [s], 0)
set_option maxRecDepth 100000 in
theorem castF_same {l : List SV} {s : SV} {m : Nat} (h : findTo l s.1 s.2.1 l.length = some m) (he : txL (svAt l m).2.2 = txL s.2.2) : castF l s = (l, 0) := by rw [castF, h]; exact if_pos he
set_option maxRecDepth 100000 in
theorem castF_twice {l : List SV} {s : SV} {m : Nat} (h : findTo l s.1 s.2.1 l.length = some m) (he : ¬ txL (svAt l m).2.2 = txL s.2.2) : castF l s = ([], 7) := by rw [castF, h]; exact if_neg he
set_option maxRecDepth 100000 in
theorem castF_full {l : List SV} {s : SV} (h : findTo l s.1 s.2.1 l.length = none) (hl : 400 ≤ l.length) : castF l s = ([], 6) := by rw [castF, h]; exact if_pos hl
set_option maxRecDepth 100000 in
theorem castF_new {l : List SV} {s : SV} (h : findTo l s.1 s.2.1 l.length = none) (hl : ¬ 400 ≤ l.length) : castF l s = (l ++ [s], 0) := by rw [castF, h]; exact if_neg hl
set_option maxRecDepth 100000 in
theorem TabAt.setCell {w : World} {ra : Option Addr} {rc B : Nat} {ls : List Sl} (h : TabAt w ra rc ls) (hf : Fresh B ra (ps ls)) (b j : Nat) (v : Value) (hb : b < B) : TabAt (w.setCell ⟨b, j, none⟩ v) ra rc ls := by
  refine ⟨h.le, h.max, h.small, h.some, ⟨?_, fun s hs => ?_⟩⟩
  · rcases h.slots.cells with hc | ⟨sb, so, rfl, hc⟩
    · exact .inl hc
    · have hne : b ≠ sb := by have := hf.row sb so rfl; omega
      exact .inr ⟨sb, so, rfl, fun k hk => ⟨(World.cell?_setCell_far _ _ _ _ hne).trans (hc k hk).1, (World.cell?_setCell_far _ _ _ _ hne).trans (hc k hk).2.1, (World.cell?_setCell_far _ _ _ _ hne).trans (hc k hk).2.2⟩⟩
  · have hx := h.slots.each s hs
    refine ⟨hx.le, hx.max, hx.some, hx.nil, ?_⟩
    rcases hx.bytes with hc | ⟨sb, so, e, hc⟩
    · exact .inl hc
    · exact .inr ⟨sb, so, e, fun k hk => (World.cell?_setCell_far _ _ _ _ (by have := hf.each s.p (List.mem_map.2 ⟨s, hs, rfl⟩) sb so e; show b ≠ sb; omega)).trans (hc k hk)⟩
set_option maxRecDepth 100000 in
theorem slice_far {w : World} {ra : Option Addr} {rc B : Nat} {bs : List Int} (h : SliceAt w ra rc bs) (hf : ∀ sb so, ra = some ⟨sb, so, none⟩ → B ≤ sb) (b j : Nat) (v : Value) (hb : b < B) : SliceAt (w.setCell ⟨b, j, none⟩ v) ra rc bs := by
  refine ⟨h.le, h.max, h.some, h.nil, ?_⟩
  rcases h.bytes with hc | ⟨sb, so, e, hc⟩
  · exact .inl hc
  · exact .inr ⟨sb, so, e, fun k hk => (World.cell?_setCell_far _ _ _ _ (by have := hf sb so e; show b ≠ sb; omega)).trans (hc k hk)⟩
set_option maxRecDepth 100000 in
theorem tab_nil (w : World) : TabAt w none 0 [] := ⟨Nat.le_refl _, by decide, by decide, .inl rfl, ⟨.inl rfl, fun p hp => by cases hp⟩⟩
set_option maxRecDepth 100000 in
theorem fresh_nil (B : Nat) : Fresh B none (ps []) := ⟨(fun _ _ e => by cases e), (fun p hp => by cases hp)⟩
set_option maxRecDepth 100000 in
theorem fresh_mono {B B' : Nat} {ra : Option Addr} {qs : List Part} (h : Fresh B ra qs) (hB : B' ≤ B) : Fresh B' ra qs := ⟨fun sb so e => Nat.le_trans hB (h.row sb so e), fun p hp sb so e => Nat.le_trans hB (h.each p hp sb so e)⟩
set_option maxRecDepth 100000 in
theorem tab32 {ls : List Sl} (h : tabF (vs ls) = 0) : ∀ s ∈ ls, s.p.bs.length ≤ 140737488355328 := fun s hs => by
  obtain ⟨m, hm, rfl⟩ := List.getElem_of_mem hs
  have hb := (tabF_zero h).2 m (by rw [vs_length]; exact hm)
  rw [badAt, svAt_get ls m hm] at hb
  simp only [Bool.or_eq_false_iff] at hb
  have h1 : slotF (ls[m]).au (ls[m]).rd (ls[m]).p.bs.length = 0 := by have h9 := hb.1; simp only [ne_eq, decide_eq_false_iff_not, Decidable.not_not] at h9; exact h9
  unfold slotF at h1
  split at h1
  · cases h1
  · split at h1
    · cases h1
    · omega
end Go.Proofs.YtlpaghkofljnfaaDoor
