/- Tapes: what the document says of them (P8.1, P8.4, P8.5), and the form of an answer that is a tape. -/
import Derived.Test.YtchmfbhdnhaleaaApp
import Derived.Test.YtchmfbhdnhaleaaSx
import Derived.Deep.RegionHeld2
namespace Go.Proofs.Ytchmfbhdnhaleaa
open Go.RowKit

/-- P8.1. -/
def tapeOk (n : Nat) (sy : Int) : Bool := decide (n ≤ 400000 ∧ 0 ≤ sy ∧ sy ≤ n)
/-- P8.5: so many bytes are left. -/
def leftN (n : Nat) (sy keep : Int) : Nat := if keep < n - sy then (sy + keep).toNat else n
def crashF (n : Nat) (sy keep : Int) : Int := if tapeOk n sy then (if keep < 0 then 2 else 0) else 12
def crashN (n : Nat) (sy keep : Int) : Nat := if tapeOk n sy ∧ 0 ≤ keep then leftN n sy keep else 0
def syncF (n : Nat) (sy : Int) : Int := if tapeOk n sy then 0 else 12
def syncN (n : Nat) (sy : Int) : Nat := if tapeOk n sy then n else 0
set_option maxRecDepth 100000 in
theorem tapeOk_iff {n : Nat} {sy : Int} : tapeOk n sy = true ↔ n ≤ 400000 ∧ 0 ≤ sy ∧ sy ≤ n := by simp [tapeOk]
set_option maxRecDepth 100000 in
theorem tapeOk_not {n : Nat} {sy : Int} (h : ¬ (n ≤ 400000 ∧ 0 ≤ sy ∧ sy ≤ n)) : tapeOk n sy = false := decide_eq_false h
set_option maxRecDepth 100000 in
theorem leftN_le {n : Nat} {sy keep : Int} (h : 0 ≤ sy) : leftN n sy keep ≤ n := by
  unfold leftN
  split
  · have := h; omega
  · exact Nat.le_refl _
set_option maxRecDepth 100000 in
theorem SliceAt.takeT {w : World} {sa : Option Addr} {cap : Nat} {bs : List Int} (h : SliceAt w sa cap bs) (m c : Nat) (hm : m ≤ bs.length) (hc1 : m ≤ c) (hc2 : c ≤ cap) (hn : sa = Option.none → c = 0) : SliceAt w sa c (bs.take m) := by
  refine ⟨by simp; omega, by have := h.max; omega, ?_, hn, ?_⟩
  · rcases h.some with e | e
    · exact .inl (by omega)
    · exact .inr e
  · rcases h.bytes with hb | ⟨sb, so, rfl, hb⟩
    · exact .inl (by rw [hb]; simp)
    · refine .inr ⟨sb, so, rfl, fun j hj => ?_⟩
      rw [List.length_take] at hj
      rw [hb j (by omega)]
      simp [List.getD, show j < m by omega]
/-- An answer that is a tape and an error: new memory with these bytes. -/
structure TapeIs (w w' : World) (e : Ending) (bs : List Int) (sy er : Int) : Prop where
  out : ∃ ra rc, e = .returned (.tuple #[.agg #[.slice ra bs.length rc, .int .i64 sy], .int .i64 er]) ∧ SliceAt w' ra rc bs ∧ (∀ sb so, ra = some ⟨sb, so, none⟩ → w.heap.size ≤ sb ∧ sb < w'.heap.size) ∧ Below w.heap.size w w'
set_option maxRecDepth 100000 in
theorem nilSliceT (w : World) : SliceAt w none 0 [] := ⟨Nat.le_refl _, by decide, .inl rfl, fun _ => rfl, .inl rfl⟩
set_option maxRecDepth 100000 in
theorem TapeIs.bad {w w' : World} (er : Int) (hb : Below w.heap.size w w') : TapeIs w w' (.returned (.tuple #[.agg #[.slice none 0 0, .int .i64 0], .int .i64 er])) [] 0 er :=
  ⟨none, 0, rfl, nilSliceT _, (fun _ _ e => by cases e), hb⟩
set_option maxRecDepth 100000 in
/-- A store into a block that is older than a slice's leaves it as it is. -/
theorem SliceAt.setCellT {w : World} {sa : Option Addr} {cap : Nat} {bs : List Int} (h : SliceAt w sa cap bs) (b j : Nat) (v : Value) (hne : ∀ sb so, sa = Option.some ⟨sb, so, Option.none⟩ → b ≠ sb) : SliceAt (w.setCell ⟨b, j, Option.none⟩ v) sa cap bs := by
  refine ⟨h.le, h.max, h.some, h.nil, ?_⟩
  rcases h.bytes with hb | ⟨sb, so, rfl, hc⟩
  · exact .inl hb
  · exact .inr ⟨sb, so, rfl, fun k hk => (World.cell?_setCell_far _ _ _ _ (hne sb so rfl)).trans (hc k hk)⟩
end Go.Proofs.Ytchmfbhdnhaleaa
