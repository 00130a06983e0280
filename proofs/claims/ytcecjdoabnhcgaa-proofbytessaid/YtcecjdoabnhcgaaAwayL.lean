/- Lists that lie in other blocks than one that is rewritten. -/
import Derived.Test.YtcecjdoabnhcgaaOwnL
namespace Go.Proofs.Ytcecjdoabnhcgaa
open Go.RowKit

/-- The lists lie in other blocks. -/
structure Away (b : Nat) (ra : Option Addr) (qs : List Part) : Prop where
  row : ∀ sb so, ra = some ⟨sb, so, none⟩ → b ≠ sb
  each : ∀ p ∈ qs, ∀ sb so, p.sa = some ⟨sb, so, none⟩ → b ≠ sb
set_option maxRecDepth 100000 in
theorem ListAt.away {w : World} {ra : Option Addr} {rc b : Nat} {qs : List Part} (h : ListAt w ra rc qs) (hf : Away b ra qs) (j : Nat) (v : Value) : ListAt (w.setCell ⟨b, j, Option.none⟩ v) ra rc qs := by
  refine ⟨h.le, h.max, h.small, h.some, ⟨?_, fun p hp => ?_⟩⟩
  · rcases h.parts.cells with hc | ⟨sb, so, rfl, hc⟩
    · exact .inl hc
    · exact .inr ⟨sb, so, rfl, fun k hk => (World.cell?_setCell_far _ _ _ _ (hf.row sb so rfl)).trans (hc k hk)⟩
  · have hs := h.parts.each p hp
    refine ⟨hs.le, hs.max, hs.some, hs.nil, ?_⟩
    rcases hs.bytes with hc | ⟨sb, so, e, hc⟩
    · exact .inl hc
    · exact .inr ⟨sb, so, e, fun k hk => (World.cell?_setCell_far _ _ _ _ (hf.each p hp sb so e)).trans (hc k hk)⟩
end Go.Proofs.Ytcecjdoabnhcgaa
