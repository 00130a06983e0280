/- Rows of numbers. -/
import Derived.Test.YthlknldicpeobaaCertF
import Derived.Test.YthlknldicpeobaaRawU
namespace Go.Proofs.Ythlknldicpeobaa
open Go.RowKit

set_option maxRecDepth 100000 in
theorem infoInt2 : (Try.prog.info? 3).map (fun i => (i.zero, i.size, i.bytes)) = some (some (.int .i64 0), 1, 8) := by kernel_rfl
def iv (vl : List Int) : List Value := vl.map (Value.int .i64)
set_option maxRecDepth 100000 in
theorem iv_length (vl : List Int) : (iv vl).length = vl.length := by simp [iv]
set_option maxRecDepth 100000 in
theorem iv_one (vl : List Int) : ∀ u ∈ iv vl, u.oneCell' = true := by
  intro u hu; simp [iv] at hu; obtain ⟨x, _, rfl⟩ := hu; rfl
set_option maxRecDepth 100000 in
theorem intsAt_of_owns {w : World} {base n : Nat} {v : Value} {vl : List Int} (h : w.ownsRow base 3 1 v n (iv vl)) : ∃ za zc, v = .slice za n zc ∧ n = vl.length ∧ IntsAt w za vl ∧ ∀ sb so, za = some ⟨sb, so, none⟩ → base ≤ sb := by
  have hl : n = vl.length := by have := h.1; rw [iv_length] at this; omega
  rcases h.2 with ⟨rfl, hn⟩ | ⟨g, cap, cur, rfl, _⟩
  · have hb : vl = [] := List.eq_nil_of_length_eq_zero (by omega)
    subst hn hb
    exact ⟨none, 0, rfl, rfl, ⟨.inl rfl⟩, fun _ _ e => by cases e⟩
  · refine ⟨some ⟨g, 0, none⟩, cap, rfl, hl, ⟨.inr ⟨g, 0, rfl, fun j hj => ?_⟩⟩, fun sb so e => by cases e; exact (h.lt _ rfl).1⟩
    rw [Nat.zero_add, World.ownsRow.cellAt h j (by omega)]
    simp [iv, hj]
set_option maxRecDepth 100000 in
theorem IntsAt.setCell {w : World} {va : Option Addr} {vl : List Int} (h : IntsAt w va vl) (b j : Nat) (v : Value) (hne : ∀ sb so, va = some ⟨sb, so, none⟩ → b ≠ sb) : IntsAt (w.setCell ⟨b, j, none⟩ v) va vl := by
  refine ⟨?_⟩
  rcases h.cells with h | ⟨sb, so, rfl, hc⟩
  · exact .inl h
  · exact .inr ⟨sb, so, rfl, fun k hk => (World.cell?_setCell_far _ _ _ _ (hne sb so rfl)).trans (hc k hk)⟩
end Go.Proofs.Ythlknldicpeobaa
