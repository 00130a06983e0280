/- What the reading of an argument that is a list of numbers gives the walks. -/
import Derived.Test.YtmpflkggbekpfaaOpenB
import Derived.Deep.Slices
import Derived.Test.YtmpflkggbekpfaaIntsL
namespace Go.Proofs.Ytmpflkggbekpfaa
open Go.ChangeShapes Go.WideShapes Go.ChangeAt Go.RowKit Go.Deep

set_option maxRecDepth 100000 in
theorem cIntN : Try.prog.cellsOf 3 = 1 := by kernel_rfl
/-- A list of numbers that came in. -/
structure NumsIn (w : World) (va : Option Addr) (vc : Nat) (vl : List Int) : Prop where
  ints : IntsAt w va vl
  le : vl.length ≤ vc
  max : vc ≤ 9223372036854775807
  each : ∀ x ∈ vl, I64 x
set_option maxRecDepth 100000 in
theorem open_nums {H : Type} {enc : TypeId × Value → H} {W : World} {base : Nat} {v : Value} {d : DataW H} {p : List MemPlace}
    (hv : Value.okWide Try.prog W .any base 22 v) (h : DataW.Trod enc Try.prog W 0 (fun _ => true) true 22 v d p) (_hfit : ∀ n ∈ d.weights Try.prog 22, n ≤ reachBytes) :
    ∃ va vc vl, v = .slice va (List.length vl) vc ∧ NumsIn W va vc vl := by
  obtain ⟨a0, len0, cap0, rfl⟩ := okWide_slice Try.underlying22 hv
  obtain ⟨fuel, hf⟩ := h
  rcases open_ints Try.underlying22 Try.underlying3 cIntN hf with ⟨hcs, _⟩ | ⟨a, len, cap, zs, hcs, _, hl, hm, hz, _, hcell, hwf⟩
  · simp [Value.cells] at hcs
    obtain ⟨rfl, rfl, rfl⟩ := hcs
    exact ⟨none, 0, [], rfl, ⟨⟨.inl rfl⟩, Nat.le_refl _, by decide, fun x hx => by cases hx⟩⟩
  · simp [Value.cells] at hcs
    obtain ⟨rfl, rfl, rfl⟩ := hcs
    simp only [if_true] at hz
    have hlen : (zs.take len0).length = len0 := by rw [List.length_take, hz]; omega
    refine ⟨some a, cap0, zs.take len0, by rw [hlen], ⟨⟨?_⟩, by omega, hm, fun x hx => bounds_i64 (hwf x (List.mem_of_mem_take hx))⟩⟩
    rcases Nat.eq_zero_or_pos cap0 with h0 | h0
    · left
      exact List.eq_nil_of_length_eq_zero (by omega)
    · obtain ⟨b, off, rfl, hc⟩ := ints_at hcell (by omega)
      refine .inr ⟨b, off, rfl, fun j hj => ?_⟩
      rw [hc j (by omega)]
      have : j < len0 := by omega
      simp [List.getD, this]
end Go.Proofs.Ytmpflkggbekpfaa
