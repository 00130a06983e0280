/- What the reading of an argument that is a slice of bytes gives the walks. -/
import Derived.Test.YtkldpdekicljaabDoorLib
import Derived.Test.YtkldpdekicljaabDoorTab
import Derived.ProofKit
import Derived.OpenShut
namespace Go.Proofs.YtkldpdekicljaabDoor
open Go.ChangeShapes Go.WideShapes Go.ChangeAt Go.RowKit

theorem own : ownKnob Tryd.prog.godebug = none := by kernel_rfl
theorem laidOut : laidOutB Tryd.prog = true := by kernel_rfl
/-- Each is a byte. -/
def AllU8 (bs : List Int) : Prop := ∀ x ∈ bs, 0 ≤ x ∧ x ≤ 255
theorem open_bytes {H : Type} {enc : TypeId × Value → H} {W : World} {base : Nat} {v : Value} {d : DataW H} {p : List MemPlace}
    (hv : Value.okWide Tryd.prog W .any base 24 v) (h : DataW.Trod enc Tryd.prog W 0 (fun _ => true) true 24 v d p) :
    ∃ sa cap bs, v = .slice sa (List.length bs) cap ∧ SliceAt W sa cap bs ∧ AllU8 bs := by
  obtain ⟨a0, len0, cap0, rfl⟩ := okWide_slice Tryd.underlying24 hv
  obtain ⟨fuel, hf⟩ := h
  rcases open_ints Tryd.underlying24 Tryd.underlying5 cU8 hf with ⟨hcs, _⟩ | ⟨x, l, c, zs, hcs, _, hl, hm, hz, _, hcell, hwz⟩
  · simp [Value.cells] at hcs
    obtain ⟨rfl, rfl, rfl⟩ := hcs
    exact ⟨none, 0, [], rfl, ⟨Nat.le_refl _, by decide, .inl rfl, fun _ => rfl, .inl rfl⟩, fun x hx => by cases hx⟩
  · simp [Value.cells] at hcs
    obtain ⟨rfl, rfl, rfl⟩ := hcs
    simp only [if_true] at hz
    have hlen : (zs.take len0).length = len0 := by rw [List.length_take, hz]; omega
    refine ⟨some x, cap0, zs.take len0, by rw [hlen], ?_, fun y hy => bounds_u8 (hwz y (List.mem_of_mem_take hy))⟩
    rcases Nat.eq_zero_or_pos cap0 with h0 | h0
    · subst h0
      obtain rfl : len0 = 0 := by omega
      exact ⟨by simp, hm, .inl rfl, fun _ => rfl, .inl (by simp)⟩
    · obtain ⟨b, off, rfl, hc⟩ := ints_at hcell (by omega)
      refine ⟨by omega, hm, .inr ⟨b, off, rfl⟩, (fun e => by cases e), .inr ⟨b, off, rfl, fun j hj => ?_⟩⟩
      rw [hc j (by omega)]
      have : j < len0 := by omega
      simp [List.getD, this]
/-- What the initialisers of the three tables lay, in the first blocks. -/
def layBlock (c : Array Value) : Obj → Obj
  | .cells _ t frozen => .cells c t frozen
  | o => o
def layTabs (w : World) : World :=
  { w with heap := ((w.heap.modify 0 (layBlock (ua fw))).modify 1 (layBlock (ub (ordF.map Int.ofNat)).toArray)).modify 2 (layBlock (ub (laneF.map Int.ofNat)).toArray) }
end Go.Proofs.YtkldpdekicljaabDoor
