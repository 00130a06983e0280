/- What the reading of an argument that is a slice of texts gives the walks. -/
import Derived.Test.YtnpjhpmgelaonabDoorGSteps
import Derived.Test.YtnpjhpmgelaonabDoorGAppB
import Derived.Deep.Strs
namespace Go.Proofs.YtnpjhpmgelaonabDoor
open Go.ChangeShapes Go.WideShapes Go.ChangeAt Go.RowKit Go.Deep

/-- What is read of a slice of texts that came in. -/
structure TextsAt (w : World) (sa : Option Addr) (cap : Nat) (ss : List ByteArray) : Prop where
  le : ss.length ≤ cap
  reach : cap * 16 ≤ 140737488351232
  nil : sa = none → cap = 0
  strs : StrsAt w sa ss
set_option maxRecDepth 100000 in
theorem TextsAt.below {w w' : World} {sa : Option Addr} {cap : Nat} {ss : List ByteArray} (h : TextsAt w sa cap ss) (hb : Below w.heap.size w w') : TextsAt w' sa cap ss := ⟨h.le, h.reach, h.nil, h.strs.below hb⟩

set_option maxRecDepth 100000 in
theorem cStr : Tryd.prog.cellsOf 9 = 1 := by kernel_rfl
set_option maxRecDepth 100000 in
theorem bStr : Tryd.prog.bytesOf 9 = 16 := by kernel_rfl
set_option maxRecDepth 100000 in
theorem open_texts_cells {H : Type} {enc : TypeId × Value → H} {W : World} {fuel : Nat} {cs : List Value} {x : DataW H × List MemPlace}
    (hf : DataW.trod enc Tryd.prog W 0 (fun _ => true) true fuel 37 cs = some x) (hfit : ∀ n ∈ x.1.weights Tryd.prog 37, n ≤ reachBytes) :
    ∃ sa cap ss, cs = [.slice sa (List.length ss) cap] ∧ TextsAt W sa cap ss := by
  rcases open_strs Tryd.underlying37 Tryd.underlying9 cStr hf with ⟨rfl, _⟩ | ⟨a, len, cap, m, Sx, rfl, _, hl, hm, hmm, rfl, hc⟩
  · exact ⟨none, 0, [], rfl, ⟨Nat.le_refl _, by decide, fun _ => rfl, ⟨.inl rfl, fun s hs => by cases hs⟩⟩⟩
  · simp only [if_true] at hmm
    subst hmm
    have hw := hfit ((((List.range len).map fun i => (DataW.lit (.string (Sx i).data.toList) : DataW H)).length + ((List.range (m - len)).map fun j => (DataW.lit (.string (Sx (len + j)).data.toList) : DataW H)).length) * Tryd.prog.bytesOf 9) (by simp [DataW.weights, Tryd.underlying37])
    rw [bStr] at hw
    simp [reachBytes] at hw
    refine ⟨some a, m, (List.range len).map Sx, by simp, ⟨by simpa using hl, by omega, (fun e => by cases e), ⟨?_, ?_⟩⟩⟩
    · rcases Nat.eq_zero_or_pos len with h0 | h0
      · subst h0; exact .inl rfl
      · right
        have h9 := (hc 0 (by omega)).1
        obtain ⟨b, off, rfl⟩ : ∃ b off, a = ⟨b, off, none⟩ := by
          cases a with
          | mk b off spot =>
            cases spot with
            | none => exact ⟨b, off, rfl⟩
            | some s => simp [World.cell?, Addr.add] at h9; split at h9 <;> cases h9
        refine ⟨b, off, rfl, fun j hj => ?_⟩
        have hj' : j < len := by simpa using hj
        have := (hc j (by omega)).1
        rw [add_off] at this
        rw [this]
        simp [hj']
    · intro s hs
      simp at hs
      obtain ⟨j, hj, rfl⟩ := hs
      exact (hc j (by omega)).2
end Go.Proofs.YtnpjhpmgelaonabDoor
