/- What the reading of an argument that is a slice of texts, or a batch, gives the walks. -/
import Derived.Test.YtplmploigfhkkaaOpenB
import Derived.Test.YtplmploigfhkkaaTexts
import Derived.Deep.Strs
namespace Go.Proofs.Ytplmploigfhkkaa
open Go.ChangeShapes Go.WideShapes Go.ChangeAt Go.RowKit Go.Deep

theorem cStr : Try.prog.cellsOf 9 = 1 := by kernel_rfl
theorem bStr : Try.prog.bytesOf 9 = 16 := by kernel_rfl
theorem open_texts_cells {H : Type} {enc : TypeId × Value → H} {W : World} {fuel : Nat} {cs : List Value} {x : DataW H × List MemPlace}
    (hf : DataW.trod enc Try.prog W 0 (fun _ => true) true fuel 22 cs = some x) (hfit : ∀ n ∈ x.1.weights Try.prog 22, n ≤ reachBytes) :
    ∃ sa cap ss, cs = [.slice sa (List.length ss) cap] ∧ TextsAt W sa cap ss := by
  rcases open_strs Try.underlying22 Try.underlying9 cStr hf with ⟨rfl, _⟩ | ⟨a, len, cap, m, Sx, rfl, _, hl, hm, hmm, rfl, hc⟩
  · exact ⟨none, 0, [], rfl, ⟨Nat.le_refl _, by decide, fun _ => rfl, ⟨.inl rfl, fun s hs => by cases hs⟩⟩⟩
  · simp only [if_true] at hmm
    subst hmm
    have hw := hfit ((((List.range len).map fun i => (DataW.lit (.string (Sx i).data.toList) : DataW H)).length + ((List.range (m - len)).map fun j => (DataW.lit (.string (Sx (len + j)).data.toList) : DataW H)).length) * Try.prog.bytesOf 9) (by simp [DataW.weights, Try.underlying22])
    rw [bStr] at hw
    simp [reachBytes] at hw
    refine ⟨some a, m, (List.range len).map Sx, by simp, ⟨by simpa using hl, by omega, (fun e => by cases e), ⟨?_, ?_⟩⟩⟩
    · rcases Nat.eq_zero_or_pos len with h0 | h0
      · subst h0; exact .inl rfl
      · right
        have h9 := (hc 0 (by omega)).1
        obtain ⟨b, off, rfl⟩ : ∃ b off, a = ⟨b, off, none⟩ := by
          cases a with
          | mk b off spot =>
            cases spot with
            | none => exact ⟨b, off, rfl⟩
            | some s => simp [World.cell?, Addr.add] at h9; split at h9 <;> cases h9
        refine ⟨b, off, rfl, fun j hj => ?_⟩
        have hj' : j < len := by simpa using hj
        have := (hc j (by omega)).1
        rw [add_off] at this
        rw [this]
        simp [hj']
    · intro s hs
      simp at hs
      obtain ⟨j, hj, rfl⟩ := hs
      exact (hc j (by omega)).2
theorem cBatch : Try.prog.cellsOf 24 = 3 := by kernel_rfl
theorem cStrs : Try.prog.cellsOf 22 = 1 := by kernel_rfl
theorem cInt' : Try.prog.cellsOf 3 = 1 := by kernel_rfl
theorem open_batch_cells {H : Type} {enc : TypeId × Value → H} {W : World} {fuel : Nat} {cs : List Value} {x : DataW H × List MemPlace}
    (hf : DataW.trod enc Try.prog W 0 (fun _ => true) true fuel 24 cs = some x) (hfit : ∀ n ∈ x.1.weights Try.prog 24, n ≤ reachBytes) :
    ∃ au nu sa cap ss, cs = [.int .i64 au, .int .i64 nu, .slice sa (List.length ss) cap] ∧ I64 au ∧ I64 nu ∧ TextsAt W sa cap ss := by
  obtain ⟨y0, y1, y2, n, rfl, hl, h0, h1, h2⟩ := trod_struct3 Try.underlying24 hf
  rw [cBatch] at hl
  match cs, hl with
  | [c0, c1, c2], _ =>
  obtain ⟨a, e0, rfl, wa⟩ := DataW.trod_int Try.underlying3 h0
  obtain ⟨b, e1, rfl, wb⟩ := DataW.trod_int Try.underlying3 h1
  obtain ⟨sa, cap, ss, e2, hs⟩ := open_texts_cells h2 (fun n hn => hfit n (by simp [DataW.weights, DataW.weightsEach, Try.underlying24, hn]))
  simp [cInt', cStrs] at e0 e1 e2
  subst e0 e1 e2
  exact ⟨a, b, sa, cap, ss, rfl, bounds_i64 wa, bounds_i64 wb, hs⟩
theorem open_batch {H : Type} {enc : TypeId × Value → H} {W : World} {base : Nat} {v : Value} {d : DataW H} {p : List MemPlace}
    (hv : Value.okWide Try.prog W .any base 24 v) (h : DataW.Trod enc Try.prog W 0 (fun _ => true) true 24 v d p) (hfit : ∀ n ∈ d.weights Try.prog 24, n ≤ reachBytes) :
    ∃ au nu sa cap ss, v = .agg #[.int .i64 au, .int .i64 nu, .slice sa (List.length ss) cap] ∧ I64 au ∧ I64 nu ∧ TextsAt W sa cap ss := by
  obtain ⟨cs, rfl, _⟩ := okWide_struct Try.underlying24 hv
  obtain ⟨fuel, hf⟩ := h
  obtain ⟨au, nu, sa, cap, ss, hcs, h1, h2, h3⟩ := open_batch_cells hf hfit
  refine ⟨au, nu, sa, cap, ss, ?_, h1, h2, h3⟩
  have : cs.toList = _ := hcs
  rw [← this]
end Go.Proofs.Ytplmploigfhkkaa
