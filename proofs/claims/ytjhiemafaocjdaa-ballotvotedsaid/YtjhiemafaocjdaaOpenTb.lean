/- What the reading of an argument that is a table of slots gives the walks. -/
import Derived.Test.YtjhiemafaocjdaaOpenS
import Derived.Test.YtjhiemafaocjdaaSlotsL
import Derived.Deep.Slices
namespace Go.Proofs.Ytjhiemafaocjdaa
open Go.ChangeShapes Go.WideShapes Go.ChangeAt Go.RowKit Go.Deep

set_option maxRecDepth 100000 in
theorem weightsAll_memS {H : Type} (e : TypeId) (l : List (DataW H)) (d : DataW H) (hd : d ∈ l) : ∀ n ∈ d.weights Try.prog e, n ∈ DataW.weightsAll Try.prog e l := by
  induction l with
  | nil => cases hd
  | cons x r ih =>
    intro n hn
    rw [DataW.weightsAll]
    rcases List.mem_cons.1 hd with rfl | h
    · exact List.mem_append_left _ hn
    · exact List.mem_append_right _ (ih h n hn)
set_option maxRecDepth 100000 in
theorem bSlot : Try.prog.bytesOf 33 = 40 := by kernel_rfl
set_option maxRecDepth 100000 in
theorem open_table_cells {H : Type} {enc : TypeId × Value → H} {W : World} {fuel : Nat} {cs : List Value} {x : DataW H × List MemPlace}
    (hf : DataW.trod enc Try.prog W 0 (fun _ => true) true fuel 22 cs = some x) (hfit : ∀ n ∈ x.1.weights Try.prog 22, n ≤ reachBytes) :
    ∃ sa cap ls, cs = [.slice sa (List.length ls) cap] ∧ TableAt W sa cap ls ∧ ∀ s ∈ ls, I64 s.au ∧ I64 s.rd ∧ AllU8 s.p.bs := by
  rcases open_slice Try.underlying22 hf with ⟨rfl, _⟩ | ⟨a, len, cap, m, n, D, Pl, rfl, _, hl, hm, hmm, rfl, hx⟩
  · exact ⟨none, 0, [], rfl, ⟨⟨Nat.le_refl _, by decide, by decide, .inl rfl, ⟨.inl rfl, fun p hp => by cases hp⟩⟩, by decide, fun p hp => by cases hp⟩, fun p hp => by cases hp⟩
  · simp only [if_true] at hmm
    subst hmm
    rw [cSlot] at hx
    have hw := hfit ((((List.range len).map D).length + ((List.range (m - len)).map fun j => D (len + j)).length) * Try.prog.bytesOf 33) (by simp [DataW.weights, Try.underlying22])
    rw [bSlot] at hw
    simp [reachBytes] at hw
    have each : ∀ i, i < len → ∃ s : Sl, (W.cell? (a.add (i * 3)) = some (.int .i64 s.au) ∧ W.cell? (a.add (i * 3 + 1)) = some (.int .i64 s.rd) ∧ W.cell? (a.add (i * 3 + 2)) = some (.slice s.p.sa s.p.bs.length s.p.cap)) ∧ SliceAt W s.p.sa s.p.cap s.p.bs ∧ (I64 s.au ∧ I64 s.rd ∧ AllU8 s.p.bs) ∧ s.p.cap ≤ 140737488351232 := fun i hi => by
      obtain ⟨cs', h1, h2⟩ := hx i (by omega)
      have hfi : ∀ n ∈ (D i).weights Try.prog 33, n ≤ reachBytes := fun n hn => hfit n (by
        have := weightsAll_memS 33 ((List.range len).map D) (D i) (List.mem_map.2 ⟨i, List.mem_range.2 hi, rfl⟩) n hn
        simp only [DataW.weights, Try.underlying22]
        exact List.mem_cons_of_mem _ (List.mem_append_left _ this))
      obtain ⟨au, rd, sa, cap, bs, rfl, i1, i2, h3, h4, h5⟩ := open_slot_cells h2 hfi
      obtain ⟨_, _, hcell⟩ := World.cells?_some h1
      have e0 := hcell 0 (by omega)
      have e1 := hcell 1 (by omega)
      have e2 := hcell 2 (by omega)
      rw [add_add] at e0 e1 e2
      exact ⟨⟨au, rd, ⟨sa, cap, bs⟩⟩, ⟨by simpa using e0, by simpa using e1, by simpa using e2⟩, h3, ⟨i1, i2, h4⟩, h5⟩
    obtain ⟨P, hP⟩ := @choose_lt Sl ⟨⟨0, 0, ⟨none, 0, []⟩⟩⟩ len _ each
    have ha : 0 < len → ∃ b off, a = ⟨b, off, none⟩ := fun hi => by
      have h9 := (hP 0 hi).1.1
      cases a with
      | mk b off spot =>
        cases spot with
        | none => exact ⟨b, off, rfl⟩
        | some s => simp [World.cell?, Addr.add] at h9; split at h9 <;> cases h9
    have ha2 : m = 0 ∨ ∃ b off, a = ⟨b, off, none⟩ := by
      rcases Nat.eq_zero_or_pos m with h0 | h0
      · exact .inl h0
      · right
        obtain ⟨cs', h1, _⟩ := hx 0 h0
        obtain ⟨_, hl', hcell⟩ := World.cells?_some h1
        have e0 := hcell 0 (by omega)
        have h9 : ∃ v, W.cell? a = some v := by
          match cs', hl' with
          | [v0, v1, v2], _ => rw [add_add] at e0; exact ⟨v0, by simpa [Addr.add] using e0⟩
        obtain ⟨v, h9⟩ := h9
        cases a with
        | mk b off spot =>
          cases spot with
          | none => exact ⟨b, off, rfl⟩
          | some s => simp [World.cell?] at h9; split at h9 <;> cases h9
    refine ⟨some a, m, (List.range len).map P, by simp, ⟨⟨by simpa using hl, hm, by simp; omega, ?_, ⟨?_, ?_⟩⟩, by simp; omega, ?_⟩, ?_⟩
    · rcases ha2 with h0 | ⟨b, off, rfl⟩
      · exact .inl h0
      · exact .inr ⟨b, off, rfl⟩
    · rcases Nat.eq_zero_or_pos len with h0 | h0
      · subst h0; exact .inl rfl
      · right
        obtain ⟨b, off, rfl⟩ := ha h0
        refine ⟨b, off, rfl, fun j hj => ?_⟩
        have hj' : j < len := by simpa using hj
        obtain ⟨e0, e1, e2⟩ := (hP j hj').1
        rw [add_off] at e0 e1 e2
        simp only [List.getElem_map, List.getElem_range]
        exact ⟨e0, by rw [Nat.add_assoc]; exact e1, by rw [Nat.add_assoc]; exact e2⟩
    · intro p hp
      simp at hp
      obtain ⟨j, hj, rfl⟩ := hp
      exact (hP j hj).2.1
    · intro p hp
      simp at hp
      obtain ⟨j, hj, rfl⟩ := hp
      have h1 := (hP j hj).2.1.le
      have h2 := (hP j hj).2.2.2
      omega
    · intro p hp
      simp at hp
      obtain ⟨j, hj, rfl⟩ := hp
      exact (hP j hj).2.2.1
set_option maxRecDepth 100000 in
theorem open_table {H : Type} {enc : TypeId × Value → H} {W : World} {base : Nat} {v : Value} {d : DataW H} {p : List MemPlace}
    (hv : Value.okWide Try.prog W .any base 22 v) (h : DataW.Trod enc Try.prog W 0 (fun _ => true) true 22 v d p) (hfit : ∀ n ∈ d.weights Try.prog 22, n ≤ reachBytes) :
    ∃ sa cap ls, v = .slice sa (List.length ls) cap ∧ TableAt W sa cap ls ∧ ∀ s ∈ ls, I64 s.au ∧ I64 s.rd ∧ AllU8 s.p.bs := by
  obtain ⟨a0, len0, cap0, rfl⟩ := okWide_slice Try.underlying22 hv
  obtain ⟨fuel, hf⟩ := h
  obtain ⟨sa, cap, ps, hcs, h1, h2⟩ := open_table_cells hf hfit
  simp [Value.cells] at hcs
  obtain ⟨rfl, rfl, rfl⟩ := hcs
  exact ⟨_, _, ps, rfl, h1, h2⟩
end Go.Proofs.Ytjhiemafaocjdaa
