/- What the reading of an argument that is a list of signs gives the walks. -/
import Derived.Test.YtdjaafnghlcjbaaOpenS
import Derived.Test.YtdjaafnghlcjbaaSignsL
import Derived.Deep.Slices
namespace Go.Proofs.Ytdjaafnghlcjbaa
open Go.ChangeShapes Go.WideShapes Go.ChangeAt Go.RowKit Go.Deep

set_option maxRecDepth 100000 in
theorem weightsAll_memG {H : Type} (e : TypeId) (l : List (DataW H)) (d : DataW H) (hd : d ∈ l) : ∀ n ∈ d.weights Try.prog e, n ∈ DataW.weightsAll Try.prog e l := by
  induction l with
  | nil => cases hd
  | cons x r ih =>
    intro n hn
    rw [DataW.weightsAll]
    rcases List.mem_cons.1 hd with rfl | h
    · exact List.mem_append_left _ hn
    · exact List.mem_append_right _ (ih h n hn)
set_option maxRecDepth 100000 in
theorem cSign : Try.prog.cellsOf 31 = 4 := by kernel_rfl
set_option maxRecDepth 100000 in
theorem open_sign_cells {H : Type} {enc : TypeId × Value → H} {W : World} {fuel : Nat} {cs : List Value} {x : DataW H × List MemPlace}
    (hf : DataW.trod enc Try.prog W 0 (fun _ => true) true fuel 31 cs = some x) (hfit : ∀ n ∈ x.1.weights Try.prog 31, n ≤ reachBytes) :
    ∃ nd au rd sa cap bs, cs = [.int .i64 nd, .int .i64 au, .int .i64 rd, .slice sa (List.length bs) cap] ∧ I64 nd ∧ I64 au ∧ I64 rd ∧ SliceAt W sa cap bs ∧ AllU8 bs ∧ cap ≤ 140737488351232 := by
  obtain ⟨y0, y1, n, rfl, hl, h0, h1⟩ := trod_struct2 Try.underlying31 hf
  rw [cSign] at hl
  match cs, hl with
  | [c0, c1, c2, c3], _ =>
  obtain ⟨a, e0, rfl, wa⟩ := DataW.trod_int Try.underlying3 h0
  obtain ⟨au, rd, sa, cap, bs, e1, i1, i2, hs, hu, hc⟩ := open_slot_cells h1 (fun n hn => hfit n (by simp [DataW.weights, DataW.weightsEach, Try.underlying31, hn]))
  simp [cInt, cSlot] at e0 e1
  obtain ⟨rfl, rfl, rfl⟩ := e1
  subst e0
  exact ⟨a, au, rd, sa, cap, bs, rfl, bounds_i64 wa, i1, i2, hs, hu, hc⟩
set_option maxRecDepth 100000 in
theorem open_sign {H : Type} {enc : TypeId × Value → H} {W : World} {base : Nat} {v : Value} {d : DataW H} {p : List MemPlace}
    (hv : Value.okWide Try.prog W .any base 31 v) (h : DataW.Trod enc Try.prog W 0 (fun _ => true) true 31 v d p) (hfit : ∀ n ∈ d.weights Try.prog 31, n ≤ reachBytes) :
    ∃ nd au rd sa cap bs, v = .agg #[.int .i64 nd, .int .i64 au, .int .i64 rd, .slice sa (List.length bs) cap] ∧ I64 nd ∧ I64 au ∧ I64 rd ∧ SliceAt W sa cap bs ∧ AllU8 bs ∧ cap ≤ 140737488351232 := by
  obtain ⟨cs, rfl, _⟩ := okWide_struct Try.underlying31 hv
  obtain ⟨fuel, hf⟩ := h
  obtain ⟨nd, au, rd, sa, cap, bs, hcs, h0, h1, h2, h3, h4⟩ := open_sign_cells hf hfit
  refine ⟨nd, au, rd, sa, cap, bs, ?_, h0, h1, h2, h3, h4⟩
  have : cs.toList = _ := hcs
  rw [← this]
set_option maxRecDepth 100000 in
theorem bSign : Try.prog.bytesOf 31 = 48 := by kernel_rfl
set_option maxRecDepth 100000 in
theorem open_signs_cells {H : Type} {enc : TypeId × Value → H} {W : World} {fuel : Nat} {cs : List Value} {x : DataW H × List MemPlace}
    (hf : DataW.trod enc Try.prog W 0 (fun _ => true) true fuel 22 cs = some x) (hfit : ∀ n ∈ x.1.weights Try.prog 22, n ≤ reachBytes) :
    ∃ sa cap ls, cs = [.slice sa (List.length ls) cap] ∧ GRead W sa cap ls ∧ ∀ s ∈ ls, I64 s.nd ∧ I64 s.au ∧ I64 s.rd := by
  rcases open_slice Try.underlying22 hf with ⟨rfl, _⟩ | ⟨a, len, cap, m, n, D, Pl, rfl, _, hl, hm, hmm, rfl, hx⟩
  · exact ⟨none, 0, [], rfl, ⟨⟨Nat.le_refl _, by decide, by decide, .inl rfl, ⟨.inl rfl, fun p hp => by cases hp⟩⟩, by decide, fun p hp => by cases hp⟩, fun p hp => by cases hp⟩
  · simp only [if_true] at hmm
    subst hmm
    rw [cSign] at hx
    have hw := hfit ((((List.range len).map D).length + ((List.range (m - len)).map fun j => D (len + j)).length) * Try.prog.bytesOf 31) (by simp [DataW.weights, Try.underlying22])
    rw [bSign] at hw
    simp [reachBytes] at hw
    have each : ∀ i, i < len → ∃ s : Sg, (W.cell? (a.add (i * 4)) = some (.int .i64 s.nd) ∧ W.cell? (a.add (i * 4 + 1)) = some (.int .i64 s.au) ∧ W.cell? (a.add (i * 4 + 2)) = some (.int .i64 s.rd) ∧ W.cell? (a.add (i * 4 + 3)) = some (.slice s.p.sa s.p.bs.length s.p.cap)) ∧ (SliceAt W s.p.sa s.p.cap s.p.bs ∧ AllU8 s.p.bs) ∧ (I64 s.nd ∧ I64 s.au ∧ I64 s.rd) ∧ s.p.cap ≤ 140737488351232 := fun i hi => by
      obtain ⟨cs', h1, h2⟩ := hx i (by omega)
      have hfi : ∀ n ∈ (D i).weights Try.prog 31, n ≤ reachBytes := fun n hn => hfit n (by
        have := weightsAll_memG 31 ((List.range len).map D) (D i) (List.mem_map.2 ⟨i, List.mem_range.2 hi, rfl⟩) n hn
        simp only [DataW.weights, Try.underlying22]
        exact List.mem_cons_of_mem _ (List.mem_append_left _ this))
      obtain ⟨nd, au, rd, sa, cap, bs, rfl, i0, i1, i2, h3, h4, h5⟩ := open_sign_cells h2 hfi
      obtain ⟨_, _, hcell⟩ := World.cells?_some h1
      have e0 := hcell 0 (by omega)
      have e1 := hcell 1 (by omega)
      have e2 := hcell 2 (by omega)
      have e3 := hcell 3 (by omega)
      rw [add_add] at e0 e1 e2 e3
      exact ⟨⟨nd, au, rd, ⟨sa, cap, bs⟩⟩, ⟨by simpa using e0, by simpa using e1, by simpa using e2, by simpa using e3⟩, ⟨h3, h4⟩, ⟨i0, i1, i2⟩, h5⟩
    obtain ⟨P, hP⟩ := @choose_lt Sg ⟨⟨0, 0, 0, ⟨none, 0, []⟩⟩⟩ len _ each
    have ha : 0 < len → ∃ b off, a = ⟨b, off, none⟩ := fun hi => by
      have h9 := (hP 0 hi).1.1
      cases a with
      | mk b off spot =>
        cases spot with
        | none => exact ⟨b, off, rfl⟩
        | some s => simp [World.cell?, Addr.add] at h9; split at h9 <;> cases h9
    have ha2 : m = 0 ∨ ∃ b off, a = ⟨b, off, none⟩ := by
      rcases Nat.eq_zero_or_pos m with h0 | h0
      · exact .inl h0
      · right
        obtain ⟨cs', h1, _⟩ := hx 0 h0
        obtain ⟨_, hl', hcell⟩ := World.cells?_some h1
        have e0 := hcell 0 (by omega)
        have h9 : ∃ v, W.cell? a = some v := by
          match cs', hl' with
          | [v0, v1, v2, v3], _ => rw [add_add] at e0; exact ⟨v0, by simpa [Addr.add] using e0⟩
        obtain ⟨v, h9⟩ := h9
        cases a with
        | mk b off spot =>
          cases spot with
          | none => exact ⟨b, off, rfl⟩
          | some s => simp [World.cell?] at h9; split at h9 <;> cases h9
    refine ⟨some a, m, (List.range len).map P, by simp, ⟨⟨by simpa using hl, hm, by simp; omega, ?_, ⟨?_, ?_⟩⟩, by simp; omega, ?_⟩, ?_⟩
    · rcases ha2 with h0 | ⟨b, off, rfl⟩
      · exact .inl h0
      · exact .inr ⟨b, off, rfl⟩
    · rcases Nat.eq_zero_or_pos len with h0 | h0
      · subst h0; exact .inl rfl
      · right
        obtain ⟨b, off, rfl⟩ := ha h0
        refine ⟨b, off, rfl, fun j hj => ?_⟩
        have hj' : j < len := by simpa using hj
        obtain ⟨e0, e1, e2, e3⟩ := (hP j hj').1
        rw [add_off] at e0 e1 e2 e3
        simp only [List.getElem_map, List.getElem_range]
        exact ⟨e0, by rw [Nat.add_assoc]; exact e1, by rw [Nat.add_assoc]; exact e2, by rw [Nat.add_assoc]; exact e3⟩
    · intro p hp
      simp at hp
      obtain ⟨j, hj, rfl⟩ := hp
      exact (hP j hj).2.1
    · intro p hp
      simp at hp
      obtain ⟨j, hj, rfl⟩ := hp
      have h1 := (hP j hj).2.1.1.le
      have h2 := (hP j hj).2.2.2
      omega
    · intro p hp
      simp at hp
      obtain ⟨j, hj, rfl⟩ := hp
      exact (hP j hj).2.2.1
set_option maxRecDepth 100000 in
theorem open_signs {H : Type} {enc : TypeId × Value → H} {W : World} {base : Nat} {v : Value} {d : DataW H} {p : List MemPlace}
    (hv : Value.okWide Try.prog W .any base 22 v) (h : DataW.Trod enc Try.prog W 0 (fun _ => true) true 22 v d p) (hfit : ∀ n ∈ d.weights Try.prog 22, n ≤ reachBytes) :
    ∃ sa cap ls, v = .slice sa (List.length ls) cap ∧ GRead W sa cap ls ∧ ∀ s ∈ ls, I64 s.nd ∧ I64 s.au ∧ I64 s.rd := by
  obtain ⟨a0, len0, cap0, rfl⟩ := okWide_slice Try.underlying22 hv
  obtain ⟨fuel, hf⟩ := h
  obtain ⟨sa, cap, ps, hcs, h1, h2⟩ := open_signs_cells hf hfit
  simp [Value.cells] at hcs
  obtain ⟨rfl, rfl, rfl⟩ := hcs
  exact ⟨_, _, ps, rfl, h1, h2⟩
end Go.Proofs.Ytdjaafnghlcjbaa
