/- What the reading of an argument that is a header gives the walks, its bytes too. -/
import Derived.Test.YtmpflkggbekpfaaDoorOpenB
import Derived.Deep.Strs
import Derived.Test.YtmpflkggbekpfaaDoorSignsL
import Derived.Deep.Slices
import Derived.Test.YtmpflkggbekpfaaDoorLAt
import Derived.Test.YtmpflkggbekpfaaDoorSealProvenM42
import Derived.Test.YtmpflkggbekpfaaDoorCertF
namespace Go.Proofs.YtmpflkggbekpfaaDoor
open Go.ChangeShapes Go.WideShapes Go.ChangeAt Go.RowKit Go.Deep

set_option maxRecDepth 100000 in
theorem cInt : Tryd.prog.cellsOf 3 = 1 := by kernel_rfl
set_option maxRecDepth 100000 in
theorem cBs : Tryd.prog.cellsOf 42 = 1 := by kernel_rfl
set_option maxRecDepth 100000 in
theorem cSlot : Tryd.prog.cellsOf 47 = 3 := by kernel_rfl
set_option maxRecDepth 100000 in
theorem open_slot_cells {H : Type} {enc : TypeId × Value → H} {W : World} {fuel : Nat} {cs : List Value} {x : DataW H × List MemPlace}
    (hf : DataW.trod enc Tryd.prog W 0 (fun _ => true) true fuel 47 cs = some x) (hfit : ∀ n ∈ x.1.weights Tryd.prog 47, n ≤ reachBytes) :
    ∃ au rd sa cap bs, cs = [.int .i64 au, .int .i64 rd, .slice sa (List.length bs) cap] ∧ I64 au ∧ I64 rd ∧ SliceAt W sa cap bs ∧ AllU8 bs ∧ cap ≤ 140737488351232 := by
  obtain ⟨y0, y1, y2, n, rfl, hl, h0, h1, h2⟩ := trod_struct3 Tryd.underlying47 hf
  rw [cSlot] at hl
  match cs, hl with
  | [c0, c1, c2], _ =>
  obtain ⟨a, e0, rfl, wa⟩ := DataW.trod_int Tryd.underlying3 h0
  obtain ⟨b, e1, rfl, wb⟩ := DataW.trod_int Tryd.underlying3 h1
  obtain ⟨sa, cap, bs, e2, hs, hu⟩ := open_bytes_cells h2
  have hc := bytes_fit h2 (fun n hn => hfit n (by simp [DataW.weights, DataW.weightsEach, Tryd.underlying47, hn])) e2
  simp [cInt, cBs] at e0 e1 e2
  subst e0 e1 e2
  exact ⟨a, b, sa, cap, bs, rfl, bounds_i64 wa, bounds_i64 wb, hs, hu, hc⟩
set_option maxRecDepth 100000 in
theorem open_slot {H : Type} {enc : TypeId × Value → H} {W : World} {base : Nat} {v : Value} {d : DataW H} {p : List MemPlace}
    (hv : Value.okWide Tryd.prog W .any base 47 v) (h : DataW.Trod enc Tryd.prog W 0 (fun _ => true) true 47 v d p) (hfit : ∀ n ∈ d.weights Tryd.prog 47, n ≤ reachBytes) :
    ∃ au rd sa cap bs, v = .agg #[.int .i64 au, .int .i64 rd, .slice sa (List.length bs) cap] ∧ I64 au ∧ I64 rd ∧ SliceAt W sa cap bs ∧ AllU8 bs ∧ cap ≤ 140737488351232 := by
  obtain ⟨cs, rfl, _⟩ := okWide_struct Tryd.underlying47 hv
  obtain ⟨fuel, hf⟩ := h
  obtain ⟨au, rd, sa, cap, bs, hcs, h1, h2, h3, h4⟩ := open_slot_cells hf hfit
  refine ⟨au, rd, sa, cap, bs, ?_, h1, h2, h3, h4⟩
  have : cs.toList = _ := hcs
  rw [← this]
end Go.Proofs.YtmpflkggbekpfaaDoor

namespace Go.Proofs.YtmpflkggbekpfaaDoor
open Go.ChangeShapes Go.WideShapes Go.ChangeAt Go.RowKit Go.Deep

set_option maxRecDepth 100000 in
theorem weightsAll_memG {H : Type} (e : TypeId) (l : List (DataW H)) (d : DataW H) (hd : d ∈ l) : ∀ n ∈ d.weights Tryd.prog e, n ∈ DataW.weightsAll Tryd.prog e l := by
  induction l with
  | nil => cases hd
  | cons x r ih =>
    intro n hn
    rw [DataW.weightsAll]
    rcases List.mem_cons.1 hd with rfl | h
    · exact List.mem_append_left _ hn
    · exact List.mem_append_right _ (ih h n hn)
set_option maxRecDepth 100000 in
theorem cSign : Tryd.prog.cellsOf 52 = 4 := by kernel_rfl
set_option maxRecDepth 100000 in
theorem open_sign_cells {H : Type} {enc : TypeId × Value → H} {W : World} {fuel : Nat} {cs : List Value} {x : DataW H × List MemPlace}
    (hf : DataW.trod enc Tryd.prog W 0 (fun _ => true) true fuel 52 cs = some x) (hfit : ∀ n ∈ x.1.weights Tryd.prog 52, n ≤ reachBytes) :
    ∃ nd au rd sa cap bs, cs = [.int .i64 nd, .int .i64 au, .int .i64 rd, .slice sa (List.length bs) cap] ∧ I64 nd ∧ I64 au ∧ I64 rd ∧ SliceAt W sa cap bs ∧ AllU8 bs ∧ cap ≤ 140737488351232 := by
  obtain ⟨y0, y1, n, rfl, hl, h0, h1⟩ := trod_struct2 Tryd.underlying52 hf
  rw [cSign] at hl
  match cs, hl with
  | [c0, c1, c2, c3], _ =>
  obtain ⟨a, e0, rfl, wa⟩ := DataW.trod_int Tryd.underlying3 h0
  obtain ⟨au, rd, sa, cap, bs, e1, i1, i2, hs, hu, hc⟩ := open_slot_cells h1 (fun n hn => hfit n (by simp [DataW.weights, DataW.weightsEach, Tryd.underlying52, hn]))
  simp [cInt, cSlot] at e0 e1
  obtain ⟨rfl, rfl, rfl⟩ := e1
  subst e0
  exact ⟨a, au, rd, sa, cap, bs, rfl, bounds_i64 wa, i1, i2, hs, hu, hc⟩
set_option maxRecDepth 100000 in
theorem open_sign {H : Type} {enc : TypeId × Value → H} {W : World} {base : Nat} {v : Value} {d : DataW H} {p : List MemPlace}
    (hv : Value.okWide Tryd.prog W .any base 52 v) (h : DataW.Trod enc Tryd.prog W 0 (fun _ => true) true 52 v d p) (hfit : ∀ n ∈ d.weights Tryd.prog 52, n ≤ reachBytes) :
    ∃ nd au rd sa cap bs, v = .agg #[.int .i64 nd, .int .i64 au, .int .i64 rd, .slice sa (List.length bs) cap] ∧ I64 nd ∧ I64 au ∧ I64 rd ∧ SliceAt W sa cap bs ∧ AllU8 bs ∧ cap ≤ 140737488351232 := by
  obtain ⟨cs, rfl, _⟩ := okWide_struct Tryd.underlying52 hv
  obtain ⟨fuel, hf⟩ := h
  obtain ⟨nd, au, rd, sa, cap, bs, hcs, h0, h1, h2, h3, h4⟩ := open_sign_cells hf hfit
  refine ⟨nd, au, rd, sa, cap, bs, ?_, h0, h1, h2, h3, h4⟩
  have : cs.toList = _ := hcs
  rw [← this]
set_option maxRecDepth 100000 in
theorem bSign : Tryd.prog.bytesOf 52 = 48 := by kernel_rfl
set_option maxRecDepth 100000 in
theorem open_signs_cells {H : Type} {enc : TypeId × Value → H} {W : World} {fuel : Nat} {cs : List Value} {x : DataW H × List MemPlace}
    (hf : DataW.trod enc Tryd.prog W 0 (fun _ => true) true fuel 22 cs = some x) (hfit : ∀ n ∈ x.1.weights Tryd.prog 22, n ≤ reachBytes) :
    ∃ sa cap ls, cs = [.slice sa (List.length ls) cap] ∧ GRead W sa cap ls ∧ ∀ s ∈ ls, I64 s.nd ∧ I64 s.au ∧ I64 s.rd := by
  rcases open_slice Tryd.underlying22 hf with ⟨rfl, _⟩ | ⟨a, len, cap, m, n, D, Pl, rfl, _, hl, hm, hmm, rfl, hx⟩
  · exact ⟨none, 0, [], rfl, ⟨⟨Nat.le_refl _, by decide, by decide, .inl rfl, ⟨.inl rfl, fun p hp => by cases hp⟩⟩, by decide, fun p hp => by cases hp⟩, fun p hp => by cases hp⟩
  · simp only [if_true] at hmm
    subst hmm
    rw [cSign] at hx
    have hw := hfit ((((List.range len).map D).length + ((List.range (m - len)).map fun j => D (len + j)).length) * Tryd.prog.bytesOf 52) (by simp [DataW.weights, Tryd.underlying22])
    rw [bSign] at hw
    simp [reachBytes] at hw
    have each : ∀ i, i < len → ∃ s : Sg, (W.cell? (a.add (i * 4)) = some (.int .i64 s.nd) ∧ W.cell? (a.add (i * 4 + 1)) = some (.int .i64 s.au) ∧ W.cell? (a.add (i * 4 + 2)) = some (.int .i64 s.rd) ∧ W.cell? (a.add (i * 4 + 3)) = some (.slice s.p.sa s.p.bs.length s.p.cap)) ∧ (SliceAt W s.p.sa s.p.cap s.p.bs ∧ AllU8 s.p.bs) ∧ (I64 s.nd ∧ I64 s.au ∧ I64 s.rd) ∧ s.p.cap ≤ 140737488351232 := fun i hi => by
      obtain ⟨cs', h1, h2⟩ := hx i (by omega)
      have hfi : ∀ n ∈ (D i).weights Tryd.prog 52, n ≤ reachBytes := fun n hn => hfit n (by
        have := weightsAll_memG 52 ((List.range len).map D) (D i) (List.mem_map.2 ⟨i, List.mem_range.2 hi, rfl⟩) n hn
        simp only [DataW.weights, Tryd.underlying22]
        exact List.mem_cons_of_mem _ (List.mem_append_left _ this))
      obtain ⟨nd, au, rd, sa, cap, bs, rfl, i0, i1, i2, h3, h4, h5⟩ := open_sign_cells h2 hfi
      obtain ⟨_, _, hcell⟩ := World.cells?_some h1
      have e0 := hcell 0 (by omega)
      have e1 := hcell 1 (by omega)
      have e2 := hcell 2 (by omega)
      have e3 := hcell 3 (by omega)
      rw [add_add] at e0 e1 e2 e3
      exact ⟨⟨nd, au, rd, ⟨sa, cap, bs⟩⟩, ⟨by simpa using e0, by simpa using e1, by simpa using e2, by simpa using e3⟩, ⟨h3, h4⟩, ⟨i0, i1, i2⟩, h5⟩
    obtain ⟨P, hP⟩ := @choose_lt Sg ⟨⟨0, 0, 0, ⟨none, 0, []⟩⟩⟩ len _ each
    have ha : 0 < len → ∃ b off, a = ⟨b, off, none⟩ := fun hi => by
      have h9 := (hP 0 hi).1.1
      cases a with
      | mk b off spot =>
        cases spot with
        | none => exact ⟨b, off, rfl⟩
        | some s => simp [World.cell?, Addr.add] at h9; split at h9 <;> cases h9
    have ha2 : m = 0 ∨ ∃ b off, a = ⟨b, off, none⟩ := by
      rcases Nat.eq_zero_or_pos m with h0 | h0
      · exact .inl h0
      · right
        obtain ⟨cs', h1, _⟩ := hx 0 h0
        obtain ⟨_, hl', hcell⟩ := World.cells?_some h1
        have e0 := hcell 0 (by omega)
        have h9 : ∃ v, W.cell? a = some v := by
          match cs', hl' with
          | [v0, v1, v2, v3], _ => rw [add_add] at e0; exact ⟨v0, by simpa [Addr.add] using e0⟩
        obtain ⟨v, h9⟩ := h9
        cases a with
        | mk b off spot =>
          cases spot with
          | none => exact ⟨b, off, rfl⟩
          | some s => simp [World.cell?] at h9; split at h9 <;> cases h9
    refine ⟨some a, m, (List.range len).map P, by simp, ⟨⟨by simpa using hl, hm, by simp; omega, ?_, ⟨?_, ?_⟩⟩, by simp; omega, ?_⟩, ?_⟩
    · rcases ha2 with h0 | ⟨b, off, rfl⟩
      · exact .inl h0
      · exact .inr ⟨b, off, rfl⟩
    · rcases Nat.eq_zero_or_pos len with h0 | h0
      · subst h0; exact .inl rfl
      · right
        obtain ⟨b, off, rfl⟩ := ha h0
        refine ⟨b, off, rfl, fun j hj => ?_⟩
        have hj' : j < len := by simpa using hj
        obtain ⟨e0, e1, e2, e3⟩ := (hP j hj').1
        rw [add_off] at e0 e1 e2 e3
        simp only [List.getElem_map, List.getElem_range]
        exact ⟨e0, by rw [Nat.add_assoc]; exact e1, by rw [Nat.add_assoc]; exact e2, by rw [Nat.add_assoc]; exact e3⟩
    · intro p hp
      simp at hp
      obtain ⟨j, hj, rfl⟩ := hp
      exact (hP j hj).2.1
    · intro p hp
      simp at hp
      obtain ⟨j, hj, rfl⟩ := hp
      have h1 := (hP j hj).2.1.1.le
      have h2 := (hP j hj).2.2.2
      omega
    · intro p hp
      simp at hp
      obtain ⟨j, hj, rfl⟩ := hp
      exact (hP j hj).2.2.1
set_option maxRecDepth 100000 in
theorem open_signs {H : Type} {enc : TypeId × Value → H} {W : World} {base : Nat} {v : Value} {d : DataW H} {p : List MemPlace}
    (hv : Value.okWide Tryd.prog W .any base 22 v) (h : DataW.Trod enc Tryd.prog W 0 (fun _ => true) true 22 v d p) (hfit : ∀ n ∈ d.weights Tryd.prog 22, n ≤ reachBytes) :
    ∃ sa cap ls, v = .slice sa (List.length ls) cap ∧ GRead W sa cap ls ∧ ∀ s ∈ ls, I64 s.nd ∧ I64 s.au ∧ I64 s.rd := by
  obtain ⟨a0, len0, cap0, rfl⟩ := okWide_slice Tryd.underlying22 hv
  obtain ⟨fuel, hf⟩ := h
  obtain ⟨sa, cap, ps, hcs, h1, h2⟩ := open_signs_cells hf hfit
  simp [Value.cells] at hcs
  obtain ⟨rfl, rfl, rfl⟩ := hcs
  exact ⟨_, _, ps, rfl, h1, h2⟩
end Go.Proofs.YtmpflkggbekpfaaDoor

namespace Go.Proofs.YtmpflkggbekpfaaDoor
open Go.ChangeShapes Go.WideShapes Go.ChangeAt Go.RowKit Go.Deep

set_option maxRecDepth 100000 in
theorem cBsL : Tryd.prog.cellsOf 42 = 1 := by kernel_rfl
set_option maxRecDepth 100000 in
theorem bBsL : Tryd.prog.bytesOf 42 = 24 := by kernel_rfl
set_option maxRecDepth 100000 in
theorem weightsAll_mem {H : Type} (e : TypeId) (l : List (DataW H)) (d : DataW H) (hd : d ∈ l) : ∀ n ∈ d.weights Tryd.prog e, n ∈ DataW.weightsAll Tryd.prog e l := by
  induction l with
  | nil => cases hd
  | cons x r ih =>
    intro n hn
    rw [DataW.weightsAll]
    rcases List.mem_cons.1 hd with rfl | h
    · exact List.mem_append_left _ hn
    · exact List.mem_append_right _ (ih h n hn)
set_option maxRecDepth 100000 in
theorem open_lists_cells {H : Type} {enc : TypeId × Value → H} {W : World} {fuel : Nat} {cs : List Value} {x : DataW H × List MemPlace}
    (hf : DataW.trod enc Tryd.prog W 0 (fun _ => true) true fuel 23 cs = some x) (hfit : ∀ n ∈ x.1.weights Tryd.prog 23, n ≤ reachBytes) :
    ∃ sa cap ps, cs = [.slice sa (List.length ps) cap] ∧ ReadAt W sa cap ps ∧ ∀ p ∈ ps, AllU8 p.bs := by
  rcases open_slice1 Tryd.underlying23 cBsL hf with ⟨rfl, _⟩ | ⟨a, len, cap, m, n, V, D, Pl, rfl, _, hl, hm, hmm, rfl, hx⟩
  · exact ⟨none, 0, [], rfl, ⟨⟨Nat.le_refl _, by decide, by decide, .inl rfl, ⟨.inl rfl, fun p hp => by cases hp⟩⟩, by decide, fun p hp => by cases hp⟩, fun p hp => by cases hp⟩
  · simp only [if_true] at hmm
    subst hmm
    have hw := hfit ((((List.range len).map D).length + ((List.range (m - len)).map fun j => D (len + j)).length) * Tryd.prog.bytesOf 42) (by simp [DataW.weights, Tryd.underlying23])
    rw [bBsL] at hw
    simp [reachBytes] at hw
    have each : ∀ i, i < len → ∃ p : Part, V i = .slice p.sa p.bs.length p.cap ∧ SliceAt W p.sa p.cap p.bs ∧ AllU8 p.bs ∧ p.cap ≤ 140737488351232 := fun i hi => by
      obtain ⟨_, h2⟩ := hx i (by omega)
      obtain ⟨sa, cap, bs, e, h3, h4⟩ := open_bytes_cells h2
      have hfi : ∀ n ∈ (D i).weights Tryd.prog 42, n ≤ reachBytes := fun n hn => hfit n (by
        have := weightsAll_mem 42 ((List.range len).map D) (D i) (List.mem_map.2 ⟨i, List.mem_range.2 hi, rfl⟩) n hn
        simp only [DataW.weights, Tryd.underlying23]
        exact List.mem_cons_of_mem _ (List.mem_append_left _ this))
      have h5 := bytes_fit h2 hfi e
      exact ⟨⟨sa, cap, bs⟩, by simpa using e, h3, h4, h5⟩
    obtain ⟨P, hP⟩ := @choose_lt Part ⟨⟨none, 0, []⟩⟩ len _ each
    refine ⟨some a, m, (List.range len).map P, by simp, ⟨⟨by simpa using hl, hm, by simp; omega, ?_, ⟨?_, ?_⟩⟩, by simp; omega, ?_⟩, ?_⟩
    · rcases Nat.eq_zero_or_pos m with h0 | h0
      · exact .inl h0
      · right
        have h9 := (hx 0 h0).1
        cases a with
        | mk b off spot =>
          cases spot with
          | none => exact ⟨b, off, rfl⟩
          | some s => simp [World.cell?, Addr.add] at h9; split at h9 <;> cases h9
    · rcases Nat.eq_zero_or_pos len with h0 | h0
      · subst h0; exact .inl rfl
      · right
        have h9 := (hx 0 (by omega)).1
        obtain ⟨b, off, rfl⟩ : ∃ b off, a = ⟨b, off, none⟩ := by
          cases a with
          | mk b off spot =>
            cases spot with
            | none => exact ⟨b, off, rfl⟩
            | some s => simp [World.cell?, Addr.add] at h9; split at h9 <;> cases h9
        refine ⟨b, off, rfl, fun j hj => ?_⟩
        have hj' : j < len := by simpa using hj
        have h1 := (hx j (by omega)).1
        rw [add_off] at h1
        rw [h1, (hP j hj').1]
        simp
    · intro p hp
      simp at hp
      obtain ⟨j, hj, rfl⟩ := hp
      exact (hP j hj).2.1
    · intro p hp
      simp at hp
      obtain ⟨j, hj, rfl⟩ := hp
      have h1 := (hP j hj).2.1.le
      have h2 := (hP j hj).2.2.2
      omega
    · intro p hp
      simp at hp
      obtain ⟨j, hj, rfl⟩ := hp
      exact (hP j hj).2.2.1
set_option maxRecDepth 100000 in
theorem open_lists {H : Type} {enc : TypeId × Value → H} {W : World} {base : Nat} {v : Value} {d : DataW H} {p : List MemPlace}
    (hv : Value.okWide Tryd.prog W .any base 23 v) (h : DataW.Trod enc Tryd.prog W 0 (fun _ => true) true 23 v d p) (hfit : ∀ n ∈ d.weights Tryd.prog 23, n ≤ reachBytes) :
    ∃ sa cap ps, v = .slice sa (List.length ps) cap ∧ ReadAt W sa cap ps ∧ ∀ p ∈ ps, AllU8 p.bs := by
  obtain ⟨a0, len0, cap0, rfl⟩ := okWide_slice Tryd.underlying23 hv
  obtain ⟨fuel, hf⟩ := h
  obtain ⟨sa, cap, ps, hcs, h1, h2⟩ := open_lists_cells hf hfit
  simp [Value.cells] at hcs
  obtain ⟨rfl, rfl, rfl⟩ := hcs
  exact ⟨_, _, ps, rfl, h1, h2⟩
end Go.Proofs.YtmpflkggbekpfaaDoor

namespace Go.Proofs.YtmpflkggbekpfaaDoor
open Go.ChangeShapes Go.WideShapes Go.ChangeAt Go.RowKit Go.Deep

set_option maxRecDepth 100000 in
theorem cHeader : Tryd.prog.cellsOf 25 = 4 := by kernel_rfl
set_option maxRecDepth 100000 in
theorem cIntL : Tryd.prog.cellsOf 3 = 1 := by kernel_rfl
set_option maxRecDepth 100000 in
theorem cLists : Tryd.prog.cellsOf 23 = 1 := by kernel_rfl
set_option maxRecDepth 100000 in
theorem open_header_cells {H : Type} {enc : TypeId × Value → H} {W : World} {fuel : Nat} {cs : List Value} {x : DataW H × List MemPlace}
    (hf : DataW.trod enc Tryd.prog W 0 (fun _ => true) true fuel 25 cs = some x) (hfit : ∀ n ∈ x.1.weights Tryd.prog 25, n ≤ reachBytes) :
    ∃ au rd ba bc bl pa pc pl, cs = [.int .i64 au, .int .i64 rd, .slice ba (List.length bl) bc, .slice pa (List.length pl) pc] ∧ I64 au ∧ I64 rd ∧ ReadAt W ba bc bl ∧ ReadAt W pa pc pl := by
  obtain ⟨xs, n, _, rfl, hl, hlen, hg⟩ := DataW.trod_struct Tryd.underlying25 hf
  rw [cHeader] at hl
  match xs, hlen with
  | [y0, y1, y2, y3], _ =>
  have h0 := hg 0 _ rfl
  have h1 := hg 1 _ rfl
  have h2 := hg 2 _ rfl
  have h3 := hg 3 _ rfl
  match cs, hl with
  | [c0, c1, c2, c3], _ =>
  obtain ⟨a0, e0, rfl, w0⟩ := DataW.trod_int Tryd.underlying3 h0
  obtain ⟨a1, e1, rfl, w1⟩ := DataW.trod_int Tryd.underlying3 h1
  obtain ⟨ba, bc, bl, e2, hb, _⟩ := open_lists_cells h2 (fun n hn => hfit n (by simp [DataW.weights, DataW.weightsEach, Tryd.underlying25, hn]))
  obtain ⟨pa, pc, pl, e3, hp, _⟩ := open_lists_cells h3 (fun n hn => hfit n (by simp [DataW.weights, DataW.weightsEach, Tryd.underlying25, hn]))
  simp [cIntL, cLists] at e0 e1 e2 e3
  subst e0 e1 e2 e3
  exact ⟨a0, a1, ba, bc, bl, pa, pc, pl, rfl, bounds_i64 w0, bounds_i64 w1, hb, hp⟩
set_option maxRecDepth 100000 in
theorem open_header {H : Type} {enc : TypeId × Value → H} {W : World} {base : Nat} {v : Value} {d : DataW H} {p : List MemPlace}
    (hv : Value.okWide Tryd.prog W .any base 25 v) (h : DataW.Trod enc Tryd.prog W 0 (fun _ => true) true 25 v d p) (hfit : ∀ n ∈ d.weights Tryd.prog 25, n ≤ reachBytes) :
    ∃ au rd ba bc bl pa pc pl, v = .agg #[.int .i64 au, .int .i64 rd, .slice ba (List.length bl) bc, .slice pa (List.length pl) pc] ∧ I64 au ∧ I64 rd ∧ ReadAt W ba bc bl ∧ ReadAt W pa pc pl := by
  obtain ⟨cs, rfl, _⟩ := okWide_struct Tryd.underlying25 hv
  obtain ⟨fuel, hf⟩ := h
  obtain ⟨au, rd, ba, bc, bl, pa, pc, pl, hcs, h1, h2, h3, h4⟩ := open_header_cells hf hfit
  refine ⟨au, rd, ba, bc, bl, pa, pc, pl, ?_, h1, h2, h3, h4⟩
  have : cs.toList = _ := hcs
  rw [← this]
end Go.Proofs.YtmpflkggbekpfaaDoor

namespace Go.Proofs.YtmpflkggbekpfaaDoor
open Go.ChangeShapes Go.WideShapes Go.ChangeAt Go.RowKit Go.Deep

set_option maxRecDepth 100000 in
theorem cCert : Tryd.prog.cellsOf 28 = 5 := by kernel_rfl
set_option maxRecDepth 100000 in
theorem cHeaderC : Tryd.prog.cellsOf 25 = 4 := by kernel_rfl
set_option maxRecDepth 100000 in
theorem cIntsC : Tryd.prog.cellsOf 26 = 1 := by kernel_rfl
set_option maxRecDepth 100000 in
theorem bIntC : Tryd.prog.bytesOf 3 = 8 := by kernel_rfl
/-- What is read of a list of numbers that came in. -/
structure NumsAt (w : World) (va : Option Addr) (vc : Nat) (vl : List Int) : Prop where
  ints : IntsAt w va vl
  le : vl.length ≤ vc
  reach : vc * 8 ≤ 140737488351232
set_option maxRecDepth 100000 in
theorem open_nums_cells {H : Type} {enc : TypeId × Value → H} {W : World} {fuel : Nat} {cs : List Value} {x : DataW H × List MemPlace}
    (hf : DataW.trod enc Tryd.prog W 0 (fun _ => true) true fuel 26 cs = some x) (hfit : ∀ n ∈ x.1.weights Tryd.prog 26, n ≤ reachBytes) :
    ∃ va vc vl, cs = [.slice va (List.length vl) vc] ∧ NumsAt W va vc vl := by
  rcases open_ints Tryd.underlying26 Tryd.underlying3 cIntL hf with ⟨rfl, _⟩ | ⟨a, len, cap, zs, rfl, _, hl, hm, hz, rfl, hcell, _⟩
  · exact ⟨none, 0, [], rfl, ⟨⟨.inl rfl⟩, Nat.le_refl _, by decide⟩⟩
  · have hw := hfit (((zs.take len).length + (zs.drop len).length) * Tryd.prog.bytesOf 3) (by simp [DataW.weights, Tryd.underlying26, lits])
    rw [bIntC] at hw
    simp only [if_true] at hz
    simp [reachBytes] at hw
    have hlen : (zs.take len).length = len := by rw [List.length_take, hz]; omega
    refine ⟨some a, cap, zs.take len, by rw [hlen], ⟨⟨?_⟩, by omega, by omega⟩⟩
    rcases Nat.eq_zero_or_pos cap with h0 | h0
    · left
      exact List.eq_nil_of_length_eq_zero (by omega)
    · obtain ⟨b, off, rfl, hc⟩ := ints_at hcell (by omega)
      refine .inr ⟨b, off, rfl, fun j hj => ?_⟩
      rw [hc j (by omega)]
      have : j < len := by omega
      simp [List.getD, this]
set_option maxRecDepth 100000 in
theorem open_cert {H : Type} {enc : TypeId × Value → H} {W : World} {base : Nat} {v : Value} {d : DataW H} {p : List MemPlace}
    (hv : Value.okWide Tryd.prog W .any base 28 v) (h : DataW.Trod enc Tryd.prog W 0 (fun _ => true) true 28 v d p) (hfit : ∀ n ∈ d.weights Tryd.prog 28, n ≤ reachBytes) :
    ∃ au rd ba bc bl pa pc pl va vc vl, v = .agg #[.int .i64 au, .int .i64 rd, .slice ba bl.length bc, .slice pa pl.length pc, .slice va vl.length vc] ∧ I64 au ∧ I64 rd ∧ ReadAt W ba bc bl ∧ ReadAt W pa pc pl ∧ NumsAt W va vc vl := by
  obtain ⟨cs, rfl, _⟩ := okWide_struct Tryd.underlying28 hv
  obtain ⟨fuel, hf⟩ := h
  obtain ⟨y0, y1, n, hx, hl, h0, h1⟩ := trod_struct2 Tryd.underlying28 hf
  simp only [Prod.mk.injEq] at hx
  obtain ⟨rfl, rfl⟩ := hx
  rw [cCert] at hl
  obtain ⟨l⟩ := cs
  match l, hl with
  | [c0, c1, c2, c3, c4], _ =>
  obtain ⟨au, rd, ba, bc, bl, pa, pc, pl, e0, i0, i1, hb, hp⟩ := open_header_cells h0 (fun n hn => hfit n (by simp [DataW.weights, DataW.weightsEach, Tryd.underlying28, hn]))
  obtain ⟨va, vc, vl, e1, hn⟩ := open_nums_cells h1 (fun n hn => hfit n (by simp [DataW.weights, DataW.weightsEach, Tryd.underlying28, hn]))
  simp [cHeaderC, cIntsC, Value.cells] at e0 e1
  obtain ⟨rfl, rfl, rfl, rfl⟩ := e0
  subst e1
  exact ⟨au, rd, ba, bc, bl, pa, pc, pl, va, vc, vl, rfl, i0, i1, hb, hp, hn⟩
end Go.Proofs.YtmpflkggbekpfaaDoor

namespace Go.Proofs.YtmpflkggbekpfaaDoor
open Go.ChangeShapes Go.WideShapes Go.ChangeAt Go.RowKit Go.Deep

set_option maxRecDepth 100000 in
theorem open_headerU_cells {H : Type} {enc : TypeId × Value → H} {W : World} {fuel : Nat} {cs : List Value} {x : DataW H × List MemPlace}
    (hf : DataW.trod enc Tryd.prog W 0 (fun _ => true) true fuel 25 cs = some x) (hfit : ∀ n ∈ x.1.weights Tryd.prog 25, n ≤ reachBytes) :
    ∃ au rd ba bc bl pa pc pl, cs = [.int .i64 au, .int .i64 rd, .slice ba (List.length bl) bc, .slice pa (List.length pl) pc] ∧ I64 au ∧ I64 rd ∧ ReadAt W ba bc bl ∧ ReadAt W pa pc pl ∧ (∀ p ∈ bl, AllU8 p.bs) ∧ (∀ p ∈ pl, AllU8 p.bs) := by
  obtain ⟨xs, n, _, rfl, hl, hlen, hg⟩ := DataW.trod_struct Tryd.underlying25 hf
  rw [cHeader] at hl
  match xs, hlen with
  | [y0, y1, y2, y3], _ =>
  have h0 := hg 0 _ rfl
  have h1 := hg 1 _ rfl
  have h2 := hg 2 _ rfl
  have h3 := hg 3 _ rfl
  match cs, hl with
  | [c0, c1, c2, c3], _ =>
  obtain ⟨a0, e0, rfl, w0⟩ := DataW.trod_int Tryd.underlying3 h0
  obtain ⟨a1, e1, rfl, w1⟩ := DataW.trod_int Tryd.underlying3 h1
  obtain ⟨ba, bc, bl, e2, hb, ub2⟩ := open_lists_cells h2 (fun n hn => hfit n (by simp [DataW.weights, DataW.weightsEach, Tryd.underlying25, hn]))
  obtain ⟨pa, pc, pl, e3, hp, up2⟩ := open_lists_cells h3 (fun n hn => hfit n (by simp [DataW.weights, DataW.weightsEach, Tryd.underlying25, hn]))
  simp [cIntL, cLists] at e0 e1 e2 e3
  subst e0 e1 e2 e3
  exact ⟨a0, a1, ba, bc, bl, pa, pc, pl, rfl, bounds_i64 w0, bounds_i64 w1, hb, hp, ub2, up2⟩
set_option maxRecDepth 100000 in
theorem open_headerU {H : Type} {enc : TypeId × Value → H} {W : World} {base : Nat} {v : Value} {d : DataW H} {p : List MemPlace}
    (hv : Value.okWide Tryd.prog W .any base 25 v) (h : DataW.Trod enc Tryd.prog W 0 (fun _ => true) true 25 v d p) (hfit : ∀ n ∈ d.weights Tryd.prog 25, n ≤ reachBytes) :
    ∃ au rd ba bc bl pa pc pl, v = .agg #[.int .i64 au, .int .i64 rd, .slice ba (List.length bl) bc, .slice pa (List.length pl) pc] ∧ I64 au ∧ I64 rd ∧ ReadAt W ba bc bl ∧ ReadAt W pa pc pl ∧ (∀ p ∈ bl, AllU8 p.bs) ∧ (∀ p ∈ pl, AllU8 p.bs) := by
  obtain ⟨cs, rfl, _⟩ := okWide_struct Tryd.underlying25 hv
  obtain ⟨fuel, hf⟩ := h
  obtain ⟨au, rd, ba, bc, bl, pa, pc, pl, hcs, h1, h2, h3, h4, h5, h6⟩ := open_headerU_cells hf hfit
  refine ⟨au, rd, ba, bc, bl, pa, pc, pl, ?_, h1, h2, h3, h4, h5, h6⟩
  have : cs.toList = _ := hcs
  rw [← this]
end Go.Proofs.YtmpflkggbekpfaaDoor
