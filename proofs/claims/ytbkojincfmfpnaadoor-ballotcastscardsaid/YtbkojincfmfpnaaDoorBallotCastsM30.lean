/- The walk of BallotCasts. -/
import Derived.Test.YtbkojincfmfpnaaDoorBallotCastsM12
import Derived.Test.YtbkojincfmfpnaaDoorLAt
import Derived.Deep.Strs
import Derived.Test.YtbkojincfmfpnaaDoorBallotCastsM24
import Derived.Test.YtbkojincfmfpnaaDoorSlotsL
import Derived.Deep.Slices
namespace Go.Proofs.YtbkojincfmfpnaaDoor
open Go.ChangeShapes Go.WideShapes Go.ChangeAt Go.RowKit Go.Deep

set_option maxRecDepth 100000 in
theorem cBsL : Tryd.prog.cellsOf 42 = 1 := by kernel_rfl
set_option maxRecDepth 100000 in
theorem bBsL : Tryd.prog.bytesOf 42 = 24 := by kernel_rfl
set_option maxRecDepth 100000 in
theorem weightsAll_mem {H : Type} (e : TypeId) (l : List (DataW H)) (d : DataW H) (hd : d ∈ l) : ∀ n ∈ d.weights Tryd.prog e, n ∈ DataW.weightsAll Tryd.prog e l := by
  induction l with
  | nil => cases hd
  | cons x r ih =>
    intro n hn
    rw [DataW.weightsAll]
    rcases List.mem_cons.1 hd with rfl | h
    · exact List.mem_append_left _ hn
    · exact List.mem_append_right _ (ih h n hn)
set_option maxRecDepth 100000 in
theorem open_lists_cells {H : Type} {enc : TypeId × Value → H} {W : World} {fuel : Nat} {cs : List Value} {x : DataW H × List MemPlace}
    (hf : DataW.trod enc Tryd.prog W 0 (fun _ => true) true fuel 23 cs = some x) (hfit : ∀ n ∈ x.1.weights Tryd.prog 23, n ≤ reachBytes) :
    ∃ sa cap ps, cs = [.slice sa (List.length ps) cap] ∧ ReadAt W sa cap ps ∧ ∀ p ∈ ps, AllU8 p.bs := by
  rcases open_slice1 Tryd.underlying23 cBsL hf with ⟨rfl, _⟩ | ⟨a, len, cap, m, n, V, D, Pl, rfl, _, hl, hm, hmm, rfl, hx⟩
  · exact ⟨none, 0, [], rfl, ⟨⟨Nat.le_refl _, by decide, by decide, .inl rfl, ⟨.inl rfl, fun p hp => by cases hp⟩⟩, by decide, fun p hp => by cases hp⟩, fun p hp => by cases hp⟩
  · simp only [if_true] at hmm
    subst hmm
    have hw := hfit ((((List.range len).map D).length + ((List.range (m - len)).map fun j => D (len + j)).length) * Tryd.prog.bytesOf 42) (by simp [DataW.weights, Tryd.underlying23])
    rw [bBsL] at hw
    simp [reachBytes] at hw
    have each : ∀ i, i < len → ∃ p : Part, V i = .slice p.sa p.bs.length p.cap ∧ SliceAt W p.sa p.cap p.bs ∧ AllU8 p.bs ∧ p.cap ≤ 140737488351232 := fun i hi => by
      obtain ⟨_, h2⟩ := hx i (by omega)
      obtain ⟨sa, cap, bs, e, h3, h4⟩ := open_bytes_cells h2
      have hfi : ∀ n ∈ (D i).weights Tryd.prog 42, n ≤ reachBytes := fun n hn => hfit n (by
        have := weightsAll_mem 42 ((List.range len).map D) (D i) (List.mem_map.2 ⟨i, List.mem_range.2 hi, rfl⟩) n hn
        simp only [DataW.weights, Tryd.underlying23]
        exact List.mem_cons_of_mem _ (List.mem_append_left _ this))
      have h5 := bytes_fit h2 hfi e
      exact ⟨⟨sa, cap, bs⟩, by simpa using e, h3, h4, h5⟩
    obtain ⟨P, hP⟩ := @choose_lt Part ⟨⟨none, 0, []⟩⟩ len _ each
    refine ⟨some a, m, (List.range len).map P, by simp, ⟨⟨by simpa using hl, hm, by simp; omega, ?_, ⟨?_, ?_⟩⟩, by simp; omega, ?_⟩, ?_⟩
    · rcases Nat.eq_zero_or_pos m with h0 | h0
      · exact .inl h0
      · right
        have h9 := (hx 0 h0).1
        cases a with
        | mk b off spot =>
          cases spot with
          | none => exact ⟨b, off, rfl⟩
          | some s => simp [World.cell?, Addr.add] at h9; split at h9 <;> cases h9
    · rcases Nat.eq_zero_or_pos len with h0 | h0
      · subst h0; exact .inl rfl
      · right
        have h9 := (hx 0 (by omega)).1
        obtain ⟨b, off, rfl⟩ : ∃ b off, a = ⟨b, off, none⟩ := by
          cases a with
          | mk b off spot =>
            cases spot with
            | none => exact ⟨b, off, rfl⟩
            | some s => simp [World.cell?, Addr.add] at h9; split at h9 <;> cases h9
        refine ⟨b, off, rfl, fun j hj => ?_⟩
        have hj' : j < len := by simpa using hj
        have h1 := (hx j (by omega)).1
        rw [add_off] at h1
        rw [h1, (hP j hj').1]
        simp
    · intro p hp
      simp at hp
      obtain ⟨j, hj, rfl⟩ := hp
      exact (hP j hj).2.1
    · intro p hp
      simp at hp
      obtain ⟨j, hj, rfl⟩ := hp
      have h1 := (hP j hj).2.1.le
      have h2 := (hP j hj).2.2.2
      omega
    · intro p hp
      simp at hp
      obtain ⟨j, hj, rfl⟩ := hp
      exact (hP j hj).2.2.1
set_option maxRecDepth 100000 in
theorem open_lists {H : Type} {enc : TypeId × Value → H} {W : World} {base : Nat} {v : Value} {d : DataW H} {p : List MemPlace}
    (hv : Value.okWide Tryd.prog W .any base 23 v) (h : DataW.Trod enc Tryd.prog W 0 (fun _ => true) true 23 v d p) (hfit : ∀ n ∈ d.weights Tryd.prog 23, n ≤ reachBytes) :
    ∃ sa cap ps, v = .slice sa (List.length ps) cap ∧ ReadAt W sa cap ps ∧ ∀ p ∈ ps, AllU8 p.bs := by
  obtain ⟨a0, len0, cap0, rfl⟩ := okWide_slice Tryd.underlying23 hv
  obtain ⟨fuel, hf⟩ := h
  obtain ⟨sa, cap, ps, hcs, h1, h2⟩ := open_lists_cells hf hfit
  simp [Value.cells] at hcs
  obtain ⟨rfl, rfl, rfl⟩ := hcs
  exact ⟨_, _, ps, rfl, h1, h2⟩
end Go.Proofs.YtbkojincfmfpnaaDoor

namespace Go.Proofs.YtbkojincfmfpnaaDoor
open Go.ChangeShapes Go.WideShapes Go.ChangeAt Go.RowKit Go.Deep

set_option maxRecDepth 100000 in
theorem cHeader : Tryd.prog.cellsOf 25 = 4 := by kernel_rfl
set_option maxRecDepth 100000 in
theorem cIntL : Tryd.prog.cellsOf 3 = 1 := by kernel_rfl
set_option maxRecDepth 100000 in
theorem cLists : Tryd.prog.cellsOf 23 = 1 := by kernel_rfl
set_option maxRecDepth 100000 in
theorem open_header_cells {H : Type} {enc : TypeId × Value → H} {W : World} {fuel : Nat} {cs : List Value} {x : DataW H × List MemPlace}
    (hf : DataW.trod enc Tryd.prog W 0 (fun _ => true) true fuel 25 cs = some x) (hfit : ∀ n ∈ x.1.weights Tryd.prog 25, n ≤ reachBytes) :
    ∃ au rd ba bc bl pa pc pl, cs = [.int .i64 au, .int .i64 rd, .slice ba (List.length bl) bc, .slice pa (List.length pl) pc] ∧ I64 au ∧ I64 rd ∧ ReadAt W ba bc bl ∧ ReadAt W pa pc pl := by
  obtain ⟨xs, n, _, rfl, hl, hlen, hg⟩ := DataW.trod_struct Tryd.underlying25 hf
  rw [cHeader] at hl
  match xs, hlen with
  | [y0, y1, y2, y3], _ =>
  have h0 := hg 0 _ rfl
  have h1 := hg 1 _ rfl
  have h2 := hg 2 _ rfl
  have h3 := hg 3 _ rfl
  match cs, hl with
  | [c0, c1, c2, c3], _ =>
  obtain ⟨a0, e0, rfl, w0⟩ := DataW.trod_int Tryd.underlying3 h0
  obtain ⟨a1, e1, rfl, w1⟩ := DataW.trod_int Tryd.underlying3 h1
  obtain ⟨ba, bc, bl, e2, hb, _⟩ := open_lists_cells h2 (fun n hn => hfit n (by simp [DataW.weights, DataW.weightsEach, Tryd.underlying25, hn]))
  obtain ⟨pa, pc, pl, e3, hp, _⟩ := open_lists_cells h3 (fun n hn => hfit n (by simp [DataW.weights, DataW.weightsEach, Tryd.underlying25, hn]))
  simp [cIntL, cLists] at e0 e1 e2 e3
  subst e0 e1 e2 e3
  exact ⟨a0, a1, ba, bc, bl, pa, pc, pl, rfl, bounds_i64 w0, bounds_i64 w1, hb, hp⟩
set_option maxRecDepth 100000 in
theorem open_header {H : Type} {enc : TypeId × Value → H} {W : World} {base : Nat} {v : Value} {d : DataW H} {p : List MemPlace}
    (hv : Value.okWide Tryd.prog W .any base 25 v) (h : DataW.Trod enc Tryd.prog W 0 (fun _ => true) true 25 v d p) (hfit : ∀ n ∈ d.weights Tryd.prog 25, n ≤ reachBytes) :
    ∃ au rd ba bc bl pa pc pl, v = .agg #[.int .i64 au, .int .i64 rd, .slice ba (List.length bl) bc, .slice pa (List.length pl) pc] ∧ I64 au ∧ I64 rd ∧ ReadAt W ba bc bl ∧ ReadAt W pa pc pl := by
  obtain ⟨cs, rfl, _⟩ := okWide_struct Tryd.underlying25 hv
  obtain ⟨fuel, hf⟩ := h
  obtain ⟨au, rd, ba, bc, bl, pa, pc, pl, hcs, h1, h2, h3, h4⟩ := open_header_cells hf hfit
  refine ⟨au, rd, ba, bc, bl, pa, pc, pl, ?_, h1, h2, h3, h4⟩
  have : cs.toList = _ := hcs
  rw [← this]
end Go.Proofs.YtbkojincfmfpnaaDoor

namespace Go.Proofs.YtbkojincfmfpnaaDoor
open Go.ChangeShapes Go.WideShapes Go.ChangeAt Go.RowKit Go.Deep

set_option maxRecDepth 100000 in
theorem open_headerU_cells {H : Type} {enc : TypeId × Value → H} {W : World} {fuel : Nat} {cs : List Value} {x : DataW H × List MemPlace}
    (hf : DataW.trod enc Tryd.prog W 0 (fun _ => true) true fuel 25 cs = some x) (hfit : ∀ n ∈ x.1.weights Tryd.prog 25, n ≤ reachBytes) :
    ∃ au rd ba bc bl pa pc pl, cs = [.int .i64 au, .int .i64 rd, .slice ba (List.length bl) bc, .slice pa (List.length pl) pc] ∧ I64 au ∧ I64 rd ∧ ReadAt W ba bc bl ∧ ReadAt W pa pc pl ∧ (∀ p ∈ bl, AllU8 p.bs) ∧ (∀ p ∈ pl, AllU8 p.bs) := by
  obtain ⟨xs, n, _, rfl, hl, hlen, hg⟩ := DataW.trod_struct Tryd.underlying25 hf
  rw [cHeader] at hl
  match xs, hlen with
  | [y0, y1, y2, y3], _ =>
  have h0 := hg 0 _ rfl
  have h1 := hg 1 _ rfl
  have h2 := hg 2 _ rfl
  have h3 := hg 3 _ rfl
  match cs, hl with
  | [c0, c1, c2, c3], _ =>
  obtain ⟨a0, e0, rfl, w0⟩ := DataW.trod_int Tryd.underlying3 h0
  obtain ⟨a1, e1, rfl, w1⟩ := DataW.trod_int Tryd.underlying3 h1
  obtain ⟨ba, bc, bl, e2, hb, ub2⟩ := open_lists_cells h2 (fun n hn => hfit n (by simp [DataW.weights, DataW.weightsEach, Tryd.underlying25, hn]))
  obtain ⟨pa, pc, pl, e3, hp, up2⟩ := open_lists_cells h3 (fun n hn => hfit n (by simp [DataW.weights, DataW.weightsEach, Tryd.underlying25, hn]))
  simp [cIntL, cLists] at e0 e1 e2 e3
  subst e0 e1 e2 e3
  exact ⟨a0, a1, ba, bc, bl, pa, pc, pl, rfl, bounds_i64 w0, bounds_i64 w1, hb, hp, ub2, up2⟩
set_option maxRecDepth 100000 in
theorem open_headerU {H : Type} {enc : TypeId × Value → H} {W : World} {base : Nat} {v : Value} {d : DataW H} {p : List MemPlace}
    (hv : Value.okWide Tryd.prog W .any base 25 v) (h : DataW.Trod enc Tryd.prog W 0 (fun _ => true) true 25 v d p) (hfit : ∀ n ∈ d.weights Tryd.prog 25, n ≤ reachBytes) :
    ∃ au rd ba bc bl pa pc pl, v = .agg #[.int .i64 au, .int .i64 rd, .slice ba (List.length bl) bc, .slice pa (List.length pl) pc] ∧ I64 au ∧ I64 rd ∧ ReadAt W ba bc bl ∧ ReadAt W pa pc pl ∧ (∀ p ∈ bl, AllU8 p.bs) ∧ (∀ p ∈ pl, AllU8 p.bs) := by
  obtain ⟨cs, rfl, _⟩ := okWide_struct Tryd.underlying25 hv
  obtain ⟨fuel, hf⟩ := h
  obtain ⟨au, rd, ba, bc, bl, pa, pc, pl, hcs, h1, h2, h3, h4, h5, h6⟩ := open_headerU_cells hf hfit
  refine ⟨au, rd, ba, bc, bl, pa, pc, pl, ?_, h1, h2, h3, h4, h5, h6⟩
  have : cs.toList = _ := hcs
  rw [← this]
end Go.Proofs.YtbkojincfmfpnaaDoor

namespace Go.Proofs.YtbkojincfmfpnaaDoor
open Go.ChangeShapes Go.WideShapes Go.ChangeAt Go.RowKit Go.Deep

set_option maxRecDepth 100000 in
theorem cInt : Tryd.prog.cellsOf 3 = 1 := by kernel_rfl
set_option maxRecDepth 100000 in
theorem cBs : Tryd.prog.cellsOf 42 = 1 := by kernel_rfl
set_option maxRecDepth 100000 in
theorem cSlot : Tryd.prog.cellsOf 47 = 3 := by kernel_rfl
set_option maxRecDepth 100000 in
theorem open_slot_cells {H : Type} {enc : TypeId × Value → H} {W : World} {fuel : Nat} {cs : List Value} {x : DataW H × List MemPlace}
    (hf : DataW.trod enc Tryd.prog W 0 (fun _ => true) true fuel 47 cs = some x) (hfit : ∀ n ∈ x.1.weights Tryd.prog 47, n ≤ reachBytes) :
    ∃ au rd sa cap bs, cs = [.int .i64 au, .int .i64 rd, .slice sa (List.length bs) cap] ∧ I64 au ∧ I64 rd ∧ SliceAt W sa cap bs ∧ AllU8 bs ∧ cap ≤ 140737488351232 := by
  obtain ⟨y0, y1, y2, n, rfl, hl, h0, h1, h2⟩ := trod_struct3 Tryd.underlying47 hf
  rw [cSlot] at hl
  match cs, hl with
  | [c0, c1, c2], _ =>
  obtain ⟨a, e0, rfl, wa⟩ := DataW.trod_int Tryd.underlying3 h0
  obtain ⟨b, e1, rfl, wb⟩ := DataW.trod_int Tryd.underlying3 h1
  obtain ⟨sa, cap, bs, e2, hs, hu⟩ := open_bytes_cells h2
  have hc := bytes_fit h2 (fun n hn => hfit n (by simp [DataW.weights, DataW.weightsEach, Tryd.underlying47, hn])) e2
  simp [cInt, cBs] at e0 e1 e2
  subst e0 e1 e2
  exact ⟨a, b, sa, cap, bs, rfl, bounds_i64 wa, bounds_i64 wb, hs, hu, hc⟩
set_option maxRecDepth 100000 in
theorem open_slot {H : Type} {enc : TypeId × Value → H} {W : World} {base : Nat} {v : Value} {d : DataW H} {p : List MemPlace}
    (hv : Value.okWide Tryd.prog W .any base 47 v) (h : DataW.Trod enc Tryd.prog W 0 (fun _ => true) true 47 v d p) (hfit : ∀ n ∈ d.weights Tryd.prog 47, n ≤ reachBytes) :
    ∃ au rd sa cap bs, v = .agg #[.int .i64 au, .int .i64 rd, .slice sa (List.length bs) cap] ∧ I64 au ∧ I64 rd ∧ SliceAt W sa cap bs ∧ AllU8 bs ∧ cap ≤ 140737488351232 := by
  obtain ⟨cs, rfl, _⟩ := okWide_struct Tryd.underlying47 hv
  obtain ⟨fuel, hf⟩ := h
  obtain ⟨au, rd, sa, cap, bs, hcs, h1, h2, h3, h4⟩ := open_slot_cells hf hfit
  refine ⟨au, rd, sa, cap, bs, ?_, h1, h2, h3, h4⟩
  have : cs.toList = _ := hcs
  rw [← this]
end Go.Proofs.YtbkojincfmfpnaaDoor

namespace Go.Proofs.YtbkojincfmfpnaaDoor
open Go.ChangeShapes Go.WideShapes Go.ChangeAt Go.RowKit Go.Deep

set_option maxRecDepth 100000 in
theorem weightsAll_memS {H : Type} (e : TypeId) (l : List (DataW H)) (d : DataW H) (hd : d ∈ l) : ∀ n ∈ d.weights Tryd.prog e, n ∈ DataW.weightsAll Tryd.prog e l := by
  induction l with
  | nil => cases hd
  | cons x r ih =>
    intro n hn
    rw [DataW.weightsAll]
    rcases List.mem_cons.1 hd with rfl | h
    · exact List.mem_append_left _ hn
    · exact List.mem_append_right _ (ih h n hn)
set_option maxRecDepth 100000 in
theorem bSlot : Tryd.prog.bytesOf 47 = 40 := by kernel_rfl
set_option maxRecDepth 100000 in
theorem open_table_cells {H : Type} {enc : TypeId × Value → H} {W : World} {fuel : Nat} {cs : List Value} {x : DataW H × List MemPlace}
    (hf : DataW.trod enc Tryd.prog W 0 (fun _ => true) true fuel 44 cs = some x) (hfit : ∀ n ∈ x.1.weights Tryd.prog 44, n ≤ reachBytes) :
    ∃ sa cap ls, cs = [.slice sa (List.length ls) cap] ∧ TableAt W sa cap ls ∧ ∀ s ∈ ls, I64 s.au ∧ I64 s.rd ∧ AllU8 s.p.bs := by
  rcases open_slice Tryd.underlying44 hf with ⟨rfl, _⟩ | ⟨a, len, cap, m, n, D, Pl, rfl, _, hl, hm, hmm, rfl, hx⟩
  · exact ⟨none, 0, [], rfl, ⟨⟨Nat.le_refl _, by decide, by decide, .inl rfl, ⟨.inl rfl, fun p hp => by cases hp⟩⟩, by decide, fun p hp => by cases hp⟩, fun p hp => by cases hp⟩
  · simp only [if_true] at hmm
    subst hmm
    rw [cSlot] at hx
    have hw := hfit ((((List.range len).map D).length + ((List.range (m - len)).map fun j => D (len + j)).length) * Tryd.prog.bytesOf 47) (by simp [DataW.weights, Tryd.underlying44])
    rw [bSlot] at hw
    simp [reachBytes] at hw
    have each : ∀ i, i < len → ∃ s : Sl, (W.cell? (a.add (i * 3)) = some (.int .i64 s.au) ∧ W.cell? (a.add (i * 3 + 1)) = some (.int .i64 s.rd) ∧ W.cell? (a.add (i * 3 + 2)) = some (.slice s.p.sa s.p.bs.length s.p.cap)) ∧ SliceAt W s.p.sa s.p.cap s.p.bs ∧ (I64 s.au ∧ I64 s.rd ∧ AllU8 s.p.bs) ∧ s.p.cap ≤ 140737488351232 := fun i hi => by
      obtain ⟨cs', h1, h2⟩ := hx i (by omega)
      have hfi : ∀ n ∈ (D i).weights Tryd.prog 47, n ≤ reachBytes := fun n hn => hfit n (by
        have := weightsAll_memS 47 ((List.range len).map D) (D i) (List.mem_map.2 ⟨i, List.mem_range.2 hi, rfl⟩) n hn
        simp only [DataW.weights, Tryd.underlying44]
        exact List.mem_cons_of_mem _ (List.mem_append_left _ this))
      obtain ⟨au, rd, sa, cap, bs, rfl, i1, i2, h3, h4, h5⟩ := open_slot_cells h2 hfi
      obtain ⟨_, _, hcell⟩ := World.cells?_some h1
      have e0 := hcell 0 (by omega)
      have e1 := hcell 1 (by omega)
      have e2 := hcell 2 (by omega)
      rw [add_add] at e0 e1 e2
      exact ⟨⟨au, rd, ⟨sa, cap, bs⟩⟩, ⟨by simpa using e0, by simpa using e1, by simpa using e2⟩, h3, ⟨i1, i2, h4⟩, h5⟩
    obtain ⟨P, hP⟩ := @choose_lt Sl ⟨⟨0, 0, ⟨none, 0, []⟩⟩⟩ len _ each
    have ha : 0 < len → ∃ b off, a = ⟨b, off, none⟩ := fun hi => by
      have h9 := (hP 0 hi).1.1
      cases a with
      | mk b off spot =>
        cases spot with
        | none => exact ⟨b, off, rfl⟩
        | some s => simp [World.cell?, Addr.add] at h9; split at h9 <;> cases h9
    have ha2 : m = 0 ∨ ∃ b off, a = ⟨b, off, none⟩ := by
      rcases Nat.eq_zero_or_pos m with h0 | h0
      · exact .inl h0
      · right
        obtain ⟨cs', h1, _⟩ := hx 0 h0
        obtain ⟨_, hl', hcell⟩ := World.cells?_some h1
        have e0 := hcell 0 (by omega)
        have h9 : ∃ v, W.cell? a = some v := by
          match cs', hl' with
          | [v0, v1, v2], _ => rw [add_add] at e0; exact ⟨v0, by simpa [Addr.add] using e0⟩
        obtain ⟨v, h9⟩ := h9
        cases a with
        | mk b off spot =>
          cases spot with
          | none => exact ⟨b, off, rfl⟩
          | some s => simp [World.cell?] at h9; split at h9 <;> cases h9
    refine ⟨some a, m, (List.range len).map P, by simp, ⟨⟨by simpa using hl, hm, by simp; omega, ?_, ⟨?_, ?_⟩⟩, by simp; omega, ?_⟩, ?_⟩
    · rcases ha2 with h0 | ⟨b, off, rfl⟩
      · exact .inl h0
      · exact .inr ⟨b, off, rfl⟩
    · rcases Nat.eq_zero_or_pos len with h0 | h0
      · subst h0; exact .inl rfl
      · right
        obtain ⟨b, off, rfl⟩ := ha h0
        refine ⟨b, off, rfl, fun j hj => ?_⟩
        have hj' : j < len := by simpa using hj
        obtain ⟨e0, e1, e2⟩ := (hP j hj').1
        rw [add_off] at e0 e1 e2
        simp only [List.getElem_map, List.getElem_range]
        exact ⟨e0, by rw [Nat.add_assoc]; exact e1, by rw [Nat.add_assoc]; exact e2⟩
    · intro p hp
      simp at hp
      obtain ⟨j, hj, rfl⟩ := hp
      exact (hP j hj).2.1
    · intro p hp
      simp at hp
      obtain ⟨j, hj, rfl⟩ := hp
      have h1 := (hP j hj).2.1.le
      have h2 := (hP j hj).2.2.2
      omega
    · intro p hp
      simp at hp
      obtain ⟨j, hj, rfl⟩ := hp
      exact (hP j hj).2.2.1
set_option maxRecDepth 100000 in
theorem open_table {H : Type} {enc : TypeId × Value → H} {W : World} {base : Nat} {v : Value} {d : DataW H} {p : List MemPlace}
    (hv : Value.okWide Tryd.prog W .any base 44 v) (h : DataW.Trod enc Tryd.prog W 0 (fun _ => true) true 44 v d p) (hfit : ∀ n ∈ d.weights Tryd.prog 44, n ≤ reachBytes) :
    ∃ sa cap ls, v = .slice sa (List.length ls) cap ∧ TableAt W sa cap ls ∧ ∀ s ∈ ls, I64 s.au ∧ I64 s.rd ∧ AllU8 s.p.bs := by
  obtain ⟨a0, len0, cap0, rfl⟩ := okWide_slice Tryd.underlying44 hv
  obtain ⟨fuel, hf⟩ := h
  obtain ⟨sa, cap, ps, hcs, h1, h2⟩ := open_table_cells hf hfit
  simp [Value.cells] at hcs
  obtain ⟨rfl, rfl, rfl⟩ := hcs
  exact ⟨_, _, ps, rfl, h1, h2⟩
end Go.Proofs.YtbkojincfmfpnaaDoor

namespace Go.Proofs.YtbkojincfmfpnaaDoor
open Go.RowKit

set_option maxRecDepth 100000 in
theorem castAll_same {l l' : List SV} {au rd : Int} {xl bl yl pl : List Part} (hl : l = l') (h1 : Same xl bl) (h2 : Same yl pl) : castAll l au rd xl yl = castAll l' au rd bl pl := by
  subst hl
  have hD : hDig au rd xl yl = hDig au rd bl pl := by rw [hDig, hDig, headB_sameH h1 h2]
  rw [castAll, castAll, headerF_sameH h1 h2, hD]
set_option maxRecDepth 100000 in
set_option maxHeartbeats 2000000 in
theorem ballotCasts_walk (sa : Option Addr) (cap : Nat) (ls : List Sl) (au rd : Int) (ba : Option Addr) (bc : Nat) (bl : List Part) (pa : Option Addr) (pc : Nat) (pl : List Part) (w : World) (ht : TableAt w sa cap ls) (_h : ∀ s ∈ ls, I64 s.au ∧ I64 s.rd ∧ AllU8 s.p.bs) (_h1 : I64 au) (_h2 : I64 rd) (hb : ReadAt w ba bc bl) (hp : ReadAt w pa pc pl) (hub : ∀ p ∈ bl, AllU8 p.bs) (hup : ∀ p ∈ pl, AllU8 p.bs) (hT : Tabs w) :
    Calls Tryd.prog 8 #[.slice sa ls.length cap, .agg #[.int .i64 au, .int .i64 rd, .slice ba bl.length bc, .slice pa pl.length pc]] w fun e w' => e = .returned (.bool true) ∧ Below w.heap.size w w' := by
  have HUB : Hid (∀ p ∈ bl, AllU8 p.bs) := hub
  have HUP : Hid (∀ p ∈ pl, AllU8 p.bs) := hup
  clear hub hup
  have hA := (Below.refl w.heap.size w).alloc (Nat.le_refl _) (.cells #[.int .i64 au, .int .i64 rd, .slice ba bl.length bc, .slice pa pl.length pc] 25)
  have r0 := heap_alloc_new w (.cells #[.int .i64 au, .int .i64 rd, .slice ba bl.length bc, .slice pa pl.length pc] 25)
  go_enter Tryd.func8, Tryd.ntmps8
  go_wp2_with fail
  generalize w.alloc (.cells #[.int .i64 au, .int .i64 rd, .slice ba bl.length bc, .slice pa pl.length pc] 25) = W0 at hA r0 ⊢
  refine (slotsCopy_any ls sa _ cap W0 rfl (ht.below hA)).mono ?_
  rintro e w1 ⟨xa, xc, ks, he, hv, hT1, hb1, _⟩
  subst he
  dsimp only
  have hlen : ls.length = ks.length := by have := congrArg List.length hv; rw [vs_length, vs_length] at this; exact this.symm
  have HV : Hid (vs ks = vs ls) := hv
  have HL : Hid (ls.length = ks.length) := hlen
  clear hv hlen
  have hB1 := hA.trans (hb1.mono hA.size)
  have r1 := (hb1.block _ (lt_of_heap r0)).trans r0
  have c0 := cells_at r1 0 _ rfl
  have c1 := cells_at r1 1 _ rfl
  have c2 := cells_at r1 2 _ rfl
  have c3 := cells_at r1 3 _ rfl
  go_wp2_with fail
  refine (headerCopyU_any au rd ba bc bl pa pc pl w1 (hb.below hB1) (hp.below hB1)).mono ?_
  rintro e w2 ⟨ya, yc, yl, za, zc, zl, he, hS1, hS2, hL1, hL2, hb2, _, _, hU1, hU2⟩
  subst he
  dsimp only
  clear c0 c1 c2 c3
  have hB2 := hB1.trans (hb2.mono hB1.size)
  have r2 := (hb2.block _ (lt_of_heap r1)).trans r1
  have E1 := hS1.length
  have E2 := hS2.length
  have HC := cast_any ks xa xc au rd ya yc yl za zc zl w2 (hT1.below hb2) ⟨hL1, hL2, hU1, hU2⟩ (hT.below hB2)
  rw [E1, E2, ← HL.out, castAll_same HV.out hS1 hS2] at HC
  clear E1 E2
  go_wp2_with fail
  refine HC.mono ?_
  rintro e w3 ⟨ra, rc, us, da, dc, ax, rx, ds, er, he, hR, hTu, hsd, _, _, hb3⟩
  subst he
  dsimp only
  clear HC
  have hB3 := hB2.trans (hb3.mono hB2.size)
  have hA3 : Below w3.heap.size w3 (w3.alloc (.cells #[.int .i64 ax, .int .i64 rx, .slice da ds.length dc] 47)) := (Below.refl _ _).alloc (Nat.le_refl _) _
  have r3 := heap_keep (o := .cells #[.int .i64 ax, .int .i64 rx, .slice da ds.length dc] 47) ((hb3.block _ (lt_of_heap r2)).trans r2)
  have s3 := heap_alloc_new w3 (.cells #[.int .i64 ax, .int .i64 rx, .slice da ds.length dc] 47)
  have hB4 := hB3.trans (hA3.mono hB3.size)
  have c0 := cells_at r3 0 _ rfl
  have c1 := cells_at r3 1 _ rfl
  have c2 := cells_at r3 2 _ rfl
  have c3 := cells_at r3 3 _ rfl
  have hTk := (((hT1.below hb2).below hb3).below hA3)
  have hTu4 := hTu.below hA3
  have hsd4 := hsd.below hA3
  go_wp2_with fail
  generalize w3.alloc (.cells #[.int .i64 ax, .int .i64 rx, .slice da ds.length dc] 47) = w4 at hA3 r3 s3 hB4 c0 c1 c2 c3 hTk hTu4 hsd4 ⊢
  refine (castFor_any ls sa cap au rd ba bc bl pa pc pl w4 (ht.below hB4) (hb.list.below hB4) (hp.list.below hB4) HUB.out HUP.out).mono ?_
  rintro e w5 ⟨ra', rc', us', da', dc', ax', rx', ds', er', he, hR', hTu', hsd', hb5⟩
  subst he
  dsimp only
  rw [← hR] at hR'
  simp only [Prod.mk.injEq] at hR'
  obtain ⟨hus, ⟨rfl, rfl, rfl⟩, rfl⟩ := hR'
  clear hR c0 c1 c2 c3
  have hB5 := hB4.trans (hb5.mono hB4.size)
  have hA5 : Below w5.heap.size w5 (w5.alloc (.cells #[.int .i64 ax', .int .i64 rx', .slice da' ds'.length dc'] 47)) := (Below.refl _ _).alloc (Nat.le_refl _) _
  have s5 := heap_keep (o := .cells #[.int .i64 ax', .int .i64 rx', .slice da' ds'.length dc'] 47) ((hb5.block _ (lt_of_heap s3)).trans s3)
  have t5 := heap_alloc_new w5 (.cells #[.int .i64 ax', .int .i64 rx', .slice da' ds'.length dc'] 47)
  have hB6 := hB5.trans (hA5.mono hB5.size)
  have hlu : us'.length = us.length := by have := congrArg List.length hus; rw [vs_length, vs_length] at this; exact this
  have HE1 := sameSlotsL_eq us us' ra ra' us.length us'.length rc rc' _ rfl hlu hus ((hTu4.below hb5).below hA5) (hTu'.below hA5)
  have HVs : Hid (vs us' = vs us) := hus
  have HLu : Hid (us'.length = us.length) := hlu
  clear hus hlu
  have hTk6 := (hTk.below hb5).below hA5
  have hsd6 := (hsd4.below hb5).below hA5
  have hsd6' := hsd'.below hA5
  have ht6 := ht.tab.below hB6
  go_wp2_with fail
  generalize w5.alloc (.cells #[.int .i64 ax', .int .i64 rx', .slice da' ds'.length dc'] 47) = w6 at hA5 s5 t5 hB6 HE1 hTk6 hsd6 hsd6' ht6 ⊢
  refine HE1.mono ?_
  rintro e w7 ⟨he, hb7⟩
  subst he
  dsimp only
  have s7 := (hb7.block _ (lt_of_heap s5)).trans s5
  have t7 := (hb7.block _ (lt_of_heap t5)).trans t5
  have c0 := cells_at s7 0 _ rfl
  have c1 := cells_at s7 1 _ rfl
  have c2 := cells_at s7 2 _ rfl
  have d0 := cells_at t7 0 _ rfl
  have d1 := cells_at t7 1 _ rfl
  have d2 := cells_at t7 2 _ rfl
  have hB7 := hB6.trans (hb7.mono hB6.size)
  have HE2 := sameSlotL_eq ax' rx' ds' da da' _ _ dc dc' w7 rfl rfl (hsd6.below hb7) (hsd6'.below hb7)
  go_wp2_with fail
  refine HE2.mono ?_
  rintro e w8 ⟨he, hb8⟩
  subst he
  dsimp only
  have hB8 := hB7.trans (hb8.mono hB7.size)
  have HE3 := sameSlotsL_eq ks ls xa sa ls.length ls.length xc cap w8 HL.out HL.out HV.out.symm ((hTk6.below hb7).below hb8) ((ht6.below hb7).below hb8)
  go_wp2_with fail
  refine HE3.mono ?_
  rintro e w9 ⟨he, hb9⟩
  subst he
  dsimp only
  go_wp2_with fail
  go_ret
  exact ⟨by first | rfl | simp, hB8.trans (hb9.mono hB8.size)⟩
end Go.Proofs.YtbkojincfmfpnaaDoor
