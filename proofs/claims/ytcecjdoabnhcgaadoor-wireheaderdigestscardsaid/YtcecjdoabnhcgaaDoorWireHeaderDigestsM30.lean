/- The law sheaveslaw.WireHeaderDigests answers true for every argument, and each argument reads behind the call as it read before: the tied card. Its conditions: the three tables of package blake hold what the program's text lays (the card ties that); the form's own reach. -/
import Derived.Test.YtcecjdoabnhcgaaDoorOpenB
import Derived.Test.YtcecjdoabnhcgaaDoorLAt
import Derived.Deep.Strs
import Derived.Test.YtcecjdoabnhcgaaDoorWireHeaderDigestsM24
import Derived.Test.YtcecjdoabnhcgaaDoorOpen
import Derived.Test.YtcecjdoabnhcgaaDoorCards
import Derived.Test.YtcecjdoabnhcgaaDoorTie
import Derived.WalkKit
import Derived.ProofKit
import Derived.OpenShut
import Derived.Deep.DeepHandedRow
import Derived.SevenTiedAt
import Derived.Below
namespace Go.Proofs.YtcecjdoabnhcgaaDoor
open Go.ChangeShapes Go.WideShapes Go.ChangeAt Go.RowKit Go.Deep

set_option maxRecDepth 100000 in
theorem cBsL : Tryd.prog.cellsOf 25 = 1 := by kernel_rfl
set_option maxRecDepth 100000 in
theorem bBsL : Tryd.prog.bytesOf 25 = 24 := by kernel_rfl
set_option maxRecDepth 100000 in
theorem weightsAll_mem {H : Type} (e : TypeId) (l : List (DataW H)) (d : DataW H) (hd : d ∈ l) : ∀ n ∈ d.weights Tryd.prog e, n ∈ DataW.weightsAll Tryd.prog e l := by
  induction l with
  | nil => cases hd
  | cons x r ih =>
    intro n hn
    rw [DataW.weightsAll]
    rcases List.mem_cons.1 hd with rfl | h
    · exact List.mem_append_left _ hn
    · exact List.mem_append_right _ (ih h n hn)
set_option maxRecDepth 100000 in
theorem open_lists_cells {H : Type} {enc : TypeId × Value → H} {W : World} {fuel : Nat} {cs : List Value} {x : DataW H × List MemPlace}
    (hf : DataW.trod enc Tryd.prog W 0 (fun _ => true) true fuel 31 cs = some x) (hfit : ∀ n ∈ x.1.weights Tryd.prog 31, n ≤ reachBytes) :
    ∃ sa cap ps, cs = [.slice sa (List.length ps) cap] ∧ ReadAt W sa cap ps ∧ ∀ p ∈ ps, AllU8 p.bs := by
  rcases open_slice1 Tryd.underlying31 cBsL hf with ⟨rfl, _⟩ | ⟨a, len, cap, m, n, V, D, Pl, rfl, _, hl, hm, hmm, rfl, hx⟩
  · exact ⟨none, 0, [], rfl, ⟨⟨Nat.le_refl _, by decide, by decide, .inl rfl, ⟨.inl rfl, fun p hp => by cases hp⟩⟩, by decide, fun p hp => by cases hp⟩, fun p hp => by cases hp⟩
  · simp only [if_true] at hmm
    subst hmm
    have hw := hfit ((((List.range len).map D).length + ((List.range (m - len)).map fun j => D (len + j)).length) * Tryd.prog.bytesOf 25) (by simp [DataW.weights, Tryd.underlying31])
    rw [bBsL] at hw
    simp [reachBytes] at hw
    have each : ∀ i, i < len → ∃ p : Part, V i = .slice p.sa p.bs.length p.cap ∧ SliceAt W p.sa p.cap p.bs ∧ AllU8 p.bs ∧ p.cap ≤ 140737488351232 := fun i hi => by
      obtain ⟨_, h2⟩ := hx i (by omega)
      obtain ⟨sa, cap, bs, e, h3, h4⟩ := open_bytes_cells h2
      have hfi : ∀ n ∈ (D i).weights Tryd.prog 25, n ≤ reachBytes := fun n hn => hfit n (by
        have := weightsAll_mem 25 ((List.range len).map D) (D i) (List.mem_map.2 ⟨i, List.mem_range.2 hi, rfl⟩) n hn
        simp only [DataW.weights, Tryd.underlying31]
        exact List.mem_cons_of_mem _ (List.mem_append_left _ this))
      have h5 := bytes_fit h2 hfi e
      exact ⟨⟨sa, cap, bs⟩, by simpa using e, h3, h4, h5⟩
    obtain ⟨P, hP⟩ := @choose_lt Part ⟨⟨none, 0, []⟩⟩ len _ each
    refine ⟨some a, m, (List.range len).map P, by simp, ⟨⟨by simpa using hl, hm, by simp; omega, ?_, ⟨?_, ?_⟩⟩, by simp; omega, ?_⟩, ?_⟩
    · rcases Nat.eq_zero_or_pos m with h0 | h0
      · exact .inl h0
      · right
        have h9 := (hx 0 h0).1
        cases a with
        | mk b off spot =>
          cases spot with
          | none => exact ⟨b, off, rfl⟩
          | some s => simp [World.cell?, Addr.add] at h9; split at h9 <;> cases h9
    · rcases Nat.eq_zero_or_pos len with h0 | h0
      · subst h0; exact .inl rfl
      · right
        have h9 := (hx 0 (by omega)).1
        obtain ⟨b, off, rfl⟩ : ∃ b off, a = ⟨b, off, none⟩ := by
          cases a with
          | mk b off spot =>
            cases spot with
            | none => exact ⟨b, off, rfl⟩
            | some s => simp [World.cell?, Addr.add] at h9; split at h9 <;> cases h9
        refine ⟨b, off, rfl, fun j hj => ?_⟩
        have hj' : j < len := by simpa using hj
        have h1 := (hx j (by omega)).1
        rw [add_off] at h1
        rw [h1, (hP j hj').1]
        simp
    · intro p hp
      simp at hp
      obtain ⟨j, hj, rfl⟩ := hp
      exact (hP j hj).2.1
    · intro p hp
      simp at hp
      obtain ⟨j, hj, rfl⟩ := hp
      have h1 := (hP j hj).2.1.le
      have h2 := (hP j hj).2.2.2
      omega
    · intro p hp
      simp at hp
      obtain ⟨j, hj, rfl⟩ := hp
      exact (hP j hj).2.2.1
set_option maxRecDepth 100000 in
theorem open_lists {H : Type} {enc : TypeId × Value → H} {W : World} {base : Nat} {v : Value} {d : DataW H} {p : List MemPlace}
    (hv : Value.okWide Tryd.prog W .any base 31 v) (h : DataW.Trod enc Tryd.prog W 0 (fun _ => true) true 31 v d p) (hfit : ∀ n ∈ d.weights Tryd.prog 31, n ≤ reachBytes) :
    ∃ sa cap ps, v = .slice sa (List.length ps) cap ∧ ReadAt W sa cap ps ∧ ∀ p ∈ ps, AllU8 p.bs := by
  obtain ⟨a0, len0, cap0, rfl⟩ := okWide_slice Tryd.underlying31 hv
  obtain ⟨fuel, hf⟩ := h
  obtain ⟨sa, cap, ps, hcs, h1, h2⟩ := open_lists_cells hf hfit
  simp [Value.cells] at hcs
  obtain ⟨rfl, rfl, rfl⟩ := hcs
  exact ⟨_, _, ps, rfl, h1, h2⟩
end Go.Proofs.YtcecjdoabnhcgaaDoor

namespace Go.Proofs.YtcecjdoabnhcgaaDoor
open Go.ChangeShapes Go.WideShapes Go.ChangeAt Go.RowKit Go.Deep

set_option maxRecDepth 100000 in
theorem cHeader : Tryd.prog.cellsOf 33 = 4 := by kernel_rfl
set_option maxRecDepth 100000 in
theorem cIntL : Tryd.prog.cellsOf 3 = 1 := by kernel_rfl
set_option maxRecDepth 100000 in
theorem cLists : Tryd.prog.cellsOf 31 = 1 := by kernel_rfl
set_option maxRecDepth 100000 in
theorem open_header_cells {H : Type} {enc : TypeId × Value → H} {W : World} {fuel : Nat} {cs : List Value} {x : DataW H × List MemPlace}
    (hf : DataW.trod enc Tryd.prog W 0 (fun _ => true) true fuel 33 cs = some x) (hfit : ∀ n ∈ x.1.weights Tryd.prog 33, n ≤ reachBytes) :
    ∃ au rd ba bc bl pa pc pl, cs = [.int .i64 au, .int .i64 rd, .slice ba (List.length bl) bc, .slice pa (List.length pl) pc] ∧ I64 au ∧ I64 rd ∧ ReadAt W ba bc bl ∧ ReadAt W pa pc pl := by
  obtain ⟨xs, n, _, rfl, hl, hlen, hg⟩ := DataW.trod_struct Tryd.underlying33 hf
  rw [cHeader] at hl
  match xs, hlen with
  | [y0, y1, y2, y3], _ =>
  have h0 := hg 0 _ rfl
  have h1 := hg 1 _ rfl
  have h2 := hg 2 _ rfl
  have h3 := hg 3 _ rfl
  match cs, hl with
  | [c0, c1, c2, c3], _ =>
  obtain ⟨a0, e0, rfl, w0⟩ := DataW.trod_int Tryd.underlying3 h0
  obtain ⟨a1, e1, rfl, w1⟩ := DataW.trod_int Tryd.underlying3 h1
  obtain ⟨ba, bc, bl, e2, hb, _⟩ := open_lists_cells h2 (fun n hn => hfit n (by simp [DataW.weights, DataW.weightsEach, Tryd.underlying33, hn]))
  obtain ⟨pa, pc, pl, e3, hp, _⟩ := open_lists_cells h3 (fun n hn => hfit n (by simp [DataW.weights, DataW.weightsEach, Tryd.underlying33, hn]))
  simp [cIntL, cLists] at e0 e1 e2 e3
  subst e0 e1 e2 e3
  exact ⟨a0, a1, ba, bc, bl, pa, pc, pl, rfl, bounds_i64 w0, bounds_i64 w1, hb, hp⟩
set_option maxRecDepth 100000 in
theorem open_header {H : Type} {enc : TypeId × Value → H} {W : World} {base : Nat} {v : Value} {d : DataW H} {p : List MemPlace}
    (hv : Value.okWide Tryd.prog W .any base 33 v) (h : DataW.Trod enc Tryd.prog W 0 (fun _ => true) true 33 v d p) (hfit : ∀ n ∈ d.weights Tryd.prog 33, n ≤ reachBytes) :
    ∃ au rd ba bc bl pa pc pl, v = .agg #[.int .i64 au, .int .i64 rd, .slice ba (List.length bl) bc, .slice pa (List.length pl) pc] ∧ I64 au ∧ I64 rd ∧ ReadAt W ba bc bl ∧ ReadAt W pa pc pl := by
  obtain ⟨cs, rfl, _⟩ := okWide_struct Tryd.underlying33 hv
  obtain ⟨fuel, hf⟩ := h
  obtain ⟨au, rd, ba, bc, bl, pa, pc, pl, hcs, h1, h2, h3, h4⟩ := open_header_cells hf hfit
  refine ⟨au, rd, ba, bc, bl, pa, pc, pl, ?_, h1, h2, h3, h4⟩
  have : cs.toList = _ := hcs
  rw [← this]
end Go.Proofs.YtcecjdoabnhcgaaDoor

namespace Go.Proofs.YtcecjdoabnhcgaaDoor
open Go.ChangeShapes Go.WideShapes Go.ChangeAt Go.RowKit Go.Deep

set_option maxRecDepth 100000 in
theorem open_headerU_cells {H : Type} {enc : TypeId × Value → H} {W : World} {fuel : Nat} {cs : List Value} {x : DataW H × List MemPlace}
    (hf : DataW.trod enc Tryd.prog W 0 (fun _ => true) true fuel 33 cs = some x) (hfit : ∀ n ∈ x.1.weights Tryd.prog 33, n ≤ reachBytes) :
    ∃ au rd ba bc bl pa pc pl, cs = [.int .i64 au, .int .i64 rd, .slice ba (List.length bl) bc, .slice pa (List.length pl) pc] ∧ I64 au ∧ I64 rd ∧ ReadAt W ba bc bl ∧ ReadAt W pa pc pl ∧ (∀ p ∈ bl, AllU8 p.bs) ∧ (∀ p ∈ pl, AllU8 p.bs) := by
  obtain ⟨xs, n, _, rfl, hl, hlen, hg⟩ := DataW.trod_struct Tryd.underlying33 hf
  rw [cHeader] at hl
  match xs, hlen with
  | [y0, y1, y2, y3], _ =>
  have h0 := hg 0 _ rfl
  have h1 := hg 1 _ rfl
  have h2 := hg 2 _ rfl
  have h3 := hg 3 _ rfl
  match cs, hl with
  | [c0, c1, c2, c3], _ =>
  obtain ⟨a0, e0, rfl, w0⟩ := DataW.trod_int Tryd.underlying3 h0
  obtain ⟨a1, e1, rfl, w1⟩ := DataW.trod_int Tryd.underlying3 h1
  obtain ⟨ba, bc, bl, e2, hb, ub2⟩ := open_lists_cells h2 (fun n hn => hfit n (by simp [DataW.weights, DataW.weightsEach, Tryd.underlying33, hn]))
  obtain ⟨pa, pc, pl, e3, hp, up2⟩ := open_lists_cells h3 (fun n hn => hfit n (by simp [DataW.weights, DataW.weightsEach, Tryd.underlying33, hn]))
  simp [cIntL, cLists] at e0 e1 e2 e3
  subst e0 e1 e2 e3
  exact ⟨a0, a1, ba, bc, bl, pa, pc, pl, rfl, bounds_i64 w0, bounds_i64 w1, hb, hp, ub2, up2⟩
set_option maxRecDepth 100000 in
theorem open_headerU {H : Type} {enc : TypeId × Value → H} {W : World} {base : Nat} {v : Value} {d : DataW H} {p : List MemPlace}
    (hv : Value.okWide Tryd.prog W .any base 33 v) (h : DataW.Trod enc Tryd.prog W 0 (fun _ => true) true 33 v d p) (hfit : ∀ n ∈ d.weights Tryd.prog 33, n ≤ reachBytes) :
    ∃ au rd ba bc bl pa pc pl, v = .agg #[.int .i64 au, .int .i64 rd, .slice ba (List.length bl) bc, .slice pa (List.length pl) pc] ∧ I64 au ∧ I64 rd ∧ ReadAt W ba bc bl ∧ ReadAt W pa pc pl ∧ (∀ p ∈ bl, AllU8 p.bs) ∧ (∀ p ∈ pl, AllU8 p.bs) := by
  obtain ⟨cs, rfl, _⟩ := okWide_struct Tryd.underlying33 hv
  obtain ⟨fuel, hf⟩ := h
  obtain ⟨au, rd, ba, bc, bl, pa, pc, pl, hcs, h1, h2, h3, h4, h5, h6⟩ := open_headerU_cells hf hfit
  refine ⟨au, rd, ba, bc, bl, pa, pc, pl, ?_, h1, h2, h3, h4, h5, h6⟩
  have : cs.toList = _ := hcs
  rw [← this]
end Go.Proofs.YtcecjdoabnhcgaaDoor

namespace Go.Proofs.YtcecjdoabnhcgaaDoor
open Go.RowKit

set_option maxRecDepth 100000 in
theorem flatB_same (xs ys : List Part) (h : Same xs ys) : flatB xs = flatB ys := by
  have h' : xs.map (·.bs) = ys.map (·.bs) := h
  clear h
  induction xs generalizing ys with
  | nil => cases ys with
    | nil => rfl
    | cons y ys => simp at h'
  | cons x xs ih => cases ys with
    | nil => simp at h'
    | cons y ys =>
      simp only [List.map_cons, List.cons.injEq] at h'
      rw [flatB, flatB, h'.1, ih ys h'.2]
set_option maxRecDepth 100000 in
theorem headB_same {au rd : Int} {xl bl yl pl : List Part} (h1 : Same xl bl) (h2 : Same yl pl) : headB au rd xl yl = headB au rd bl pl := by
  rw [headB, headB, digsB, digsB, digsB, digsB, flatB_same _ _ h1, flatB_same _ _ h2, h1.length, h2.length]
set_option maxRecDepth 100000 in
theorem headerF_same {au rd : Int} {xl bl yl pl : List Part} (h1 : Same xl bl) (h2 : Same yl pl) : headerF au rd xl yl = headerF au rd bl pl := by
  rw [headerF, headerF, digF_same h1, digF_same h2, h1.length, h2.length]
set_option maxRecDepth 100000 in
theorem off_of_list {w : World} {ra : Option Addr} {rc : Nat} {qs : List Part} (h : ListAt w ra rc qs) (hne : ∀ sb so, ra = some ⟨sb, so, none⟩ → sb < w.heap.size) (h32 : ∀ p ∈ qs, p.bs.length = 32) : Off w (.slice none 0 0) ra qs :=
  ⟨fun sb so e => ⟨hne sb so e, fun h => by cases h⟩, fun p hp sb so e => ⟨by
    have hs := h.parts.each p hp
    rcases hs.bytes with hb | ⟨sb', so', e', hb⟩
    · have := h32 p hp; rw [hb] at this; simp at this
    · rw [e] at e'; cases e'; exact block_lt_of_cell (hb 0 (by rw [h32 p hp]; decide)), fun h => by cases h⟩⟩
set_option maxRecDepth 100000 in
set_option maxHeartbeats 2000000 in
theorem wireHeaderDigests_walk (au rd : Int) (ba : Option Addr) (bc : Nat) (bl : List Part) (pa : Option Addr) (pc : Nat) (pl : List Part) (w : World) (_h1 : I64 au) (_h2 : I64 rd) (hb : ReadAt w ba bc bl) (hp : ReadAt w pa pc pl) (hub : ∀ p ∈ bl, AllU8 p.bs) (hup : ∀ p ∈ pl, AllU8 p.bs) (hT : Tabs w) :
    Calls Tryd.prog 4 #[.agg #[.int .i64 au, .int .i64 rd, .slice ba bl.length bc, .slice pa pl.length pc]] w fun e w' => e = .returned (.bool true) ∧ Below w.heap.size w w' := by
  have hA : Below w.heap.size w (w.alloc (.cells #[.int .i64 au, .int .i64 rd, .slice ba bl.length bc, .slice pa pl.length pc] 33)) := (Below.refl _ _).alloc (Nat.le_refl _) _
  have hC := headerCopyU_any au rd ba bc bl pa pc pl _ (hb.below hA) (hp.below hA)
  have HUB : Hid _ := hub
  have HUP : Hid _ := hup
  clear hub hup
  go_enter Tryd.func4, Tryd.ntmps4
  go_wp2_with fail
  refine hC.mono ?_
  rintro e w1 ⟨xa, xc, xl, ya, yc, yl, rfl, hS1, hS2, hL1, hL2, hb1, hF1, hF2, hU1, hU2⟩
  have r1 := row_new hb1
  replace hb1 := below_alloc hb1
  clear hC hA
  have e1 := hS1.length
  have e2 := hS2.length
  have E1 : Hid (bl.length = xl.length) := e1.symm
  have E2 : Hid (pl.length = yl.length) := e2.symm
  clear e1 e2
  have HFe : Hid (headerF au rd xl yl = headerF au rd bl pl) := headerF_same hS1 hS2
  have HBe : Hid (headB au rd xl yl = headB au rd bl pl) := headB_same hS1 hS2
  have hA1 : Below w1.heap.size w1 (w1.alloc (.cells #[.int .i64 au, .int .i64 rd, .slice xa bl.length xc, .slice ya pl.length yc] 33)) := (Below.refl _ _).alloc (Nat.le_refl _) _
  have hW1a := hb1.trans (hA1.mono hb1.size)
  have q1 := heap_alloc_new w1 (.cells #[.int .i64 au, .int .i64 rd, .slice xa bl.length xc, .slice ya pl.length yc] 33)
  have p1 : (w1.alloc (.cells #[.int .i64 au, .int .i64 rd, .slice xa bl.length xc, .slice ya pl.length yc] 33)).heap[w.heap.size]? = some (.cells #[.int .i64 au, .int .i64 rd, .slice ba bl.length bc, .slice pa pl.length pc] 33 (0, 0)) := heap_keep r1
  by_cases hF : headerF au rd bl pl = 0
  · obtain ⟨z1, z2, z3, z4, z5, z6⟩ := headerF_ok hF
    have HF : Hid _ := hF
    have HFx : Hid (headerF au rd xl yl = 0) := HFe.out.trans hF
    obtain ⟨_, _, _, _, x5, x6⟩ := headerF_ok HFx.out
    have hoX : Off w1 (.slice none 0 0) xa xl := off_of_list hL1 hU1 x5
    have hoY : Off w1 (.slice none 0 0) ya yl := off_of_list hL2 hU2 x6
    have hD := headerDigest_ok au rd xa bl.length xc xl ya pl.length yc yl _ E1.out E2.out (hL1.below hA1) (hL2.below hA1) (hoX.below hA1) (hoY.below hA1) HFx.out z1 ⟨by omega, z2.2⟩ (by rw [← E1.out]; omega) (by rw [← E2.out]; exact z4) x5 x6 (hT.below hW1a)
    rw [HBe.out] at hD
    clear hF hoX hoY z5 z6 x5 x6
    go_wp2_with fail
    refine hD.mono ?_
    rintro e w2 ⟨g, rfl, hg, hb2, hr2⟩
    have p2 := (hb2.block _ (lt_of_heap p1)).trans p1
    have q2 := (hb2.block _ (lt_of_heap q1)).trans q1
    have hW2 := hW1a.trans (hb2.mono hW1a.size)
    have hb12 : Below w1.heap.size w1 w2 := below_alloc hb2
    have d0 : w2.cell? ⟨w.heap.size, 0, none⟩ = some (.int .i64 au) := cells_at p2 0 _ rfl
    have d1 : w2.cell? ⟨w.heap.size, 1, none⟩ = some (.int .i64 rd) := cells_at p2 1 _ rfl
    have d2 : w2.cell? ⟨w.heap.size, 2, none⟩ = some (.slice ba bl.length bc) := cells_at p2 2 _ rfl
    have d3 : w2.cell? ⟨w.heap.size, 3, none⟩ = some (.slice pa pl.length pc) := cells_at p2 3 _ rfl
    have hR := rHeaderDigest_ok au rd ba bl.length bc bl pa pl.length pc pl w2 rfl rfl (hb.list.below hW2) (hp.list.below hW2) HUB.out HUP.out HF.out
    clear hD
    go_wp2_with fail
    refine hR.mono ?_
    rintro e w3 ⟨g', c', rfl, hr3, hb3⟩
    have p3 := (hb3.block _ (lt_of_heap p2)).trans p2
    have q3 := (hb3.block _ (lt_of_heap q2)).trans q2
    have hW3 := hW2.trans (hb3.mono hW2.size)
    have hb13 := hb12.trans (hb3.mono hb12.size)
    have t1 := run_text w3 _ 32 32 (tagD 2 (headB au rd bl pl)) (tagD_length _ _).symm (hr2.below hb3)
    have t2 := run_text w3 _ 32 c' (tagD 2 (headB au rd bl pl)) (tagD_length _ _).symm hr3
    clear hR d0 d1 d2 d3
    generalize bstr (tagD 2 (headB au rd bl pl)) = S at *
    have d0 : w3.cell? ⟨w.heap.size, 0, none⟩ = some (.int .i64 au) := cells_at p3 0 _ rfl
    have d1 : w3.cell? ⟨w.heap.size, 1, none⟩ = some (.int .i64 rd) := cells_at p3 1 _ rfl
    have d2 : w3.cell? ⟨w.heap.size, 2, none⟩ = some (.slice ba bl.length bc) := cells_at p3 2 _ rfl
    have d3 : w3.cell? ⟨w.heap.size, 3, none⟩ = some (.slice pa pl.length pc) := cells_at p3 3 _ rfl
    have f0 : w3.cell? ⟨w1.heap.size, 0, none⟩ = some (.int .i64 au) := cells_at q3 0 _ rfl
    have f1 : w3.cell? ⟨w1.heap.size, 1, none⟩ = some (.int .i64 rd) := cells_at q3 1 _ rfl
    have f2 : w3.cell? ⟨w1.heap.size, 2, none⟩ = some (.slice xa bl.length xc) := cells_at q3 2 _ rfl
    have f3 : w3.cell? ⟨w1.heap.size, 3, none⟩ = some (.slice ya pl.length yc) := cells_at q3 3 _ rfl
    have hE := sameHeaderL_eq au rd xa xc xl ya yc yl ba bc bl pa pc pl w3 hS1 hS2 (hL1.below hb13) (hL2.below hb13) (hb.list.below hW3) (hp.list.below hW3)
    go_wp2_with fail
    refine hE.mono ?_
    rintro e w4 ⟨rfl, hb4⟩
    go_wp2_with fail
    go_ret
    exact ⟨by first | rfl | simp, hW3.trans (hb4.mono hW3.size)⟩
  · have HN : Hid (¬ headerF au rd bl pl = 0) := hF
    have hD := headerDigest_bad au rd xa bl.length xc xl ya pl.length yc yl (headerF au rd bl pl) _ E1.out E2.out (hL1.below hA1) (hL2.below hA1) HFe.out HN.out
    have hR : ∀ wx, Below w.heap.size w wx → _ := fun wx h => rHeaderDigest_bad au rd ba bl.length bc bl pa pl.length pc pl (headerF au rd bl pl) wx rfl rfl (hb.list.below h) (hp.list.below h) rfl HN.out
    have HR : Hid _ := hR
    clear hF hR HFe HN
    generalize headerF au rd bl pl = ec at *
    go_wp2_with fail
    refine hD.mono ?_
    rintro e w2 ⟨rfl, hb2⟩
    have p2 := (hb2.block _ (lt_of_heap p1)).trans p1
    have q2 := (hb2.block _ (lt_of_heap q1)).trans q1
    have hW2 := hW1a.trans (hb2.mono hW1a.size)
    have hb12 : Below w1.heap.size w1 w2 := below_alloc hb2
    have d0 : w2.cell? ⟨w.heap.size, 0, none⟩ = some (.int .i64 au) := cells_at p2 0 _ rfl
    have d1 : w2.cell? ⟨w.heap.size, 1, none⟩ = some (.int .i64 rd) := cells_at p2 1 _ rfl
    have d2 : w2.cell? ⟨w.heap.size, 2, none⟩ = some (.slice ba bl.length bc) := cells_at p2 2 _ rfl
    have d3 : w2.cell? ⟨w.heap.size, 3, none⟩ = some (.slice pa pl.length pc) := cells_at p2 3 _ rfl
    clear hD
    go_wp2_with fail
    refine (HR.out _ hW2).mono ?_
    rintro e w3 ⟨rfl, hb3⟩
    have p3 := (hb3.block _ (lt_of_heap p2)).trans p2
    have q3 := (hb3.block _ (lt_of_heap q2)).trans q2
    have hW3 := hW2.trans (hb3.mono hW2.size)
    have hb13 := hb12.trans (hb3.mono hb12.size)
    have t1 := run_text w3 none 0 0 [] rfl ⟨Nat.le_refl _, by decide, .inl rfl, fun _ => rfl, .inl rfl⟩
    clear d0 d1 d2 d3
    have d0 : w3.cell? ⟨w.heap.size, 0, none⟩ = some (.int .i64 au) := cells_at p3 0 _ rfl
    have d1 : w3.cell? ⟨w.heap.size, 1, none⟩ = some (.int .i64 rd) := cells_at p3 1 _ rfl
    have d2 : w3.cell? ⟨w.heap.size, 2, none⟩ = some (.slice ba bl.length bc) := cells_at p3 2 _ rfl
    have d3 : w3.cell? ⟨w.heap.size, 3, none⟩ = some (.slice pa pl.length pc) := cells_at p3 3 _ rfl
    have f0 : w3.cell? ⟨w1.heap.size, 0, none⟩ = some (.int .i64 au) := cells_at q3 0 _ rfl
    have f1 : w3.cell? ⟨w1.heap.size, 1, none⟩ = some (.int .i64 rd) := cells_at q3 1 _ rfl
    have f2 : w3.cell? ⟨w1.heap.size, 2, none⟩ = some (.slice xa bl.length xc) := cells_at q3 2 _ rfl
    have f3 : w3.cell? ⟨w1.heap.size, 3, none⟩ = some (.slice ya pl.length yc) := cells_at q3 3 _ rfl
    have hE := sameHeaderL_eq au rd xa xc xl ya yc yl ba bc bl pa pc pl w3 hS1 hS2 (hL1.below hb13) (hL2.below hb13) (hb.list.below hW3) (hp.list.below hW3)
    go_wp2_with fail
    refine hE.mono ?_
    rintro e w4 ⟨rfl, hb4⟩
    go_wp2_with fail
    go_ret
    exact ⟨by first | rfl | simp, hW3.trans (hb4.mono hW3.size)⟩
end Go.Proofs.YtcecjdoabnhcgaaDoor

namespace Go.Proofs.YtcecjdoabnhcgaaDoor.wireHeaderDigests
open Go.ChangeShapes Go.WideShapes Go.ChangeAt Go.RowKit

set_option maxRecDepth 100000 in
/-- What the walk gives, for every argument and every world that holds the tables. -/
theorem contract (H : Type) (enc : TypeId × Value → H) (W : World) (base : Nat) (args : Array Value) (ds gs : List (DataW H)) (before : List MemPlace)
    (hval : ∀ (j : Nat) t v, Tryd.f4.params[j]? = some t → args[j]? = some v → Value.okWide Tryd.prog W .any base t v)
    (hW : DataW.Whole enc Tryd.prog Tryd.f4.params.toList Rows.wireHeaderDigestsSpec.vars false W args.toList ds gs before) (hsz : (DataW.weightsEach Tryd.prog (Tryd.f4.params.toList ++ (OpenSpec.ofChange Rows.wireHeaderDigestsSpec).bare.plain.varTypes Tryd.prog) (ds ++ gs)).all (· ≤ reachBytes) = true) (hL : laidMetH Tryd.prog Rows.wireHeaderDigestsRow.laid W) :
    Calls Tryd.prog 4 args W fun e W' => ∃ v, e = .returned v ∧ Rows.wireHeaderDigestsSpec.post enc Tryd.prog Tryd.f4 false true false false W args v W' := by
  have hW' := hW
  obtain ⟨p, q, hA0, hV, rfl, hfz, hnd⟩ := hW
  have hA : DataW.TrodAll enc Tryd.prog W 0 (fun _ => true) true Tryd.f4.params.toList args.toList ds p := hA0
  rw [Tryd.params4] at hA hval hsz
  obtain ⟨v0, vs0, d0, ds0, p0, q0, hargs, rfl, rfl, h0, r0⟩ := trodAll_cons hA
  obtain ⟨rfl, rfl, rfl⟩ := trodAll_nil r0
  obtain rfl : args = #[v0] := by cases args; simp_all
  obtain ⟨rfl, rfl⟩ := trodVars_none hV
  have k0 := h0
  have lt0 : ∀ x ∈ p0, x.block < W.heap.size := by obtain ⟨m, hm⟩ := k0; exact DataW.trod_lt m _ _ _ hm
  obtain ⟨au0, rd0, ba0, bc0, bl0, pa0, pc0, pl0, rfl, q0_0, q0_1, q0_2, q0_3, q0_4, q0_5⟩ := open_headerU (hval 0 33 v0 rfl rfl) h0 (fit_each hsz (j := 0) rfl rfl)
  clear hA0
  have hT : Tabs W := tabs_of_laid (by kernel_rfl) (by kernel_rfl) (by kernel_rfl) hL
  refine (wireHeaderDigests_walk au0 rd0 ba0 bc0 bl0 pa0 pc0 pl0 W q0_0 q0_1 q0_2 q0_3 q0_4 q0_5 hT).mono fun e W' ⟨he, bel⟩ => ?_
  subst he
  exact ⟨_, rfl, _, _, _, [], _, [], hW', trodAll_mk1 (shut_bool Tryd.underlying4 _), (trodAll_cons_mk (Below.trod laidOut (by kernel_rfl) (of_decide_eq_true (by kernel_rfl)) k0 bel lt0) trodAll_mk0), rfl, bel.frame _, fun h => by cases h⟩

set_option maxRecDepth 100000 in
theorem laid_met (os : Os) : laidMet Tryd.prog Rows.wireHeaderDigestsRow.laid ((layTabs (World.holding Tryd.prog os ⟨#[], #[], []⟩)).forCall (fun _ _ => 0) ⟨#[], #[.agg #[.int .i64 0, .int .i64 0, .slice none 0 0, .slice none 0 0]], []⟩).memory :=
  laidMet_of_run' 8 (by kernel_rfl) (by kernel_rfl)
set_option maxRecDepth 100000 in
theorem reads (os : Os) {H : Type} (enc : TypeId × Value → H) : ∃ places, DataW.whole enc Tryd.prog ((layTabs (World.holding Tryd.prog os ⟨#[], #[], []⟩)).forCall (fun _ _ => 0) ⟨#[], #[.agg #[.int .i64 0, .int .i64 0, .slice none 0 0, .slice none 0 0]], []⟩).memory Tryd.f4.params.toList Rows.wireHeaderDigestsSpec.vars false (#[.agg #[.int .i64 0, .int .i64 0, .slice none 0 0, .slice none 0 0]] : Array Value).toList 8 = some ([.agg [.lit (.int .i64 0), .lit (.int .i64 0), .nil, .nil]], [], places) :=
  ⟨[], by kernel_rfl⟩

set_option maxRecDepth 100000 in
theorem lifted (os : Os) (started : os.Started) (H : Type) (enc : TypeId × Value → H) (F : Stop.Interp) :
    ReturnsInHanded {} Tryd.checked os 4 .any ((OpenSpec.ofChange Rows.wireHeaderDigestsSpec).preRow enc Tryd.prog Tryd.f4 Rows.wireHeaderDigestsRow.domain false Rows.wireHeaderDigestsRow.laid) (((OpenSpec.ofChange Rows.wireHeaderDigestsSpec).at F).post enc Tryd.prog Tryd.f4 false true false false) := by
  obtain ⟨places, hx⟩ := reads os enc
  refine returnsInHanded_of_row (C := Tryd.checked) (s := OpenSpec.ofChange Rows.wireHeaderDigestsSpec) own started (by kernel_rfl) Tryd.func4
    (witness_row_at (enc := enc) (C := Tryd.checked) false (layTabs (World.holding Tryd.prog os ⟨#[], #[], []⟩)) #[.agg #[.int .i64 0, .int .i64 0, .slice none 0 0, .slice none 0 0]] rfl (by kernel_rfl) (by kernel_rfl) (by kernel_rfl)
      (OpenSpec.preRow_of_cond 8 hx (by kernel_rfl) (fun k hk => by cases hk) (by kernel_rfl) (laid_met os))) ?_
  intro W base args ds gs before hval hW _ _ hsz hL _ _
  exact contract H enc W base args ds gs before hval hW hsz hL

set_option maxRecDepth 100000 in
theorem said : Rows.WireHeaderDigestsSaid :=
  OpenClaim.holds_of_cond 4 Tryd.f4 rfl rfl rfl rfl rfl rfl rfl ⟨rfl, rfl, rfl, rfl, rfl⟩ rfl rfl rfl rfl rfl (by kernel_rfl) Tryd.func4 (by kernel_rfl)
    (of_decide_eq_true (by kernel_rfl)) (by unfold Func.isWrapper; first | (rw [if_pos (by decide +kernel)]; kernel_rfl) | (rw [if_neg (by decide +kernel)]; exact ⟨rfl, rfl⟩))
    (fun os started H enc _ F => by rw [OpenClaim.pre_eq_preRow]; exact lifted os started H enc F)

set_option maxRecDepth 100000 in
theorem plain (f : FuncId) (fn : Func) (hf : Tryd.pinned.checked.prog.funcNamed Rows.wireHeaderDigestsRow.func = some f) (hfn : Tryd.pinned.checked.prog.funcs[f]? = some fn) :
    false = Tryd.pinned.checked.prog.looks [] ∧ ∀ (j : Nat) t, fn.params[j]? = some t → Tryd.pinned.checked.prog.wantsStandIn t = false := by
  obtain rfl : f = 4 := Option.some.inj ((show Tryd.prog.funcNamed Rows.wireHeaderDigestsRow.func = some 4 by kernel_rfl).symm.trans hf) |>.symm
  obtain rfl : fn = Tryd.f4 := (Option.some.inj (Tryd.func4.symm.trans hfn)).symm
  refine ⟨by kernel_rfl, fun j t ht => ?_⟩
  rw [Tryd.params4] at ht
  have hm : t = 33 := by simpa using Array.mem_of_getElem? ht
  rcases hm with rfl
  · exact (show Tryd.prog.wantsStandIn 33 = false by kernel_rfl)

set_option maxRecDepth 100000 in
/-- THE CARD. -/
theorem card : Rows.WireHeaderDigestsCardSaid :=
  Claim7.holds_tied_plain_at .later [] _ _ _ _ said (fun _ h => by cases h) (by kernel_rfl) (fun _ h => by cases h) wireHeaderDigests_row_tie rfl ⟨rfl, rfl⟩ (by kernel_rfl) rfl plain (by kernel_rfl)
end Go.Proofs.YtcecjdoabnhcgaaDoor.wireHeaderDigests
namespace Go.Proofs.YtcecjdoabnhcgaaDoor
set_option maxRecDepth 100000 in
theorem wireHeaderDigests_holds : Rows.WireHeaderDigestsCardSaid := wireHeaderDigests.card
#print axioms wireHeaderDigests_holds
end Go.Proofs.YtcecjdoabnhcgaaDoor
