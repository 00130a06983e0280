/- ballot.Voted, for every table. -/
import Derived.Test.YtlpaghkofljnfaaDoorPK
import Derived.Test.YtlpaghkofljnfaaDoorCastOnceM0
import Derived.Deep.Strs
import Derived.Deep.Slices
import Derived.Test.YtlpaghkofljnfaaDoorCast
import Derived.Test.YtlpaghkofljnfaaDoorCTab
import Derived.Test.YtlpaghkofljnfaaDoorSlCs
import Derived.Test.YtlpaghkofljnfaaDoorClone
namespace Go.Proofs.YtlpaghkofljnfaaDoor
open Go.RowKit

/-- The texts of a slice. -/
structure StrsAt (w : World) (sa : Option Addr) (ss : List ByteArray) : Prop where
  cells : ss = [] ∨ ∃ sb so, sa = some ⟨sb, so, none⟩ ∧ ∀ j, j < ss.length → w.cell? ⟨sb, so + j, none⟩ = some (.string (ss.getD j ByteArray.empty))
  size : ∀ s ∈ ss, s.size ≤ maxLen
set_option maxRecDepth 100000 in
theorem StrsAt.below {w w' : World} {sa : Option Addr} {ss : List ByteArray} (h : StrsAt w sa ss) (hb : Below w.heap.size w w') : StrsAt w' sa ss := by
  refine ⟨?_, h.size⟩
  rcases h.cells with h | ⟨sb, so, rfl, hc⟩
  · exact .inl h
  · exact .inr ⟨sb, so, rfl, fun j hj => (hb.cell (p := ⟨sb, so + j, none⟩) (block_lt_of_cell (hc j hj))).trans (hc j hj)⟩
end Go.Proofs.YtlpaghkofljnfaaDoor

namespace Go.Proofs.YtlpaghkofljnfaaDoor
open Go.ChangeShapes Go.WideShapes Go.ChangeAt Go.RowKit Go.Deep

/-- What is read of a slice of texts that came in. -/
structure TextsAt (w : World) (sa : Option Addr) (cap : Nat) (ss : List ByteArray) : Prop where
  le : ss.length ≤ cap
  reach : cap * 16 ≤ 140737488351232
  nil : sa = none → cap = 0
  strs : StrsAt w sa ss
set_option maxRecDepth 100000 in
theorem TextsAt.below {w w' : World} {sa : Option Addr} {cap : Nat} {ss : List ByteArray} (h : TextsAt w sa cap ss) (hb : Below w.heap.size w w') : TextsAt w' sa cap ss := ⟨h.le, h.reach, h.nil, h.strs.below hb⟩

set_option maxRecDepth 100000 in
theorem cStr : Tryd.prog.cellsOf 9 = 1 := by kernel_rfl
set_option maxRecDepth 100000 in
theorem bStr : Tryd.prog.bytesOf 9 = 16 := by kernel_rfl
set_option maxRecDepth 100000 in
theorem open_texts_cells {H : Type} {enc : TypeId × Value → H} {W : World} {fuel : Nat} {cs : List Value} {x : DataW H × List MemPlace}
    (hf : DataW.trod enc Tryd.prog W 0 (fun _ => true) true fuel 23 cs = some x) (hfit : ∀ n ∈ x.1.weights Tryd.prog 23, n ≤ reachBytes) :
    ∃ sa cap ss, cs = [.slice sa (List.length ss) cap] ∧ TextsAt W sa cap ss := by
  rcases open_strs Tryd.underlying23 Tryd.underlying9 cStr hf with ⟨rfl, _⟩ | ⟨a, len, cap, m, Sx, rfl, _, hl, hm, hmm, rfl, hc⟩
  · exact ⟨none, 0, [], rfl, ⟨Nat.le_refl _, by decide, fun _ => rfl, ⟨.inl rfl, fun s hs => by cases hs⟩⟩⟩
  · simp only [if_true] at hmm
    subst hmm
    have hw := hfit ((((List.range len).map fun i => (DataW.lit (.string (Sx i).data.toList) : DataW H)).length + ((List.range (m - len)).map fun j => (DataW.lit (.string (Sx (len + j)).data.toList) : DataW H)).length) * Tryd.prog.bytesOf 9) (by simp [DataW.weights, Tryd.underlying23])
    rw [bStr] at hw
    simp [reachBytes] at hw
    refine ⟨some a, m, (List.range len).map Sx, by simp, ⟨by simpa using hl, by omega, (fun e => by cases e), ⟨?_, ?_⟩⟩⟩
    · rcases Nat.eq_zero_or_pos len with h0 | h0
      · subst h0; exact .inl rfl
      · right
        have h9 := (hc 0 (by omega)).1
        obtain ⟨b, off, rfl⟩ : ∃ b off, a = ⟨b, off, none⟩ := by
          cases a with
          | mk b off spot =>
            cases spot with
            | none => exact ⟨b, off, rfl⟩
            | some s => simp [World.cell?, Addr.add] at h9; split at h9 <;> cases h9
        refine ⟨b, off, rfl, fun j hj => ?_⟩
        have hj' : j < len := by simpa using hj
        have := (hc j (by omega)).1
        rw [add_off] at this
        rw [this]
        simp [hj']
    · intro s hs
      simp at hs
      obtain ⟨j, hj, rfl⟩ := hs
      exact (hc j (by omega)).2
end Go.Proofs.YtlpaghkofljnfaaDoor

namespace Go.Proofs.YtlpaghkofljnfaaDoor
open Go.ChangeShapes Go.WideShapes Go.ChangeAt Go.RowKit Go.Deep

set_option maxRecDepth 100000 in
theorem cRaw : Tryd.prog.cellsOf 25 = 5 := by kernel_rfl
set_option maxRecDepth 100000 in
theorem cIntR : Tryd.prog.cellsOf 3 = 1 := by kernel_rfl
set_option maxRecDepth 100000 in
theorem cStrsR : Tryd.prog.cellsOf 23 = 1 := by kernel_rfl
set_option maxRecDepth 100000 in
theorem open_raw {H : Type} {enc : TypeId × Value → H} {W : World} {base : Nat} {v : Value} {d : DataW H} {p : List MemPlace}
    (hv : Value.okWide Tryd.prog W .any base 25 v) (h : DataW.Trod enc Tryd.prog W 0 (fun _ => true) true 25 v d p) (hfit : ∀ n ∈ d.weights Tryd.prog 25, n ≤ reachBytes) :
    ∃ ki ra rb rc sa cap ss, v = .agg #[.int .i64 ki, .int .i64 ra, .int .i64 rb, .int .i64 rc, .slice sa (List.length ss) cap] ∧ I64 ki ∧ I64 ra ∧ I64 rb ∧ I64 rc ∧ TextsAt W sa cap ss := by
  obtain ⟨cs, rfl, _⟩ := okWide_struct Tryd.underlying25 hv
  obtain ⟨fuel, hf⟩ := h
  obtain ⟨xs, n, _, hx, hl, hlen, hg⟩ := DataW.trod_struct Tryd.underlying25 hf
  rw [cRaw] at hl
  match xs, hlen with
  | [y0, y1, y2, y3, y4], _ =>
  have h0 := hg 0 _ rfl
  have h1 := hg 1 _ rfl
  have h2 := hg 2 _ rfl
  have h3 := hg 3 _ rfl
  have h4 := hg 4 _ rfl
  simp only [Prod.mk.injEq] at hx
  obtain ⟨rfl, rfl⟩ := hx
  obtain ⟨l⟩ := cs
  match l, hl with
  | [c0, c1, c2, c3, c4], _ =>
  obtain ⟨a0, e0, rfl, w0⟩ := DataW.trod_int Tryd.underlying3 h0
  obtain ⟨a1, e1, rfl, w1⟩ := DataW.trod_int Tryd.underlying3 h1
  obtain ⟨a2, e2, rfl, w2⟩ := DataW.trod_int Tryd.underlying3 h2
  obtain ⟨a3, e3, rfl, w3⟩ := DataW.trod_int Tryd.underlying3 h3
  obtain ⟨sa, cap, ss, e4, hs⟩ := open_texts_cells h4 (fun n hn => hfit n (by simp [DataW.weights, DataW.weightsEach, Tryd.underlying25, hn]))
  simp [cIntR, cStrsR, Value.cells] at e0 e1 e2 e3 e4
  subst e0 e1 e2 e3 e4
  exact ⟨a0, a1, a2, a3, sa, cap, ss, rfl, bounds_i64 w0, bounds_i64 w1, bounds_i64 w2, bounds_i64 w3, hs⟩
end Go.Proofs.YtlpaghkofljnfaaDoor

namespace Go.Proofs.YtlpaghkofljnfaaDoor
open Go.ChangeShapes Go.WideShapes Go.ChangeAt Go.RowKit Go.Deep

/-- A raw thing: its numbers; where its texts lie. -/
structure Rw where
  ki : Int
  a : Int
  b : Int
  c : Int
  sa : Option Addr
  n : Nat
  cap : Nat
structure RawsAt (w : World) (sa : Option Addr) (rs : List Rw) : Prop where
  cells : rs = [] ∨ ∃ sb so, sa = some ⟨sb, so, none⟩ ∧ ∀ j (h : j < rs.length), w.cell? ⟨sb, so + j * 5, none⟩ = some (.int .i64 (rs[j]).ki) ∧ w.cell? ⟨sb, so + j * 5 + 1, none⟩ = some (.int .i64 (rs[j]).a) ∧ w.cell? ⟨sb, so + j * 5 + 2, none⟩ = some (.int .i64 (rs[j]).b) ∧ w.cell? ⟨sb, so + j * 5 + 3, none⟩ = some (.int .i64 (rs[j]).c) ∧ w.cell? ⟨sb, so + j * 5 + 4, none⟩ = some (.slice (rs[j]).sa (rs[j]).n (rs[j]).cap)
  each : ∀ r ∈ rs, I64 r.a ∧ I64 r.b ∧ I64 r.c
  small : rs.length ≤ 3000000000000000000
set_option maxRecDepth 100000 in
theorem RawsAt.below {w w' : World} {sa : Option Addr} {rs : List Rw} (h : RawsAt w sa rs) (hb : Below w.heap.size w w') : RawsAt w' sa rs := by
  refine ⟨?_, h.each, h.small⟩
  rcases h.cells with h | ⟨sb, so, rfl, hc⟩
  · exact .inl h
  · refine .inr ⟨sb, so, rfl, fun j hj => ?_⟩
    obtain ⟨h0, h1, h2, h3, h4⟩ := hc j hj
    have hlt : sb < w.heap.size := block_lt_of_cell h0
    exact ⟨(hb.cell (p := ⟨sb, so + j * 5, none⟩) hlt).trans h0, (hb.cell (p := ⟨sb, so + j * 5 + 1, none⟩) hlt).trans h1, (hb.cell (p := ⟨sb, so + j * 5 + 2, none⟩) hlt).trans h2, (hb.cell (p := ⟨sb, so + j * 5 + 3, none⟩) hlt).trans h3, (hb.cell (p := ⟨sb, so + j * 5 + 4, none⟩) hlt).trans h4⟩
set_option maxRecDepth 100000 in
theorem open_raw_cells {H : Type} {enc : TypeId × Value → H} {W : World} {fuel : Nat} {cs : List Value} {x : DataW H × List MemPlace}
    (hf : DataW.trod enc Tryd.prog W 0 (fun _ => true) true fuel 25 cs = some x) (hfit : ∀ n ∈ x.1.weights Tryd.prog 25, n ≤ reachBytes) :
    ∃ r : Rw, cs = [.int .i64 r.ki, .int .i64 r.a, .int .i64 r.b, .int .i64 r.c, .slice r.sa r.n r.cap] ∧ I64 r.a ∧ I64 r.b ∧ I64 r.c := by
  obtain ⟨xs, n, _, rfl, hl, hlen, hg⟩ := DataW.trod_struct Tryd.underlying25 hf
  rw [cRaw] at hl
  match xs, hlen with
  | [y0, y1, y2, y3, y4], _ =>
  have h0 := hg 0 _ rfl
  have h1 := hg 1 _ rfl
  have h2 := hg 2 _ rfl
  have h3 := hg 3 _ rfl
  have h4 := hg 4 _ rfl
  match cs, hl with
  | [c0, c1, c2, c3, c4], _ =>
  obtain ⟨a0, e0, rfl, w0⟩ := DataW.trod_int Tryd.underlying3 h0
  obtain ⟨a1, e1, rfl, w1⟩ := DataW.trod_int Tryd.underlying3 h1
  obtain ⟨a2, e2, rfl, w2⟩ := DataW.trod_int Tryd.underlying3 h2
  obtain ⟨a3, e3, rfl, w3⟩ := DataW.trod_int Tryd.underlying3 h3
  obtain ⟨sa, cap, ss, e4, _⟩ := open_texts_cells h4 (fun n hn => hfit n (by simp [DataW.weights, DataW.weightsEach, Tryd.underlying25, hn]))
  simp [cIntR, cStrsR] at e0 e1 e2 e3 e4
  subst e0 e1 e2 e3 e4
  exact ⟨⟨a0, a1, a2, a3, sa, ss.length, cap⟩, rfl, bounds_i64 w1, bounds_i64 w2, bounds_i64 w3⟩
set_option maxRecDepth 100000 in
theorem weightsAll_memR {H : Type} (e : TypeId) (l : List (DataW H)) (d : DataW H) (hd : d ∈ l) : ∀ n ∈ d.weights Tryd.prog e, n ∈ DataW.weightsAll Tryd.prog e l := by
  induction l with
  | nil => cases hd
  | cons x r ih =>
    intro n hn
    rw [DataW.weightsAll]
    rcases List.mem_cons.1 hd with rfl | h
    · exact List.mem_append_left _ hn
    · exact List.mem_append_right _ (ih h n hn)
set_option maxRecDepth 100000 in
theorem bRaw : Tryd.prog.bytesOf 25 = 56 := by kernel_rfl
set_option maxRecDepth 100000 in
theorem open_raws {H : Type} {enc : TypeId × Value → H} {W : World} {base : Nat} {v : Value} {d : DataW H} {p : List MemPlace}
    (hv : Value.okWide Tryd.prog W .any base 22 v) (h : DataW.Trod enc Tryd.prog W 0 (fun _ => true) true 22 v d p) (hfit : ∀ n ∈ d.weights Tryd.prog 22, n ≤ reachBytes) :
    ∃ sa cap rs, v = .slice sa (List.length rs) cap ∧ RawsAt W sa rs ∧ rs.length ≤ cap := by
  obtain ⟨a0, len0, cap0, rfl⟩ := okWide_slice Tryd.underlying22 hv
  obtain ⟨fuel, hf⟩ := h
  rcases open_slice Tryd.underlying22 hf with ⟨he, _⟩ | ⟨a, len, cap, m, n, D, Pl, he, _, hl, hm, hmm, hd, hx⟩
  · simp [Value.cells] at he
    obtain ⟨rfl, rfl, rfl⟩ := he
    exact ⟨none, 0, [], rfl, ⟨.inl rfl, (fun p hp => by cases hp), by decide⟩, Nat.le_refl _⟩
  · simp [Value.cells] at he
    obtain ⟨rfl, rfl, rfl⟩ := he
    simp only [Prod.mk.injEq] at hd
    obtain ⟨rfl, rfl⟩ := hd
    simp only [if_true] at hmm
    subst hmm
    rw [cRaw] at hx
    have hw := hfit ((((List.range len0).map D).length + ((List.range (m - len0)).map fun j => D (len0 + j)).length) * Tryd.prog.bytesOf 25) (by simp [DataW.weights, Tryd.underlying22])
    rw [bRaw] at hw
    simp [reachBytes] at hw
    have each : ∀ i, i < len0 → ∃ r : Rw, (W.cell? (a.add (i * 5)) = some (.int .i64 r.ki) ∧ W.cell? (a.add (i * 5 + 1)) = some (.int .i64 r.a) ∧ W.cell? (a.add (i * 5 + 2)) = some (.int .i64 r.b) ∧ W.cell? (a.add (i * 5 + 3)) = some (.int .i64 r.c) ∧ W.cell? (a.add (i * 5 + 4)) = some (.slice r.sa r.n r.cap)) ∧ (I64 r.a ∧ I64 r.b ∧ I64 r.c) := fun i hi => by
      obtain ⟨cs', h1, h2⟩ := hx i (by omega)
      have hfi : ∀ n ∈ (D i).weights Tryd.prog 25, n ≤ reachBytes := fun n hn => hfit n (by
        have := weightsAll_memR 25 ((List.range len0).map D) (D i) (List.mem_map.2 ⟨i, List.mem_range.2 hi, rfl⟩) n hn
        simp only [DataW.weights, Tryd.underlying22]
        exact List.mem_cons_of_mem _ (List.mem_append_left _ this))
      obtain ⟨r, rfl, i1, i2, i3⟩ := open_raw_cells h2 hfi
      obtain ⟨_, _, hcell⟩ := World.cells?_some h1
      have e0 := hcell 0 (by omega)
      have e1 := hcell 1 (by omega)
      have e2 := hcell 2 (by omega)
      have e3 := hcell 3 (by omega)
      have e4 := hcell 4 (by omega)
      rw [add_add] at e0 e1 e2 e3 e4
      exact ⟨r, ⟨by simpa using e0, by simpa using e1, by simpa using e2, by simpa using e3, by simpa using e4⟩, i1, i2, i3⟩
    obtain ⟨P, hP⟩ := @choose_lt Rw ⟨⟨0, 0, 0, 0, none, 0, 0⟩⟩ len0 _ each
    have ha : 0 < len0 → ∃ b off, a = ⟨b, off, none⟩ := fun hi => by
      have h9 := (hP 0 hi).1.1
      cases a with
      | mk b off spot =>
        cases spot with
        | none => exact ⟨b, off, rfl⟩
        | some s => simp [World.cell?, Addr.add] at h9; split at h9 <;> cases h9
    refine ⟨some a, m, (List.range len0).map P, by simp, ⟨?_, ?_, by simp; omega⟩, by simpa using hl⟩
    · rcases Nat.eq_zero_or_pos len0 with h0 | h0
      · subst h0; exact .inl rfl
      · right
        obtain ⟨b, off, rfl⟩ := ha h0
        refine ⟨b, off, rfl, fun j hj => ?_⟩
        have hj' : j < len0 := by simpa using hj
        obtain ⟨e0, e1, e2, e3, e4⟩ := (hP j hj').1
        rw [add_off] at e0 e1 e2 e3 e4
        simp only [List.getElem_map, List.getElem_range]
        exact ⟨e0, by rw [Nat.add_assoc]; exact e1, by rw [Nat.add_assoc]; exact e2, by rw [Nat.add_assoc]; exact e3, by rw [Nat.add_assoc]; exact e4⟩
    · intro p hp
      simp at hp
      obtain ⟨j, hj, rfl⟩ := hp
      exact (hP j hj).2
end Go.Proofs.YtlpaghkofljnfaaDoor

namespace Go.Proofs.YtlpaghkofljnfaaDoor
open Go.RowKit

def mkP (l : List (List Int)) : List Part := l.map fun bs => ⟨none, 0, bs⟩
set_option maxRecDepth 100000 in
theorem mkP_same (l : List Part) (bs : List (List Int)) (h : l.map (·.bs) = bs) : Same l (mkP bs) := by
  show l.map (·.bs) = (mkP bs).map (·.bs)
  rw [h, mkP, List.map_map]
  simp [Function.comp_def]
/-- The digest of a raw header. -/
def rDig (r : Rw) : List Int := hDig (pk r.a 4) (1 + pk r.b 9) (mkP (hBats r.c)) (mkP (hPars r.a r.b r.c))
set_option maxRecDepth 100000 in
theorem rDig_length (r : Rw) : (rDig r).length = 32 := hDig_length _ _ _ _
def slotR (r : Rw) : SV := (pk r.a 4, 1 + pk r.b 9, rDig r)
set_option maxRecDepth 100000 in
theorem hDig_raw (r : Rw) (bl pl : List Part) (hb : bl.map (·.bs) = hBats r.c) (hp : pl.map (·.bs) = hPars r.a r.b r.c) : hDig (pk r.a 4) (1 + pk r.b 9) bl pl = rDig r := by
  rw [rDig, hDig, hDig, headB_sameH (mkP_same bl _ hb) (mkP_same pl _ hp)]
def rwAt (rs : List Rw) (k : Nat) : Rw := rs.getD k ⟨0, 0, 0, 0, none, 0, 0⟩
set_option maxRecDepth 100000 in
theorem rwAt_get (rs : List Rw) (k : Nat) (h : k < rs.length) : rwAt rs k = rs[k] := by simp [rwAt, h]
def stepT (l : List SV) (s : SV) : List SV := if (castF l s).2 = 0 then (castF l s).1 else l
def tabTo (rs : List Rw) : Nat → List SV
  | 0 => []
  | k + 1 => stepT (tabTo rs k) (slotR (rwAt rs k))
def tabR (rs : List Rw) : List SV := tabTo rs (min rs.length 30)
set_option maxRecDepth 100000 in
theorem castF_vals (l : List SV) (s : SV) : (castF l s = (l, 0) ∧ ∃ m, findTo l s.1 s.2.1 l.length = some m) ∨ castF l s = ([], 7) ∨ castF l s = ([], 6) ∨ (castF l s = (l ++ [s], 0) ∧ findTo l s.1 s.2.1 l.length = none ∧ l.length < 400) := by
  cases h : findTo l s.1 s.2.1 l.length with
  | none =>
    by_cases hl : 400 ≤ l.length
    · exact .inr (.inr (.inl (castF_full h hl)))
    · exact .inr (.inr (.inr ⟨castF_new h hl, rfl, by omega⟩))
  | some m =>
    by_cases he : txL (svAt l m).2.2 = txL s.2.2
    · exact .inl ⟨castF_same h he, m, rfl⟩
    · exact .inr (.inl (castF_twice h he))
set_option maxRecDepth 100000 in
theorem stepT_or (l : List SV) (s : SV) : stepT l s = l ∨ (stepT l s = l ++ [s] ∧ findTo l s.1 s.2.1 l.length = none ∧ l.length < 400) := by
  rcases castF_vals l s with ⟨h, _⟩ | h | h | ⟨h, h2, h3⟩
  · left; rw [stepT, h]; simp
  · left; rw [stepT, h]; simp
  · left; rw [stepT, h]; simp
  · right; refine ⟨?_, h2, h3⟩; rw [stepT, h]; simp
set_option maxRecDepth 100000 in
theorem findTo_no {l : List SV} {au rd : Int} {k : Nat} (h : findTo l au rd k = none) : ∀ j, j < k → hit l au rd j = false := by
  induction k with
  | zero => intro j hj; omega
  | succ k ih =>
    rw [findTo] at h
    cases h1 : findTo l au rd k with
    | some m => rw [h1] at h; cases h
    | none =>
      rw [h1] at h
      intro j hj
      rcases Nat.lt_or_ge j k with g | g
      · exact ih h1 j g
      · obtain rfl : j = k := by omega
        cases h2 : hit l au rd j with
        | false => rfl
        | true => rw [h2] at h; simp at h
set_option maxRecDepth 100000 in
theorem svAt_append (l m : List SV) (k : Nat) (h : k < l.length) : svAt (l ++ m) k = svAt l k := by simp [svAt, List.getD, List.getElem?_append_left h]
set_option maxRecDepth 100000 in
theorem hit_append (l m : List SV) (au rd : Int) (k : Nat) (h : k < l.length) : hit (l ++ m) au rd k = hit l au rd k := by rw [hit, hit, svAt_append l m k h]
set_option maxRecDepth 100000 in
theorem anyHit_append (l m : List SV) (au rd : Int) (k : Nat) (h : k ≤ l.length) : anyHit (l ++ m) au rd k = anyHit l au rd k := by
  unfold anyHit
  have : ∀ (xs : List Nat), (∀ x ∈ xs, x < k) → xs.any (hit (l ++ m) au rd) = xs.any (hit l au rd) := by
    intro xs
    induction xs with
    | nil => intro _; rfl
    | cons x xs ih =>
      intro hx
      have hxk := hx x (List.mem_cons_self ..)
      rw [List.any_cons, List.any_cons, hit_append l m au rd x (by omega), ih (fun y hy => hx y (List.mem_cons_of_mem _ hy))]
  exact this _ (fun x hx => List.mem_range.1 hx)
set_option maxRecDepth 100000 in
theorem badAt_append (l m : List SV) (k : Nat) (h : k < l.length) : badAt (l ++ m) k = badAt l k := by
  rw [badAt, badAt, svAt_append l m k h, anyHit_append l m _ _ k (by omega)]
set_option maxRecDepth 100000 in
theorem tabF_snoc {l : List SV} {s : SV} (h : tabF l = 0) (hl : l.length < 400) (hs : slotF s.1 s.2.1 s.2.2.length = 0) (hn : findTo l s.1 s.2.1 l.length = none) : tabF (l ++ [s]) = 0 := by
  refine tabF_ok _ (by simp; omega) fun k hk => ?_
  rcases Nat.lt_or_ge k l.length with g | g
  · rw [badAt_append l [s] k g]; exact (tabF_zero h).2 k g
  · obtain rfl : k = l.length := by simp at hk; omega
    have e : svAt (l ++ [s]) l.length = s := by simp [svAt, List.getD]
    rw [badAt, e, hs, anyHit_append l [s] _ _ _ (Nat.le_refl _)]
    have : anyHit l s.1 s.2.1 l.length = false := by
      simp only [anyHit, List.any_eq_false]
      intro j hj
      rw [findTo_no hn j (by simpa using hj)]; simp
    rw [this]; rfl
set_option maxRecDepth 100000 in
theorem slotR_ok (r : Rw) : slotF (slotR r).1 (slotR r).2.1 (slotR r).2.2.length = 0 := by
  obtain ⟨a0, a1⟩ := pk_bounds r.a 4 (by decide)
  obtain ⟨b0, b1⟩ := pk_bounds r.b 9 (by decide)
  show slotF (pk r.a 4) (1 + pk r.b 9) (rDig r).length = 0
  rw [rDig_length, slotF, if_neg (by omega), if_neg (by decide)]
set_option maxRecDepth 100000 in
theorem tabF_nil : tabF [] = 0 := by decide
/-- A table is one, of so many slots, each of a header's. -/
structure TabOk (rs : List Rw) (k : Nat) (l : List SV) : Prop where
  ok : tabF l = 0
  le : l.length ≤ k
  from_ : ∀ s ∈ l, ∃ j, j < k ∧ s = slotR (rwAt rs j)
set_option maxRecDepth 100000 in
theorem tabTo_ok (rs : List Rw) (k : Nat) : TabOk rs k (tabTo rs k) := by
  induction k with
  | zero => exact ⟨tabF_nil, Nat.le_refl _, fun s hs => by cases hs⟩
  | succ k ih =>
    rw [tabTo]
    rcases stepT_or (tabTo rs k) (slotR (rwAt rs k)) with h | ⟨h, h2, h3⟩
    · rw [h]; exact ⟨ih.ok, by have := ih.le; omega, fun s hs => by obtain ⟨j, hj, e⟩ := ih.from_ s hs; exact ⟨j, by omega, e⟩⟩
    · rw [h]
      refine ⟨tabF_snoc ih.ok h3 (slotR_ok _) h2, by have := ih.le; simp; omega, fun s hs => ?_⟩
      rcases List.mem_append.1 hs with g | g
      · obtain ⟨j, hj, e⟩ := ih.from_ s g; exact ⟨j, by omega, e⟩
      · exact ⟨k, by omega, by simpa using g⟩
set_option maxRecDepth 100000 in
/-- A cast for a raw header. -/
theorem castAll_raw {l : List SV} (r : Rw) (bl pl : List Part) (h : tabF l = 0) (hb : bl.map (·.bs) = hBats r.c) (hp : pl.map (·.bs) = hPars r.a r.b r.c) :
    castAll l (pk r.a 4) (1 + pk r.b 9) bl pl = if (castF l (slotR r)).2 ≠ 0 then ([], (0, 0, []), (castF l (slotR r)).2) else ((castF l (slotR r)).1, slotR r, 0) := by
  rw [castAll, if_neg (by rw [h]; decide), if_neg (by rw [headerF_raw r.a r.b r.c bl pl hb hp]; decide), hDig_raw r bl pl hb hp]
  rfl
end Go.Proofs.YtlpaghkofljnfaaDoor

namespace Go.Proofs.YtlpaghkofljnfaaDoor
open Go.RowKit

/-- P4.2 -/
def VotedIs (l : List SV) (au rd : Int) (e : Int) (bs : List Int) : Prop :=
  (tabF l = 12 ∧ e = 12 ∧ bs = []) ∨ (tabF l = 0 ∧ (∀ j, j < l.length → hit l au rd j = false) ∧ e = 8 ∧ bs = []) ∨ ∃ m : Nat, tabF l = 0 ∧ m < l.length ∧ hit l au rd m = true ∧ (∀ j, j < m → hit l au rd j = false) ∧ e = 0 ∧ bs = (svAt l m).2.2
set_option maxRecDepth 100000 in
theorem voted_bad {l : List SV} {au rd e : Int} {bs : List Int} (h : tabF l = 12) (he : e = 12) (hb : bs = []) : VotedIs l au rd e bs := .inl ⟨h, he, hb⟩
set_option maxRecDepth 100000 in
theorem voted_not {l : List SV} {au rd e : Int} {bs : List Int} (h : tabF l = 0) (hn : ∀ j, j < l.length → hit l au rd j = false) (he : e = 8) (hb : bs = []) : VotedIs l au rd e bs := .inr (.inl ⟨h, hn, he, hb⟩)
set_option maxRecDepth 100000 in
theorem voted_was {l : List SV} {au rd e : Int} {bs : List Int} (h : tabF l = 0) (m : Nat) (hm : m < l.length) (h1 : hit l au rd m = true) (h2 : ∀ j, j < m → hit l au rd j = false) (he : e = 0) (hb : bs = (svAt l m).2.2) : VotedIs l au rd e bs := .inr (.inr ⟨m, h, hm, h1, h2, he, hb⟩)
set_option maxRecDepth 100000 in
theorem VotedIs.one {l : List SV} {au rd e f : Int} {bs cs : List Int} (h : VotedIs l au rd e bs) (g : VotedIs l au rd f cs) : e = f ∧ bs = cs := by
  rcases h with ⟨h, he, hb⟩ | ⟨h, hn, he, hb⟩ | ⟨m, h, hm, h1, h2, he, hb⟩
  · rcases g with ⟨g, ge, gb⟩ | ⟨g, _, _, _⟩ | ⟨m, g, _, _, _, _, _⟩
    · exact ⟨by rw [he, ge], by rw [hb, gb]⟩
    · rw [h] at g; cases g
    · rw [h] at g; cases g
  · rcases g with ⟨g, ge, gb⟩ | ⟨g, _, ge, gb⟩ | ⟨m, g, hm, h1, _, _, _⟩
    · rw [h] at g; cases g
    · exact ⟨by rw [he, ge], by rw [hb, gb]⟩
    · rw [hn m hm] at h1; cases h1
  · rcases g with ⟨g, ge, gb⟩ | ⟨g, hn, _, _⟩ | ⟨n, g, gn, g1, g2, ge, gb⟩
    · rw [h] at g; cases g
    · rw [hn m hm] at h1; cases h1
    · obtain rfl : m = n := by
        rcases Nat.lt_trichotomy m n with q | q | q
        · rw [g2 m q] at h1; cases h1
        · exact q
        · rw [h2 n q] at g1; cases g1
      exact ⟨by rw [he, ge], by rw [hb, gb]⟩
set_option maxRecDepth 100000 in
theorem tab_len32 {l : List SV} (h : tabF l = 0) (m : Nat) (hm : m < l.length) : (svAt l m).2.2.length = 32 := by
  have hb := (tabF_zero h).2 m hm
  simp only [badAt, Bool.or_eq_false_iff] at hb
  have h1 := hb.1
  simp only [ne_eq, decide_eq_false_iff_not, Decidable.not_not] at h1
  unfold slotF at h1
  split at h1
  · cases h1
  · split at h1
    · cases h1
    · rename_i g; omega
set_option maxRecDepth 100000 in
set_option maxHeartbeats 1000000 in
theorem voted_any (ls : List Sl) (sa : Option Addr) (n cap : Nat) (au rd : Int) (w : World) (hn : n = ls.length) (ht : TabAt w sa cap ls) :
    Calls Tryd.prog 9 #[.slice sa n cap, .int .i64 au, .int .i64 rd] w fun e w' => ∃ ra rc bs er, e = .returned (.tuple #[.slice ra (List.length bs) rc, .int .i64 er]) ∧ VotedIs (vs ls) au rd er bs ∧ SliceAt w' ra rc bs ∧ (∀ sb so, ra = some ⟨sb, so, none⟩ → w.heap.size ≤ sb ∧ sb < w'.heap.size) ∧ Below w.heap.size w w' := by
  subst hn
  have hle := ht.le
  have hmx := ht.max
  rcases tabF_or (vs ls) with h0 | h0
  · go_enter Tryd.func9, Tryd.ntmps9
    go_wp2_with fail
    refine (checkTab_any ls sa _ cap w rfl ht).mono ?_
    rintro e w1 ⟨he, hb1⟩
    rw [h0] at he
    subst he
    dsimp only
    go_wp2_with fail
    refine (find_any ls sa _ cap au rd w1 (Nat.le_refl _) ht.small (ht.slots.below hb1)).mono ?_
    rintro e w2 ⟨r, he, hF, hb2⟩
    subst he
    dsimp only
    have hB2 := hb1.trans (hb2.mono hb1.size)
    rcases hF with ⟨m, hm, rfl, h1, h2⟩ | ⟨rfl, h2⟩
    · have hpw := ht.slots.below hB2
      obtain ⟨sb, so, rfl, hc⟩ : ∃ sb so, sa = some ⟨sb, so, none⟩ ∧ ∀ j (h : j < ls.length), w2.cell? ⟨sb, so + j * 3, none⟩ = some (.int .i64 (ls[j]).au) ∧ w2.cell? ⟨sb, so + j * 3 + 1, none⟩ = some (.int .i64 (ls[j]).rd) ∧ w2.cell? ⟨sb, so + j * 3 + 2, none⟩ = some (.slice (ls[j]).p.sa (ls[j]).p.bs.length (ls[j]).p.cap) := by
        rcases hpw.cells with h | h
        · rw [h] at hm; simp at hm
        · exact h
      obtain ⟨c0, c1, c2⟩ := hc m hm
      have hx := hpw.each (ls[m]) (List.getElem_mem hm)
      have h32 := tab_len32 h0 m (by rw [vs_length]; exact hm)
      have hV : Hid (VotedIs (vs ls) au rd 0 (ls[m]).p.bs) := by
        show VotedIs _ _ _ _ _
        exact voted_was h0 m (by rw [vs_length]; exact hm) h1 h2 rfl (by rw [svAt_get ls m hm]; rfl)
      rw [svAt_get ls m hm] at h32
      have h32' : (ls[m]).p.bs.length ≤ 140737488355328 := by
        have : (ls[m]).p.bs.length = 32 := h32
        omega
      have hltI : (m : Int) < ls.length := by omega
      clear hc h1 h2 h32 hpw
      generalize ls[m] = s at *
      go_wp2_with fail
      refine (clone_any s.p.bs s.p.sa _ s.p.cap w2 rfl hx h32').mono ?_
      rintro e w3 ⟨ra, rc, he, hs3, hrow, hb3⟩
      subst he
      dsimp only
      go_wp2_with fail
      go_ret2
      exact ⟨ra, rc, s.p.bs, 0, rfl, hV.out, hs3, (fun sb so e => by have := hrow sb so e; have := hB2.size; omega), hB2.trans (hb3.mono hB2.size)⟩
    · have hV : Hid (VotedIs (vs ls) au rd 8 []) := by
        show VotedIs _ _ _ _ _
        exact voted_not h0 (fun j hj => h2 j (by rw [vs_length] at hj; exact hj)) rfl rfl
      clear h2
      go_wp2_with fail
      go_ret2
      exact ⟨none, 0, [], 8, rfl, hV.out, nilSlice _, (fun _ _ e => by cases e), hB2⟩
  · go_enter Tryd.func9, Tryd.ntmps9
    go_wp2_with fail
    refine (checkTab_any ls sa _ cap w rfl ht).mono ?_
    rintro e w1 ⟨he, hb1⟩
    rw [h0] at he
    subst he
    dsimp only
    go_wp2_with fail
    go_ret2
    exact ⟨none, 0, [], 12, rfl, voted_bad h0 rfl rfl, nilSlice _, (fun _ _ e => by cases e), hb1⟩
end Go.Proofs.YtlpaghkofljnfaaDoor
