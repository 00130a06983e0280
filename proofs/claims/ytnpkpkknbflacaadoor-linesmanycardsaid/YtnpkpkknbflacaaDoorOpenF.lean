/- Raw acts that are read; the argument that is one, and the one that is a list of them. -/
import Derived.Test.YtnpkpkknbflacaaDoorOpenB
import Derived.Deep.Strs
import Derived.Deep.Slices
namespace Go.Proofs.YtnpkpkknbflacaaDoor
open Go.ChangeShapes Go.WideShapes Go.ChangeAt Go.RowKit Go.Deep

/-- A raw act. -/
structure Ft where
  k : Int
  a : Int
  b : Int
  t : ByteArray
structure FtsAt (w : World) (sa : Option Addr) (rs : List Ft) : Prop where
  cells : rs = [] ∨ ∃ sb so, sa = some ⟨sb, so, none⟩ ∧ ∀ j (h : j < rs.length), w.cell? ⟨sb, so + j * 4, none⟩ = some (.int .i64 (rs[j]).k) ∧ w.cell? ⟨sb, so + j * 4 + 1, none⟩ = some (.int .i64 (rs[j]).a) ∧ w.cell? ⟨sb, so + j * 4 + 2, none⟩ = some (.int .i64 (rs[j]).b) ∧ w.cell? ⟨sb, so + j * 4 + 3, none⟩ = some (.string (rs[j]).t)
  each : ∀ r ∈ rs, I64 r.k ∧ I64 r.a ∧ I64 r.b ∧ r.t.size ≤ maxLen
  small : rs.length ≤ 3000000000000000000
set_option maxRecDepth 100000 in
theorem FtsAt.below {w w' : World} {sa : Option Addr} {rs : List Ft} (h : FtsAt w sa rs) (hb : Below w.heap.size w w') : FtsAt w' sa rs := by
  refine ⟨?_, h.each, h.small⟩
  rcases h.cells with h | ⟨sb, so, rfl, hc⟩
  · exact .inl h
  · refine .inr ⟨sb, so, rfl, fun j hj => ?_⟩
    obtain ⟨h0, h1, h2, h3⟩ := hc j hj
    have hlt : sb < w.heap.size := block_lt_of_cell h0
    exact ⟨(hb.cell (p := ⟨sb, so + j * 4, none⟩) hlt).trans h0, (hb.cell (p := ⟨sb, so + j * 4 + 1, none⟩) hlt).trans h1, (hb.cell (p := ⟨sb, so + j * 4 + 2, none⟩) hlt).trans h2, (hb.cell (p := ⟨sb, so + j * 4 + 3, none⟩) hlt).trans h3⟩
set_option maxRecDepth 100000 in
theorem cFt : Tryd.prog.cellsOf 33 = 4 := by kernel_rfl
set_option maxRecDepth 100000 in
theorem cIntF : Tryd.prog.cellsOf 3 = 1 := by kernel_rfl
set_option maxRecDepth 100000 in
theorem cStrF : Tryd.prog.cellsOf 9 = 1 := by kernel_rfl
set_option maxRecDepth 100000 in
theorem open_feat_cells {H : Type} {enc : TypeId × Value → H} {W : World} {fuel : Nat} {cs : List Value} {x : DataW H × List MemPlace}
    (hf : DataW.trod enc Tryd.prog W 0 (fun _ => true) true fuel 33 cs = some x) :
    ∃ r : Ft, cs = [.int .i64 r.k, .int .i64 r.a, .int .i64 r.b, .string r.t] ∧ I64 r.k ∧ I64 r.a ∧ I64 r.b ∧ r.t.size ≤ maxLen := by
  obtain ⟨xs, n, _, rfl, hl, hlen, hg⟩ := DataW.trod_struct Tryd.underlying33 hf
  rw [cFt] at hl
  match xs, hlen with
  | [y0, y1, y2, y3], _ =>
  have h0 := hg 0 _ rfl
  have h1 := hg 1 _ rfl
  have h2 := hg 2 _ rfl
  have h3 := hg 3 _ rfl
  match cs, hl with
  | [c0, c1, c2, c3], _ =>
  obtain ⟨a0, e0, rfl, w0⟩ := DataW.trod_int Tryd.underlying3 h0
  obtain ⟨a1, e1, rfl, w1⟩ := DataW.trod_int Tryd.underlying3 h1
  obtain ⟨a2, e2, rfl, w2⟩ := DataW.trod_int Tryd.underlying3 h2
  obtain ⟨s, e3, rfl, w3⟩ := DataW.trod_string Tryd.underlying9 h3
  simp [cIntF, cStrF] at e0 e1 e2 e3
  subst e0 e1 e2 e3
  exact ⟨⟨a0, a1, a2, s⟩, rfl, bounds_i64 w0, bounds_i64 w1, bounds_i64 w2, w3⟩
set_option maxRecDepth 100000 in
theorem open_feat {H : Type} {enc : TypeId × Value → H} {W : World} {base : Nat} {v : Value} {d : DataW H} {p : List MemPlace}
    (hv : Value.okWide Tryd.prog W .any base 33 v) (h : DataW.Trod enc Tryd.prog W 0 (fun _ => true) true 33 v d p) (_hfit : ∀ n ∈ d.weights Tryd.prog 33, n ≤ reachBytes) :
    ∃ fk fa fb' ft, v = .agg #[.int .i64 fk, .int .i64 fa, .int .i64 fb', .string ft] ∧ I64 fk ∧ I64 fa ∧ I64 fb' ∧ ft.size ≤ maxLen := by
  obtain ⟨cs, rfl, _⟩ := okWide_struct Tryd.underlying33 hv
  obtain ⟨fuel, hf⟩ := h
  obtain ⟨r, hr, h1, h2, h3, h4⟩ := open_feat_cells hf
  obtain ⟨l⟩ := cs
  simp [Value.cells] at hr
  subst hr
  exact ⟨_, _, _, _, rfl, h1, h2, h3, h4⟩
set_option maxRecDepth 100000 in
theorem bFt : Tryd.prog.bytesOf 33 = 40 := by kernel_rfl
set_option maxRecDepth 100000 in
theorem open_feats {H : Type} {enc : TypeId × Value → H} {W : World} {base : Nat} {v : Value} {d : DataW H} {p : List MemPlace}
    (hv : Value.okWide Tryd.prog W .any base 28 v) (h : DataW.Trod enc Tryd.prog W 0 (fun _ => true) true 28 v d p) (hfit : ∀ n ∈ d.weights Tryd.prog 28, n ≤ reachBytes) :
    ∃ sa cap rs, v = .slice sa (List.length rs) cap ∧ FtsAt W sa rs ∧ rs.length ≤ cap := by
  obtain ⟨a0, len0, cap0, rfl⟩ := okWide_slice Tryd.underlying28 hv
  obtain ⟨fuel, hf⟩ := h
  rcases open_slice Tryd.underlying28 hf with ⟨he, _⟩ | ⟨a, len, cap, m, n, D, Pl, he, _, hl, hm, hmm, hd, hx⟩
  · simp [Value.cells] at he
    obtain ⟨rfl, rfl, rfl⟩ := he
    exact ⟨none, 0, [], rfl, ⟨.inl rfl, (fun p hp => by cases hp), by decide⟩, Nat.le_refl _⟩
  · simp [Value.cells] at he
    obtain ⟨rfl, rfl, rfl⟩ := he
    simp only [Prod.mk.injEq] at hd
    obtain ⟨rfl, rfl⟩ := hd
    simp only [if_true] at hmm
    subst hmm
    rw [cFt] at hx
    have hw := hfit ((((List.range len0).map D).length + ((List.range (m - len0)).map fun j => D (len0 + j)).length) * Tryd.prog.bytesOf 33) (by simp [DataW.weights, Tryd.underlying28])
    rw [bFt] at hw
    simp [reachBytes] at hw
    have each : ∀ i, i < len0 → ∃ r : Ft, (W.cell? (a.add (i * 4)) = some (.int .i64 r.k) ∧ W.cell? (a.add (i * 4 + 1)) = some (.int .i64 r.a) ∧ W.cell? (a.add (i * 4 + 2)) = some (.int .i64 r.b) ∧ W.cell? (a.add (i * 4 + 3)) = some (.string r.t)) ∧ (I64 r.k ∧ I64 r.a ∧ I64 r.b ∧ r.t.size ≤ maxLen) := fun i hi => by
      obtain ⟨cs', h1, h2⟩ := hx i (by omega)
      obtain ⟨r, rfl, ii⟩ := open_feat_cells h2
      obtain ⟨_, _, hcell⟩ := World.cells?_some h1
      have e0 := hcell 0 (by omega)
      have e1 := hcell 1 (by omega)
      have e2 := hcell 2 (by omega)
      have e3 := hcell 3 (by omega)
      rw [add_add] at e0 e1 e2 e3
      exact ⟨r, ⟨by simpa using e0, by simpa using e1, by simpa using e2, by simpa using e3⟩, ii⟩
    obtain ⟨P, hP⟩ := @choose_lt Ft ⟨⟨0, 0, 0, ByteArray.empty⟩⟩ len0 _ each
    have ha : 0 < len0 → ∃ b off, a = ⟨b, off, none⟩ := fun hi => by
      have h9 := (hP 0 hi).1.1
      cases a with
      | mk b off spot =>
        cases spot with
        | none => exact ⟨b, off, rfl⟩
        | some s => simp [World.cell?, Addr.add] at h9; split at h9 <;> cases h9
    refine ⟨some a, m, (List.range len0).map P, by simp, ⟨?_, ?_, by simp; omega⟩, by simpa using hl⟩
    · rcases Nat.eq_zero_or_pos len0 with h0 | h0
      · subst h0; exact .inl rfl
      · right
        obtain ⟨b, off, rfl⟩ := ha h0
        refine ⟨b, off, rfl, fun j hj => ?_⟩
        have hj' : j < len0 := by simpa using hj
        obtain ⟨e0, e1, e2, e3⟩ := (hP j hj').1
        rw [add_off] at e0 e1 e2 e3
        simp only [List.getElem_map, List.getElem_range]
        exact ⟨e0, by rw [Nat.add_assoc]; exact e1, by rw [Nat.add_assoc]; exact e2, by rw [Nat.add_assoc]; exact e3⟩
    · intro p hp
      simp at hp
      obtain ⟨j, hj, rfl⟩ := hp
      exact (hP j hj).2
end Go.Proofs.YtnpkpkknbflacaaDoor
