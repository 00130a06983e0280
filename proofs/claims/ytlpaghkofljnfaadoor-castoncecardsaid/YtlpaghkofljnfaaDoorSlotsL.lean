/- Lists of slots that are read, and what P4.1 says of them. -/
import Derived.Test.YtlpaghkofljnfaaDoorLAt
import Derived.Test.YtlpaghkofljnfaaDoorCSlot
namespace Go.Proofs.YtlpaghkofljnfaaDoor
open Go.RowKit

/-- A slot: its author, its round, its digest. -/
structure Sl where
  au : Int
  rd : Int
  p : Part
/-- What counts of a slot. -/
abbrev SV := Int × Int × List Int
def Sl.v (s : Sl) : SV := (s.au, s.rd, s.p.bs)
def vs (ls : List Sl) : List SV := ls.map Sl.v
set_option maxRecDepth 100000 in
theorem vs_length (ls : List Sl) : (vs ls).length = ls.length := by simp [vs]
def svAt (l : List SV) (k : Nat) : SV := l.getD k (0, 0, [])
set_option maxRecDepth 100000 in
theorem svAt_get (ls : List Sl) (k : Nat) (h : k < ls.length) : svAt (vs ls) k = (ls[k]).v := by simp [svAt, vs, h]
/-- Is the j'th one of that author and round? -/
def hit (l : List SV) (au rd : Int) (j : Nat) : Bool := decide ((svAt l j).1 = au ∧ (svAt l j).2.1 = rd)
set_option maxRecDepth 100000 in
theorem hit_get (ls : List Sl) (au rd : Int) (k : Nat) (h : k < ls.length) : hit (vs ls) au rd k = decide ((ls[k]).au = au ∧ (ls[k]).rd = rd) := by rw [hit, svAt_get ls k h]; rfl
/-- The first place of the first k that is of that author and round; -1: there is none. -/
def First (l : List SV) (au rd : Int) (k : Nat) (r : Int) : Prop := (∃ m : Nat, m < k ∧ r = m ∧ hit l au rd m = true ∧ ∀ j, j < m → hit l au rd j = false) ∨ (r = -1 ∧ ∀ j, j < k → hit l au rd j = false)
set_option maxRecDepth 100000 in
theorem First.one {l : List SV} {au rd : Int} {k : Nat} {r s : Int} (h : First l au rd k r) (g : First l au rd k s) : r = s := by
  rcases h with ⟨m, hm, rfl, h1, h2⟩ | ⟨rfl, h2⟩ <;> rcases g with ⟨n, hn, rfl, g1, g2⟩ | ⟨rfl, g2⟩
  · rcases Nat.lt_trichotomy m n with q | q | q
    · rw [g2 m q] at h1; cases h1
    · rw [q]
    · rw [h2 n q] at g1; cases g1
  · rw [g2 m hm] at h1; cases h1
  · rw [h2 n hn] at g1; cases g1
  · rfl
def anyHit (l : List SV) (au rd : Int) (k : Nat) : Bool := (List.range k).any (hit l au rd)
set_option maxRecDepth 100000 in
theorem First.neg {l : List SV} {au rd : Int} {k : Nat} {r : Int} (h : First l au rd k r) : (anyHit l au rd k = true ∧ 0 ≤ r) ∨ (anyHit l au rd k = false ∧ r = -1) := by
  rcases h with ⟨m, hm, rfl, h1, _⟩ | ⟨rfl, h2⟩
  · refine .inl ⟨?_, by omega⟩
    simp only [anyHit, List.any_eq_true]
    exact ⟨m, by simpa using hm, h1⟩
  · refine .inr ⟨?_, rfl⟩
    simp only [anyHit, List.any_eq_false]
    intro j hj
    rw [h2 j (by simpa using hj)]; simp
set_option maxRecDepth 100000 in
theorem slotF_vals (au rd : Int) (n : Nat) (h : ¬ slotF au rd n = 0) : slotF au rd n = 2 ∨ slotF au rd n = 4 := by
  unfold slotF at *
  split
  · exact .inl rfl
  · rename_i g
    rw [if_neg g] at h
    split
    · exact .inr rfl
    · rename_i g2
      rw [if_neg g2] at h
      exact absurd rfl h
/-- What may not be at the k'th place. -/
def badAt (l : List SV) (k : Nat) : Bool := decide (slotF (svAt l k).1 (svAt l k).2.1 (svAt l k).2.2.length ≠ 0) || anyHit l (svAt l k).1 (svAt l k).2.1 k
/-- P4.1 -/
def tabF (l : List SV) : Int := if 400 < l.length ∨ (List.range l.length).any (badAt l) = true then 12 else 0
set_option maxRecDepth 100000 in
theorem tabF_long (l : List SV) (h : 400 < l.length) : tabF l = 12 := by simp [tabF, h]
set_option maxRecDepth 100000 in
theorem tabF_bad (l : List SV) (k : Nat) (hk : k < l.length) (h : badAt l k = true) : tabF l = 12 := by
  rw [tabF, if_pos]
  right
  simp only [List.any_eq_true]
  exact ⟨k, by simpa using hk, h⟩
set_option maxRecDepth 100000 in
theorem tabF_ok (l : List SV) (hl : l.length ≤ 400) (h : ∀ k, k < l.length → badAt l k = false) : tabF l = 0 := by
  rw [tabF, if_neg]
  rintro (g | g)
  · omega
  · simp only [List.any_eq_true] at g
    obtain ⟨k, hk, e⟩ := g
    rw [h k (by simpa using hk)] at e
    cases e
set_option maxRecDepth 100000 in
theorem tabF_zero {l : List SV} (h : tabF l = 0) : l.length ≤ 400 ∧ ∀ k, k < l.length → badAt l k = false := by
  rw [tabF] at h
  split at h
  · cases h
  · rename_i g
    refine ⟨by omega, fun k hk => ?_⟩
    cases e : badAt l k with
    | false => rfl
    | true => exact absurd (.inr (List.any_eq_true.2 ⟨k, by simpa using hk, e⟩)) g
set_option maxRecDepth 100000 in
theorem tabF_or (l : List SV) : tabF l = 0 ∨ tabF l = 12 := by
  rw [tabF]; split
  · exact .inr rfl
  · exact .inl rfl

/-- The slots of a slice of slots. -/
structure SlotsAt (w : World) (sa : Option Addr) (ls : List Sl) : Prop where
  cells : ls = [] ∨ ∃ sb so, sa = some ⟨sb, so, none⟩ ∧ ∀ j (h : j < ls.length), w.cell? ⟨sb, so + j * 3, none⟩ = some (.int .i64 (ls[j]).au) ∧ w.cell? ⟨sb, so + j * 3 + 1, none⟩ = some (.int .i64 (ls[j]).rd) ∧ w.cell? ⟨sb, so + j * 3 + 2, none⟩ = some (.slice (ls[j]).p.sa (ls[j]).p.bs.length (ls[j]).p.cap)
  each : ∀ s ∈ ls, SliceAt w s.p.sa s.p.cap s.p.bs
set_option maxRecDepth 100000 in
theorem SlotsAt.below {w w' : World} {sa : Option Addr} {ls : List Sl} (h : SlotsAt w sa ls) (hb : Below w.heap.size w w') : SlotsAt w' sa ls := by
  refine ⟨?_, fun p hp => (h.each p hp).below hb⟩
  rcases h.cells with h | ⟨sb, so, rfl, hc⟩
  · exact .inl h
  · refine .inr ⟨sb, so, rfl, fun j hj => ?_⟩
    obtain ⟨h0, h1, h2⟩ := hc j hj
    exact ⟨(hb.cell (p := ⟨sb, so + j * 3, none⟩) (block_lt_of_cell h0)).trans h0, (hb.cell (p := ⟨sb, so + j * 3 + 1, none⟩) (block_lt_of_cell h1)).trans h1, (hb.cell (p := ⟨sb, so + j * 3 + 2, none⟩) (block_lt_of_cell h2)).trans h2⟩
/-- A slice of slots that is read. -/
structure TabAt (w : World) (sa : Option Addr) (cap : Nat) (ls : List Sl) : Prop where
  le : ls.length ≤ cap
  max : cap ≤ 9223372036854775807
  small : ls.length ≤ 3000000000000000000
  some : cap = 0 ∨ ∃ sb so, sa = some ⟨sb, so, none⟩
  slots : SlotsAt w sa ls
set_option maxRecDepth 100000 in
theorem TabAt.below {w w' : World} {sa : Option Addr} {cap : Nat} {ls : List Sl} (h : TabAt w sa cap ls) (hb : Below w.heap.size w w') : TabAt w' sa cap ls := ⟨h.le, h.max, h.small, h.some, h.slots.below hb⟩
/-- What is read of a table that came in. -/
structure TableAt (w : World) (sa : Option Addr) (cap : Nat) (ls : List Sl) : Prop where
  tab : TabAt w sa cap ls
  reach : ls.length * 40 ≤ 140737488355328
  each : ∀ s ∈ ls, s.p.bs.length ≤ 140737488355328
set_option maxRecDepth 100000 in
theorem TableAt.below {w w' : World} {sa : Option Addr} {cap : Nat} {ls : List Sl} (h : TableAt w sa cap ls) (hb : Below w.heap.size w w') : TableAt w' sa cap ls := ⟨h.tab.below hb, h.reach, h.each⟩
end Go.Proofs.YtlpaghkofljnfaaDoor
