/- Lists of signs that are read, and what P3.1 says of them. -/
import Derived.Test.YtmpflkggbekpfaaDoorLAt
import Derived.Test.YtmpflkggbekpfaaDoorCSlot
import Derived.Test.YtmpflkggbekpfaaDoorOpenB
import Derived.Test.YtmpflkggbekpfaaDoorTxL
import Derived.Test.YtmpflkggbekpfaaDoorBstr
namespace Go.Proofs.YtmpflkggbekpfaaDoor
open Go.RowKit

/-- A sign: its node, its slot's author, round and digest. -/
structure Sg where
  nd : Int
  au : Int
  rd : Int
  p : Part
/-- What counts of a sign. -/
abbrev GV := Int × Int × Int × List Int
def Sg.v (s : Sg) : GV := (s.nd, s.au, s.rd, s.p.bs)
def gvs (ls : List Sg) : List GV := ls.map Sg.v
set_option maxRecDepth 100000 in
theorem gvs_length (ls : List Sg) : (gvs ls).length = ls.length := by simp [gvs]
/-- P3.1, of one sign -/
def signF (nd au rd : Int) (n : Nat) : Int := if ¬ (0 ≤ nd ∧ nd < 4) then 2 else slotF au rd n
def gF (g : GV) : Int := signF g.1 g.2.1 g.2.2.1 g.2.2.2.length
/-- P3.1 -/
def signsF (l : List GV) : Int := if (∀ g ∈ l, gF g = 0) ∧ l.Nodup then 0 else 12
set_option maxRecDepth 100000 in
theorem signsF_or (l : List GV) : signsF l = 0 ∨ signsF l = 12 := by
  rw [signsF]; split
  · exact .inl rfl
  · exact .inr rfl
set_option maxRecDepth 100000 in
theorem signsF_zero {l : List GV} (h : signsF l = 0) : (∀ g ∈ l, gF g = 0) ∧ l.Nodup := by
  rw [signsF] at h
  split at h
  · assumption
  · cases h
set_option maxRecDepth 100000 in
theorem signsF_ok {l : List GV} (h : (∀ g ∈ l, gF g = 0) ∧ l.Nodup) : signsF l = 0 := by rw [signsF, if_pos h]
set_option maxRecDepth 100000 in
theorem signsF_bad {l : List GV} (g : GV) (hg : g ∈ l) (h : gF g ≠ 0) : signsF l = 12 := by
  rw [signsF, if_neg]; intro k; exact h (k.1 g hg)
set_option maxRecDepth 100000 in
theorem signsF_twice {l : List GV} (h : ¬ l.Nodup) : signsF l = 12 := by
  rw [signsF, if_neg]; intro k; exact h k.2
set_option maxRecDepth 100000 in
theorem slotF_or (au rd : Int) (n : Nat) : slotF au rd n = 0 ∨ slotF au rd n = 2 ∨ slotF au rd n = 4 := by
  unfold slotF; split
  · exact .inr (.inl rfl)
  · split
    · exact .inr (.inr rfl)
    · exact .inl rfl
set_option maxRecDepth 100000 in
theorem gF_or (g : GV) : gF g = 0 ∨ gF g = 2 ∨ gF g = 4 := by
  unfold gF signF; split
  · exact .inr (.inl rfl)
  · exact slotF_or _ _ _

/-- The signs of a slice of signs. -/
structure SignsAt (w : World) (sa : Option Addr) (ls : List Sg) : Prop where
  cells : ls = [] ∨ ∃ sb so, sa = some ⟨sb, so, none⟩ ∧ ∀ j (h : j < ls.length), w.cell? ⟨sb, so + j * 4, none⟩ = some (.int .i64 (ls[j]).nd) ∧ w.cell? ⟨sb, so + j * 4 + 1, none⟩ = some (.int .i64 (ls[j]).au) ∧ w.cell? ⟨sb, so + j * 4 + 2, none⟩ = some (.int .i64 (ls[j]).rd) ∧ w.cell? ⟨sb, so + j * 4 + 3, none⟩ = some (.slice (ls[j]).p.sa (ls[j]).p.bs.length (ls[j]).p.cap)
  each : ∀ s ∈ ls, SliceAt w s.p.sa s.p.cap s.p.bs ∧ AllU8 s.p.bs
set_option maxRecDepth 100000 in
theorem SignsAt.below {w w' : World} {sa : Option Addr} {ls : List Sg} (h : SignsAt w sa ls) (hb : Below w.heap.size w w') : SignsAt w' sa ls := by
  refine ⟨?_, fun p hp => ⟨(h.each p hp).1.below hb, (h.each p hp).2⟩⟩
  rcases h.cells with h | ⟨sb, so, rfl, hc⟩
  · exact .inl h
  · refine .inr ⟨sb, so, rfl, fun j hj => ?_⟩
    obtain ⟨h0, h1, h2, h3⟩ := hc j hj
    exact ⟨(hb.cell (p := ⟨sb, so + j * 4, none⟩) (block_lt_of_cell h0)).trans h0, (hb.cell (p := ⟨sb, so + j * 4 + 1, none⟩) (block_lt_of_cell h1)).trans h1, (hb.cell (p := ⟨sb, so + j * 4 + 2, none⟩) (block_lt_of_cell h2)).trans h2, (hb.cell (p := ⟨sb, so + j * 4 + 3, none⟩) (block_lt_of_cell h3)).trans h3⟩
/-- A slice of signs that is read. -/
structure GTab (w : World) (sa : Option Addr) (cap : Nat) (ls : List Sg) : Prop where
  le : ls.length ≤ cap
  max : cap ≤ 9223372036854775807
  small : ls.length ≤ 2932031007400
  some : cap = 0 ∨ ∃ sb so, sa = some ⟨sb, so, none⟩
  slots : SignsAt w sa ls
set_option maxRecDepth 100000 in
theorem GTab.below {w w' : World} {sa : Option Addr} {cap : Nat} {ls : List Sg} (h : GTab w sa cap ls) (hb : Below w.heap.size w w') : GTab w' sa cap ls := ⟨h.le, h.max, h.small, h.some, h.slots.below hb⟩
/-- What is read of signs that came in. -/
structure GRead (w : World) (sa : Option Addr) (cap : Nat) (ls : List Sg) : Prop where
  tab : GTab w sa cap ls
  reach : ls.length ≤ 2932031007317
  each : ∀ s ∈ ls, s.p.bs.length ≤ 140737488355328
set_option maxRecDepth 100000 in
theorem GRead.below {w w' : World} {sa : Option Addr} {cap : Nat} {ls : List Sg} (h : GRead w sa cap ls) (hb : Below w.heap.size w w') : GRead w' sa cap ls := ⟨h.tab.below hb, h.reach, h.each⟩
set_option maxRecDepth 100000 in
theorem txL_eq {xs ys : List Int} (hx : AllU8 xs) (hy : AllU8 ys) : txL xs = txL ys ↔ xs = ys := ⟨fun h => bstr_inj hx hy (ba_ext h), fun h => by rw [h]⟩
set_option maxRecDepth 100000 in
theorem mem_take_succ {α : Type} {l : List α} {x : α} {k : Nat} (hk : k < l.length) : x ∈ l.take (k + 1) ↔ x ∈ l.take k ∨ x = l[k] := by
  rw [List.take_succ_eq_append_getElem hk, List.mem_append, List.mem_singleton]
set_option maxRecDepth 100000 in
theorem gvs_get (ls : List Sg) (k : Nat) (h : k < (gvs ls).length) : (gvs ls)[k] = (ls[k]'(by rw [gvs_length] at h; exact h)).v := by simp [gvs]
end Go.Proofs.YtmpflkggbekpfaaDoor
