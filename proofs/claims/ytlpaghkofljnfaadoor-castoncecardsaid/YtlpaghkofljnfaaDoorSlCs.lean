/- Rows of slots: their cells; a table out of a row that is owned (out of SCopy). -/
import Derived.Test.YtlpaghkofljnfaaDoorSlotsL
import Derived.Test.YtlpaghkofljnfaaDoorOwnL
import Derived.Deep.RegionHeld3
namespace Go.Proofs.YtlpaghkofljnfaaDoor
open Go.RowKit

set_option maxRecDepth 100000 in
theorem infoSlot : (Tryd.prog.info? 39).map (fun i => (i.zero, i.size, i.bytes)) = some (some (.agg #[.int .i64 0, .int .i64 0, .slice none 0 0]), 3, 40) := by kernel_rfl
def Sl.cs (s : Sl) : List Value := [.int .i64 s.au, .int .i64 s.rd, .slice s.p.sa s.p.bs.length s.p.cap]
def sv : List Sl → List Value
  | [] => []
  | s :: r => s.cs ++ sv r
set_option maxRecDepth 100000 in
theorem sv_snoc (ls : List Sl) (s : Sl) : sv (ls ++ [s]) = sv ls ++ s.cs := by
  induction ls with
  | nil => simp [sv]
  | cons x r ih => simp [sv, ih]
set_option maxRecDepth 100000 in
theorem sv_length (ls : List Sl) : (sv ls).length = ls.length * 3 := by
  induction ls with
  | nil => rfl
  | cons x r ih => simp [sv, ih, Sl.cs]; omega
set_option maxRecDepth 100000 in
theorem sv_get (ls : List Sl) (j i : Nat) (h : j < ls.length) (hi : i < 3) : (sv ls)[j * 3 + i]? = (ls[j]).cs[i]? := by
  induction ls generalizing j with
  | nil => cases h
  | cons x r ih =>
    cases j with
    | zero => simp only [sv, Nat.zero_mul, Nat.zero_add, List.getElem_cons_zero]; rw [List.getElem?_append_left (by simp [Sl.cs]; exact hi)]
    | succ j =>
      have h' : j < r.length := by simpa using h
      simp only [sv, List.getElem_cons_succ]
      rw [List.getElem?_append_right (by simp [Sl.cs]; omega), ← ih j h']
      congr 1
      simp [Sl.cs]; omega
def ps (ls : List Sl) : List Part := ls.map Sl.p
set_option maxRecDepth 100000 in
theorem tab_of_owns {w : World} {base n : Nat} {v : Value} {ls : List Sl} (h : w.ownsRow base 39 3 v n (sv ls)) (ha : Apart w base v (ps ls)) : ∃ ra rc, v = .slice ra n rc ∧ n = ls.length ∧ (n ≤ 3000000000000000000 → TabAt w ra rc ls) ∧ Fresh base ra (ps ls) := by
  have hl : n = ls.length := by have := h.1; rw [sv_length] at this; omega
  rcases h.2 with ⟨rfl, hn⟩ | ⟨g, cap, cur, rfl, hr⟩
  · have hb : ls = [] := List.eq_nil_of_length_eq_zero (by omega)
    subst hn hb
    exact ⟨none, 0, rfl, rfl, fun _ => ⟨Nat.le_refl _, by decide, by decide, .inl rfl, ⟨.inl rfl, fun p hp => by cases hp⟩⟩, ⟨(fun _ _ e => by cases e), (fun p hp => by cases hp)⟩⟩
  · refine ⟨some ⟨g, 0, none⟩, cap, rfl, hl, fun hm => ⟨?_, ?_, by omega, .inr ⟨g, 0, rfl⟩, ⟨.inr ⟨g, 0, rfl, fun j hj => ?_⟩, fun s hs => (ha s.p (List.mem_map.2 ⟨s, hs, rfl⟩)).1⟩⟩, ⟨(fun sb so e => by cases e; exact (h.lt _ rfl).1), (fun p hp sb so e => ((ha p hp).2 sb so e).1)⟩⟩
    · obtain ⟨_, _, h1, _⟩ := hr
      omega
    · obtain ⟨_, _, _, h2, _⟩ := hr
      exact h2
    · have e : ∀ i, i < 3 → w.cell? ⟨g, j * 3 + i, none⟩ = (ls[j]).cs[i]? := fun i hi => by rw [World.ownsRow.cellAt h (j * 3 + i) (by omega), sv_get ls j i hj hi]
      have e0 := e 0 (by omega)
      have e1 := e 1 (by omega)
      have e2 := e 2 (by omega)
      exact ⟨by simpa [Sl.cs] using e0, by simpa [Sl.cs] using e1, by simpa [Sl.cs] using e2⟩

end Go.Proofs.YtlpaghkofljnfaaDoor
