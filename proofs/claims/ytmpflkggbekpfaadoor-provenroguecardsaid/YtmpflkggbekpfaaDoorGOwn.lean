/- Rows of signs that a call owns. -/
import Derived.Test.YtmpflkggbekpfaaDoorSignsL
import Derived.Test.YtmpflkggbekpfaaDoorOwnL
namespace Go.Proofs.YtmpflkggbekpfaaDoor
open Go.RowKit

set_option maxRecDepth 100000 in
theorem infoSign : (Tryd.prog.info? 52).map (fun i => (i.zero, i.size, i.bytes)) = some (some (.agg #[.int .i64 0, .int .i64 0, .int .i64 0, .slice none 0 0]), 4, 48) := by kernel_rfl
def Sg.cs (s : Sg) : List Value := [.int .i64 s.nd, .int .i64 s.au, .int .i64 s.rd, .slice s.p.sa s.p.bs.length s.p.cap]
def gv : List Sg → List Value
  | [] => []
  | s :: r => s.cs ++ gv r
set_option maxRecDepth 100000 in
theorem gv_snoc (ls : List Sg) (s : Sg) : gv (ls ++ [s]) = gv ls ++ s.cs := by
  induction ls with
  | nil => simp [gv]
  | cons x r ih => simp [gv, ih]
set_option maxRecDepth 100000 in
theorem gv_length (ls : List Sg) : (gv ls).length = ls.length * 4 := by
  induction ls with
  | nil => rfl
  | cons x r ih => simp [gv, ih, Sg.cs]; omega
set_option maxRecDepth 100000 in
theorem gv_get (ls : List Sg) (j i : Nat) (h : j < ls.length) (hi : i < 4) : (gv ls)[j * 4 + i]? = (ls[j]).cs[i]? := by
  induction ls generalizing j with
  | nil => cases h
  | cons x r ih =>
    cases j with
    | zero => simp only [gv, Nat.zero_mul, Nat.zero_add, List.getElem_cons_zero]; rw [List.getElem?_append_left (by simp [Sg.cs]; exact hi)]
    | succ j =>
      have h' : j < r.length := by simpa using h
      simp only [gv, List.getElem_cons_succ]
      rw [List.getElem?_append_right (by simp [Sg.cs]; omega), ← ih j h']
      congr 1
      simp [Sg.cs]; omega
def gps (ls : List Sg) : List Part := ls.map Sg.p
set_option maxRecDepth 100000 in
theorem gvs_u8 {ks ls : List Sg} (h : gvs ks = gvs ls) (hu : ∀ s ∈ ls, AllU8 s.p.bs) : ∀ s ∈ ks, AllU8 s.p.bs := by
  intro s hs
  have : s.v ∈ gvs ls := by rw [← h]; exact List.mem_map.2 ⟨s, hs, rfl⟩
  obtain ⟨t, ht, e⟩ := List.mem_map.1 this
  have e2 : t.p.bs = s.p.bs := congrArg (fun g : GV => g.2.2.2) e
  rw [← e2]; exact hu t ht
set_option maxRecDepth 100000 in
theorem gtab_of_owns {w : World} {base n : Nat} {v : Value} {ls : List Sg} (h : w.ownsRow base 52 4 v n (gv ls)) (ha : Apart w base v (gps ls)) (hu : ∀ s ∈ ls, AllU8 s.p.bs) : ∃ ra rc, v = .slice ra n rc ∧ n = ls.length ∧ (n ≤ 2932031007400 → GTab w ra rc ls) ∧ Fresh base ra (gps ls) := by
  have hl : n = ls.length := by have := h.1; rw [gv_length] at this; omega
  rcases h.2 with ⟨rfl, hn⟩ | ⟨g, cap, cur, rfl, hr⟩
  · have hb : ls = [] := List.eq_nil_of_length_eq_zero (by omega)
    subst hn hb
    exact ⟨none, 0, rfl, rfl, fun _ => ⟨Nat.le_refl _, by decide, by decide, .inl rfl, ⟨.inl rfl, fun p hp => by cases hp⟩⟩, ⟨(fun _ _ e => by cases e), (fun p hp => by cases hp)⟩⟩
  · refine ⟨some ⟨g, 0, none⟩, cap, rfl, hl, fun hm => ⟨?_, ?_, by omega, .inr ⟨g, 0, rfl⟩, ⟨.inr ⟨g, 0, rfl, fun j hj => ?_⟩, fun s hs => ⟨(ha s.p (List.mem_map.2 ⟨s, hs, rfl⟩)).1, hu s hs⟩⟩⟩, ⟨(fun sb so e => by cases e; exact (h.lt _ rfl).1), (fun p hp sb so e => ((ha p hp).2 sb so e).1)⟩⟩
    · obtain ⟨_, _, h1, _⟩ := hr
      omega
    · obtain ⟨_, _, _, h2, _⟩ := hr
      exact h2
    · have e : ∀ i, i < 4 → w.cell? ⟨g, j * 4 + i, none⟩ = (ls[j]).cs[i]? := fun i hi => by rw [World.ownsRow.cellAt h (j * 4 + i) (by omega), gv_get ls j i hj hi]
      have e0 := e 0 (by omega)
      have e1 := e 1 (by omega)
      have e2 := e 2 (by omega)
      have e3 := e 3 (by omega)
      exact ⟨by simpa [Sg.cs] using e0, by simpa [Sg.cs] using e1, by simpa [Sg.cs] using e2, by simpa [Sg.cs] using e3⟩

end Go.Proofs.YtmpflkggbekpfaaDoor
