/- seal.Add of a sign that may be. -/
import Derived.Test.YtmpflkggbekpfaaDoorCAdd
namespace Go.Proofs.YtmpflkggbekpfaaDoor
open Go.RowKit

/-- One more, if it is new. -/
def more (l : List GV) (g : GV) : List GV := if g ∈ l then l else l ++ [g]
set_option maxRecDepth 100000 in
theorem more_ok {l : List GV} {g : GV} (h : signsF l = 0) (hg : gF g = 0) : signsF (more l g) = 0 := by
  unfold more; split
  · exact h
  · exact signsF_snoc h hg (by assumption)
set_option maxRecDepth 100000 in
theorem more_mem (l : List GV) (g : GV) : g ∈ more l g := by
  unfold more; split
  · assumption
  · simp
set_option maxRecDepth 100000 in
theorem more_other {l : List GV} {g o : GV} (h : o ≠ g) : o ∈ more l g ↔ o ∈ l := by
  unfold more; split
  · rfl
  · simp [h]
set_option maxRecDepth 100000 in
theorem more_length (l : List GV) (g : GV) : (more l g).length ≤ l.length + 1 := by
  unfold more; split <;> simp
set_option maxRecDepth 100000 in
theorem addF_more {l : List GV} {g : GV} (h : signsF l = 0) (hg : gF g = 0) : addF l g = (more l g, 0) := by
  unfold more; split
  · exact addF_old h hg (by assumption)
  · exact addF_new h hg (by assumption)
set_option maxRecDepth 100000 in
theorem signedF_nobody {l : List GV} {g : GV} (h : signsF l = 0) (hg : gF g = 0) : signedF l (-1) g = (decide (g ∈ l), 0) := by
  rw [signedF_ok (setF_ok h (by decide)) hg]
  have : ¬ g.1 = -1 := by
    intro e
    unfold gF signF at hg
    rw [if_pos (by omega)] at hg
    cases hg
  simp [this]
set_option maxRecDepth 100000 in
theorem addG_any (ks : List Sg) (ra : Option Addr) (n rc : Nat) (t : Sg) (w : World) (hn : n = ks.length) (hl : ks.length ≤ 2932031007399) (hp : GTab w ra rc ks) (ht : SliceAt w t.p.sa t.p.cap t.p.bs ∧ AllU8 t.p.bs) (hF : signsF (gvs ks) = 0) (hg : gF t.v = 0) :
    Calls Tryd.prog 31 #[.slice ra n rc, .agg #[.int .i64 t.nd, .int .i64 t.au, .int .i64 t.rd, .slice t.p.sa t.p.bs.length t.p.cap]] w fun e w' => ∃ ua uc us, e = .returned (.tuple #[.slice ua (List.length us) uc, .int .i64 0]) ∧ gvs us = more (gvs ks) t.v ∧ GTab w' ua uc us ∧ Below w.heap.size w w' := by
  refine (add_any ks ra n rc t w hn hl hp ht).mono ?_
  rintro e w' ⟨⟨ua, uc, us, er, he, h, hT⟩, hb⟩
  rw [addF_more hF hg, Prod.mk.injEq] at h
  obtain ⟨h1, rfl⟩ := h
  exact ⟨ua, uc, us, he, h1.symm, hT, hb⟩
end Go.Proofs.YtmpflkggbekpfaaDoor
