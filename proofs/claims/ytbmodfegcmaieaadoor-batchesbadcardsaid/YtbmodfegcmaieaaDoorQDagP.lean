/- What a dag that may be tells of its certificates and their parents, in plain lists. -/
import Derived.Test.YtbmodfegcmaieaaDoorQInsF
import Derived.Test.YtbmodfegcmaieaaDoorQKSum
import Derived.Test.YtbmodfegcmaieaaDoorQKDigs
namespace Go.Proofs.YtbmodfegcmaieaaDoor
open Go.RowKit

/-- Two unlike headers have one digest. -/
def Coll (c : List CV) : Prop := ∃ K I, K < I ∧ I < c.length ∧ (cvAt c I).d = (cvAt c K).d ∧ unlikeC (cvAt c I) (cvAt c K)
set_option maxRecDepth 100000 in
/-- The certificate that Find gives for a digest of the dag is that one, or two unlike headers have one digest. -/
theorem pOf_or {l : List CV} (hv : ∀ x ∈ l, x.vl = [0, 1, 2]) {i : Nat} (hi : i < l.length) : cvAt l (pOf l (cvAt l i).d).toNat = cvAt l i ∨ (unlikeC (cvAt l i) (cvAt l (pOf l (cvAt l i).d).toNat) ∧ Coll l) := by
  obtain ⟨h0, h1, h2⟩ := pOf_self hi
  have hd := txL_inj (CV.d_u8 _) (CV.d_u8 _) h2
  have hj : (pOf l (cvAt l i).d).toNat < l.length := by omega
  generalize (pOf l (cvAt l i).d).toNat = j at *
  by_cases hu : unlikeC (cvAt l i) (cvAt l j)
  · right
    refine ⟨hu, j, i, ?_, hi, hd.symm, hu⟩
    rcases Nat.lt_or_ge j i with g | g
    · exact g
    · obtain rfl : j = i := by omega
      exact absurd ⟨rfl, rfl, rfl, rfl⟩ hu
  · left
    have h3 := Decidable.not_not.1 (by exact hu)
    obtain ⟨a1, a2, a3, a4⟩ := h3
    have e1 := hv _ (cvAt_mem hi)
    have e2 := hv _ (cvAt_mem hj)
    cases hc : cvAt l i with
    | mk au rd bl pl vl =>
      cases hc2 : cvAt l j with
      | mk au2 rd2 bl2 pl2 vl2 =>
        rw [hc] at a1 a2 a3 a4 e1
        rw [hc2] at a1 a2 a3 a4 e2
        simp only at a1 a2 a3 a4 e1 e2
        rw [a1, a2, a3, a4, e1, e2]
set_option maxRecDepth 100000 in
theorem list_take {w : World} {sa : Option Addr} {cap : Nat} {ps : List Part} (h : ListAt w sa cap ps) (i : Nat) : ListAt w sa cap (ps.take i) := by
  have hl : (ps.take i).length ≤ ps.length := by rw [List.length_take]; omega
  refine ⟨Nat.le_trans hl h.le, h.max, Nat.le_trans hl h.small, h.some, ⟨?_, fun p hp => h.parts.each p (List.mem_of_mem_take hp)⟩⟩
  rcases h.parts.cells with hc | ⟨sb, so, e, hc⟩
  · left; rw [hc]; simp
  · refine .inr ⟨sb, so, e, fun j hj => ?_⟩
    have hj2 : j < ps.length := by omega
    simpa using hc j hj2
end Go.Proofs.YtbmodfegcmaieaaDoor
