/- Certificates and their digests: what is reckoned of lists alone. -/
import Derived.Test.YtnpjhpmgelaonaaDoorCerts
import Derived.Test.YtnpjhpmgelaonaaDoorDgs
namespace Go.Proofs.YtnpjhpmgelaonaaDoor
open Go.RowKit

set_option maxRecDepth 100000 in
theorem digs_get {l : List CV} {ds : List Part} (hS : bss ds = l.map CV.d) (k : Nat) (h : k < ds.length) : (cvAt l k).d = (ds[k]).bs := by
  have hl := congrArg List.length hS
  simp only [bss, List.length_map] at hl
  have h' : k < l.length := by omega
  have e : (bss ds)[k]? = (l.map CV.d)[k]? := by rw [hS]
  simp only [bss, List.getElem?_map, List.getElem?_eq_getElem h, List.getElem?_eq_getElem h', Option.map_some, Option.some.injEq] at e
  rw [e]
  simp [cvAt, h']
set_option maxRecDepth 100000 in
theorem digs_length {l : List CV} {ds : List Part} (hS : bss ds = l.map CV.d) : ds.length = l.length := by
  have hl := congrArg List.length hS
  simpa [bss] using hl
set_option maxRecDepth 100000 in
theorem badC_first (l : List CV) (k : Nat) (h : (cvAt l k).f ≠ 0) : badC l k = true := by simp [badC, h]
set_option maxRecDepth 100000 in
theorem badC_eq (ls : List Ct) (k : Nat) (hk : k < ls.length) (h : (ls[k]).v.f = 0) : badC (cvs ls) k = decide (takF (cvs (ls.take k)) (ls[k]).au (ls[k]).rd (bss (ls[k]).pl) ≠ 0) := by
  rw [badC, cvAt_get ls k hk, h, cvs_take]
  rfl
set_option maxRecDepth 100000 in
theorem all_f {ls : List Ct} (h : dagF (cvs ls) = 0) : ∀ c ∈ ls, c.v.f = 0 := by
  intro c hc
  obtain ⟨j, hj, rfl⟩ := List.getElem_of_mem hc
  rw [← cvAt_get ls j hj]
  exact dagF_f h j (by rw [cvs_length]; exact hj)
set_option maxRecDepth 100000 in
theorem dag_le {ls : List Ct} (h : dagF (cvs ls) = 0) : ls.length ≤ 400 := by
  have := (dagF_zero h).1
  rw [cvs_length] at this
  exact this
set_option maxRecDepth 100000 in
theorem f_small {c : CV} (h : c.f = 0) : c.bl.length ≤ 3 ∧ c.pl.length ≤ 4 ∧ c.vl.length ≤ 4 ∧ (∀ b ∈ c.bl, b.length = 32) ∧ (∀ b ∈ c.pl, b.length = 32) := by
  obtain ⟨_, _, y3, y4, y5, y6⟩ := headerF_ok (certF_head (vl := c.vl) h)
  refine ⟨by simpa [pz] using y3, by simpa [pz] using y4, ?_, fun b hb => ?_, fun b hb => ?_⟩
  · rw [CV.f, certF] at h
    split at h
    · rename_i g; exact absurd h g
    · split at h
      · cases h
      · omega
  · exact y5 ⟨none, 0, b⟩ (by simp [pz, hb])
  · exact y6 ⟨none, 0, b⟩ (by simp [pz, hb])
set_option maxRecDepth 100000 in
theorem ct_small {c : Ct} (h : c.v.f = 0) : c.bl.length ≤ 1000 ∧ c.pl.length ≤ 1000 ∧ c.vl.length ≤ 4 ∧ (∀ p ∈ c.bl, p.bs.length ≤ 140737488355328) ∧ (∀ p ∈ c.pl, p.bs.length ≤ 140737488355328) := by
  obtain ⟨a1, a2, a3, a4, a5⟩ := f_small h
  simp only [Ct.v, bss_length] at a1 a2 a3
  refine ⟨by omega, by omega, a3, fun p hp => ?_, fun p hp => ?_⟩
  · rw [a4 p.bs (List.mem_map.2 ⟨p, hp, rfl⟩)]; decide
  · rw [a5 p.bs (List.mem_map.2 ⟨p, hp, rfl⟩)]; decide
end Go.Proofs.YtnpjhpmgelaonaaDoor
