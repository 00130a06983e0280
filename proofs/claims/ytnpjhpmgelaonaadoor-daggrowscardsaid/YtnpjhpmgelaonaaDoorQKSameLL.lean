/- sheaveskeep.sameHeader of equal ones. -/
import Derived.Test.YtnpjhpmgelaonaaDoorQSameL
import Derived.Test.YtnpjhpmgelaonaaDoorGOwnL
namespace Go.Proofs.YtnpjhpmgelaonaaDoor
open Go.RowKit

/-- Lists of the same bytes. -/
structure SameU (ps qs : List Part) : Prop where
  same : Same ps qs
  u8 : ∀ p ∈ qs, ∀ x ∈ p.bs, 0 ≤ x ∧ x ≤ 255
  le : qs.length ≤ 1000
set_option maxRecDepth 100000 in
theorem SameU.length {ps qs : List Part} (h : SameU ps qs) : ps.length = qs.length := h.same.length
set_option maxRecDepth 100000 in
theorem SameU.u8' {ps qs : List Part} (h : SameU ps qs) : ∀ p ∈ ps, ∀ x ∈ p.bs, 0 ≤ x ∧ x ≤ 255 := by
  intro p hp x hx
  have h1 : p.bs ∈ ps.map (·.bs) := List.mem_map_of_mem hp
  have h2 : ps.map (·.bs) = qs.map (·.bs) := h.same
  rw [h2] at h1
  obtain ⟨q, hq, e⟩ := List.mem_map.1 h1
  have e' : q.bs = p.bs := e
  rw [← e'] at hx
  exact h.u8 q hq x hx
set_option maxRecDepth 100000 in
theorem sameHeaderK_eq (au rd : Int) (xa : Option Addr) (xc : Nat) (xl : List Part) (ya : Option Addr) (yc : Nat) (yl : List Part) (ba : Option Addr) (bc : Nat) (bl : List Part) (pa : Option Addr) (pc : Nat) (pl : List Part) (w : World) (s1 : SameU xl bl) (s2 : SameU yl pl) (h1 : ListAt w xa xc xl) (h2 : ListAt w ya yc yl) (h3 : ListAt w ba bc bl) (h4 : ListAt w pa pc pl) :
    Calls Tryd.prog 34 #[.agg #[.int .i64 au, .int .i64 rd, .slice xa bl.length xc, .slice ya pl.length yc], .agg #[.int .i64 au, .int .i64 rd, .slice ba bl.length bc, .slice pa pl.length pc]] w fun e w' => e = .returned (.bool true) ∧ Below w.heap.size w w' := by
  have h := sameHeader_any au rd au rd xa bl.length xc xl ya pl.length yc yl ba bl.length bc bl pa pl.length pc pl w ⟨s1.length.symm, s2.length.symm, s1.le, s2.le, h1, h2, s1.u8', s2.u8'⟩ ⟨rfl, rfl, s1.le, s2.le, h3, h4, s1.u8, s2.u8⟩
  have hd : decide (au = au ∧ rd = rd ∧ bsOf xl = bsOf bl ∧ bsOf yl = bsOf pl) = true := decide_eq_true ⟨rfl, rfl, s1.same, s2.same⟩
  rw [hd] at h
  exact h
end Go.Proofs.YtnpjhpmgelaonaaDoor
