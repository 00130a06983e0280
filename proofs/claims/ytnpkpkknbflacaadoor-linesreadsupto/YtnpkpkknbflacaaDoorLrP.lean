/- What the document's lineAct answers, in numbers; it is what the program reads. -/
import Derived.Test.YtnpkpkknbflacaaDoorLrC
import Derived.Test.YtnpkpkknbflacaaDoorLrD
namespace Go.Proofs.YtnpkpkknbflacaaDoor
open Go.RowKit

def pG (l : List UInt8) (j : Nat) : List UInt8 := (pts l).getD j []
def pL (l : List UInt8) : Nat := (pts l).length
def b2n (b : Bool) : Nat := if b = true then 1 else 0
/-- A number's part at a place: is it one; what it counts. -/
def gd (l : List UInt8) (a : Nat) : Bool := decide (a < pL l) && numB' (pG l a)
def cp (l : List UInt8) (a : Nat) : Int := ((min (valL (pG l a)) 1000000 : Nat) : Int)
def okN (h : Bool) (l : List UInt8) (a : Nat) (ok : Bool) : Bool := if h = true then (if gd l a = true then ok else false) else ok
def vaN (h : Bool) (l : List UInt8) (a : Nat) : Int := if h = true then (if gd l a = true then cp l a else 0) else 0
def okT (h : Bool) (l : List UInt8) (a : Nat) (ok : Bool) : Bool := if h = true then (if (decide (a < pL l) && ok) = true then txtB (pG l a) else false) else ok
def finB (h0 h1 h2 : Bool) (l : List UInt8) : Bool := okT h2 l (1 + b2n h0 + b2n h1) (okN h1 l (1 + b2n h0) (okN h0 l 1 true)) && decide (1 + b2n h0 + b2n h1 + b2n h2 = pL l)
def cap (x : Int) : Int := if x ≤ 1000000 then x else 1000000
set_option maxRecDepth 100000 in
theorem pts_len (l : List UInt8) : 1 ≤ (pts l).length := by rw [pts_cons]; simp
set_option maxRecDepth 100000 in
set_option maxHeartbeats 4000000 in
theorem fin_all (l : List UInt8) (h0 h1 h2 : Bool) (s1 s2 s3 : St)
    (e1 : s1 = if h0 = true ∧ hasC 32 l = true then ⟨afC 32 (afC 32 l), hasC 32 (afC 32 l), numA' (bfC 32 (afC 32 l)), 0, [], numB' (bfC 32 (afC 32 l)), false, false⟩ else ⟨afC 32 l, hasC 32 l, 0, 0, [], false, false, false⟩)
    (e2 : s2 = if h1 = true ∧ s1.m = true then ⟨afC 32 s1.r, hasC 32 s1.r, s1.n, numA' (bfC 32 s1.r), s1.t, s1.b0, numB' (bfC 32 s1.r), s1.b2⟩ else s1)
    (e3 : s3 = if h2 = true ∧ s2.m = true then ⟨afC 32 s2.r, hasC 32 s2.r, s2.n, s2.p, txtA (bfC 32 s2.r), s2.b0, s2.b1, txtB (bfC 32 s2.r)⟩ else s2) :
    finB h0 h1 h2 l = ((s3.b0 == h0 && s3.b1 == h1 && s3.b2 == h2) && !s3.m) ∧
    (finB h0 h1 h2 l = true → vaN h0 l 1 = cap s3.n ∧ vaN h1 l (1 + b2n h0) = cap s3.p ∧ s3.t = (if h2 = true then txtA (pG l (1 + b2n h0 + b2n h1)) else [])) := by
  have hc : ∀ x : List UInt8, numB' x = true → cap (numA' x) = ((min (valL x) 1000000 : Nat) : Int) := by
    intro x hx
    rw [numA', if_pos hx, cap]
    split <;> omega
  have c0 : cap 0 = 0 := by rfl
  have q0 := pts_cons l
  have q1 := pts_cons (afC 32 l)
  have q2 := pts_cons (afC 32 (afC 32 l))
  have q3 := pts_cons (afC 32 (afC 32 (afC 32 l)))
  have q4 := pts_len (afC 32 (afC 32 (afC 32 (afC 32 l))))
  generalize hm3 : hasC 32 (afC 32 (afC 32 (afC 32 l))) = m3 at *
  generalize hm2 : hasC 32 (afC 32 (afC 32 l)) = m2 at *
  generalize hm1 : hasC 32 (afC 32 l) = m1 at *
  generalize hm0 : hasC 32 l = m0 at *
  cases m0 <;> cases m1 <;> cases m2 <;> cases m3 <;> cases h0 <;> cases h1 <;> cases h2 <;> simp at e1 <;> subst e1 <;> simp at e2 <;> subst e2 <;> simp at e3 <;> subst e3 <;> simp [finB, okT, okN, vaN, gd, cp, pL, pG, b2n, q0, q1, q2, q3, c0] <;> (try omega) <;> (try (intros; simp_all)) <;> (try omega)
  all_goals first
    | (intro _ _ _ h; rw [h] at q4; simp at q4)
    | (generalize numB' (bfC 32 (afC 32 l)) = u
       generalize numB' (bfC 32 (afC 32 (afC 32 l))) = v
       cases u <;> cases v <;> simp)
set_option maxRecDepth 100000 in
theorem line_all (l : List UInt8) (hk : kindL (bfC 32 l) ≠ 0) :
    finB (hN (kindL (bfC 32 l))) (hP (kindL (bfC 32 l))) (hT (kindL (bfC 32 l))) l = rdB l ∧
    (rdB l = true → vaN (hN (kindL (bfC 32 l))) l 1 = cap (rdV l).n ∧ vaN (hP (kindL (bfC 32 l))) l (1 + b2n (hN (kindL (bfC 32 l)))) = cap (rdV l).p ∧ (rdV l).t = ba (if hT (kindL (bfC 32 l)) = true then txtA (pG l (1 + b2n (hN (kindL (bfC 32 l))) + b2n (hP (kindL (bfC 32 l))))) else [])) := by
  have h := fin_all l (hN (kindL (bfC 32 l))) (hP (kindL (bfC 32 l))) (hT (kindL (bfC 32 l))) _ _ (endS l) rfl rfl rfl
  have e : rdB l = (((endS l).b0 == hN (kindL (bfC 32 l)) && (endS l).b1 == hP (kindL (bfC 32 l)) && (endS l).b2 == hT (kindL (bfC 32 l))) && !(endS l).m) := by
    rw [rdB, endS_eq, decide_eq_true hk, Bool.true_and]
  have eV : rdV l = ⟨kindL (bfC 32 l), (endS l).n, (endS l).p, ⟨(endS l).t.toArray⟩⟩ := by rw [rdV, endS_eq]
  refine ⟨h.1.trans e.symm, fun hr => ?_⟩
  obtain ⟨h1, h2, h3⟩ := h.2 ((h.1.trans e.symm).trans hr)
  rw [eV]
  refine ⟨h1, h2, ?_⟩
  show (⟨(endS l).t.toArray⟩ : ByteArray) = _
  rw [h3]
  rfl
end Go.Proofs.YtnpkpkknbflacaaDoor
