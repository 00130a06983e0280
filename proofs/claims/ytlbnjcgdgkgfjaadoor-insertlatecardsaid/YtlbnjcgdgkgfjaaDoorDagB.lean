/- How many certificates a round has: as many as it has digests, in a dag that may be. -/
import Derived.Test.YtlbnjcgdgkgfjaaDoorDagA
namespace Go.Proofs.YtlbnjcgdgkgfjaaDoor
open Go.RowKit

set_option maxRecDepth 100000 in
theorem cOf_snoc (l : List CV) (c : CV) (au rd : Int) : cOf (l ++ [c]) au rd = if 0 ≤ cOf l au rd then cOf l au rd else if c.au = au ∧ c.rd = rd then (l.length : Int) else -1 := by
  have e1 : fidx (cHit (l ++ [c]) au rd) l.length = fidx (cHit l au rd) l.length := fidx_congr _ _ _ (fun j hj => by
    have e : cvAt (l ++ [c]) j = cvAt l j := by simp [cvAt, List.getD, List.getElem?_append_left hj]
    rw [cHit, cHit, e])
  have e2 : cHit (l ++ [c]) au rd l.length = decide (c.au = au ∧ c.rd = rd) := by
    have e : cvAt (l ++ [c]) l.length = c := by simp [cvAt]
    rw [cHit, e]
  rw [cOf, show (l ++ [c]).length = l.length + 1 by simp, fidx, e1, e2]
  show (if 0 ≤ cOf l au rd then cOf l au rd else _) = _
  simp only [decide_eq_true_eq]
set_option maxRecDepth 100000 in
theorem dgF_len (l : List CV) (r : Int) : (dgF l r).length = (if 0 ≤ cOf l 0 r then 1 else 0) + (if 0 ≤ cOf l 1 r then 1 else 0) + (if 0 ≤ cOf l 2 r then 1 else 0) + (if 0 ≤ cOf l 3 r then 1 else 0) := by
  have h : ∀ n : Nat, (dgTo l r (n + 1)).length = (dgTo l r n).length + (if 0 ≤ cOf l (n : Int) r then 1 else 0) := fun n => by
    rw [dgTo]
    split <;> simp
  rw [dgF, h 3, h 2, h 1, h 0]
  simp [dgTo]
/-- How many are of that round. -/
def cntR (l : List CV) (r : Int) : Nat := (l.filter fun c => decide (c.rd = r)).length
set_option maxRecDepth 100000 in
theorem cntR_snoc (l : List CV) (c : CV) (r : Int) : cntR (l ++ [c]) r = cntR l r + (if c.rd = r then 1 else 0) := by
  simp only [cntR, List.filter_append, List.length_append]
  by_cases h : c.rd = r <;> simp [h]
set_option maxRecDepth 100000 in
theorem dg_snoc (l : List CV) (c : CV) (r : Int) (h : cOf l c.au c.rd < 0) (h4 : 0 ≤ c.au ∧ c.au < 4) : (dgF (l ++ [c]) r).length = (dgF l r).length + (if c.rd = r then 1 else 0) := by
  have key : ∀ a : Int, (if 0 ≤ cOf (l ++ [c]) a r then 1 else 0 : Nat) = (if 0 ≤ cOf l a r then 1 else 0) + (if c.au = a ∧ c.rd = r then 1 else 0) := fun a => by
    rw [cOf_snoc]
    by_cases h1 : 0 ≤ cOf l a r
    · have h2 : ¬ (c.au = a ∧ c.rd = r) := fun ⟨e1, e2⟩ => by rw [e1, e2] at h; omega
      simp [h1, h2]
    · by_cases h2 : c.au = a ∧ c.rd = r
      · rw [if_neg h1, if_pos h2, if_neg h1, if_pos h2, if_pos (by omega)]
      · rw [if_neg h1, if_neg h2, if_neg h1, if_neg h2, if_neg (by decide)]
  rw [dgF_len, dgF_len, key, key, key, key]
  by_cases hr : c.rd = r
  · have hc : c.au = 0 ∨ c.au = 1 ∨ c.au = 2 ∨ c.au = 3 := by omega
    rcases hc with e | e | e | e <;> simp [e, hr] <;> omega
  · simp [hr]
set_option maxRecDepth 100000 in
theorem f_author {c : CV} (h : c.f = 0) : 0 ≤ c.au ∧ c.au < 4 := (headerF_ok (certF_head (vl := c.vl) h)).1
set_option maxRecDepth 100000 in
theorem takF_cOf {l : List CV} {au rd : Int} {pl : List (List Int)} (h : takF l au rd pl = 0) : cOf l au rd < 0 := by
  rw [takF] at h
  split at h
  · cases h
  · omega
set_option maxRecDepth 100000 in
theorem dgF_cnt_take {l : List CV} (h : dagF l = 0) (r : Int) (k : Nat) (hk : k ≤ l.length) : (dgF (l.take k) r).length = cntR (l.take k) r := by
  induction k with
  | zero => rw [List.take_zero, dgF_len]; rfl
  | succ k ih =>
    have hlt : k < l.length := by omega
    have hb := (dagF_zero h).2 k hlt
    simp only [badC, Bool.or_eq_false_iff, decide_eq_false_iff_not, ne_eq, Decidable.not_not] at hb
    have e : l.take (k + 1) = l.take k ++ [cvAt l k] := by
      rw [List.take_succ_eq_append_getElem hlt]
      simp [cvAt, hlt]
    rw [e, dg_snoc _ _ _ (takF_cOf hb.2) (f_author hb.1), cntR_snoc, ih (by omega)]
set_option maxRecDepth 100000 in
theorem dgF_cnt {l : List CV} (h : dagF l = 0) (r : Int) : (dgF l r).length = cntR l r := by
  have := dgF_cnt_take h r l.length (Nat.le_refl _)
  rwa [List.take_length] at this
/-- What a stock tells of a certificate that is to be inserted. -/
def stkE (l : List CV) (c : CV) : Int := if c.f ≠ 0 then c.f else if takF l c.au c.rd c.pl ≠ 0 then takF l c.au c.rd c.pl else if 400 ≤ l.length then 6 else 0
set_option maxRecDepth 100000 in
theorem stkE_ok {l : List CV} {c : CV} (h : stkE l c = 0) : c.f = 0 ∧ takF l c.au c.rd c.pl = 0 ∧ l.length < 400 := by
  rw [stkE] at h
  by_cases h1 : c.f = 0
  · rw [if_neg (fun g => g h1)] at h
    by_cases h2 : takF l c.au c.rd c.pl = 0
    · rw [if_neg (fun g => g h2)] at h
      by_cases h3 : 400 ≤ l.length
      · rw [if_pos h3] at h; cases h
      · exact ⟨h1, h2, by omega⟩
    · rw [if_pos h2] at h; exact absurd h h2
  · rw [if_pos h1] at h; exact absurd h h1
set_option maxRecDepth 100000 in
theorem stkE_bad {l : List CV} {k : Nat} (hk : k < l.length) (h : stkE (l.take k) (cvAt l k) ≠ 0) : dagF l = 12 := by
  by_cases hl : 400 < l.length
  · exact dagF_long l hl
  · refine dagF_bad l k hk ?_
    simp only [badC, Bool.or_eq_true, decide_eq_true_eq]
    by_cases h1 : (cvAt l k).f = 0
    · right
      intro h2
      apply h
      rw [stkE, if_neg (fun g => g h1), if_neg (fun g => g h2), if_neg (by simp; omega)]
    · exact .inl h1
set_option maxRecDepth 100000 in
theorem stkE_all {l : List CV} (h : ∀ k, k < l.length → stkE (l.take k) (cvAt l k) = 0) : dagF l = 0 := by
  have hb : ∀ k, k < l.length → badC l k = false := fun k hk => by
    obtain ⟨h1, h2, _⟩ := stkE_ok (h k hk)
    simp [badC, h1, h2]
  refine dagF_ok l ?_ hb
  rcases Nat.lt_or_ge 400 l.length with g | g
  · obtain ⟨_, _, h3⟩ := stkE_ok (h 400 g)
    rw [List.length_take] at h3
    omega
  · exact g
/-- P5.4: what is told. -/
def insE (l : List CV) (c : CV) : Int := if dagF l ≠ 0 then dagF l else if c.f ≠ 0 then c.f else if takF l c.au c.rd c.pl ≠ 0 then takF l c.au c.rd c.pl else if 400 ≤ l.length then 6 else 0
set_option maxRecDepth 100000 in
theorem insE_stk {l : List CV} (c : CV) (h : dagF l = 0) : insE l c = stkE l c := by rw [insE, if_neg (fun g => g h), stkE]
end Go.Proofs.YtlbnjcgdgkgfjaaDoor
