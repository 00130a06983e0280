/- Lists of certificates that are read, and what P5.1 says of them. -/
import Derived.Test.YtbmodfegcmaieaaDoorGDigsC
import Derived.Test.YtbmodfegcmaieaaDoorGIntsL
import Derived.Test.YtbmodfegcmaieaaDoorGApp
namespace Go.Proofs.YtbmodfegcmaieaaDoor
open Go.RowKit

def vAt (vl : List Int) (k : Nat) : Int := if ¬ (0 ≤ vl.getD k 0 ∧ vl.getD k 0 < 4) then 2 else if 0 < k ∧ vl.getD k 0 ≤ vl.getD (k - 1) 0 then 9 else 0
def vTo (vl : List Int) : Nat → Int
  | 0 => 0
  | k + 1 => if vTo vl k ≠ 0 then vTo vl k else vAt vl k
set_option maxRecDepth 100000 in
theorem vTo_stays (vl : List Int) (k m : Nat) (h : vTo vl k ≠ 0) (hm : k ≤ m) : vTo vl m = vTo vl k := by
  induction m with
  | zero => obtain rfl : k = 0 := by omega
            rfl
  | succ m ih =>
    rcases Nat.lt_or_ge k (m + 1) with g | g
    · rw [vTo, ih (by omega), if_pos h]
    · obtain rfl : k = m + 1 := by omega
      rfl
set_option maxRecDepth 100000 in
theorem vTo_at (vl : List Int) (k : Nat) (hk : k < vl.length) (h0 : vTo vl k = 0) (h : vAt vl k ≠ 0) : vTo vl vl.length = vAt vl k := by
  have e : vTo vl (k + 1) = vAt vl k := by rw [vTo, h0]; simp
  rw [vTo_stays vl (k + 1) vl.length (by rw [e]; exact h) hk, e]
def votersF (vl : List Int) : Int := if vTo vl vl.length ≠ 0 then vTo vl vl.length else if vl.length < 3 then 10 else 0
def certF (au rd : Int) (bl pl : List Part) (vl : List Int) : Int := if headerF au rd bl pl ≠ 0 then headerF au rd bl pl else if 4 < vl.length then 1 else votersF vl
end Go.Proofs.YtbmodfegcmaieaaDoor

namespace Go.Proofs.YtbmodfegcmaieaaDoor
open Go.RowKit

/-- The first place of the first k that has it; -1: none has. -/
def fidx (p : Nat → Bool) : Nat → Int
  | 0 => -1
  | k + 1 => if 0 ≤ fidx p k then fidx p k else if p k = true then (k : Int) else -1
set_option maxRecDepth 100000 in
theorem fidx_ge (p : Nat → Bool) (k : Nat) : -1 ≤ fidx p k ∧ fidx p k < k := by
  induction k with
  | zero => exact ⟨by simp [fidx], by simp [fidx]⟩
  | succ k ih =>
    rw [fidx]
    split
    · omega
    · split <;> omega
set_option maxRecDepth 100000 in
theorem fidx_stay (p : Nat → Bool) (m k : Nat) (h : 0 ≤ fidx p m) (hk : m ≤ k) : fidx p k = fidx p m := by
  induction k with
  | zero =>
    obtain rfl : m = 0 := by omega
    rfl
  | succ k ih =>
    rcases Nat.lt_or_ge m (k + 1) with g | g
    · rw [fidx, ih (by omega), if_pos h]
    · obtain rfl : m = k + 1 := by omega
      rfl
set_option maxRecDepth 100000 in
theorem fidx_hit (p : Nat → Bool) (m k : Nat) (h : fidx p m = -1) (hp : p m = true) (hk : m < k) : fidx p k = m := by
  have e : fidx p (m + 1) = m := by rw [fidx, h]; simp [hp]
  rw [fidx_stay p (m + 1) k (by rw [e]; omega) hk, e]
set_option maxRecDepth 100000 in
theorem fidx_step (p : Nat → Bool) (m : Nat) (h : fidx p m = -1) (hp : p m = false) : fidx p (m + 1) = -1 := by rw [fidx, h]; simp [hp]
set_option maxRecDepth 100000 in
theorem fidx_congr (p q : Nat → Bool) (k : Nat) (h : ∀ j, j < k → p j = q j) : fidx p k = fidx q k := by
  induction k with
  | zero => rfl
  | succ k ih => rw [fidx, fidx, ih (fun j hj => h j (by omega)), h k (by omega)]
set_option maxRecDepth 100000 in
theorem fidx_yes (p : Nat → Bool) (k : Nat) (h : 0 ≤ fidx p k) : p (fidx p k).toNat = true := by
  induction k with
  | zero => simp [fidx] at h
  | succ k ih =>
    rw [fidx] at h ⊢
    split
    · rename_i g
      exact ih g
    · rename_i g
      rw [if_neg g] at h
      split
      · rename_i g2
        simpa using g2
      · rename_i g2
        rw [if_neg g2] at h
        omega
set_option maxRecDepth 100000 in
theorem fidx_no (p : Nat → Bool) (k : Nat) (h : fidx p k < 0) (j : Nat) (hj : j < k) : p j = false := by
  induction k with
  | zero => omega
  | succ k ih =>
    rw [fidx] at h
    split at h
    · omega
    · rename_i g
      split at h
      · omega
      · rename_i g2
        rcases Nat.lt_or_ge j k with q | q
        · exact ih (by omega) q
        · obtain rfl : j = k := by omega
          simpa using g2
set_option maxRecDepth 100000 in
theorem fidx_none (p : Nat → Bool) (k : Nat) (h : ∀ j, j < k → p j = false) : fidx p k = -1 := by
  induction k with
  | zero => rfl
  | succ k ih => exact fidx_step p k (ih (fun j hj => h j (by omega))) (h k (by omega))
set_option maxRecDepth 100000 in
theorem fidx_neg (p : Nat → Bool) (k : Nat) (h : fidx p k < 0) : fidx p k = -1 := by
  have := fidx_ge p k
  omega
end Go.Proofs.YtbmodfegcmaieaaDoor

namespace Go.Proofs.YtbmodfegcmaieaaDoor
open Go.RowKit

/-- A certificate, and where its lists lie. -/
structure Ct where
  au : Int
  rd : Int
  ba : Option Addr
  bc : Nat
  bl : List Part
  pa : Option Addr
  pc : Nat
  pl : List Part
  va : Option Addr
  vc : Nat
  vl : List Int
/-- What counts of a certificate. -/
structure CV where
  au : Int
  rd : Int
  bl : List (List Int)
  pl : List (List Int)
  vl : List Int
def bss (l : List Part) : List (List Int) := l.map (·.bs)
set_option maxRecDepth 100000 in
theorem bss_length (l : List Part) : (bss l).length = l.length := by simp [bss]
def pz (l : List (List Int)) : List Part := l.map fun b => ⟨none, 0, b⟩
set_option maxRecDepth 100000 in
theorem pz_bss (l : List Part) : Same (pz (bss l)) l := by
  show (pz (bss l)).map (·.bs) = l.map (·.bs)
  simp [pz, bss]
set_option maxRecDepth 100000 in
theorem bss_get (l : List Part) (k : Nat) (h : k < l.length) : (bss l).getD k [] = (l[k]).bs := by simp [bss, h]
set_option maxRecDepth 100000 in
theorem bss_same {l m : List Part} (h : Same l m) : bss l = bss m := h
def Ct.v (c : Ct) : CV := ⟨c.au, c.rd, bss c.bl, bss c.pl, c.vl⟩
def CV.f (c : CV) : Int := certF c.au c.rd (pz c.bl) (pz c.pl) c.vl
def CV.hf (c : CV) : Int := headerF c.au c.rd (pz c.bl) (pz c.pl)
def CV.d (c : CV) : List Int := hDig c.au c.rd (pz c.bl) (pz c.pl)
set_option maxRecDepth 100000 in
theorem certF_same {au rd : Int} {xl bl yl pl : List Part} (vl : List Int) (h1 : Same xl bl) (h2 : Same yl pl) : certF au rd xl yl vl = certF au rd bl pl vl := by
  rw [certF, certF, headerF_sameH h1 h2]
set_option maxRecDepth 100000 in
theorem Ct.f_v (c : Ct) : certF c.au c.rd c.bl c.pl c.vl = c.v.f := (certF_same c.vl (pz_bss c.bl) (pz_bss c.pl)).symm
set_option maxRecDepth 100000 in
theorem Ct.hf_v (c : Ct) : headerF c.au c.rd c.bl c.pl = c.v.hf := (headerF_sameH (pz_bss c.bl) (pz_bss c.pl)).symm
set_option maxRecDepth 100000 in
theorem Ct.d_v (c : Ct) : hDig c.au c.rd c.bl c.pl = c.v.d := by
  rw [CV.d, hDig, hDig]
  show tagD 2 _ = tagD 2 (headB c.au c.rd (pz (bss c.bl)) (pz (bss c.pl)))
  rw [headB_sameH (pz_bss c.bl) (pz_bss c.pl)]
set_option maxRecDepth 100000 in
theorem CV.d_length (c : CV) : c.d.length = 32 := hDig_length _ _ _ _
set_option maxRecDepth 100000 in
theorem certF_head {au rd : Int} {bl pl : List Part} {vl : List Int} (h : certF au rd bl pl vl = 0) : headerF au rd bl pl = 0 := by
  rw [certF] at h
  split at h
  · exact h
  · rename_i g
    simpa using g
def cvs (ls : List Ct) : List CV := ls.map Ct.v
set_option maxRecDepth 100000 in
theorem cvs_length (ls : List Ct) : (cvs ls).length = ls.length := by simp [cvs]
set_option maxRecDepth 100000 in
theorem cvs_take (ls : List Ct) (k : Nat) : cvs (ls.take k) = (cvs ls).take k := by simp [cvs, List.map_take]
def cvAt (l : List CV) (k : Nat) : CV := l.getD k ⟨0, 0, [], [], []⟩
set_option maxRecDepth 100000 in
theorem cvAt_get (ls : List Ct) (k : Nat) (h : k < ls.length) : cvAt (cvs ls) k = (ls[k]).v := by simp [cvAt, cvs, h]
set_option maxRecDepth 100000 in
theorem cvAt_take (l : List CV) (k j : Nat) (h : j < k) : cvAt (l.take k) j = cvAt l j := by simp [cvAt, List.getD, h]
/-- Is the j'th one of that author and round? -/
def cHit (l : List CV) (au rd : Int) (j : Nat) : Bool := decide ((cvAt l j).au = au ∧ (cvAt l j).rd = rd)
set_option maxRecDepth 100000 in
theorem cHit_get (ls : List Ct) (au rd : Int) (k : Nat) (h : k < ls.length) : cHit (cvs ls) au rd k = decide ((ls[k]).au = au ∧ (ls[k]).rd = rd) := by rw [cHit, cvAt_get ls k h]; rfl
/-- The place of the certificate of an author and a round; -1: there is none. -/
def cOf (l : List CV) (au rd : Int) : Int := fidx (cHit l au rd) l.length
def dHit (l : List CV) (d : List Int) (j : Nat) : Bool := decide (txL (cvAt l j).d = txL d)
/-- The place of the certificate of a digest; -1: there is none. -/
def pOf (l : List CV) (d : List Int) : Int := fidx (dHit l d) l.length
set_option maxRecDepth 100000 in
theorem pOf_bounds (l : List CV) (d : List Int) : -1 ≤ pOf l d ∧ pOf l d < l.length := fidx_ge _ _
set_option maxRecDepth 100000 in
theorem cOf_bounds (l : List CV) (au rd : Int) : -1 ≤ cOf l au rd ∧ cOf l au rd < l.length := fidx_ge _ _
/-- What one parent tells. -/
def parAt (l : List CV) (rd : Int) (d : List Int) : Int := if pOf l d < 0 then 8 else if (cvAt l (pOf l d).toNat).rd ≠ rd - 1 then 9 else 0
/-- What the first parents tell. -/
def parTo (l : List CV) (rd : Int) (pl : List (List Int)) : Nat → Int
  | 0 => 0
  | m + 1 => if parTo l rd pl m = 9 then 9 else if parAt l rd (pl.getD m []) = 0 then parTo l rd pl m else parAt l rd (pl.getD m [])
def parF (l : List CV) (rd : Int) (pl : List (List Int)) : Int := parTo l rd pl pl.length
set_option maxRecDepth 100000 in
theorem parAt_or (l : List CV) (rd : Int) (d : List Int) : parAt l rd d = 0 ∨ parAt l rd d = 8 ∨ parAt l rd d = 9 := by
  rw [parAt]
  split
  · exact .inr (.inl rfl)
  · split
    · exact .inr (.inr rfl)
    · exact .inl rfl
set_option maxRecDepth 100000 in
theorem parTo_or (l : List CV) (rd : Int) (pl : List (List Int)) (m : Nat) : parTo l rd pl m = 0 ∨ parTo l rd pl m = 8 ∨ parTo l rd pl m = 9 := by
  induction m with
  | zero => exact .inl rfl
  | succ m ih =>
    rw [parTo]
    split
    · exact .inr (.inr rfl)
    · split
      · exact ih
      · exact parAt_or _ _ _
set_option maxRecDepth 100000 in
theorem parTo_stay (l : List CV) (rd : Int) (pl : List (List Int)) (m k : Nat) (h : parTo l rd pl m = 9) (hk : m ≤ k) : parTo l rd pl k = 9 := by
  induction k with
  | zero =>
    obtain rfl : m = 0 := by omega
    exact h
  | succ k ih =>
    rcases Nat.lt_or_ge m (k + 1) with g | g
    · rw [parTo, if_pos (ih (by omega))]
    · obtain rfl : m = k + 1 := by omega
      exact h
set_option maxRecDepth 100000 in
theorem parTo_none (l : List CV) (rd : Int) (pl : List (List Int)) (m : Nat) (h : parTo l rd pl m ≠ 9) (hp : pOf l (pl.getD m []) < 0) : parTo l rd pl (m + 1) = 8 := by
  rw [parTo, if_neg h, parAt, if_pos hp]
  rfl
set_option maxRecDepth 100000 in
theorem parTo_order (l : List CV) (rd : Int) (pl : List (List Int)) (m : Nat) (hp : ¬ pOf l (pl.getD m []) < 0) (hr : (cvAt l (pOf l (pl.getD m [])).toNat).rd ≠ rd - 1) (hm : m < pl.length) : parF l rd pl = 9 := by
  have e : parTo l rd pl (m + 1) = 9 := by
    rw [parTo, parAt, if_neg hp, if_pos hr]
    split
    · rfl
    · rfl
  exact parTo_stay l rd pl (m + 1) _ e hm
set_option maxRecDepth 100000 in
theorem parTo_ok (l : List CV) (rd : Int) (pl : List (List Int)) (m : Nat) (hp : ¬ pOf l (pl.getD m []) < 0) (hr : (cvAt l (pOf l (pl.getD m [])).toNat).rd = rd - 1) : parTo l rd pl (m + 1) = parTo l rd pl m := by
  have e : parAt l rd (pl.getD m []) = 0 := by rw [parAt, if_neg hp, if_neg (fun h => h hr)]
  rw [parTo, if_pos e]
  split
  · rename_i h
    exact h.symm
  · rfl
/-- Of the first parents those that are missing. -/
def misTo (l : List CV) (pl : List (List Int)) : Nat → List (List Int)
  | 0 => []
  | m + 1 => if pOf l (pl.getD m []) < 0 then misTo l pl m ++ [pl.getD m []] else misTo l pl m
def misF (l : List CV) (pl : List (List Int)) : List (List Int) := misTo l pl pl.length
set_option maxRecDepth 100000 in
theorem misTo_length (l : List CV) (pl : List (List Int)) (m : Nat) : (misTo l pl m).length ≤ m := by
  induction m with
  | zero => simp [misTo]
  | succ m ih =>
    rw [misTo]
    split
    · simp; omega
    · omega
set_option maxRecDepth 100000 in
theorem parTo_mis (l : List CV) (rd : Int) (pl : List (List Int)) (m : Nat) (h : parTo l rd pl m ≠ 9) : parTo l rd pl m = if (misTo l pl m).length = 0 then 0 else 8 := by
  induction m with
  | zero => rfl
  | succ m ih =>
    have h' : parTo l rd pl m ≠ 9 := fun e => h (parTo_stay l rd pl m (m + 1) e (by omega))
    by_cases hp : pOf l (pl.getD m []) < 0
    · rw [parTo_none l rd pl m h' hp, misTo, if_pos hp, if_neg (by simp)]
    · by_cases hr : (cvAt l (pOf l (pl.getD m [])).toNat).rd = rd - 1
      · rw [parTo_ok l rd pl m hp hr, misTo, if_neg hp]
        exact ih h'
      · exfalso
        apply h
        rw [parTo, parAt, if_neg hp, if_pos hr]
        split
        · rfl
        · rfl
/-- May a certificate stand behind those? -/
def takF (l : List CV) (au rd : Int) (pl : List (List Int)) : Int := if 0 ≤ cOf l au rd then 7 else parF l rd pl
/-- What may not be at the k'th place. -/
def badC (l : List CV) (k : Nat) : Bool := decide ((cvAt l k).f ≠ 0) || decide (takF (l.take k) (cvAt l k).au (cvAt l k).rd (cvAt l k).pl ≠ 0)
/-- P5.1 -/
def dagF (l : List CV) : Int := if 400 < l.length ∨ (List.range l.length).any (badC l) = true then 12 else 0
set_option maxRecDepth 100000 in
theorem dagF_long (l : List CV) (h : 400 < l.length) : dagF l = 12 := by simp [dagF, h]
set_option maxRecDepth 100000 in
theorem dagF_bad (l : List CV) (k : Nat) (hk : k < l.length) (h : badC l k = true) : dagF l = 12 := by
  rw [dagF, if_pos]
  right
  simp only [List.any_eq_true]
  exact ⟨k, by simpa using hk, h⟩
set_option maxRecDepth 100000 in
theorem dagF_ok (l : List CV) (hl : l.length ≤ 400) (h : ∀ k, k < l.length → badC l k = false) : dagF l = 0 := by
  rw [dagF, if_neg]
  rintro (g | g)
  · omega
  · simp only [List.any_eq_true] at g
    obtain ⟨k, hk, e⟩ := g
    rw [h k (by simpa using hk)] at e
    cases e
set_option maxRecDepth 100000 in
theorem dagF_zero {l : List CV} (h : dagF l = 0) : l.length ≤ 400 ∧ ∀ k, k < l.length → badC l k = false := by
  rw [dagF] at h
  split at h
  · cases h
  · rename_i g
    refine ⟨by omega, fun k hk => ?_⟩
    cases e : badC l k with
    | false => rfl
    | true => exact absurd (.inr (List.any_eq_true.2 ⟨k, by simpa using hk, e⟩)) g
set_option maxRecDepth 100000 in
theorem dagF_or (l : List CV) : dagF l = 0 ∨ dagF l = 12 := by
  rw [dagF]; split
  · exact .inr rfl
  · exact .inl rfl
set_option maxRecDepth 100000 in
theorem badC_f (l : List CV) (k : Nat) (h : badC l k = false) : (cvAt l k).f = 0 := by
  simp only [badC, Bool.or_eq_false_iff, decide_eq_false_iff_not, ne_eq, Decidable.not_not] at h
  exact h.1

/-- The certificates of a slice of certificates. -/
structure CertsAt (w : World) (sa : Option Addr) (ls : List Ct) : Prop where
  cells : ls = [] ∨ ∃ sb so, sa = some ⟨sb, so, none⟩ ∧ ∀ j (h : j < ls.length), w.cell? ⟨sb, so + j * 5, none⟩ = some (.int .i64 (ls[j]).au) ∧ w.cell? ⟨sb, so + j * 5 + 1, none⟩ = some (.int .i64 (ls[j]).rd) ∧ w.cell? ⟨sb, so + j * 5 + 2, none⟩ = some (.slice (ls[j]).ba (ls[j]).bl.length (ls[j]).bc) ∧ w.cell? ⟨sb, so + j * 5 + 3, none⟩ = some (.slice (ls[j]).pa (ls[j]).pl.length (ls[j]).pc) ∧ w.cell? ⟨sb, so + j * 5 + 4, none⟩ = some (.slice (ls[j]).va (ls[j]).vl.length (ls[j]).vc)
set_option maxRecDepth 100000 in
theorem CertsAt.below {w w' : World} {sa : Option Addr} {ls : List Ct} (h : CertsAt w sa ls) (hb : Below w.heap.size w w') : CertsAt w' sa ls := by
  refine ⟨?_⟩
  rcases h.cells with h | ⟨sb, so, rfl, hc⟩
  · exact .inl h
  · refine .inr ⟨sb, so, rfl, fun j hj => ?_⟩
    obtain ⟨h0, h1, h2, h3, h4⟩ := hc j hj
    have hlt : sb < w.heap.size := block_lt_of_cell h0
    exact ⟨(hb.cell (p := ⟨sb, so + j * 5, none⟩) hlt).trans h0, (hb.cell (p := ⟨sb, so + j * 5 + 1, none⟩) hlt).trans h1, (hb.cell (p := ⟨sb, so + j * 5 + 2, none⟩) hlt).trans h2, (hb.cell (p := ⟨sb, so + j * 5 + 3, none⟩) hlt).trans h3, (hb.cell (p := ⟨sb, so + j * 5 + 4, none⟩) hlt).trans h4⟩
set_option maxRecDepth 100000 in
theorem CertsAt.take {w : World} {sa : Option Addr} {ls : List Ct} (h : CertsAt w sa ls) (k : Nat) : CertsAt w sa (ls.take k) := by
  refine ⟨?_⟩
  rcases h.cells with h | ⟨sb, so, rfl, hc⟩
  · left; simp [h]
  · refine .inr ⟨sb, so, rfl, fun j hj => ?_⟩
    have hj' : j < ls.length := by simp at hj; omega
    have := hc j hj'
    simpa [List.getElem_take] using this
set_option maxRecDepth 100000 in
theorem CertsAt.nil (w : World) (sa : Option Addr) : CertsAt w sa [] := ⟨.inl rfl⟩
set_option maxRecDepth 100000 in
theorem CertsAt.at {w : World} {sa : Option Addr} {ls : List Ct} (h : CertsAt w sa ls) (m : Nat) (hm : m < ls.length) : ∃ sb so, sa = some ⟨sb, so, none⟩ ∧ w.cell? ⟨sb, so + m * 5, none⟩ = some (.int .i64 (ls[m]).au) ∧ w.cell? ⟨sb, so + m * 5 + 1, none⟩ = some (.int .i64 (ls[m]).rd) ∧ w.cell? ⟨sb, so + m * 5 + 2, none⟩ = some (.slice (ls[m]).ba (ls[m]).bl.length (ls[m]).bc) ∧ w.cell? ⟨sb, so + m * 5 + 3, none⟩ = some (.slice (ls[m]).pa (ls[m]).pl.length (ls[m]).pc) ∧ w.cell? ⟨sb, so + m * 5 + 4, none⟩ = some (.slice (ls[m]).va (ls[m]).vl.length (ls[m]).vc) := by
  rcases h.cells with h | ⟨sb, so, rfl, hc⟩
  · rw [h] at hm; simp at hm
  · exact ⟨sb, so, rfl, hc m hm⟩
/-- A certificate that is read. -/
structure CtAt (w : World) (c : Ct) : Prop where
  hat : HAt w c.ba c.bc c.bl c.pa c.pc c.pl
  ints : IntsAt w c.va c.vl
  vle : c.vl.length ≤ 9000000000000000000
set_option maxRecDepth 100000 in
theorem CtAt.below {w w' : World} {c : Ct} (h : CtAt w c) (hb : Below w.heap.size w w') : CtAt w' c := ⟨h.hat.below hb, h.ints.below hb, h.vle⟩
/-- A slice of certificates that is read. -/
structure DagAt (w : World) (sa : Option Addr) (cap : Nat) (ls : List Ct) : Prop where
  le : ls.length ≤ cap
  max : cap ≤ 9223372036854775807
  small : ls.length ≤ 3000000000000000000
  some : cap = 0 ∨ ∃ sb so, sa = some ⟨sb, so, none⟩
  certs : CertsAt w sa ls
  each : ∀ c ∈ ls, CtAt w c
set_option maxRecDepth 100000 in
theorem DagAt.below {w w' : World} {sa : Option Addr} {cap : Nat} {ls : List Ct} (h : DagAt w sa cap ls) (hb : Below w.heap.size w w') : DagAt w' sa cap ls := ⟨h.le, h.max, h.small, h.some, h.certs.below hb, fun c hc => (h.each c hc).below hb⟩
end Go.Proofs.YtbmodfegcmaieaaDoor
