/- The law sheaveslaw.SealProven answers true for every argument, and each argument reads behind the call as it read before: the tied card. Its conditions: the three tables of package blake hold what the program's text lays (the card ties that); the form's own reach. -/
import Derived.Test.YtmpflkggbekpfaaDoorBase
import Derived.Test.YtmpflkggbekpfaaDoorSealProvenM6
import Derived.Test.YtmpflkggbekpfaaDoorCertF
import Derived.Test.YtmpflkggbekpfaaDoorSealProvenM48
import Derived.Deep.Slices
import Derived.Test.YtmpflkggbekpfaaDoorSealProvenM36
import Derived.Test.YtmpflkggbekpfaaDoorSealProvenM42
import Derived.Test.YtmpflkggbekpfaaDoorSealProvenM30
import Derived.Test.YtmpflkggbekpfaaDoorCards
import Derived.Test.YtmpflkggbekpfaaDoorTie
import Derived.WalkKit
import Derived.ProofKit
import Derived.OpenShut
import Derived.Deep.DeepHandedRow
import Derived.SevenTiedAt
import Derived.Below
namespace Go.Proofs.YtmpflkggbekpfaaDoor
open Go.RowKit

/-- The first place of the first k that has it; -1: none has. -/
def fidx (p : Nat → Bool) : Nat → Int
  | 0 => -1
  | k + 1 => if 0 ≤ fidx p k then fidx p k else if p k = true then (k : Int) else -1
set_option maxRecDepth 100000 in
theorem fidx_ge (p : Nat → Bool) (k : Nat) : -1 ≤ fidx p k ∧ fidx p k < k := by
  induction k with
  | zero => exact ⟨by simp [fidx], by simp [fidx]⟩
  | succ k ih =>
    rw [fidx]
    split
    · omega
    · split <;> omega
set_option maxRecDepth 100000 in
theorem fidx_stay (p : Nat → Bool) (m k : Nat) (h : 0 ≤ fidx p m) (hk : m ≤ k) : fidx p k = fidx p m := by
  induction k with
  | zero =>
    obtain rfl : m = 0 := by omega
    rfl
  | succ k ih =>
    rcases Nat.lt_or_ge m (k + 1) with g | g
    · rw [fidx, ih (by omega), if_pos h]
    · obtain rfl : m = k + 1 := by omega
      rfl
set_option maxRecDepth 100000 in
theorem fidx_hit (p : Nat → Bool) (m k : Nat) (h : fidx p m = -1) (hp : p m = true) (hk : m < k) : fidx p k = m := by
  have e : fidx p (m + 1) = m := by rw [fidx, h]; simp [hp]
  rw [fidx_stay p (m + 1) k (by rw [e]; omega) hk, e]
set_option maxRecDepth 100000 in
theorem fidx_step (p : Nat → Bool) (m : Nat) (h : fidx p m = -1) (hp : p m = false) : fidx p (m + 1) = -1 := by rw [fidx, h]; simp [hp]
set_option maxRecDepth 100000 in
theorem fidx_congr (p q : Nat → Bool) (k : Nat) (h : ∀ j, j < k → p j = q j) : fidx p k = fidx q k := by
  induction k with
  | zero => rfl
  | succ k ih => rw [fidx, fidx, ih (fun j hj => h j (by omega)), h k (by omega)]
set_option maxRecDepth 100000 in
theorem fidx_yes (p : Nat → Bool) (k : Nat) (h : 0 ≤ fidx p k) : p (fidx p k).toNat = true := by
  induction k with
  | zero => simp [fidx] at h
  | succ k ih =>
    rw [fidx] at h ⊢
    split
    · rename_i g
      exact ih g
    · rename_i g
      rw [if_neg g] at h
      split
      · rename_i g2
        simpa using g2
      · rename_i g2
        rw [if_neg g2] at h
        omega
set_option maxRecDepth 100000 in
theorem fidx_no (p : Nat → Bool) (k : Nat) (h : fidx p k < 0) (j : Nat) (hj : j < k) : p j = false := by
  induction k with
  | zero => omega
  | succ k ih =>
    rw [fidx] at h
    split at h
    · omega
    · rename_i g
      split at h
      · omega
      · rename_i g2
        rcases Nat.lt_or_ge j k with q | q
        · exact ih (by omega) q
        · obtain rfl : j = k := by omega
          simpa using g2
set_option maxRecDepth 100000 in
theorem fidx_none (p : Nat → Bool) (k : Nat) (h : ∀ j, j < k → p j = false) : fidx p k = -1 := by
  induction k with
  | zero => rfl
  | succ k ih => exact fidx_step p k (ih (fun j hj => h j (by omega))) (h k (by omega))
set_option maxRecDepth 100000 in
theorem fidx_neg (p : Nat → Bool) (k : Nat) (h : fidx p k < 0) : fidx p k = -1 := by
  have := fidx_ge p k
  omega
end Go.Proofs.YtmpflkggbekpfaaDoor

namespace Go.Proofs.YtmpflkggbekpfaaDoor
open Go.RowKit

/-- A certificate, and where its lists lie. -/
structure Ct where
  au : Int
  rd : Int
  ba : Option Addr
  bc : Nat
  bl : List Part
  pa : Option Addr
  pc : Nat
  pl : List Part
  va : Option Addr
  vc : Nat
  vl : List Int
/-- What counts of a certificate. -/
structure CV where
  au : Int
  rd : Int
  bl : List (List Int)
  pl : List (List Int)
  vl : List Int
def bss (l : List Part) : List (List Int) := l.map (·.bs)
set_option maxRecDepth 100000 in
theorem bss_length (l : List Part) : (bss l).length = l.length := by simp [bss]
def pz (l : List (List Int)) : List Part := l.map fun b => ⟨none, 0, b⟩
set_option maxRecDepth 100000 in
theorem pz_bss (l : List Part) : Same (pz (bss l)) l := by
  show (pz (bss l)).map (·.bs) = l.map (·.bs)
  simp [pz, bss]
set_option maxRecDepth 100000 in
theorem bss_get (l : List Part) (k : Nat) (h : k < l.length) : (bss l).getD k [] = (l[k]).bs := by simp [bss, h]
set_option maxRecDepth 100000 in
theorem bss_same {l m : List Part} (h : Same l m) : bss l = bss m := h
def Ct.v (c : Ct) : CV := ⟨c.au, c.rd, bss c.bl, bss c.pl, c.vl⟩
def CV.f (c : CV) : Int := certF c.au c.rd (pz c.bl) (pz c.pl) c.vl
def CV.hf (c : CV) : Int := headerF c.au c.rd (pz c.bl) (pz c.pl)
def CV.d (c : CV) : List Int := hDig c.au c.rd (pz c.bl) (pz c.pl)
set_option maxRecDepth 100000 in
theorem certF_same {au rd : Int} {xl bl yl pl : List Part} (vl : List Int) (h1 : Same xl bl) (h2 : Same yl pl) : certF au rd xl yl vl = certF au rd bl pl vl := by
  rw [certF, certF, headerF_sameH h1 h2]
set_option maxRecDepth 100000 in
theorem Ct.f_v (c : Ct) : certF c.au c.rd c.bl c.pl c.vl = c.v.f := (certF_same c.vl (pz_bss c.bl) (pz_bss c.pl)).symm
set_option maxRecDepth 100000 in
theorem Ct.hf_v (c : Ct) : headerF c.au c.rd c.bl c.pl = c.v.hf := (headerF_sameH (pz_bss c.bl) (pz_bss c.pl)).symm
set_option maxRecDepth 100000 in
theorem Ct.d_v (c : Ct) : hDig c.au c.rd c.bl c.pl = c.v.d := by
  rw [CV.d, hDig, hDig]
  show tagD 2 _ = tagD 2 (headB c.au c.rd (pz (bss c.bl)) (pz (bss c.pl)))
  rw [headB_sameH (pz_bss c.bl) (pz_bss c.pl)]
set_option maxRecDepth 100000 in
theorem CV.d_length (c : CV) : c.d.length = 32 := hDig_length _ _ _ _
set_option maxRecDepth 100000 in
theorem certF_head {au rd : Int} {bl pl : List Part} {vl : List Int} (h : certF au rd bl pl vl = 0) : headerF au rd bl pl = 0 := by
  rw [certF] at h
  split at h
  · exact h
  · rename_i g
    simpa using g
def cvs (ls : List Ct) : List CV := ls.map Ct.v
set_option maxRecDepth 100000 in
theorem cvs_length (ls : List Ct) : (cvs ls).length = ls.length := by simp [cvs]
set_option maxRecDepth 100000 in
theorem cvs_take (ls : List Ct) (k : Nat) : cvs (ls.take k) = (cvs ls).take k := by simp [cvs, List.map_take]
def cvAt (l : List CV) (k : Nat) : CV := l.getD k ⟨0, 0, [], [], []⟩
set_option maxRecDepth 100000 in
theorem cvAt_get (ls : List Ct) (k : Nat) (h : k < ls.length) : cvAt (cvs ls) k = (ls[k]).v := by simp [cvAt, cvs, h]
set_option maxRecDepth 100000 in
theorem cvAt_take (l : List CV) (k j : Nat) (h : j < k) : cvAt (l.take k) j = cvAt l j := by simp [cvAt, List.getD, h]
/-- Is the j'th one of that author and round? -/
def cHit (l : List CV) (au rd : Int) (j : Nat) : Bool := decide ((cvAt l j).au = au ∧ (cvAt l j).rd = rd)
set_option maxRecDepth 100000 in
theorem cHit_get (ls : List Ct) (au rd : Int) (k : Nat) (h : k < ls.length) : cHit (cvs ls) au rd k = decide ((ls[k]).au = au ∧ (ls[k]).rd = rd) := by rw [cHit, cvAt_get ls k h]; rfl
/-- The place of the certificate of an author and a round; -1: there is none. -/
def cOf (l : List CV) (au rd : Int) : Int := fidx (cHit l au rd) l.length
def dHit (l : List CV) (d : List Int) (j : Nat) : Bool := decide (txL (cvAt l j).d = txL d)
/-- The place of the certificate of a digest; -1: there is none. -/
def pOf (l : List CV) (d : List Int) : Int := fidx (dHit l d) l.length
set_option maxRecDepth 100000 in
theorem pOf_bounds (l : List CV) (d : List Int) : -1 ≤ pOf l d ∧ pOf l d < l.length := fidx_ge _ _
set_option maxRecDepth 100000 in
theorem cOf_bounds (l : List CV) (au rd : Int) : -1 ≤ cOf l au rd ∧ cOf l au rd < l.length := fidx_ge _ _
/-- What one parent tells. -/
def parAt (l : List CV) (rd : Int) (d : List Int) : Int := if pOf l d < 0 then 8 else if (cvAt l (pOf l d).toNat).rd ≠ rd - 1 then 9 else 0
/-- What the first parents tell. -/
def parTo (l : List CV) (rd : Int) (pl : List (List Int)) : Nat → Int
  | 0 => 0
  | m + 1 => if parTo l rd pl m = 9 then 9 else if parAt l rd (pl.getD m []) = 0 then parTo l rd pl m else parAt l rd (pl.getD m [])
def parF (l : List CV) (rd : Int) (pl : List (List Int)) : Int := parTo l rd pl pl.length
set_option maxRecDepth 100000 in
theorem parAt_or (l : List CV) (rd : Int) (d : List Int) : parAt l rd d = 0 ∨ parAt l rd d = 8 ∨ parAt l rd d = 9 := by
  rw [parAt]
  split
  · exact .inr (.inl rfl)
  · split
    · exact .inr (.inr rfl)
    · exact .inl rfl
set_option maxRecDepth 100000 in
theorem parTo_or (l : List CV) (rd : Int) (pl : List (List Int)) (m : Nat) : parTo l rd pl m = 0 ∨ parTo l rd pl m = 8 ∨ parTo l rd pl m = 9 := by
  induction m with
  | zero => exact .inl rfl
  | succ m ih =>
    rw [parTo]
    split
    · exact .inr (.inr rfl)
    · split
      · exact ih
      · exact parAt_or _ _ _
set_option maxRecDepth 100000 in
theorem parTo_stay (l : List CV) (rd : Int) (pl : List (List Int)) (m k : Nat) (h : parTo l rd pl m = 9) (hk : m ≤ k) : parTo l rd pl k = 9 := by
  induction k with
  | zero =>
    obtain rfl : m = 0 := by omega
    exact h
  | succ k ih =>
    rcases Nat.lt_or_ge m (k + 1) with g | g
    · rw [parTo, if_pos (ih (by omega))]
    · obtain rfl : m = k + 1 := by omega
      exact h
set_option maxRecDepth 100000 in
theorem parTo_none (l : List CV) (rd : Int) (pl : List (List Int)) (m : Nat) (h : parTo l rd pl m ≠ 9) (hp : pOf l (pl.getD m []) < 0) : parTo l rd pl (m + 1) = 8 := by
  rw [parTo, if_neg h, parAt, if_pos hp]
  rfl
set_option maxRecDepth 100000 in
theorem parTo_order (l : List CV) (rd : Int) (pl : List (List Int)) (m : Nat) (hp : ¬ pOf l (pl.getD m []) < 0) (hr : (cvAt l (pOf l (pl.getD m [])).toNat).rd ≠ rd - 1) (hm : m < pl.length) : parF l rd pl = 9 := by
  have e : parTo l rd pl (m + 1) = 9 := by
    rw [parTo, parAt, if_neg hp, if_pos hr]
    split
    · rfl
    · rfl
  exact parTo_stay l rd pl (m + 1) _ e hm
set_option maxRecDepth 100000 in
theorem parTo_ok (l : List CV) (rd : Int) (pl : List (List Int)) (m : Nat) (hp : ¬ pOf l (pl.getD m []) < 0) (hr : (cvAt l (pOf l (pl.getD m [])).toNat).rd = rd - 1) : parTo l rd pl (m + 1) = parTo l rd pl m := by
  have e : parAt l rd (pl.getD m []) = 0 := by rw [parAt, if_neg hp, if_neg (fun h => h hr)]
  rw [parTo, if_pos e]
  split
  · rename_i h
    exact h.symm
  · rfl
/-- Of the first parents those that are missing. -/
def misTo (l : List CV) (pl : List (List Int)) : Nat → List (List Int)
  | 0 => []
  | m + 1 => if pOf l (pl.getD m []) < 0 then misTo l pl m ++ [pl.getD m []] else misTo l pl m
def misF (l : List CV) (pl : List (List Int)) : List (List Int) := misTo l pl pl.length
set_option maxRecDepth 100000 in
theorem misTo_length (l : List CV) (pl : List (List Int)) (m : Nat) : (misTo l pl m).length ≤ m := by
  induction m with
  | zero => simp [misTo]
  | succ m ih =>
    rw [misTo]
    split
    · simp; omega
    · omega
set_option maxRecDepth 100000 in
theorem parTo_mis (l : List CV) (rd : Int) (pl : List (List Int)) (m : Nat) (h : parTo l rd pl m ≠ 9) : parTo l rd pl m = if (misTo l pl m).length = 0 then 0 else 8 := by
  induction m with
  | zero => rfl
  | succ m ih =>
    have h' : parTo l rd pl m ≠ 9 := fun e => h (parTo_stay l rd pl m (m + 1) e (by omega))
    by_cases hp : pOf l (pl.getD m []) < 0
    · rw [parTo_none l rd pl m h' hp, misTo, if_pos hp, if_neg (by simp)]
    · by_cases hr : (cvAt l (pOf l (pl.getD m [])).toNat).rd = rd - 1
      · rw [parTo_ok l rd pl m hp hr, misTo, if_neg hp]
        exact ih h'
      · exfalso
        apply h
        rw [parTo, parAt, if_neg hp, if_pos hr]
        split
        · rfl
        · rfl
/-- May a certificate stand behind those? -/
def takF (l : List CV) (au rd : Int) (pl : List (List Int)) : Int := if 0 ≤ cOf l au rd then 7 else parF l rd pl
/-- What may not be at the k'th place. -/
def badC (l : List CV) (k : Nat) : Bool := decide ((cvAt l k).f ≠ 0) || decide (takF (l.take k) (cvAt l k).au (cvAt l k).rd (cvAt l k).pl ≠ 0)
/-- P5.1 -/
def dagF (l : List CV) : Int := if 400 < l.length ∨ (List.range l.length).any (badC l) = true then 12 else 0
set_option maxRecDepth 100000 in
theorem dagF_long (l : List CV) (h : 400 < l.length) : dagF l = 12 := by simp [dagF, h]
set_option maxRecDepth 100000 in
theorem dagF_bad (l : List CV) (k : Nat) (hk : k < l.length) (h : badC l k = true) : dagF l = 12 := by
  rw [dagF, if_pos]
  right
  simp only [List.any_eq_true]
  exact ⟨k, by simpa using hk, h⟩
set_option maxRecDepth 100000 in
theorem dagF_ok (l : List CV) (hl : l.length ≤ 400) (h : ∀ k, k < l.length → badC l k = false) : dagF l = 0 := by
  rw [dagF, if_neg]
  rintro (g | g)
  · omega
  · simp only [List.any_eq_true] at g
    obtain ⟨k, hk, e⟩ := g
    rw [h k (by simpa using hk)] at e
    cases e
set_option maxRecDepth 100000 in
theorem dagF_zero {l : List CV} (h : dagF l = 0) : l.length ≤ 400 ∧ ∀ k, k < l.length → badC l k = false := by
  rw [dagF] at h
  split at h
  · cases h
  · rename_i g
    refine ⟨by omega, fun k hk => ?_⟩
    cases e : badC l k with
    | false => rfl
    | true => exact absurd (.inr (List.any_eq_true.2 ⟨k, by simpa using hk, e⟩)) g
set_option maxRecDepth 100000 in
theorem dagF_or (l : List CV) : dagF l = 0 ∨ dagF l = 12 := by
  rw [dagF]; split
  · exact .inr rfl
  · exact .inl rfl
set_option maxRecDepth 100000 in
theorem badC_f (l : List CV) (k : Nat) (h : badC l k = false) : (cvAt l k).f = 0 := by
  simp only [badC, Bool.or_eq_false_iff, decide_eq_false_iff_not, ne_eq, Decidable.not_not] at h
  exact h.1

/-- The certificates of a slice of certificates. -/
structure CertsAt (w : World) (sa : Option Addr) (ls : List Ct) : Prop where
  cells : ls = [] ∨ ∃ sb so, sa = some ⟨sb, so, none⟩ ∧ ∀ j (h : j < ls.length), w.cell? ⟨sb, so + j * 5, none⟩ = some (.int .i64 (ls[j]).au) ∧ w.cell? ⟨sb, so + j * 5 + 1, none⟩ = some (.int .i64 (ls[j]).rd) ∧ w.cell? ⟨sb, so + j * 5 + 2, none⟩ = some (.slice (ls[j]).ba (ls[j]).bl.length (ls[j]).bc) ∧ w.cell? ⟨sb, so + j * 5 + 3, none⟩ = some (.slice (ls[j]).pa (ls[j]).pl.length (ls[j]).pc) ∧ w.cell? ⟨sb, so + j * 5 + 4, none⟩ = some (.slice (ls[j]).va (ls[j]).vl.length (ls[j]).vc)
set_option maxRecDepth 100000 in
theorem CertsAt.below {w w' : World} {sa : Option Addr} {ls : List Ct} (h : CertsAt w sa ls) (hb : Below w.heap.size w w') : CertsAt w' sa ls := by
  refine ⟨?_⟩
  rcases h.cells with h | ⟨sb, so, rfl, hc⟩
  · exact .inl h
  · refine .inr ⟨sb, so, rfl, fun j hj => ?_⟩
    obtain ⟨h0, h1, h2, h3, h4⟩ := hc j hj
    have hlt : sb < w.heap.size := block_lt_of_cell h0
    exact ⟨(hb.cell (p := ⟨sb, so + j * 5, none⟩) hlt).trans h0, (hb.cell (p := ⟨sb, so + j * 5 + 1, none⟩) hlt).trans h1, (hb.cell (p := ⟨sb, so + j * 5 + 2, none⟩) hlt).trans h2, (hb.cell (p := ⟨sb, so + j * 5 + 3, none⟩) hlt).trans h3, (hb.cell (p := ⟨sb, so + j * 5 + 4, none⟩) hlt).trans h4⟩
set_option maxRecDepth 100000 in
theorem CertsAt.take {w : World} {sa : Option Addr} {ls : List Ct} (h : CertsAt w sa ls) (k : Nat) : CertsAt w sa (ls.take k) := by
  refine ⟨?_⟩
  rcases h.cells with h | ⟨sb, so, rfl, hc⟩
  · left; simp [h]
  · refine .inr ⟨sb, so, rfl, fun j hj => ?_⟩
    have hj' : j < ls.length := by simp at hj; omega
    have := hc j hj'
    simpa [List.getElem_take] using this
set_option maxRecDepth 100000 in
theorem CertsAt.nil (w : World) (sa : Option Addr) : CertsAt w sa [] := ⟨.inl rfl⟩
set_option maxRecDepth 100000 in
theorem CertsAt.at {w : World} {sa : Option Addr} {ls : List Ct} (h : CertsAt w sa ls) (m : Nat) (hm : m < ls.length) : ∃ sb so, sa = some ⟨sb, so, none⟩ ∧ w.cell? ⟨sb, so + m * 5, none⟩ = some (.int .i64 (ls[m]).au) ∧ w.cell? ⟨sb, so + m * 5 + 1, none⟩ = some (.int .i64 (ls[m]).rd) ∧ w.cell? ⟨sb, so + m * 5 + 2, none⟩ = some (.slice (ls[m]).ba (ls[m]).bl.length (ls[m]).bc) ∧ w.cell? ⟨sb, so + m * 5 + 3, none⟩ = some (.slice (ls[m]).pa (ls[m]).pl.length (ls[m]).pc) ∧ w.cell? ⟨sb, so + m * 5 + 4, none⟩ = some (.slice (ls[m]).va (ls[m]).vl.length (ls[m]).vc) := by
  rcases h.cells with h | ⟨sb, so, rfl, hc⟩
  · rw [h] at hm; simp at hm
  · exact ⟨sb, so, rfl, hc m hm⟩
/-- A certificate that is read. -/
structure CtAt (w : World) (c : Ct) : Prop where
  hat : HAt w c.ba c.bc c.bl c.pa c.pc c.pl
  ints : IntsAt w c.va c.vl
  vle : c.vl.length ≤ 9000000000000000000
set_option maxRecDepth 100000 in
theorem CtAt.below {w w' : World} {c : Ct} (h : CtAt w c) (hb : Below w.heap.size w w') : CtAt w' c := ⟨h.hat.below hb, h.ints.below hb, h.vle⟩
/-- A slice of certificates that is read. -/
structure DagAt (w : World) (sa : Option Addr) (cap : Nat) (ls : List Ct) : Prop where
  le : ls.length ≤ cap
  max : cap ≤ 9223372036854775807
  small : ls.length ≤ 3000000000000000000
  some : cap = 0 ∨ ∃ sb so, sa = some ⟨sb, so, none⟩
  certs : CertsAt w sa ls
  each : ∀ c ∈ ls, CtAt w c
set_option maxRecDepth 100000 in
theorem DagAt.below {w w' : World} {sa : Option Addr} {cap : Nat} {ls : List Ct} (h : DagAt w sa cap ls) (hb : Below w.heap.size w w') : DagAt w' sa cap ls := ⟨h.le, h.max, h.small, h.some, h.certs.below hb, fun c hc => (h.each c hc).below hb⟩
end Go.Proofs.YtmpflkggbekpfaaDoor

namespace Go.Proofs.YtmpflkggbekpfaaDoor
open Go.ChangeShapes Go.WideShapes Go.ChangeAt Go.RowKit Go.Deep

/-- What is read of a certificate that came in. -/
structure CtRd (w : World) (c : Ct) : Prop where
  rb : ReadAt w c.ba c.bc c.bl
  rp : ReadAt w c.pa c.pc c.pl
  nums : NumsAt w c.va c.vc c.vl
  ub : ∀ p ∈ c.bl, AllU8 p.bs
  up : ∀ p ∈ c.pl, AllU8 p.bs
set_option maxRecDepth 100000 in
theorem CtRd.below {w w' : World} {c : Ct} (h : CtRd w c) (hb : Below w.heap.size w w') : CtRd w' c := ⟨h.rb.below hb, h.rp.below hb, ⟨h.nums.ints.below hb, h.nums.le, h.nums.reach⟩, h.ub, h.up⟩
set_option maxRecDepth 100000 in
theorem open_certU_cells {H : Type} {enc : TypeId × Value → H} {W : World} {fuel : Nat} {cs : List Value} {x : DataW H × List MemPlace}
    (hf : DataW.trod enc Tryd.prog W 0 (fun _ => true) true fuel 28 cs = some x) (hfit : ∀ n ∈ x.1.weights Tryd.prog 28, n ≤ reachBytes) :
    ∃ c : Ct, cs = [.int .i64 c.au, .int .i64 c.rd, .slice c.ba c.bl.length c.bc, .slice c.pa c.pl.length c.pc, .slice c.va c.vl.length c.vc] ∧ CtRd W c := by
  obtain ⟨y0, y1, n, rfl, hl, h0, h1⟩ := trod_struct2 Tryd.underlying28 hf
  rw [cCert] at hl
  match cs, hl with
  | [c0, c1, c2, c3, c4], _ =>
  obtain ⟨au, rd, ba, bc, bl, pa, pc, pl, e0, i0, i1, hb, hp, u1, u2⟩ := open_headerU_cells h0 (fun n hn => hfit n (by simp [DataW.weights, DataW.weightsEach, Tryd.underlying28, hn]))
  obtain ⟨va, vc, vl, e1, hn⟩ := open_nums_cells h1 (fun n hn => hfit n (by simp [DataW.weights, DataW.weightsEach, Tryd.underlying28, hn]))
  simp [cHeaderC, cIntsC] at e0 e1
  obtain ⟨rfl, rfl, rfl, rfl⟩ := e0
  subst e1
  exact ⟨⟨au, rd, ba, bc, bl, pa, pc, pl, va, vc, vl⟩, rfl, ⟨hb, hp, hn, u1, u2⟩⟩
set_option maxRecDepth 100000 in
theorem open_certU {H : Type} {enc : TypeId × Value → H} {W : World} {base : Nat} {v : Value} {d : DataW H} {p : List MemPlace}
    (hv : Value.okWide Tryd.prog W .any base 28 v) (h : DataW.Trod enc Tryd.prog W 0 (fun _ => true) true 28 v d p) (hfit : ∀ n ∈ d.weights Tryd.prog 28, n ≤ reachBytes) :
    ∃ c : Ct, v = .agg #[.int .i64 c.au, .int .i64 c.rd, .slice c.ba c.bl.length c.bc, .slice c.pa c.pl.length c.pc, .slice c.va c.vl.length c.vc] ∧ CtRd W c := by
  obtain ⟨cs, rfl, _⟩ := okWide_struct Tryd.underlying28 hv
  obtain ⟨fuel, hf⟩ := h
  obtain ⟨c, hcs, h1⟩ := open_certU_cells hf hfit
  refine ⟨c, ?_, h1⟩
  have : cs.toList = _ := hcs
  rw [← this]
end Go.Proofs.YtmpflkggbekpfaaDoor

namespace Go.Proofs.YtmpflkggbekpfaaDoor
open Go.RowKit

set_option maxRecDepth 100000 in
theorem certF_sameG {au rd : Int} {xl bl yl pl : List Part} {vl : List Int} (h1 : Same xl bl) (h2 : Same yl pl) : certF au rd xl yl vl = certF au rd bl pl vl := by rw [certF, certF, headerF_sameH h1 h2]
set_option maxRecDepth 100000 in
theorem hDig_sameG {au rd : Int} {xl bl yl pl : List Part} (h1 : Same xl bl) (h2 : Same yl pl) : hDig au rd xl yl = hDig au rd bl pl := by rw [hDig, hDig, headB_sameH h1 h2]
set_option maxRecDepth 100000 in
set_option maxHeartbeats 4000000 in
theorem sealProven_walk (sa : Option Addr) (cap : Nat) (ls : List Sg) (bad : Int) (c : Ct) (w : World) (ht : GRead w sa cap ls) (_h : ∀ s ∈ ls, I64 s.nd ∧ I64 s.au ∧ I64 s.rd) (_lo : -9223372036854775808 ≤ bad) (_hi : bad ≤ 9223372036854775807) (hc : CtRd w c) (hT : Tabs w) :
    Calls Tryd.prog 3 #[.slice sa ls.length cap, .int .i64 bad, .agg #[.int .i64 c.au, .int .i64 c.rd, .slice c.ba c.bl.length c.bc, .slice c.pa c.pl.length c.pc, .slice c.va c.vl.length c.vc]] w fun e w' => e = .returned (.bool true) ∧ Below w.heap.size w w' := by
  have hA := (Below.refl w.heap.size w).alloc (Nat.le_refl _) (.cells #[.int .i64 c.au, .int .i64 c.rd, .slice c.ba c.bl.length c.bc, .slice c.pa c.pl.length c.pc, .slice c.va c.vl.length c.vc] 28)
  have r0 := heap_alloc_new w (.cells #[.int .i64 c.au, .int .i64 c.rd, .slice c.ba c.bl.length c.bc, .slice c.pa c.pl.length c.pc, .slice c.va c.vl.length c.vc] 28)
  have hnr := hc.nums.reach
  have hnl := hc.nums.le
  go_enter Tryd.func3, Tryd.ntmps3
  go_wp2_with fail
  generalize w.alloc (.cells #[.int .i64 c.au, .int .i64 c.rd, .slice c.ba c.bl.length c.bc, .slice c.pa c.pl.length c.pc, .slice c.va c.vl.length c.vc] 28) = W0 at hA r0 ⊢
  have hblt := lt_of_heap r0
  have hD : Below W0.heap.size W0 W0.drew := (Below.refl _ _).drew
  refine wp_region_held_drew (S := fun w' => w'.cell? ⟨w.heap.size, 0, none⟩ = some (.int .i64 c.au) ∧ w'.cell? ⟨w.heap.size, 1, none⟩ = some (.int .i64 c.rd) ∧ w'.cell? ⟨w.heap.size, 2, none⟩ = some (.slice c.ba c.bl.length c.bc) ∧ w'.cell? ⟨w.heap.size, 3, none⟩ = some (.slice c.pa c.pl.length c.pc) ∧ w'.cell? ⟨w.heap.size, 4, none⟩ = some (.slice c.va c.vl.length c.vc)) (by kernel_rfl) ⟨cells_at r0 0 _ rfl, cells_at r0 1 _ rfl, cells_at r0 2 _ rfl, cells_at r0 3 _ rfl, cells_at r0 4 _ rfl⟩ (fun hHeld => ?_)
  refine take_dst (i := 0) (d := 9) (v := .slice sa ls.length cap) rfl rfl (by kernel_rfl) (by kernel_rfl) (by kernel_rfl) (fun _ _ _ h => h) (Or.inl ⟨by rfl, ?_⟩) hHeld ?_
  · (intro w0 hSw; (try dsimp only at hSw); go_simp)
  simp only [Act.put, List.setIfInBounds_toArray, List.set_cons_zero, List.set_cons_succ]
  refine take_dst (i := 2) (d := 11) (v := .int .i64 bad) rfl rfl (by kernel_rfl) (by kernel_rfl) (by kernel_rfl) (fun _ _ _ h => h) (Or.inl ⟨by rfl, ?_⟩) hHeld ?_
  · (intro w0 hSw; (try dsimp only at hSw); go_simp)
  simp only [Act.put, List.setIfInBounds_toArray, List.set_cons_zero, List.set_cons_succ]
  refine take_dst (i := 3) (d := 12) (v := .agg #[.int .i64 c.au, .int .i64 c.rd, .slice c.ba c.bl.length c.bc, .slice c.pa c.pl.length c.pc, .slice c.va c.vl.length c.vc]) rfl rfl (by kernel_rfl) (by kernel_rfl) (by kernel_rfl) (fun _ _ _ h => h) (Or.inl ⟨by rfl, ?_⟩) hHeld ?_
  · (intro w0 hSw; (try dsimp only at hSw); go_simp)
  simp only [Act.put, List.setIfInBounds_toArray, List.set_cons_zero, List.set_cons_succ]
  refine wpAnyH_ready (rs := [1]) (by kernel_rfl) (by simp) (AllReadyH.cons rfl (fun K hK => ?_) AllReadyH.nil)
  refine step_calls_dst rfl 10 rfl 9 [.tmp 9] #[22] rfl [.slice sa ls.length cap] rfl (enters_of Tryd.func9 (by kernel_rfl) rfl) (fun v w' => ∃ ra rc ks, v = .slice ra ls.length rc ∧ gvs ks = gvs ls ∧ GTab w' ra rc ks ∧ Below W0.heap.size W0 w') ((signsCopy_any ls sa _ cap W0.drew rfl ((ht.below hA).below hD)).mono (fun e w2 ⟨ra, rc, ks, he, hS, hT, hb, _⟩ => ⟨_, he, ra, rc, ks, rfl, hS, hT, below_drew hb⟩)) ?_
  rintro v w1 ⟨ra, rc, ks, rfl, hS, hT1, hbB⟩
  have r1 := (hbB.block _ hblt).trans r0
  refine hK.out _ _ ⟨cells_at r1 0 _ rfl, cells_at r1 1 _ rfl, cells_at r1 2 _ rfl, cells_at r1 3 _ rfl, cells_at r1 4 _ rfl⟩ (fun hHeld => ?_)
  simp only [Act.put, List.setIfInBounds_toArray, List.set_cons_zero, List.set_cons_succ]
  have hB1 := hA.trans (hbB.mono hA.size)
  have hc1 := hc.below hB1
  refine wpAnyH_ready (rs := [4]) (by kernel_rfl) (by simp) (AllReadyH.cons rfl (fun K hK => ?_) AllReadyH.nil)
  refine step_calls_dst rfl 13 rfl 10 [.tmp 12] #[28] rfl [.agg #[.int .i64 c.au, .int .i64 c.rd, .slice c.ba c.bl.length c.bc, .slice c.pa c.pl.length c.pc, .slice c.va c.vl.length c.vc]] rfl (enters_of Tryd.func10 (by kernel_rfl) rfl) (fun v w' => ∃ xa xc xs ya yc ys za zc, v = .agg #[.int .i64 c.au, .int .i64 c.rd, .slice xa c.bl.length xc, .slice ya c.pl.length yc, .slice za c.vl.length zc] ∧ Same xs c.bl ∧ Same ys c.pl ∧ HAt w' xa xc xs ya yc ys ∧ IntsAt w' za c.vl ∧ Below w1.heap.size w1 w') ((certCopyU_any c.au c.rd c.ba c.bc c.bl c.pa c.pc c.pl c.va c.vc c.vl w1 hc1.rb hc1.rp hc1.nums.ints (by omega)).mono (fun e w2 ⟨xa, xc, xs, ya, yc, ys, za, zc, he, h1, h2, h3, h4, h5, h6, _, _, _, h7, h8⟩ => ⟨_, he, xa, xc, xs, ya, yc, ys, za, zc, rfl, h1, h2, ⟨h3, h4, h7, h8⟩, h5, h6⟩)) ?_
  rintro v w2 ⟨xa, xc, xs, ya, yc, ys, za, zc, rfl, hS1, hS2, hH, hZ, hbC⟩
  have hB2 := hB1.trans (hbC.mono hB1.size)
  have hbD := hbB.trans (hbC.mono hbB.size)
  have r2 := (hbD.block _ hblt).trans r0
  refine hK.out _ _ ⟨cells_at r2 0 _ rfl, cells_at r2 1 _ rfl, cells_at r2 2 _ rfl, cells_at r2 3 _ rfl, cells_at r2 4 _ rfl⟩ (fun hHeld => ?_)
  simp only [Act.put, List.setIfInBounds_toArray, List.set_cons_zero, List.set_cons_succ]
  have hlen : ls.length = ks.length := by have := congrArg List.length hS; rw [gvs_length, gvs_length] at this; exact this.symm
  have E1 := hS1.length
  have E2 := hS2.length
  have HC := proven_any ks ra ls.length rc bad c.au c.rd xa xc xs ya yc ys za zc c.vl w2 hlen hT1.small (hT1.slots.below hbC) hH hZ (by omega) (hT.below hB2)
  rw [E1, E2, hS, certF_sameG hS1 hS2, hDig_sameG hS1 hS2] at HC
  have HR := fun W (hW : Below w.heap.size w W) => provenBy_any ls sa _ cap bad c.au c.rd c.ba c.bc c.bl c.pa c.pc c.pl c.va c.vc c.vl W rfl (ht.tab.below hW) (hc.below hW).rb.list (hc.below hW).rp.list hc.ub hc.up (hc.below hW).nums.ints (by omega)
  generalize provF (gvs ls) bad c.au c.rd (certF c.au c.rd c.bl c.pl c.vl) (hDig c.au c.rd c.bl c.pl) c.vl = x at HC HR
  clear hlen hS E1 E2 hS1 hS2
  refine wpAnyH_ready (rs := [5]) (by kernel_rfl) (by simp) (AllReadyH.cons rfl (fun K hK => ?_) AllReadyH.nil)
  refine step_calls_dst rfl 14 rfl 8 [.tmp 10, .tmp 11, .tmp 13] #[22, 3, 28] rfl [.slice ra ls.length rc, .int .i64 bad, .agg #[.int .i64 c.au, .int .i64 c.rd, .slice xa c.bl.length xc, .slice ya c.pl.length yc, .slice za c.vl.length zc]] rfl (enters_of Tryd.func8 (by kernel_rfl) rfl) (fun v w' => v = .int .i64 x ∧ Below w2.heap.size w2 w') (HC.mono (fun e w2 h => ⟨_, h.1, rfl, h.2⟩)) ?_
  rintro v w3 ⟨rfl, hbE⟩
  have hB3 := hB2.trans (hbE.mono hB2.size)
  replace hbE := hbD.trans (hbE.mono hbD.size)
  have r3 := (hbE.block _ hblt).trans r0
  refine hK.out _ _ ⟨cells_at r3 0 _ rfl, cells_at r3 1 _ rfl, cells_at r3 2 _ rfl, cells_at r3 3 _ rfl, cells_at r3 4 _ rfl⟩ (fun hHeld => ?_)
  simp only [Act.put, List.setIfInBounds_toArray, List.set_cons_zero, List.set_cons_succ]
  refine take_dst (i := 6) (d := 7) (v := .int .i64 x) rfl rfl (by kernel_rfl) (by kernel_rfl) (by kernel_rfl) (fun _ _ _ h => h) (Or.inl ⟨by rfl, ?_⟩) hHeld ?_
  · (intro w0 hSw; (try dsimp only at hSw); go_simp)
  simp only [Act.put, List.setIfInBounds_toArray, List.set_cons_zero, List.set_cons_succ]
  refine wpAnyH_done (by kernel_rfl) ?_ _
  clear hHeld HC
  have c0 := cells_at r3 0 _ rfl
  have c1 := cells_at r3 1 _ rfl
  have c2 := cells_at r3 2 _ rfl
  have c3 := cells_at r3 3 _ rfl
  have c4 := cells_at r3 4 _ rfl
  go_wp2_with fail
  refine (HR w3 hB3).mono ?_
  rintro e w4 ⟨he, hb4⟩
  subst he
  dsimp only
  clear HR
  go_wp2_with fail
  go_ret
  exact ⟨by simp, hB3.trans (hb4.mono hB3.size)⟩
end Go.Proofs.YtmpflkggbekpfaaDoor

namespace Go.Proofs.YtmpflkggbekpfaaDoor.sealProven
open Go.ChangeShapes Go.WideShapes Go.ChangeAt Go.RowKit

set_option maxRecDepth 100000 in
/-- What the walk gives, for every argument and every world that holds the tables. -/
theorem contract (H : Type) (enc : TypeId × Value → H) (W : World) (base : Nat) (args : Array Value) (ds gs : List (DataW H)) (before : List MemPlace)
    (hval : ∀ (j : Nat) t v, Tryd.f3.params[j]? = some t → args[j]? = some v → Value.okWide Tryd.prog W .any base t v)
    (hW : DataW.Whole enc Tryd.prog Tryd.f3.params.toList Rows.sealProvenSpec.vars false W args.toList ds gs before) (hsz : (DataW.weightsEach Tryd.prog (Tryd.f3.params.toList ++ (OpenSpec.ofChange Rows.sealProvenSpec).bare.plain.varTypes Tryd.prog) (ds ++ gs)).all (· ≤ reachBytes) = true) (hL : laidMetH Tryd.prog Rows.sealProvenRow.laid W) :
    Calls Tryd.prog 3 args W fun e W' => ∃ v, e = .returned v ∧ Rows.sealProvenSpec.post enc Tryd.prog Tryd.f3 false true false false W args v W' := by
  have hW' := hW
  obtain ⟨p, q, hA0, hV, rfl, hfz, hnd⟩ := hW
  have hA : DataW.TrodAll enc Tryd.prog W 0 (fun _ => true) true Tryd.f3.params.toList args.toList ds p := hA0
  rw [Tryd.params3] at hA hval hsz
  obtain ⟨v0, vs0, d0, ds0, p0, q0, hargs, rfl, rfl, h0, r0⟩ := trodAll_cons hA
  obtain ⟨v1, vs1, d1, ds1, p1, q1, rfl, rfl, rfl, h1, r1⟩ := trodAll_cons r0
  obtain ⟨v2, vs2, d2, ds2, p2, q2, rfl, rfl, rfl, h2, r2⟩ := trodAll_cons r1
  obtain ⟨rfl, rfl, rfl⟩ := trodAll_nil r2
  obtain rfl : args = #[v0, v1, v2] := by cases args; simp_all
  obtain ⟨rfl, rfl⟩ := trodVars_none hV
  have k0 := h0
  have lt0 : ∀ x ∈ p0, x.block < W.heap.size := by obtain ⟨m, hm⟩ := k0; exact DataW.trod_lt m _ _ _ hm
  obtain ⟨sa0, cap0, ls0, rfl, q0_0, q0_1⟩ := open_signs (hval 0 22 v0 rfl rfl) h0 (fit_each hsz (j := 0) rfl rfl)
  obtain ⟨a1, rfl, rfl, rfl, w1⟩ := open_int Tryd.underlying3 (hval 1 3 v1 rfl rfl) h1
  obtain ⟨lo1, hi1⟩ := bounds_i64 w1
  have k2 := h2
  have lt2 : ∀ x ∈ p2, x.block < W.heap.size := by obtain ⟨m, hm⟩ := k2; exact DataW.trod_lt m _ _ _ hm
  obtain ⟨c2, rfl, q2_0⟩ := open_certU (hval 2 28 v2 rfl rfl) h2 (fit_each hsz (j := 2) rfl rfl)
  clear hA0
  have hT : Tabs W := tabs_of_laid (by kernel_rfl) (by kernel_rfl) (by kernel_rfl) hL
  refine (sealProven_walk sa0 cap0 ls0 a1 c2 W q0_0 q0_1 lo1 hi1 q2_0 hT).mono fun e W' ⟨he, bel⟩ => ?_
  subst he
  exact ⟨_, rfl, _, _, _, [], _, [], hW', trodAll_mk1 (shut_bool Tryd.underlying4 _), (trodAll_cons_mk (Below.trod laidOut (by kernel_rfl) (of_decide_eq_true (by kernel_rfl)) k0 bel lt0) (trodAll_cons_mk (shut_int Tryd.underlying3 w1) (trodAll_cons_mk (Below.trod laidOut (by kernel_rfl) (of_decide_eq_true (by kernel_rfl)) k2 bel lt2) trodAll_mk0))), rfl, bel.frame _, fun h => by cases h⟩

set_option maxRecDepth 100000 in
theorem laid_met (os : Os) : laidMet Tryd.prog Rows.sealProvenRow.laid ((layTabs (World.holding Tryd.prog os ⟨#[], #[], []⟩)).forCall (fun _ _ => 0) ⟨#[], #[.slice none 0 0, .int .i64 0, .agg #[.int .i64 0, .int .i64 0, .slice none 0 0, .slice none 0 0, .slice none 0 0]], []⟩).memory :=
  laidMet_of_run' 8 (by kernel_rfl) (by kernel_rfl)
set_option maxRecDepth 100000 in
theorem reads (os : Os) {H : Type} (enc : TypeId × Value → H) : ∃ places, DataW.whole enc Tryd.prog ((layTabs (World.holding Tryd.prog os ⟨#[], #[], []⟩)).forCall (fun _ _ => 0) ⟨#[], #[.slice none 0 0, .int .i64 0, .agg #[.int .i64 0, .int .i64 0, .slice none 0 0, .slice none 0 0, .slice none 0 0]], []⟩).memory Tryd.f3.params.toList Rows.sealProvenSpec.vars false (#[.slice none 0 0, .int .i64 0, .agg #[.int .i64 0, .int .i64 0, .slice none 0 0, .slice none 0 0, .slice none 0 0]] : Array Value).toList 8 = some ([.nil, .lit (.int .i64 0), .agg [.agg [.lit (.int .i64 0), .lit (.int .i64 0), .nil, .nil], .nil]], [], places) :=
  ⟨[], by kernel_rfl⟩

set_option maxRecDepth 100000 in
theorem lifted (os : Os) (started : os.Started) (H : Type) (enc : TypeId × Value → H) (F : Stop.Interp) :
    ReturnsInHanded {} Tryd.checked os 3 .any ((OpenSpec.ofChange Rows.sealProvenSpec).preRow enc Tryd.prog Tryd.f3 Rows.sealProvenRow.domain false Rows.sealProvenRow.laid) (((OpenSpec.ofChange Rows.sealProvenSpec).at F).post enc Tryd.prog Tryd.f3 false true false false) := by
  obtain ⟨places, hx⟩ := reads os enc
  refine returnsInHanded_of_row (C := Tryd.checked) (s := OpenSpec.ofChange Rows.sealProvenSpec) own started (by kernel_rfl) Tryd.func3
    (witness_row_at (enc := enc) (C := Tryd.checked) false (layTabs (World.holding Tryd.prog os ⟨#[], #[], []⟩)) #[.slice none 0 0, .int .i64 0, .agg #[.int .i64 0, .int .i64 0, .slice none 0 0, .slice none 0 0, .slice none 0 0]] rfl (by kernel_rfl) (by kernel_rfl) (by kernel_rfl)
      (OpenSpec.preRow_of_cond 8 hx (by kernel_rfl) (fun k hk => by cases hk) (by kernel_rfl) (laid_met os))) ?_
  intro W base args ds gs before hval hW _ _ hsz hL _ _
  exact contract H enc W base args ds gs before hval hW hsz hL

set_option maxRecDepth 100000 in
theorem said : Rows.SealProvenSaid :=
  OpenClaim.holds_of_cond 3 Tryd.f3 rfl rfl rfl rfl rfl rfl rfl ⟨rfl, rfl, rfl, rfl, rfl⟩ rfl rfl rfl rfl rfl (by kernel_rfl) Tryd.func3 (by kernel_rfl)
    (of_decide_eq_true (by kernel_rfl)) (by unfold Func.isWrapper; first | (rw [if_pos (by decide +kernel)]; kernel_rfl) | (rw [if_neg (by decide +kernel)]; exact ⟨rfl, rfl⟩))
    (fun os started H enc _ F => by rw [OpenClaim.pre_eq_preRow]; exact lifted os started H enc F)

set_option maxRecDepth 100000 in
theorem plain (f : FuncId) (fn : Func) (hf : Tryd.pinned.checked.prog.funcNamed Rows.sealProvenRow.func = some f) (hfn : Tryd.pinned.checked.prog.funcs[f]? = some fn) :
    false = Tryd.pinned.checked.prog.looks [] ∧ ∀ (j : Nat) t, fn.params[j]? = some t → Tryd.pinned.checked.prog.wantsStandIn t = false := by
  obtain rfl : f = 3 := Option.some.inj ((show Tryd.prog.funcNamed Rows.sealProvenRow.func = some 3 by kernel_rfl).symm.trans hf) |>.symm
  obtain rfl : fn = Tryd.f3 := (Option.some.inj (Tryd.func3.symm.trans hfn)).symm
  refine ⟨by kernel_rfl, fun j t ht => ?_⟩
  rw [Tryd.params3] at ht
  have hm : t = 22 ∨ t = 3 ∨ t = 28 := by simpa using Array.mem_of_getElem? ht
  rcases hm with rfl | rfl | rfl
  · exact (show Tryd.prog.wantsStandIn 22 = false by kernel_rfl)
  · exact (show Tryd.prog.wantsStandIn 3 = false by kernel_rfl)
  · exact (show Tryd.prog.wantsStandIn 28 = false by kernel_rfl)

set_option maxRecDepth 100000 in
/-- THE CARD. -/
theorem card : Rows.SealProvenCardSaid :=
  Claim7.holds_tied_plain_at .later [] _ _ _ _ said (fun _ h => by cases h) (by kernel_rfl) (fun _ h => by cases h) sealProven_row_tie rfl ⟨rfl, rfl⟩ (by kernel_rfl) rfl plain (by kernel_rfl)
end Go.Proofs.YtmpflkggbekpfaaDoor.sealProven
namespace Go.Proofs.YtmpflkggbekpfaaDoor
set_option maxRecDepth 100000 in
theorem sealProven_holds : Rows.SealProvenCardSaid := sealProven.card
#print axioms sealProven_holds
end Go.Proofs.YtmpflkggbekpfaaDoor
