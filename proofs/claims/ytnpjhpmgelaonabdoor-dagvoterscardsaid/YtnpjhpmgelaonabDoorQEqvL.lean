/- Certificates that differ in their voters alone: a dag of them tells the same. -/
import Derived.Test.YtnpjhpmgelaonabDoorQInsF
namespace Go.Proofs.YtnpjhpmgelaonabDoor
open Go.RowKit

structure Eqv (l m : List CV) : Prop where
  len : l.length = m.length
  each : ∀ j, (cvAt l j).au = (cvAt m j).au ∧ (cvAt l j).rd = (cvAt m j).rd ∧ (cvAt l j).pl = (cvAt m j).pl ∧ (cvAt l j).d = (cvAt m j).d
set_option maxRecDepth 100000 in
theorem Eqv.cOf {l m : List CV} (h : Eqv l m) (au rd : Int) : cOf l au rd = cOf m au rd := by
  rw [Go.Proofs.YtnpjhpmgelaonabDoor.cOf, Go.Proofs.YtnpjhpmgelaonabDoor.cOf, h.len]
  refine fidx_congr _ _ _ (fun j _ => ?_)
  rw [cHit, cHit, (h.each j).1, (h.each j).2.1]
set_option maxRecDepth 100000 in
theorem Eqv.pOf {l m : List CV} (h : Eqv l m) (d : List Int) : pOf l d = pOf m d := by
  rw [Go.Proofs.YtnpjhpmgelaonabDoor.pOf, Go.Proofs.YtnpjhpmgelaonabDoor.pOf, h.len]
  refine fidx_congr _ _ _ (fun j _ => ?_)
  rw [dHit, dHit, (h.each j).2.2.2]
set_option maxRecDepth 100000 in
theorem Eqv.parAt {l m : List CV} (h : Eqv l m) (rd : Int) (d : List Int) : parAt l rd d = parAt m rd d := by
  rw [Go.Proofs.YtnpjhpmgelaonabDoor.parAt, Go.Proofs.YtnpjhpmgelaonabDoor.parAt, h.pOf, (h.each _).2.1]
set_option maxRecDepth 100000 in
theorem Eqv.parTo {l m : List CV} (h : Eqv l m) (rd : Int) (pl : List (List Int)) (k : Nat) : parTo l rd pl k = parTo m rd pl k := by
  induction k with
  | zero => rfl
  | succ k ih => rw [Go.Proofs.YtnpjhpmgelaonabDoor.parTo, Go.Proofs.YtnpjhpmgelaonabDoor.parTo, ih, h.parAt]
set_option maxRecDepth 100000 in
theorem Eqv.takF {l m : List CV} (h : Eqv l m) (au rd : Int) (pl : List (List Int)) : takF l au rd pl = takF m au rd pl := by
  rw [Go.Proofs.YtnpjhpmgelaonabDoor.takF, Go.Proofs.YtnpjhpmgelaonabDoor.takF, h.cOf, parF, parF, h.parTo]
set_option maxRecDepth 100000 in
theorem Eqv.take {l m : List CV} (h : Eqv l m) (k : Nat) : Eqv (l.take k) (m.take k) := by
  refine ⟨by rw [List.length_take, List.length_take, h.len], fun j => ?_⟩
  rcases Nat.lt_or_ge j k with g | g
  · rw [cvAt_take l k j g, cvAt_take m k j g]; exact h.each j
  · have e1 : cvAt (l.take k) j = ⟨0, 0, [], [], []⟩ := by
      simp [cvAt, List.getD, List.getElem?_take, show ¬ j < k by omega]
    have e2 : cvAt (m.take k) j = ⟨0, 0, [], [], []⟩ := by
      simp [cvAt, List.getD, List.getElem?_take, show ¬ j < k by omega]
    rw [e1, e2]; exact ⟨rfl, rfl, rfl, rfl⟩
set_option maxRecDepth 100000 in
theorem Eqv.dag {l m : List CV} (h : Eqv l m) (hd : dagF l = 0) (hf : ∀ j, j < m.length → (cvAt m j).f = 0) : dagF m = 0 := by
  obtain ⟨h1, h2⟩ := dagF_zero hd
  refine dagF_ok _ (by rw [← h.len]; exact h1) (fun k hk => ?_)
  have hb := h2 k (by rw [h.len]; exact hk)
  simp only [badC, Bool.or_eq_false_iff, decide_eq_false_iff_not, ne_eq, Decidable.not_not] at hb ⊢
  refine ⟨hf k hk, ?_⟩
  rw [← (h.take k).takF, ← (h.each k).1, ← (h.each k).2.1, ← (h.each k).2.2.1]
  exact hb.2
set_option maxRecDepth 100000 in
theorem Eqv.dgTo {l m : List CV} (h : Eqv l m) (rd : Int) (n : Nat) : dgTo l rd n = dgTo m rd n := by
  induction n with
  | zero => rfl
  | succ n ih => rw [Go.Proofs.YtnpjhpmgelaonabDoor.dgTo, Go.Proofs.YtnpjhpmgelaonabDoor.dgTo, ih, h.cOf, (h.each _).2.2.2]
set_option maxRecDepth 100000 in
theorem Eqv.next {l m : List CV} (h : Eqv l m) {r : Int} (hn : NextR l r) : NextR m r := by
  have e : ∀ k, dgF l k = dgF m k := fun k => h.dgTo k 4
  refine ⟨hn.1, fun k a b => ?_, ?_⟩
  · rw [← e]; exact hn.2.1 k a b
  · rw [← e]; exact hn.2.2
set_option maxRecDepth 100000 in
theorem Eqv.digs {l m : List CV} (h : Eqv l m) : l.map CV.d = m.map CV.d := by
  apply List.ext_getElem
  · simp [h.len]
  · intro j h1 h2
    have hl : j < l.length := by simpa using h1
    have hm : j < m.length := by simpa using h2
    have := (h.each j).2.2.2
    simpa [cvAt, hl, hm] using this
/-- The i'th one with other voters. -/
def setC (ks : List Ct) (i : Nat) (va : Option Addr) (vc : Nat) (vl : List Int) : List Ct := ks.mapIdx (fun j c => if j = i then ⟨c.au, c.rd, c.ba, c.bc, c.bl, c.pa, c.pc, c.pl, va, vc, vl⟩ else c)
set_option maxRecDepth 100000 in
theorem setC_length (ks : List Ct) (i : Nat) (va : Option Addr) (vc : Nat) (vl : List Int) : (setC ks i va vc vl).length = ks.length := by simp [setC]
set_option maxRecDepth 100000 in
theorem setC_get (ks : List Ct) (i : Nat) (va : Option Addr) (vc : Nat) (vl : List Int) (j : Nat) (hj : j < ks.length) : (setC ks i va vc vl)[j]'(by rw [setC_length]; exact hj) = if j = i then ⟨(ks[j]).au, (ks[j]).rd, (ks[j]).ba, (ks[j]).bc, (ks[j]).bl, (ks[j]).pa, (ks[j]).pc, (ks[j]).pl, va, vc, vl⟩ else ks[j] := by simp [setC]
set_option maxRecDepth 100000 in
theorem setC_eqv (ks : List Ct) (i : Nat) (va : Option Addr) (vc : Nat) (vl : List Int) : Eqv (cvs ks) (cvs (setC ks i va vc vl)) := by
  refine ⟨by rw [cvs_length, cvs_length, setC_length], fun j => ?_⟩
  rcases Nat.lt_or_ge j ks.length with hj | hj
  · rw [cvAt_get ks j hj, cvAt_get (setC ks i va vc vl) j (by rw [setC_length]; exact hj), setC_get ks i va vc vl j hj]
    split
    · exact ⟨rfl, rfl, rfl, rfl⟩
    · exact ⟨rfl, rfl, rfl, rfl⟩
  · have e1 : cvAt (cvs ks) j = ⟨0, 0, [], [], []⟩ := by simp [cvAt, cvs, List.getD, hj]
    have e2 : cvAt (cvs (setC ks i va vc vl)) j = ⟨0, 0, [], [], []⟩ := by simp [cvAt, cvs, List.getD, setC_length, hj]
    rw [e1, e2]; exact ⟨rfl, rfl, rfl, rfl⟩
set_option maxRecDepth 100000 in
theorem voters_f {c : CV} (h : c.f = 0) {vl : List Int} (h4 : vl.length ≤ 4) (hv : votersF vl = 0) : CV.f ⟨c.au, c.rd, c.bl, c.pl, vl⟩ = 0 := by
  have h1 := certF_head (vl := c.vl) h
  show certF c.au c.rd (pz c.bl) (pz c.pl) vl = 0
  rw [certF, if_neg (fun g => g h1), if_neg (by omega)]
  exact hv
set_option maxRecDepth 100000 in
/-- The cells of a slice of certificates, as a row. -/
theorem certs_cells {w : World} {ad : Addr} {ks : List Ct} (h : CertsAt w (some ad) ks) : ∀ j u, (ctv ks)[j]? = some u → w.cell? (ad.add j) = some u := by
  intro j u hu
  rcases h.cells with hb | ⟨sb, so, e, hb⟩
  · subst hb; simp [ctv] at hu
  · cases e
    have hj : j < ks.length * 5 := by
      rcases Nat.lt_or_ge j (ks.length * 5) with g | g
      · exact g
      · rw [List.getElem?_eq_none (by rw [ctv_length]; exact g)] at hu; cases hu
    have hk : j / 5 < ks.length := by omega
    have hd : j = j / 5 * 5 + j % 5 := by omega
    have h5 : j % 5 < 5 := by omega
    rw [add_off]
    obtain ⟨a0, a1, a2, a3, a4⟩ := hb (j / 5) hk
    rw [hd, ctv_get ks (j / 5) (j % 5) hk h5] at hu
    have hq : so + j = so + j / 5 * 5 + j % 5 := by omega
    rw [hq]
    generalize j / 5 = q at *
    rcases (by omega : j % 5 = 0 ∨ j % 5 = 1 ∨ j % 5 = 2 ∨ j % 5 = 3 ∨ j % 5 = 4) with g | g | g | g | g <;> rw [g] at hu ⊢ <;> simp [Ct.cs] at hu <;> subst hu
    · exact a0
    · exact a1
    · exact a2
    · exact a3
    · exact a4
set_option maxRecDepth 100000 in
theorem ct_ones (l : List Ct) : ∀ u ∈ ctv l, u.oneCell' = true := by
  induction l with
  | nil => intro u hu; cases hu
  | cons x r ih =>
    intro u hu
    rcases List.mem_append.1 hu with h | h
    · simp [Ct.cs] at h
      rcases h with rfl | rfl | rfl | rfl | rfl <;> rfl
    · exact ih u h
end Go.Proofs.YtnpjhpmgelaonabDoor
