/- The walk of RecoverOdd. -/
import Derived.Test.YthpocgndgphedaaRecoverOddM60
import Derived.Test.YthpocgndgphedaaRecoverOddM72
import Derived.Test.YthpocgndgphedaaRecoverOddM30
import Derived.Test.YthpocgndgphedaaPicked
import Derived.Test.YthpocgndgphedaaRecoverOddM66
import Derived.Test.YthpocgndgphedaaCalls
import Derived.Test.YthpocgndgphedaaGrew
import Derived.Laws.AppendOwnNone
import Derived.Deep.CutRange
import Derived.Deep.DeepCutAuto
namespace Go.Proofs.Ythpocgndgphedaa
open Go.RowKit

set_option maxRecDepth 100000 in
theorem recs_rowU {w w' : World} {e : Ending} {N : Nat} (h : RecsIs w w' e N) : ∃ (sa : Option Addr) (cap : Nat) (ms : List MV), e = .returned (.slice sa ms.length cap) ∧ ms.length = N ∧ MsRow w' sa ms ∧ (∀ x ∈ ms, MAt w' x ∧ IsRec x) ∧ Below w.heap.size w w' ∧ ∀ x ∈ ms, U8M x.bl x.pl x.cbl x.cpl x.ds := by
  obtain ⟨v, ms, he, hl, ho, ha, hb, hu⟩ := h.out
  obtain ⟨sa, cap, rfl, -, -, -, hr⟩ := msRow_of_owns ho
  exact ⟨sa, cap, ms, he, hl, hr, fun x hx => ⟨(ha x hx).1, (ha x hx).2.1⟩, hb, hu⟩
set_option maxRecDepth 100000 in
theorem recs_row {w w' : World} {e : Ending} {N : Nat} (h : RecsIs w w' e N) : ∃ (sa : Option Addr) (cap : Nat) (ms : List MV), e = .returned (.slice sa ms.length cap) ∧ ms.length = N ∧ MsRow w' sa ms ∧ (∀ x ∈ ms, MAt w' x ∧ IsRec x) ∧ Below w.heap.size w w' := by
  obtain ⟨sa, cap, ms, h1, h2, h3, h4, h5, -⟩ := recs_rowU h
  exact ⟨sa, cap, ms, h1, h2, h3, h4, h5⟩
set_option maxRecDepth 100000 in
theorem encode_rec (x : MV) (w : World) (hM : MAt w x) (hI : IsRec x) :
    Calls Try.prog 31 #[.agg #[.int .i64 x.m.fr, .int .i64 x.m.tt, .int .i64 x.m.ki, .int .i64 x.m.bau, .int .i64 x.m.bnu, .slice x.m.bta x.m.btn x.m.btc, .int .i64 x.m.hau, .int .i64 x.m.hrd, .slice x.m.hba x.m.hbn x.m.hbc, .slice x.m.hpa x.m.hpn x.m.hpc, .int .i64 x.m.sau, .int .i64 x.m.srd, .slice x.m.sda x.m.sdn x.m.sdc, .int .i64 x.m.cau, .int .i64 x.m.crd, .slice x.m.cba x.m.cbn x.m.cbc, .slice x.m.cpa x.m.cpn x.m.cpc, .slice x.m.cva x.m.cvn x.m.cvc, .int .i64 x.m.ro]] w fun e w' => ∃ v, e = .returned (.tuple #[v, .int .i64 0]) ∧ w'.ownsRow w.heap.size 5 1 v x.bytes.length (ub x.bytes) ∧ Below w.heap.size w w' := by
  have h := encode_any x.m x.ss x.bl x.pl x.cbl x.cpl x.ds x.vl w hM.at' hM.dig hM.dn
  have h0 : checkF x.m (carriedF x.m x.ss x.bl x.pl x.cbl x.cpl x.vl) = 0 := hI.check
  rw [h0] at h
  exact h
set_option maxRecDepth 100000 in
theorem sync_ok (bs : List Int) (sa : Option Addr) (n cap : Nat) (sy : Int) (w : World) (hn : n = bs.length) (hs : SliceAt w sa cap bs) (hl : bs.length ≤ 400000) (hy : 0 ≤ sy ∧ sy ≤ bs.length) :
    Calls Try.prog 12 #[.agg #[.slice sa n cap, .int .i64 sy]] w fun e w' => TapeIs w w' e bs bs.length 0 := by
  have h := tapeSync_any bs sa n cap sy w hn hs (by omega)
  have hk : tapeOk bs.length sy = true := tapeOk_iff.2 ⟨hl, hy.1, hy.2⟩
  rw [syncN, if_pos hk, syncF, if_pos hk, List.take_of_length_le (Nat.le_refl _)] at h
  exact h
set_option maxRecDepth 100000 in
theorem crash_ok (bs : List Int) (sa : Option Addr) (n cap : Nat) (sy keep : Int) (w : World) (hn : n = bs.length) (hs : SliceAt w sa cap bs) (hl : bs.length ≤ 400000) (hy : 0 ≤ sy ∧ sy ≤ bs.length) (hk : 0 ≤ keep ∧ keep ≤ 1000000) :
    Calls Try.prog 14 #[.agg #[.slice sa n cap, .int .i64 sy], .int .i64 keep] w fun e w' => TapeIs w w' e (bs.take (leftN bs.length sy keep)) (leftN bs.length sy keep) 0 := by
  have h := tapeCrash_any bs sa n cap sy keep w hn hs (by omega) (by omega) (by omega)
  have ht : tapeOk bs.length sy = true := tapeOk_iff.2 ⟨hl, hy.1, hy.2⟩
  rw [crashN, if_pos ⟨ht, hk.1⟩, crashF, if_pos ht, if_neg (by omega)] at h
  exact h
set_option maxRecDepth 100000 in
theorem crash_neg (bs : List Int) (sa : Option Addr) (n cap : Nat) (sy keep : Int) (w : World) (hn : n = bs.length) (hs : SliceAt w sa cap bs) (hl : bs.length ≤ 400000) (hy : 0 ≤ sy ∧ sy ≤ bs.length) (hk : keep < 0 ∧ -1000000 ≤ keep) :
    Calls Try.prog 14 #[.agg #[.slice sa n cap, .int .i64 sy], .int .i64 keep] w fun e w' => TapeIs w w' e [] 0 2 := by
  have h := tapeCrash_any bs sa n cap sy keep w hn hs (by omega) (by omega) (by omega)
  have ht : tapeOk bs.length sy = true := tapeOk_iff.2 ⟨hl, hy.1, hy.2⟩
  rw [crashN, if_neg (by omega), crashF, if_pos ht, if_pos hk.1] at h
  exact h
set_option maxRecDepth 100000 in
theorem tapeB_small {ms : List MV} {w : World} (h : ms.length ≤ 100) (hM : ∀ x ∈ ms, MAt w x ∧ IsRec x) : (tapeB ms).length ≤ 32500 := by
  have := tapeB_le ms (fun x hx => ((hM x hx).2.len (hM x hx).1.dn).2)
  omega
/-- A message that stands for none. -/
def noX : MV := ⟨⟨0, 0, 0, 0, 0, 0, 0, 0, 0, 0, 0, 0, none, none, none, none, none, none, none, 0, 0, 0, 0, 0, 0, 0, 0, 0, 0, 0, 0, 0, 0⟩, [], [], [], [], [], [], []⟩
end Go.Proofs.Ythpocgndgphedaa

namespace Go.Proofs.Ythpocgndgphedaa
open Go.RowKit

/-- What is recovered of the first k bytes of records. -/
structure RcvK (w w' : World) (e : Ending) (ms : List MV) (k : Nat) (sy : Int) : Prop where
  out : ∃ (ya : Option Addr) (yc : Nat) (ys : List MV) (ra : Option Addr) (rc : Nat), e = .returned (.tuple #[.slice ya ys.length yc, .agg #[.slice ra (tapeB ys).length rc, .int .i64 (min sy (tapeB ys).length)], .int .i64 0]) ∧ MsRow w' ya ys ∧ (∀ y ∈ ys, MAt w' y ∧ IsRec y) ∧ (∀ y ∈ ys, U8M y.bl y.pl y.cbl y.cpl y.ds) ∧ SliceAt w' ra rc (tapeB ys) ∧ Agree ys ms ∧ (∀ j, j ≤ ms.length → (tapeB (ms.take j)).length ≤ k → j ≤ ys.length) ∧ (tapeB ys).length ≤ k ∧ Below w.heap.size w w'
set_option maxRecDepth 100000 in
theorem Agree.good {ys ms : List MV} (h : Agree ys ms) (hu : ∀ x ∈ ms, U8M x.bl x.pl x.cbl x.cpl x.ds) : ∀ y ∈ ys, U8M y.bl y.pl y.cbl y.cpl y.ds := by
  intro y hy
  obtain ⟨i, hi, e⟩ := List.getElem_of_mem hy
  have hi2 : i < ms.length := by have := h.le; omega
  have h1 := h.same i hi hi2
  rw [e] at h1
  exact u8_same h1 (hu _ (List.getElem_mem hi2))
set_option maxRecDepth 100000 in
theorem recover_part (ms : List MV) (k : Nat) (sa : Option Addr) (n cap : Nat) (sy : Int) (w : World) (hn : n = ((tapeB ms).take k).length) (hs : SliceAt w sa cap ((tapeB ms).take k)) (hm : ∀ x ∈ ms, MAt w x ∧ IsRec x) (hu : ∀ x ∈ ms, U8M x.bl x.pl x.cbl x.cpl x.ds) (hl : (tapeB ms).length ≤ 400000) (hy : 0 ≤ sy ∧ sy ≤ n) :
    Calls Try.prog 15 #[.agg #[.slice sa n cap, .int .i64 sy]] w fun e w' => RcvK w w' e ms k sy := by
  have hL : ((tapeB ms).take k).length ≤ 400000 := by rw [List.length_take]; omega
  refine (recover_any ((tapeB ms).take k) sa n cap sy w hn hs (fun z hz => u8_tape hm hu z (List.mem_of_mem_take hz)) (by omega)).mono ?_
  intro e w' h
  have hk : tapeOk ((tapeB ms).take k).length sy = true := tapeOk_iff.2 ⟨hL, hy.1, by omega⟩
  rcases h.out with ⟨h0, -⟩ | ⟨-, v, ys, r, ra, rc, h1, h2, h3, h4, h5, -, h7⟩
  · rw [hk] at h0; cases h0
  · obtain ⟨ya, yc, rfl, -, -, -, hr⟩ := msRow_of_owns h3
    obtain ⟨a1, a2, a3⟩ := tape_scan ms ys r k hm (fun y hy => ⟨(h4 y hy).1, (h4 y hy).2.1⟩) h1 h2
    exact ⟨ya, yc, ys, ra, rc, h7, hr, fun y hy => ⟨(h4 y hy).1, (h4 y hy).2.1⟩, a1.good hu, h5, a1, a2, a3, h.below⟩
set_option maxRecDepth 100000 in
/-- A tape of nothing. -/
theorem recover_none (w : World) :
    Calls Try.prog 15 #[.agg #[.slice none 0 0, .int .i64 0]] w fun e w' => ∃ ya yc ra rc, e = .returned (.tuple #[.slice ya 0 yc, .agg #[.slice ra 0 rc, .int .i64 0], .int .i64 0]) ∧ Below w.heap.size w w' := by
  refine (recover_part [] 0 none 0 0 0 w rfl (nilSliceT w) (fun x hx => by cases hx) (fun x hx => by cases hx) (by simp [tapeB]) ⟨by omega, by omega⟩).mono ?_
  intro e w' h
  obtain ⟨ya, yc, ys, ra, rc, he, -, -, -, -, ha, -, -, hb⟩ := h.out
  have hz : ys = [] := List.eq_nil_of_length_eq_zero (by have := ha.le; simp at this; simp [this])
  subst hz
  exact ⟨ya, yc, ra, rc, he, hb⟩
set_option maxRecDepth 100000 in
/-- One that may not be. -/
theorem recover_bad (w : World) :
    Calls Try.prog 15 #[.agg #[.slice none 0 0, .int .i64 1]] w fun e w' => e = .returned (.tuple #[.slice none 0 0, .agg #[.slice none 0 0, .int .i64 0], .int .i64 12]) ∧ Below w.heap.size w w' := by
  refine (recover_any [] none 0 0 1 w rfl (nilSliceT w) (fun z hz => by cases hz) (by simp)).mono ?_
  intro e w' h
  rcases h.out with ⟨-, he⟩ | ⟨h0, -⟩
  · exact ⟨he, h.below⟩
  · exact absurd h0 (by decide)
set_option maxRecDepth 100000 in
theorem begins_agree (ys ms : List MV) (sa sc : Option Addr) (n m ca cc : Nat) (w : World) (hn : n = ys.length) (hm : m = ms.length) (h : Agree ys ms) (hl : ms.length ≤ 1000000) (ra : MsRow w sa ys) (rb : MsRow w sc ms) (hy : ∀ y ∈ ys, MAt w y ∧ IsRec y) (hx : ∀ x ∈ ms, MAt w x ∧ IsRec x) (hu : ∀ y ∈ ys, U8M y.bl y.pl y.cbl y.cpl y.ds) :
    Calls Try.prog 16 #[.slice sa n ca, .slice sc m cc] w fun e w' => e = .returned (.bool true) ∧ Below w.heap.size w w' :=
  begins_eq ys ms sa sc n m ca cc w hn hm h.le hl ra rb (fun i h1 h2 => ⟨⟨(hy _ (List.getElem_mem h1)).1, (hy _ (List.getElem_mem h1)).2.check, hu _ (List.getElem_mem h1)⟩, (hx _ (List.getElem_mem h2)).1, h.same i h1 h2⟩)
end Go.Proofs.Ythpocgndgphedaa

namespace Go.Proofs.Ythpocgndgphedaa
open Go.RowKit

/-- Memory of its own, from B on. -/
structure RcvL (B : Nat) (w : World) (v : Value) (ys : List MV) (ra : Option Addr) (rc : Nat) : Prop where
  row : w.ownsRow B 47 19 v ys.length (mcells ys)
  recs : RecsAt w B v ys
  data : SliceAt w ra rc (tapeB ys)
  fresh : ∀ sb so, ra = some ⟨sb, so, none⟩ → B ≤ sb
set_option maxRecDepth 100000 in
theorem RcvL.below {B : Nat} {w w' : World} {v : Value} {ys : List MV} {ra : Option Addr} {rc : Nat} (h : RcvL B w v ys ra rc) (hb : Below w.heap.size w w') : RcvL B w' v ys ra rc := ⟨owns_keep h.row hb, h.recs.below hb, h.data.below hb, h.fresh⟩
set_option maxRecDepth 100000 in
theorem RcvL.far {B : Nat} {w : World} {v : Value} {ys : List MV} {ra : Option Addr} {rc : Nat} (h : RcvL B w v ys ra rc) (b j : Nat) (x : Value) (hb : b < B) : RcvL B (w.setCell ⟨b, j, none⟩ x) v ys ra rc :=
  ⟨owns_far h.row _ _ _ hb, h.recs.far (b := b) hb (fun q hq => heap_setCell_other _ ⟨b, j, none⟩ q _ hq), h.data.setCellT _ _ _ (fun sb so e => by have := h.fresh sb so e; omega), h.fresh⟩
set_option maxRecDepth 100000 in
theorem recover_own (ms : List MV) (sa : Option Addr) (n cap : Nat) (w w0 : World) (hn : n = (tapeB ms).length) (hs : SliceAt w sa cap (tapeB ms)) (hm : ∀ x ∈ ms, MAt w0 x ∧ IsRec x) (hu : ∀ x ∈ ms, U8M x.bl x.pl x.cbl x.cpl x.ds) (hl : (tapeB ms).length ≤ 400000) :
    Calls Try.prog 15 #[.agg #[.slice sa n cap, .int .i64 0]] w fun e w' => ∃ (v : Value) (ys : List MV) (ra : Option Addr) (rc : Nat), e = .returned (.tuple #[v, .agg #[.slice ra (tapeB ms).length rc, .int .i64 0], .int .i64 0]) ∧ RcvL w.heap.size w' v ys ra rc ∧ Agree ys ms ∧ ys.length = ms.length ∧ (∀ y ∈ ys, U8M y.bl y.pl y.cbl y.cpl y.ds) ∧ Below w.heap.size w w' := by
  refine (recover_any (tapeB ms) sa n cap 0 w hn hs (u8_tape hm hu) (by omega)).mono ?_
  intro e w' h
  have hk : tapeOk (tapeB ms).length 0 = true := tapeOk_iff.2 ⟨hl, by omega, by omega⟩
  rcases h.out with ⟨h0, -⟩ | ⟨-, v, ys, r, ra, rc, h1, h2, h3, h4, h5, h6, h7⟩
  · rw [hk] at h0; cases h0
  · obtain ⟨a1, a2, a3⟩ := tape_whole hm (fun y hy => ⟨(h4 y hy).1, (h4 y hy).2.1⟩) h1 h2
    rw [a3, show min (0 : Int) ((tapeB ms).length : Int) = 0 by omega] at h7
    exact ⟨v, ys, ra, rc, h7, ⟨h3, h4, h5, fun sb so e => (h6 sb so e).1⟩, a1, a2, a1.good hu, h.below⟩
set_option maxRecDepth 100000 in
theorem RcvL.form {B : Nat} {w : World} {v : Value} {ys : List MV} {ra : Option Addr} {rc : Nat} (h : RcvL B w v ys ra rc) : ∃ ya yc, v = .slice ya ys.length yc ∧ MsRow w ya ys ∧ ys.length ≤ yc ∧ ∀ y ∈ ys, MAt w y ∧ IsRec y := by
  obtain ⟨ya, yc, hv, -, hc, -, hr⟩ := msRow_of_owns h.row
  exact ⟨ya, yc, hv, hr, hc, fun y hy => ⟨(h.recs y hy).1, (h.recs y hy).2.1⟩⟩
set_option maxRecDepth 100000 in
theorem step_append_part {w : World} {ops : Array Oper} {o : Oper} {a : Act} {K : Act → World → Prop} {Q : Exit → Act → World → Prop} {E : Prop}
    (hg : o.guard = none) (d : Nat) (hd : o.dst = some d) (s x : Operand) (ho : o.op = .call { callee := .builtin .append, args := #[s, x], argTypes := #[26, 26] })
    (base : Nat) (v : Value) (n : Nat) (bs : List Int) (hs : a.eval s = v) (hown : w.ownsRow base 5 1 v n (ub bs))
    (sa : Option Addr) (m cap : Nat) (cs : List Int) (hx : a.eval x = .slice sa m cap) (hm : m = cs.length) (hp : SliceAt w sa cap cs)
    (hlen : n + m ≤ 140737488355328) (hbase : base ≤ w.heap.size)
    (hK : ∀ v' w', w'.ownsRow base 5 1 v' (n + m) (ub (bs ++ cs)) → Grew w v w' v' → K (a.put (some d) v') w') :
    if Region.wanted o (yielded ops a.tmps) = true then Oper.wp Try.prog o a w K Q else E := by
  obtain ⟨i, hi, hz0, hz1, hz2⟩ := info_parts infoU8
  cases sa with
  | none =>
    obtain rfl := hp.nil rfl
    obtain rfl : cs = [] := List.eq_nil_of_length_eq_zero (by have := hp.le; omega)
    subst hm
    have hw : Region.wanted o (yielded ops a.tmps) = true := by simp [Region.wanted, hg]
    rw [if_pos hw]
    have hrun := run_append_owned_none (P := Try.prog) (w := w) base 26 o.type 5 i 1 Try.underlying26 hi v n (ub bs) hown
    unfold Oper.wp execOp
    simp only [ho, resolve, invoke, builtin, Sem.run_bind, Sem.run_pure, Result.andThen_ok, List.map_toArray, List.map_cons, List.map_nil, hs, hx, hrun, List.length_nil]
    have h9 := hK v w (by simpa using hown) (Grew.of (World.grownBy.refl _ _) (.inl rfl))
    rw [← hd] at h9
    exact h9
  | some ad =>
    refine step_append_at hg s x 26 ho base 5 i (.int .u8 0) 1 1 Try.underlying26 hi hz0 hz1 hz2 rfl (by decide) v n (ub bs) hs hown ad m cap (ub cs) hx (by rw [ub_length, hm]; omega) ?_ (u8_one cs) (by unfold maxLen; omega) (by omega) hbase (fun v' w' h1 h2 => by rw [hd]; exact hK v' w' (by rw [show ub (bs ++ cs) = ub bs ++ ub cs by simp [ub]]; exact h1) h2)
    intro j u hu
    rcases hp.bytes with hb | ⟨sb, so, e, hb⟩
    · subst hb; simp [ub] at hu
    · cases e
      have hj : j < cs.length := by
        rcases Nat.lt_or_ge j cs.length with g | g
        · exact g
        · rw [List.getElem?_eq_none (by rw [ub_length]; exact g)] at hu; cases hu
      rw [add_off, hb j hj]
      simp [ub, hj] at hu
      simp [hj, hu]
end Go.Proofs.Ythpocgndgphedaa

namespace Go.Proofs.Ythpocgndgphedaa
open Go.ChangeShapes Go.WideShapes Go.ChangeAt Go.RowKit Go.Deep

set_option maxRecDepth 100000 in
theorem infoRaw : (Try.prog.info? 56).map (fun i => (i.zero, i.size, i.bytes)) = some (some (.agg #[.int .i64 0, .int .i64 0, .int .i64 0, .int .i64 0, .slice none 0 0]), 5, 56) := by kernel_rfl
def rcell (r : Rt) : List Value := [.int .i64 r.ki, .int .i64 r.a, .int .i64 r.b, .int .i64 r.c, .slice r.sa r.ss.length r.cap]
set_option maxRecDepth 100000 in
theorem rcell_len (r : Rt) : (rcell r).length = 5 := rfl
def rcells (rs : List Rt) : List Value := rs.flatMap rcell
set_option maxRecDepth 100000 in
theorem rcells_len (rs : List Rt) : (rcells rs).length = rs.length * 5 := by
  induction rs with
  | nil => rfl
  | cons x l ih => simp only [rcells, List.flatMap_cons, List.length_append] at ih ⊢; rw [ih, rcell_len]; simp; omega
set_option maxRecDepth 100000 in
theorem rcells_app (xs ys : List Rt) : rcells (xs ++ ys) = rcells xs ++ rcells ys := by simp [rcells]
set_option maxRecDepth 100000 in
theorem rcells_at (rs : List Rt) (k : Nat) (hk : k < rs.length) (j : Nat) (hj : j < 5) : (rcells rs)[k * 5 + j]? = (rcell (rs[k]))[j]? := by
  induction rs generalizing k with
  | nil => simp at hk
  | cons x l ih =>
    cases k with
    | zero =>
      simp only [rcells, List.flatMap_cons, Nat.zero_mul, Nat.zero_add, List.getElem_cons_zero]
      rw [List.getElem?_append_left (by rw [rcell_len]; exact hj)]
    | succ k =>
      simp only [rcells, List.flatMap_cons, List.getElem_cons_succ]
      rw [List.getElem?_append_right (by rw [rcell_len]; omega), rcell_len, show (k + 1) * 5 + j - 5 = k * 5 + j by omega]
      exact ih k (by simpa using hk)
set_option maxRecDepth 100000 in
theorem rcells_one (rs : List Rt) : ∀ u ∈ rcells rs, u.oneCell' = true := by
  intro u hu
  obtain ⟨r, _, hu⟩ := List.mem_flatMap.1 hu
  simp [rcell] at hu
  rcases hu with rfl | rfl | rfl | rfl | rfl <;> rfl
set_option maxRecDepth 100000 in
theorem raws_cells {w : World} {ad : Addr} {cs : List Rt} (hp : RawTs w (some ad) cs) : ∀ j u, (rcells cs)[j]? = some u → w.cell? (ad.add j) = some u := by
  intro j u hu
  rcases hp.cells with hb | ⟨sb, so, e, hb⟩
  · subst hb; simp [rcells] at hu
  · cases e
    have hj : j < cs.length * 5 := by
      rcases Nat.lt_or_ge j (cs.length * 5) with g | g
      · exact g
      · rw [List.getElem?_eq_none (by rw [rcells_len]; exact g)] at hu; cases hu
    have hk : j / 5 < cs.length := by omega
    have hd : j = j / 5 * 5 + j % 5 := by omega
    have h5 : j % 5 < 5 := by omega
    rw [add_off]
    obtain ⟨h0, h1, h2, h3, h4⟩ := hb (j / 5) hk
    rw [hd, rcells_at cs (j / 5) hk (j % 5) h5] at hu
    have hq : so + j = so + j / 5 * 5 + j % 5 := by omega
    rw [hq]
    generalize j / 5 = q at *
    rcases (by omega : j % 5 = 0 ∨ j % 5 = 1 ∨ j % 5 = 2 ∨ j % 5 = 3 ∨ j % 5 = 4) with h | h | h | h | h <;> rw [h] at hu ⊢ <;> simp [rcell] at hu <;> subst hu
    · exact h0
    · exact h1
    · exact h2
    · exact h3
    · exact h4
set_option maxRecDepth 100000 in
theorem rawts_of_owns {w : World} {base n : Nat} {v : Value} {rs : List Rt} (h : w.ownsRow base 56 5 v n (rcells rs)) (he : ∀ r ∈ rs, I64 r.ki ∧ I64 r.a ∧ I64 r.b ∧ I64 r.c ∧ TextsAt w r.sa r.cap r.ss) (hs : rs.length ≤ 3000000000000000000) : ∃ sa cap, v = .slice sa rs.length cap ∧ RawTs w sa rs := by
  have hl : n = rs.length := by have := h.1; rw [rcells_len] at this; omega
  subst hl
  rcases h.2 with ⟨rfl, hn⟩ | ⟨g, cap, cur, rfl, hr⟩
  · exact ⟨none, 0, by rw [hn], .inl (List.eq_nil_of_length_eq_zero (by omega)), he, hs⟩
  · refine ⟨some ⟨g, 0, none⟩, cap, rfl, .inr ⟨g, 0, rfl, fun j hj => ?_⟩, he, hs⟩
    have hc : ∀ i, i < 5 → w.cell? ⟨g, 0 + j * 5 + i, none⟩ = (rcell (rs[j]))[i]? := fun i hi => by
      rw [show 0 + j * 5 + i = j * 5 + i by omega, World.ownsRow.cellAt h (j * 5 + i) (by omega), rcells_at rs j hj i hi]
    exact ⟨hc 0 (by omega), hc 1 (by omega), hc 2 (by omega), hc 3 (by omega), hc 4 (by omega)⟩
set_option maxRecDepth 100000 in
/-- 'append(l, p...)': l a row that the call owns, p whatever slice of raw things, nil too. -/
theorem wpList_append_raws {w : World} {ops : Array Oper} {rest : List Oper} {o : Oper} {a : Act} {Q : Exit → Act → World → Prop} (hgd : o.guard = none) (s x : Operand)
    (ho : o.op = .call { callee := .builtin .append, args := #[s, x], argTypes := #[22, 22] })
    (base : Nat) (v : Value) (n : Nat) (bs : List Rt) (hs : a.eval s = v) (hown : w.ownsRow base 56 5 v n (rcells bs))
    (sa : Option Addr) (m cap : Nat) (cs : List Rt) (hx : a.eval x = .slice sa m cap) (hm : m = cs.length) (hp : RawTs w sa cs) (hnil : sa = none → m = 0 ∧ cap = 0)
    (hlen : (n + m) * 56 ≤ 140737488355328) (hbase : base ≤ w.heap.size)
    (h : ∀ v' w', w'.ownsRow base 56 5 v' (n + m) (rcells (bs ++ cs)) → w.grownBy w' v.ownBlock → wpList Try.prog ops Q rest (a.put o.dst v') w') : wpList Try.prog ops Q (o :: rest) a w := by
  obtain ⟨i, hi, hz0, hz1, hz2⟩ := info_parts infoRaw
  cases sa with
  | none =>
    obtain ⟨h1, h2⟩ := hnil rfl
    subst h1 h2
    obtain rfl : cs = [] := List.eq_nil_of_length_eq_zero hm.symm
    exact wpList_append_own_none hgd s x 22 ho base 56 i 5 Try.underlying22 hi v n (rcells bs) hs hown hx (h v w (by simpa using hown) (World.grownBy.refl _ _))
  | some ad =>
    refine wpList_append_own w hgd s x 22 ho base 56 i (.agg #[.int .i64 0, .int .i64 0, .int .i64 0, .int .i64 0, .slice none 0 0]) 5 56 Try.underlying22 hi hz0 hz1 hz2 rfl (by decide) v n (rcells bs) hs hown ad m cap (rcells cs) hx (by rw [rcells_len, hm]) (raws_cells hp) (rcells_one cs) (by unfold maxLen; omega) hlen hbase ?_
    intro v' w' h1 h2 _
    exact h v' w' (by rw [rcells_app]; exact h1) h2
/-- A raw thing of nothing. -/
def noRaw : Rt := ⟨0, 0, 0, 0, none, 0, []⟩
set_option maxRecDepth 100000 in
theorem noRaw_ok (w : World) : I64 noRaw.ki ∧ I64 noRaw.a ∧ I64 noRaw.b ∧ I64 noRaw.c ∧ TextsAt w noRaw.sa noRaw.cap noRaw.ss :=
  ⟨by constructor <;> decide, by constructor <;> decide, by constructor <;> decide, by constructor <;> decide, Nat.le_refl _, by decide, fun _ => rfl, ⟨.inl rfl, fun s h => by cases h⟩⟩
set_option maxRecDepth 100000 in
theorem open_rawtm {H : Type} {enc : TypeId × Value → H} {W : World} {base : Nat} {v : Value} {d : DataW H} {p : List MemPlace}
    (hv : Value.okWide Try.prog W .any base 22 v) (h : DataW.Trod enc Try.prog W 0 (fun _ => true) true 22 v d p) (hfit : ∀ n ∈ d.weights Try.prog 22, n ≤ reachBytes) :
    ∃ sa cap rs, v = .slice sa (List.length rs) cap ∧ RawTs W sa rs ∧ rs.length ≤ cap ∧ (sa = none → cap = 0) ∧ rs.length * 56 ≤ 140737488351232 := by
  obtain ⟨sa, cap, rs, rfl, h1, h2⟩ := open_rawts hv h hfit
  refine ⟨sa, cap, rs, rfl, h1, h2, ?_⟩
  obtain ⟨fuel, hf⟩ := h
  rcases open_slice Try.underlying22 hf with ⟨he, _⟩ | ⟨a, len, cap0, m, n, D, Pl, he, _, hl, hm, hmm, hd, hx⟩
  · simp [Value.cells] at he
    obtain ⟨rfl, h3, rfl⟩ := he
    exact ⟨fun _ => rfl, by rw [h3]; simp⟩
  · simp [Value.cells] at he
    obtain ⟨rfl, rfl, rfl⟩ := he
    simp only [Prod.mk.injEq] at hd
    obtain ⟨rfl, rfl⟩ := hd
    simp only [if_true] at hmm
    subst hmm
    have hw := hfit ((((List.range rs.length).map D).length + ((List.range (m - rs.length)).map fun j => D (rs.length + j)).length) * Try.prog.bytesOf 56) (by simp [DataW.weights, Try.underlying22])
    rw [bRawT] at hw
    simp [reachBytes] at hw
    exact ⟨(fun e => by cases e), by omega⟩
end Go.Proofs.Ythpocgndgphedaa

namespace Go.Proofs.Ythpocgndgphedaa
open Go.RowKit

/-- Bytes in memory of their own. -/
structure OwnB (B : Nat) (w : World) (xa : Option Addr) (xc : Nat) (bs : List Int) : Prop where
  own : w.ownsRow B 5 1 (.slice xa bs.length xc) bs.length (ub bs)
set_option maxRecDepth 100000 in
theorem OwnB.below {B : Nat} {w w' : World} {xa : Option Addr} {xc : Nat} {bs : List Int} (h : OwnB B w xa xc bs) (hb : Below w.heap.size w w') : OwnB B w' xa xc bs := ⟨owns_keep h.own hb⟩
set_option maxRecDepth 100000 in
theorem OwnB.setCellT {B : Nat} {w : World} {xa : Option Addr} {xc : Nat} {bs : List Int} (h : OwnB B w xa xc bs) (b j : Nat) (v : Value) (hne : ∀ sb so, xa = some ⟨sb, so, none⟩ → b ≠ sb) : OwnB B (w.setCell ⟨b, j, none⟩ v) xa xc bs := by
  refine ⟨owns_ne h.own b j v (fun e => ?_)⟩
  rcases h.own.2 with ⟨h1, _⟩ | ⟨g, cap, cur, h1, _⟩
  · rw [h1] at e; cases e
  · rw [h1] at e
    simp only [Value.slice.injEq] at h1
    obtain ⟨rfl, _⟩ := h1
    simp [Value.ownBlock] at e
    exact hne g 0 rfl e.symm
set_option maxRecDepth 100000 in
theorem OwnB.slice {B : Nat} {w : World} {xa : Option Addr} {xc : Nat} {bs : List Int} (h : OwnB B w xa xc bs) : SliceAt w xa xc bs := by
  obtain ⟨a, c, e, -, hs⟩ := owns_form h.own
  simp only [Value.slice.injEq] at e
  obtain ⟨rfl, _, rfl⟩ := e
  exact hs
set_option maxRecDepth 100000 in
theorem OwnB.base {B C : Nat} {w : World} {xa : Option Addr} {xc : Nat} {bs : List Int} (h : OwnB B w xa xc bs) (hc : C ≤ B) : OwnB C w xa xc bs := ⟨owns_base h.own hc⟩
set_option maxRecDepth 100000 in
theorem ownB_nil (B : Nat) (w : World) : OwnB B w none 0 [] := ⟨World.ownsRow_nil _ _ _ _⟩
set_option maxRecDepth 100000 in
set_option maxHeartbeats 8000000 in
theorem taped_own (ms : List MV) (sa : Option Addr) (n cap : Nat) (w : World) (hn : n = ms.length) (h24 : ms.length ≤ 100) (hR : MsRow w sa ms) (hM : ∀ x ∈ ms, MAt w x ∧ IsRec x) :
    Calls Try.prog 11 #[.slice sa n cap] w fun e w' => ∃ ta tc, e = .returned (.tuple #[.agg #[.slice ta (tapeB ms).length tc, .int .i64 0], .bool true]) ∧ OwnB w.heap.size w' ta tc (tapeB ms) ∧ (∀ sb so, ta = some ⟨sb, so, none⟩ → w.heap.size ≤ sb) ∧ Below w.heap.size w w' := by
  subst hn
  have HL : Hid (∀ j, (tapeB (ms.take j)).length ≤ 32500) := by
    show ∀ _, _
    intro j
    have := tapeB_le (ms.take j) (fun x hx => ((hM x (List.mem_of_mem_take hx)).2.len (hM x (List.mem_of_mem_take hx)).1.dn).2)
    rw [List.length_take] at this
    omega
  have hA : Below w.heap.size w ((w.alloc (.cells #[.slice none 0 0, .int .i64 0] 28)).alloc (.cells #[.slice none 0 0, .int .i64 0] 28)) := ((Below.refl _ _).alloc (Nat.le_refl _) _).alloc (by simp) _
  have q0 := heap_alloc2_old w (.cells #[.slice none 0 0, .int .i64 0] 28) (.cells #[.slice none 0 0, .int .i64 0] 28)
  have q1 := heap_alloc2_new w (.cells #[.slice none 0 0, .int .i64 0] 28) (.cells #[.slice none 0 0, .int .i64 0] 28)
  have HM : Hid (∀ x ∈ ms, MAt w x ∧ IsRec x) := hM
  clear hM
  go_enter Try.func11, Try.ntmps11
  go_upto_region 3 with fail
  generalize (w.alloc (.cells #[.slice none 0 0, .int .i64 0] 28)).alloc (.cells #[.slice none 0 0, .int .i64 0] 28) = W0 at hA q0 q1 ⊢
  go_loopw [5] (fun j wr => ∃ (k : Nat) (ta : Option Addr) (tc : Nat) (D : List Int), k ≤ ms.length ∧ j = .int .i64 k ∧ Hid (D = tapeB (ms.take k)) ∧ Below w.heap.size w wr ∧ wr.heap[w.heap.size]? = some (.cells #[.slice none 0 0, .int .i64 0] 28 (0, 0)) ∧ wr.heap[w.heap.size + 1]? = some (.cells #[.slice ta D.length tc, .int .i64 0] 28 (0, 0)) ∧ OwnB w.heap.size wr ta tc D ∧ (∀ sb so, ta = some ⟨sb, so, none⟩ → w.heap.size + 2 ≤ sb)) (fun j _ => ms.length - (intOf j).toNat)
  case atStart => exact ⟨0, none, 0, [], Nat.zero_le _, rfl, rfl, hA, q0, q1, ownB_nil _ _, (fun _ _ e => by cases e)⟩
  case round =>
    clear hA q0 q1
    obtain ⟨k, ta, tc, D, hk, rfl, hD, hb, r0, r1, hS, hf⟩ := hrel
    have hsz : w.heap.size + 1 < wr.heap.size := lt_of_heap r1
    by_cases hlt : k < ms.length
    · have hltI : (k : Int) < ms.length := by omega
      obtain ⟨sb, so, rfl, hrow⟩ : ∃ sb so, sa = some ⟨sb, so, none⟩ ∧ ∀ (k : Nat) (hk : k < ms.length), wr.rangeAt sb (so + k * 19) (mcell (ms[k]).m) := by
        rcases hR.below hb with h | h
        · rw [h] at hlt; simp at hlt
        · exact h
      have hrg := hrow k hlt
      have hxm := HM.out (ms[k]) (List.getElem_mem hlt)
      have hst : Hid (D ++ (ms[k]).onTape = tapeB (ms.take (k + 1))) := by
        show _ = _
        rw [List.take_succ_eq_append_getElem hlt, tapeB_snoc, hD.out]
      have hDl : D.length ≤ 32500 := by rw [hD.out]; exact HL.out k
      have hlen := hxm.2.len hxm.1.dn
      have hol := onTape_len (ms[k])
      clear hrow
      generalize ms[k] = x at *
      have HAp : Hid (∀ W : World, Below wr.heap.size wr W → Calls Try.prog 13 #[.agg #[.slice ta D.length tc, .int .i64 0], .agg #[.int .i64 x.m.fr, .int .i64 x.m.tt, .int .i64 x.m.ki, .int .i64 x.m.bau, .int .i64 x.m.bnu, .slice x.m.bta x.m.btn x.m.btc, .int .i64 x.m.hau, .int .i64 x.m.hrd, .slice x.m.hba x.m.hbn x.m.hbc, .slice x.m.hpa x.m.hpn x.m.hpc, .int .i64 x.m.sau, .int .i64 x.m.srd, .slice x.m.sda x.m.sdn x.m.sdc, .int .i64 x.m.cau, .int .i64 x.m.crd, .slice x.m.cba x.m.cbn x.m.cbc, .slice x.m.cpa x.m.cpn x.m.cpc, .slice x.m.cva x.m.cvn x.m.cvc, .int .i64 x.m.ro]] W fun e w' => ∃ ra rc, e = .returned (.tuple #[.agg #[.slice ra (D ++ x.onTape).length rc, .int .i64 0], .int .i64 0]) ∧ OwnB wr.heap.size w' ra rc (D ++ x.onTape) ∧ (∀ sb so, ra = some ⟨sb, so, none⟩ → W.heap.size ≤ sb ∧ sb < w'.heap.size) ∧ Below W.heap.size W w') := by
        show ∀ _, _
        intro W hW
        refine (rec_append_own x D ta _ tc 0 W rfl (hS.below hW).slice (hxm.1.below (hb.trans (hW.mono hb.size))) hxm.2 ⟨by omega, by omega⟩ (by omega)).mono ?_
        intro e w' h
        obtain ⟨ra, rc, he, ho⟩ := h.own rfl
        obtain ⟨ra2, rc2, he2, -, -, hbw⟩ := h.is
        refine ⟨ra, rc, he, ⟨owns_base ho hW.size⟩, fun sb so e9 => ho.lt sb (by rw [e9]; rfl), hbw⟩
      have hXl : D.length < (D ++ x.onTape).length := by rw [List.length_append, hol]; omega
      clear hxm hlen hol hDl hD HM HL
      generalize D ++ x.onTape = XS at *
      have HXl : Hid (D.length < XS.length) := hXl
      clear hXl
      go_upto_region 5 with fail
      go_cut [6, 7] from 15 to 35 (fun p q wx => ∃ b xe xce, p = .pointer (some ⟨b, 0, none⟩) ∧ q = .int .i64 0 ∧ wr.heap.size ≤ b ∧ Below wr.heap.size wr wx ∧ wx.heap[b]? = some (.cells #[.slice xe XS.length xce, .int .i64 0] 28 (0, 0)) ∧ wx.heap[w.heap.size + 1]? = some (.cells #[.slice ta D.length tc, .int .i64 0] 28 (0, 0)) ∧ wx.heap[w.heap.size]? = some (.cells #[.slice none 0 0, .int .i64 0] 28 (0, 0)) ∧ OwnB wr.heap.size wx xe xce XS ∧ (∀ sb so, xe = some ⟨sb, so, none⟩ → wr.heap.size ≤ sb))
      case first =>
          have hV0 : Below wr.heap.size wr wr.drew := (Below.refl _ _).drew
          have qT0 : wr.drew.heap[w.heap.size + 1]? = some (.cells #[.slice ta D.length tc, .int .i64 0] 28 (0, 0)) := r1
          have q00 : wr.drew.heap[w.heap.size]? = some (.cells #[.slice none 0 0, .int .i64 0] 28 (0, 0)) := r0
          have qR0 : wr.drew.rangeAt sb (so + k * 19) (mcell x.m) := hrg
          refine wp_region_held_drew (S := fun w' => w'.cell? ⟨(w.heap.size + 1), 0, none⟩ = some (.slice ta D.length tc) ∧ w'.cell? ⟨(w.heap.size + 1), 1, none⟩ = some (.int .i64 0) ∧ w'.rangeAt sb (so + k * 19) (mcell x.m)) (by kernel_rfl) ⟨cells_at qT0 0 _ rfl, cells_at qT0 1 _ rfl, qR0⟩ (fun hHeld => ?_)
          generalize wr.drew = V0 at hV0 qT0 q00 qR0 hHeld ⊢
          refine take_dst (i := 0) (d := 15) (v := .agg #[.slice ta D.length tc, .int .i64 0]) rfl rfl (by kernel_rfl) (by kernel_rfl) (by kernel_rfl) (fun _ _ _ h => h) (Or.inl ⟨by rfl, ?_⟩) hHeld ?_
          · (intro w0 hSw; (try dsimp only at hSw); go_simp)
          simp only [Act.put, List.setIfInBounds_toArray, List.set_cons_zero, List.set_cons_succ]
          refine take_dst (i := 1) (d := 16) (v := .slice (some ⟨sb, so, none⟩) ms.length cap) rfl rfl (by kernel_rfl) (by kernel_rfl) (by kernel_rfl) (fun _ _ _ h => h) (Or.inl ⟨by rfl, ?_⟩) hHeld ?_
          · (intro w0 hSw; (try dsimp only at hSw); go_simp)
          simp only [Act.put, List.setIfInBounds_toArray, List.set_cons_zero, List.set_cons_succ]
          refine take_dst (i := 2) (d := 17) (v := .int .i64 (k : Int)) rfl rfl (by kernel_rfl) (by kernel_rfl) (by kernel_rfl) (fun _ _ _ h => h) (Or.inl ⟨by rfl, ?_⟩) hHeld ?_
          · (intro w0 hSw; (try dsimp only at hSw); go_simp)
          simp only [Act.put, List.setIfInBounds_toArray, List.set_cons_zero, List.set_cons_succ]
          refine take_dst (i := 3) (d := 18) (v := .pointer (some ⟨sb, so + k * 19, none⟩)) rfl rfl (by kernel_rfl) (by kernel_rfl) (by kernel_rfl) (fun _ _ _ h => h) (Or.inl ⟨by rfl, ?_⟩) hHeld ?_
          · (intro w0 hSw; (try dsimp only at hSw); go_simp)
          simp only [Act.put, List.setIfInBounds_toArray, List.set_cons_zero, List.set_cons_succ]
          refine take_dst (i := 4) (d := 19) (v := .agg #[.int .i64 x.m.fr, .int .i64 x.m.tt, .int .i64 x.m.ki, .int .i64 x.m.bau, .int .i64 x.m.bnu, .slice x.m.bta x.m.btn x.m.btc, .int .i64 x.m.hau, .int .i64 x.m.hrd, .slice x.m.hba x.m.hbn x.m.hbc, .slice x.m.hpa x.m.hpn x.m.hpc, .int .i64 x.m.sau, .int .i64 x.m.srd, .slice x.m.sda x.m.sdn x.m.sdc, .int .i64 x.m.cau, .int .i64 x.m.crd, .slice x.m.cba x.m.cbn x.m.cbc, .slice x.m.cpa x.m.cpn x.m.cpc, .slice x.m.cva x.m.cvn x.m.cvc, .int .i64 x.m.ro]) rfl rfl (by kernel_rfl) (by kernel_rfl) (by kernel_rfl) (fun _ _ _ h => h) (yieldsIf_load_mid rfl 47 _ rfl sb (so + k * 19) rfl (mcell x.m) _ (fun w0 h => h.2.2) Try.underlying47 rfl sMsg') hHeld ?_
          simp only [Act.put, List.setIfInBounds_toArray, List.set_cons_zero, List.set_cons_succ]
          refine wpAnyH_ready (rs := [5, 9]) (by kernel_rfl) (by simp) (AllReadyH.cons rfl (fun K hK => ?_) (AllReadyH.cons rfl (fun K hK => ?_) AllReadyH.nil))
          · skip
            refine step_calls_dst rfl 20 rfl 13 [.tmp 15, .tmp 19] #[28, 47] rfl [.agg #[.slice ta D.length tc, .int .i64 0], .agg #[.int .i64 x.m.fr, .int .i64 x.m.tt, .int .i64 x.m.ki, .int .i64 x.m.bau, .int .i64 x.m.bnu, .slice x.m.bta x.m.btn x.m.btc, .int .i64 x.m.hau, .int .i64 x.m.hrd, .slice x.m.hba x.m.hbn x.m.hbc, .slice x.m.hpa x.m.hpn x.m.hpc, .int .i64 x.m.sau, .int .i64 x.m.srd, .slice x.m.sda x.m.sdn x.m.sdc, .int .i64 x.m.cau, .int .i64 x.m.crd, .slice x.m.cba x.m.cbn x.m.cbc, .slice x.m.cpa x.m.cpn x.m.cpc, .slice x.m.cva x.m.cvn x.m.cvc, .int .i64 x.m.ro]] rfl (enters_of Try.func13 (by kernel_rfl) rfl) (fun v w' => (∃ xe xce, v = .tuple #[.agg #[.slice xe XS.length xce, .int .i64 0], .int .i64 0] ∧ OwnB wr.heap.size w' xe xce XS ∧ (∀ sb so, xe = some ⟨sb, so, none⟩ → V0.heap.size ≤ sb ∧ sb < w'.heap.size)) ∧ Below V0.heap.size V0 w') ((HAp.out V0 hV0).mono (fun e w2 h => by obtain ⟨xe, xce, he, h1, h2, h3⟩ := h; exact ⟨_, he, ⟨xe, xce, rfl, h1, h2⟩, h3⟩)) ?_
            rintro v V1 ⟨⟨xe, xce, rfl, hse, hfe⟩, hb_1⟩
            have hle_1 := hV0.size
            have qT_2 := (hb_1.block _ (lt_of_heap qT0)).trans qT0
            have q0_2 := (hb_1.block _ (lt_of_heap q00)).trans q00
            have qR_2 := range_below qR0 hb_1
            have hB_2 := hV0.trans (hb_1.mono hV0.size)
            have hfw_1 : ∀ sb so, xe = some ⟨sb, so, none⟩ → wr.heap.size ≤ sb := fun sb so e => by have := (hfe sb so e).1; omega
            refine hK.out _ _ ⟨cells_at qT_2 0 _ rfl, cells_at qT_2 1 _ rfl, qR_2⟩ (fun hHeld => ?_)
            simp only [Act.put, List.setIfInBounds_toArray, List.set_cons_zero, List.set_cons_succ]
            refine take_dst (i := 6) (d := 14) (v := .tuple #[.agg #[.slice xe XS.length xce, .int .i64 0], .int .i64 0]) rfl rfl (by kernel_rfl) (by kernel_rfl) (by kernel_rfl) (fun _ _ _ h => h) (Or.inl ⟨by rfl, ?_⟩) hHeld ?_
            · (intro w0 hSw; (try dsimp only at hSw); go_simp)
            simp only [Act.put, List.setIfInBounds_toArray, List.set_cons_zero, List.set_cons_succ]
            refine take_dst (i := 7) (d := 21) (v := .agg #[.slice xe XS.length xce, .int .i64 0]) rfl rfl (by kernel_rfl) (by kernel_rfl) (by kernel_rfl) (fun _ _ _ h => h) (Or.inl ⟨by rfl, ?_⟩) hHeld ?_
            · (intro w0 hSw; (try dsimp only at hSw); go_simp)
            simp only [Act.put, List.setIfInBounds_toArray, List.set_cons_zero, List.set_cons_succ]
            refine take_dst (i := 8) (d := 22) (v := .int .i64 0) rfl rfl (by kernel_rfl) (by kernel_rfl) (by kernel_rfl) (fun _ _ _ h => h) (Or.inl ⟨by rfl, ?_⟩) hHeld ?_
            · (intro w0 hSw; (try dsimp only at hSw); go_simp)
            simp only [Act.put, List.setIfInBounds_toArray, List.set_cons_zero, List.set_cons_succ]
            refine wpAnyH_ready (rs := [9]) (by kernel_rfl) (by simp) (AllReadyH.cons rfl (fun K hK => ?_) AllReadyH.nil)
            refine step_run rfl 6 rfl (.pointer (some ⟨V1.heap.size, 0, none⟩)) (V1.alloc (.cells #[.slice none 0 0, .int .i64 0] 28)) (by go_simp) ?_
            have hA_3 : Below V1.heap.size V1 (V1.alloc (.cells #[.slice none 0 0, .int .i64 0] 28)) := (Below.refl _ _).alloc (Nat.le_refl _) _
            have qN_3 := heap_alloc_new V1 (.cells #[.slice none 0 0, .int .i64 0] 28)
            have hnT_3 := Nat.ne_of_lt (lt_of_heap qT_2)
            have hn0_3 := Nat.ne_of_lt (lt_of_heap q0_2)
            have hnR_3 := Nat.ne_of_lt (range_lt qR_2)
            have hl_3 : wr.heap.size ≤ V1.heap.size := hB_2.size
            have hx_3 : ∀ sb so, xe = some ⟨sb, so, none⟩ → sb ≠ V1.heap.size := fun sb so e => Nat.ne_of_lt (hfe sb so e).2
            have qT_4 := (hA_3.block _ (lt_of_heap qT_2)).trans qT_2
            have q0_4 := (hA_3.block _ (lt_of_heap q0_2)).trans q0_2
            have qR_4 := range_below qR_2 hA_3
            have hB_4 := hB_2.trans (hA_3.mono hB_2.size)
            have hX_4 := hse.below hA_3
            refine hK.out _ _ ⟨cells_at qT_4 0 _ rfl, cells_at qT_4 1 _ rfl, qR_4⟩ (fun hHeld => ?_)
            simp only [Act.put, List.setIfInBounds_toArray, List.set_cons_zero, List.set_cons_succ]
            generalize V1.alloc (.cells #[.slice none 0 0, .int .i64 0] 28) = V3 at hA_3 qN_3 qT_4 q0_4 qR_4 hB_4 hX_4 hHeld ⊢
            clear hA_3
            generalize V1.heap.size = b3 at qN_3 hnT_3 hn0_3 hnR_3 hl_3 hx_3 ⊢
            have z0_5 := cells_at qN_3 0 _ rfl
            have y0_5 := frozen_at qN_3 0
            have z1_5 := cells_at qN_3 1 _ rfl
            have y1_5 := frozen_at qN_3 1
            refine wpAnyH_ready (rs := [10]) (by kernel_rfl) (by simp) (AllReadyH.cons rfl (fun K hK => ?_) AllReadyH.nil)
            have hxB : ∀ sb so, xe = some ⟨sb, so, none⟩ → b3 ≠ sb := fun sb so e => by have := hx_3 sb so e; omega
            refine step_store rfl rfl ((V3.setCell ⟨b3, 0, none⟩ (.slice xe XS.length xce)).setCell ⟨b3, 1, none⟩ (.int .i64 0)) (by go_simp) ?_
            have qB_5 : ((V3.setCell ⟨b3, 0, none⟩ (.slice xe XS.length xce)).setCell ⟨b3, 1, none⟩ (.int .i64 0)).heap[b3]? = some (.cells #[.slice xe XS.length xce, .int .i64 0] 28 (0, 0)) := by simpa using (heap_setCell_same _ _ 1 _ _ (.int .i64 0) (heap_setCell_same _ _ 0 _ _ (.slice xe XS.length xce) qN_3))
            have qT_5 := (heap_far (j := 1) (v := .int .i64 0) (heap_far (j := 0) (v := .slice xe XS.length xce) qT_4 hnT_3) hnT_3)
            have q0_5 := (heap_far (j := 1) (v := .int .i64 0) (heap_far (j := 0) (v := .slice xe XS.length xce) q0_4 hn0_3) hn0_3)
            have qR_5 := (range_far (j := 1) (v := .int .i64 0) (range_far (j := 0) (v := .slice xe XS.length xce) qR_4 hnR_3) hnR_3)
            have hB_5 := ((hB_4.setCell (p := ⟨b3, 0, none⟩) hl_3 (.slice xe XS.length xce)).setCell (p := ⟨b3, 1, none⟩) hl_3 (.int .i64 0))
            have hX_5 := ((hX_4.setCellT b3 0 (.slice xe XS.length xce) hxB).setCellT b3 1 (.int .i64 0) hxB)
            refine hK.out _ _ ⟨cells_at qT_5 0 _ rfl, cells_at qT_5 1 _ rfl, qR_5⟩ (fun hHeld => ?_)
            generalize ((V3.setCell ⟨b3, 0, none⟩ (.slice xe XS.length xce)).setCell ⟨b3, 1, none⟩ (.int .i64 0)) = VE at qB_5 qT_5 q0_5 qR_5 hB_5 hX_5 hHeld ⊢
            refine take_dst (i := 11) (d := 7) (v := .int .i64 0) rfl rfl (by kernel_rfl) (by kernel_rfl) (by kernel_rfl) (fun _ _ _ h => h) (Or.inl ⟨by rfl, ?_⟩) hHeld ?_
            · (intro w0 hSw; (try dsimp only at hSw); go_simp)
            simp only [Act.put, List.setIfInBounds_toArray, List.set_cons_zero, List.set_cons_succ]
            refine wpAnyH_done (by kernel_rfl) ?_ _
            go_wp2_with fail
            go_meet
            case rel => exact ⟨b3, xe, xce, rfl, rfl, hl_3, hB_5, qB_5, qT_5, q0_5, hX_5, hfw_1⟩
          · skip
            refine step_run rfl 6 rfl (.pointer (some ⟨V0.heap.size, 0, none⟩)) (V0.alloc (.cells #[.slice none 0 0, .int .i64 0] 28)) (by go_simp) ?_
            have hA_6 : Below V0.heap.size V0 (V0.alloc (.cells #[.slice none 0 0, .int .i64 0] 28)) := (Below.refl _ _).alloc (Nat.le_refl _) _
            have qN_6 := heap_alloc_new V0 (.cells #[.slice none 0 0, .int .i64 0] 28)
            have hnT_6 := Nat.ne_of_lt (lt_of_heap qT0)
            have hn0_6 := Nat.ne_of_lt (lt_of_heap q00)
            have hnR_6 := Nat.ne_of_lt (range_lt qR0)
            have hl_6 : wr.heap.size ≤ V0.heap.size := hV0.size
            have qT_7 := (hA_6.block _ (lt_of_heap qT0)).trans qT0
            have q0_7 := (hA_6.block _ (lt_of_heap q00)).trans q00
            have qR_7 := range_below qR0 hA_6
            have hB_7 := hV0.trans (hA_6.mono hV0.size)
            refine hK.out _ _ ⟨cells_at qT_7 0 _ rfl, cells_at qT_7 1 _ rfl, qR_7⟩ (fun hHeld => ?_)
            simp only [Act.put, List.setIfInBounds_toArray, List.set_cons_zero, List.set_cons_succ]
            generalize V0.alloc (.cells #[.slice none 0 0, .int .i64 0] 28) = V6 at hA_6 qN_6 qT_7 q0_7 qR_7 hB_7 hHeld ⊢
            clear hA_6
            generalize V0.heap.size = b6 at qN_6 hnT_6 hn0_6 hnR_6 hl_6 ⊢
            refine wpAnyH_ready (rs := [5]) (by kernel_rfl) (by simp) (AllReadyH.cons rfl (fun K hK => ?_) AllReadyH.nil)
            refine step_calls_dst rfl 20 rfl 13 [.tmp 15, .tmp 19] #[28, 47] rfl [.agg #[.slice ta D.length tc, .int .i64 0], .agg #[.int .i64 x.m.fr, .int .i64 x.m.tt, .int .i64 x.m.ki, .int .i64 x.m.bau, .int .i64 x.m.bnu, .slice x.m.bta x.m.btn x.m.btc, .int .i64 x.m.hau, .int .i64 x.m.hrd, .slice x.m.hba x.m.hbn x.m.hbc, .slice x.m.hpa x.m.hpn x.m.hpc, .int .i64 x.m.sau, .int .i64 x.m.srd, .slice x.m.sda x.m.sdn x.m.sdc, .int .i64 x.m.cau, .int .i64 x.m.crd, .slice x.m.cba x.m.cbn x.m.cbc, .slice x.m.cpa x.m.cpn x.m.cpc, .slice x.m.cva x.m.cvn x.m.cvc, .int .i64 x.m.ro]] rfl (enters_of Try.func13 (by kernel_rfl) rfl) (fun v w' => (∃ xe xce, v = .tuple #[.agg #[.slice xe XS.length xce, .int .i64 0], .int .i64 0] ∧ OwnB wr.heap.size w' xe xce XS ∧ (∀ sb so, xe = some ⟨sb, so, none⟩ → V6.heap.size ≤ sb ∧ sb < w'.heap.size)) ∧ Below V6.heap.size V6 w') ((HAp.out V6 hB_7).mono (fun e w2 h => by obtain ⟨xe, xce, he, h1, h2, h3⟩ := h; exact ⟨_, he, ⟨xe, xce, rfl, h1, h2⟩, h3⟩)) ?_
            rintro v V8 ⟨⟨xe, xce, rfl, hse, hfe⟩, hb_8⟩
            have hle_8 := hB_7.size
            have hbe_8 := lt_of_heap qN_6
            have qT_9 := (hb_8.block _ (lt_of_heap qT_7)).trans qT_7
            have q0_9 := (hb_8.block _ (lt_of_heap q0_7)).trans q0_7
            have qB_9 := (hb_8.block _ (lt_of_heap qN_6)).trans qN_6
            have qR_9 := range_below qR_7 hb_8
            have hB_9 := hB_7.trans (hb_8.mono hB_7.size)
            have hfw_8 : ∀ sb so, xe = some ⟨sb, so, none⟩ → wr.heap.size ≤ sb := fun sb so e => by have := (hfe sb so e).1; omega
            have hx_8 : ∀ sb so, xe = some ⟨sb, so, none⟩ → sb ≠ b6 := fun sb so e => by have := (hfe sb so e).1; omega
            refine hK.out _ _ ⟨cells_at qT_9 0 _ rfl, cells_at qT_9 1 _ rfl, qR_9⟩ (fun hHeld => ?_)
            simp only [Act.put, List.setIfInBounds_toArray, List.set_cons_zero, List.set_cons_succ]
            refine take_dst (i := 6) (d := 14) (v := .tuple #[.agg #[.slice xe XS.length xce, .int .i64 0], .int .i64 0]) rfl rfl (by kernel_rfl) (by kernel_rfl) (by kernel_rfl) (fun _ _ _ h => h) (Or.inl ⟨by rfl, ?_⟩) hHeld ?_
            · (intro w0 hSw; (try dsimp only at hSw); go_simp)
            simp only [Act.put, List.setIfInBounds_toArray, List.set_cons_zero, List.set_cons_succ]
            refine take_dst (i := 7) (d := 21) (v := .agg #[.slice xe XS.length xce, .int .i64 0]) rfl rfl (by kernel_rfl) (by kernel_rfl) (by kernel_rfl) (fun _ _ _ h => h) (Or.inl ⟨by rfl, ?_⟩) hHeld ?_
            · (intro w0 hSw; (try dsimp only at hSw); go_simp)
            simp only [Act.put, List.setIfInBounds_toArray, List.set_cons_zero, List.set_cons_succ]
            refine take_dst (i := 8) (d := 22) (v := .int .i64 0) rfl rfl (by kernel_rfl) (by kernel_rfl) (by kernel_rfl) (fun _ _ _ h => h) (Or.inl ⟨by rfl, ?_⟩) hHeld ?_
            · (intro w0 hSw; (try dsimp only at hSw); go_simp)
            simp only [Act.put, List.setIfInBounds_toArray, List.set_cons_zero, List.set_cons_succ]
            have z0_10 := cells_at qB_9 0 _ rfl
            have y0_10 := frozen_at qB_9 0
            have z1_10 := cells_at qB_9 1 _ rfl
            have y1_10 := frozen_at qB_9 1
            refine wpAnyH_ready (rs := [10]) (by kernel_rfl) (by simp) (AllReadyH.cons rfl (fun K hK => ?_) AllReadyH.nil)
            have hxB : ∀ sb so, xe = some ⟨sb, so, none⟩ → b6 ≠ sb := fun sb so e => by have := hx_8 sb so e; omega
            refine step_store rfl rfl ((V8.setCell ⟨b6, 0, none⟩ (.slice xe XS.length xce)).setCell ⟨b6, 1, none⟩ (.int .i64 0)) (by go_simp) ?_
            have qB_10 : ((V8.setCell ⟨b6, 0, none⟩ (.slice xe XS.length xce)).setCell ⟨b6, 1, none⟩ (.int .i64 0)).heap[b6]? = some (.cells #[.slice xe XS.length xce, .int .i64 0] 28 (0, 0)) := by simpa using (heap_setCell_same _ _ 1 _ _ (.int .i64 0) (heap_setCell_same _ _ 0 _ _ (.slice xe XS.length xce) qB_9))
            have qT_10 := (heap_far (j := 1) (v := .int .i64 0) (heap_far (j := 0) (v := .slice xe XS.length xce) qT_9 hnT_6) hnT_6)
            have q0_10 := (heap_far (j := 1) (v := .int .i64 0) (heap_far (j := 0) (v := .slice xe XS.length xce) q0_9 hn0_6) hn0_6)
            have qR_10 := (range_far (j := 1) (v := .int .i64 0) (range_far (j := 0) (v := .slice xe XS.length xce) qR_9 hnR_6) hnR_6)
            have hB_10 := ((hB_9.setCell (p := ⟨b6, 0, none⟩) hl_6 (.slice xe XS.length xce)).setCell (p := ⟨b6, 1, none⟩) hl_6 (.int .i64 0))
            have hX_10 := ((hse.setCellT b6 0 (.slice xe XS.length xce) hxB).setCellT b6 1 (.int .i64 0) hxB)
            refine hK.out _ _ ⟨cells_at qT_10 0 _ rfl, cells_at qT_10 1 _ rfl, qR_10⟩ (fun hHeld => ?_)
            generalize ((V8.setCell ⟨b6, 0, none⟩ (.slice xe XS.length xce)).setCell ⟨b6, 1, none⟩ (.int .i64 0)) = VE at qB_10 qT_10 q0_10 qR_10 hB_10 hX_10 hHeld ⊢
            refine take_dst (i := 11) (d := 7) (v := .int .i64 0) rfl rfl (by kernel_rfl) (by kernel_rfl) (by kernel_rfl) (fun _ _ _ h => h) (Or.inl ⟨by rfl, ?_⟩) hHeld ?_
            · (intro w0 hSw; (try dsimp only at hSw); go_simp)
            simp only [Act.put, List.setIfInBounds_toArray, List.set_cons_zero, List.set_cons_succ]
            refine wpAnyH_done (by kernel_rfl) ?_ _
            go_wp2_with fail
            go_meet
            case rel => exact ⟨b6, xe, xce, rfl, rfl, hl_6, hB_10, qB_10, qT_10, q0_10, hX_10, hfw_8⟩
      case rest =>
        obtain ⟨b, xe, xce, rfl, rfl, hbb, hbc, u2, uT, u0, hx2, hfx⟩ := hcut
        have hBc := hb.trans (hbc.mono hb.size)
        have hXlI : ¬ (XS.length : Int) ≤ D.length := by have := HXl.out; omega
        have b0 : wc.cell? ⟨b, 0, none⟩ = some (.slice xe XS.length xce) := cells_at u2 0 _ rfl
        have b1 : wc.cell? ⟨b, 1, none⟩ = some (.int .i64 0) := cells_at u2 1 _ rfl
        have c0 : wc.cell? ⟨w.heap.size + 1, 0, none⟩ = some (.slice ta D.length tc) := cells_at uT 0 _ rfl
        have c1 : wc.cell? ⟨w.heap.size + 1, 1, none⟩ = some (.int .i64 0) := cells_at uT 1 _ rfl
        have f0 := frozen_at uT 0
        have f1 := frozen_at uT 1
        clear HAp
        go_wp2_with fail
        go_roundw
        case rel =>
          have e1 : ∀ sb so, xe = some ⟨sb, so, none⟩ → w.heap.size + 1 ≠ sb := fun sb so e => by have := hfx sb so e; omega
          exact ⟨k + 1, xe, xce, XS, by omega, by go_num, hst, (hBc.setCell (by simp) _).setCell (by simp) _, heap_far (heap_far u0 (by omega)) (by omega), by simpa using heap_setCell_same _ _ 1 _ _ (.int .i64 0) (heap_setCell_same _ _ 0 _ _ (.slice xe XS.length xce) uT), ((hx2.setCellT _ _ _ e1).setCellT _ _ _ e1).base (by omega), fun sb so e => by have := hfx sb so e; omega⟩
        case measure => simp [intOf]; omega
    · obtain rfl : k = ms.length := by omega
      have hltI : ¬ (ms.length : Int) < ms.length := by omega
      rw [List.take_of_length_le (Nat.le_refl _)] at hD
      have c0 : wr.cell? ⟨w.heap.size + 1, 0, none⟩ = some (.slice ta D.length tc) := cells_at r1 0 _ rfl
      have c1 : wr.cell? ⟨w.heap.size + 1, 1, none⟩ = some (.int .i64 0) := cells_at r1 1 _ rfl
      have d0 : wr.cell? ⟨w.heap.size, 0, none⟩ = some (.slice none 0 0) := cells_at r0 0 _ rfl
      have d1 : wr.cell? ⟨w.heap.size, 1, none⟩ = some (.int .i64 0) := cells_at r0 1 _ rfl
      have f0 := frozen_at r0 0
      have f1 := frozen_at r0 1
      go_wp2_with fail
      rw [← hD.out]
      refine bodyPost_ret (v := .tuple #[.agg #[.slice ta D.length tc, .int .i64 0], .bool true]) (by simp [results, Try.results11, go_sem, d0, d1]) rfl ⟨ta, tc, rfl, ?_, ?_, ?_⟩
      · exact (hS.setCellT _ _ _ (fun sb so e => by have := hf sb so e; omega)).setCellT _ _ _ (fun sb so e => by have := hf sb so e; omega)
      · intro sb so e
        have := hf sb so e
        omega
      · exact (hb.setCell (by simp) _).setCell (by simp) _
end Go.Proofs.Ythpocgndgphedaa

namespace Go.Proofs.Ythpocgndgphedaa
open Go.RowKit

set_option maxRecDepth 100000 in
/-- Records, and behind them what is none. -/
theorem tape_scan2 {w w0 : World} (q r : List Int) (hq : noRec q) (hr : noRec r) : ∀ (ms ys : List MV), (∀ x ∈ ms, MAt w x ∧ IsRec x) → (∀ y ∈ ys, MAt w0 y ∧ IsRec y) → tapeB ms ++ q = tapeB ys ++ r → Agree ys ms ∧ ys.length = ms.length := by
  intro ms
  induction ms with
  | nil =>
    intro ys _ hy h
    cases ys with
    | nil => exact ⟨Agree.nil _, rfl⟩
    | cons y t =>
      obtain ⟨h1, h2⟩ := hy y (by simp)
      rw [tapeB_cons, List.append_assoc] at h
      exact absurd h (hq w0 y _ h1 h2)
  | cons x l ih =>
    intro ys hm hy h
    obtain ⟨hxa, hxr⟩ := hm x (by simp)
    cases ys with
    | nil =>
      rw [tapeB_cons, List.append_assoc] at h
      exact absurd h.symm (hr w x _ hxa hxr)
    | cons y t =>
      obtain ⟨hya, hyr⟩ := hy y (by simp)
      rw [tapeB_cons, tapeB_cons, List.append_assoc, List.append_assoc] at h
      obtain ⟨s1, s2, s3, s4⟩ := onTape_step hxa hya hxr hyr h.symm
      obtain ⟨i1, i2⟩ := ih t (fun z hz => hm z (by simp [hz])) (fun z hz => hy z (by simp [hz])) s4.symm
      exact ⟨i1.cons s2 s3, by simp [i2]⟩
set_option maxRecDepth 100000 in
theorem noRec_odd (E : List Int) : noRec ([0, 1, 9] ++ E) := by
  intro w0 x r hM hI h
  obtain ⟨a1, a2, a3, a4⟩ := onTape_form h
  have h3 := (hI.len hM.dn).1
  simp at a1 a2
  omega
set_option maxRecDepth 100000 in
theorem row_sliceO {w : World} {b n : Nat} {l : List Int} (h : w.heap[b]? = some (.cells (ub l).toArray 5 (0, 0))) (hn : n = l.length) (hm : n ≤ maxLen) : SliceAt w (some ⟨b, 0, none⟩) n l := by
  subst hn
  refine ⟨Nat.le_refl _, hm, .inr ⟨b, 0, rfl⟩, (fun e => by cases e), .inr ⟨b, 0, rfl, fun j hj => ?_⟩⟩
  rw [cell_of_row w b _ _ _ _ h, Nat.zero_add]
  simp [ub, hj]
set_option maxRecDepth 100000 in
theorem slice_grewO {w w' : World} {v v' : Value} {sa : Option Addr} {cap : Nat} {bs : List Int} (h : Grew w v w' v') (hs : SliceAt w sa cap bs) (hne : ∀ sb so, sa = some ⟨sb, so, none⟩ → v.ownBlock ≠ some sb) : SliceAt w' sa cap bs := by
  refine ⟨hs.le, hs.max, hs.some, hs.nil, ?_⟩
  rcases hs.bytes with hb | ⟨sb, so, rfl, hb⟩
  · exact .inl hb
  · exact .inr ⟨sb, so, rfl, fun j hj => (World.cell?_of_block (h.grown.block sb (block_lt_of_cell (hb j hj)) (fun e => hne sb so rfl e.symm))).trans (hb j hj)⟩
set_option maxRecDepth 100000 in
theorem slice_lt9 {w : World} {sa : Option Addr} {cap : Nat} {bs : List Int} (h : SliceAt w sa cap bs) (hp : 0 < bs.length) : ∀ sb so, sa = some ⟨sb, so, none⟩ → sb < w.heap.size := by
  intro sb so e
  rcases h.bytes with hb | ⟨b, o, e2, hb⟩
  · rw [hb] at hp; simp at hp
  · rw [e] at e2
    cases e2
    exact block_lt_of_cell (hb 0 hp)
set_option maxRecDepth 100000 in
set_option maxHeartbeats 4000000 in
theorem recoverOdd_walk (sa : Option Addr) (cap : Nat) (rs : List Rt) (sc : Option Addr) (cap2 : Nat) (qs : List Rt) (w : World) (hr : RawTs w sa rs) (_hc : rs.length ≤ cap) (_hc0 : sa = none → cap = 0) (_hc1 : rs.length * 56 ≤ 140737488351232) (hq : RawTs w sc qs) (_hd : qs.length ≤ cap2) (hd0 : sc = none → cap2 = 0) (hd1 : qs.length * 56 ≤ 140737488351232) :
    Calls Try.prog 7 #[.slice sa rs.length cap, .slice sc qs.length cap2] w fun e w' => e = .returned (.bool true) ∧ Below w.heap.size w w' := by
  obtain ⟨i, hi, hz0, hz1, hz2⟩ := info_parts infoRaw
  go_enter Try.func7, Try.ntmps7
  go_wp2_with fail
  refine (records_any rs sa _ cap w rfl hr).mono ?_
  intro e w1 hrec
  obtain ⟨ma, mc, ms, he, hlen, hrow, hM, hb1, hU⟩ := recs_rowU hrec
  subst he
  dsimp only
  clear hrec
  have hm24 : ms.length ≤ 24 := by rw [hlen]; omega
  have hL := tapeB_small (by omega) hM
  have HR : Hid (∀ W : World, Below w1.heap.size w1 W → MsRow W ma ms ∧ ∀ x ∈ ms, MAt W x ∧ IsRec x) := by
    show ∀ _, _
    intro W hW
    exact ⟨hrow.below hW, fun x hx => ⟨(hM x hx).1.below hW, (hM x hx).2⟩⟩
  have HU : Hid _ := hU
  have hT := taped_own ms ma _ mc w1 rfl (by omega) hrow hM
  have HUA : Hid (U8s (tapeB ms)) := u8_tape hM hU
  clear hlen hrow hM hU
  go_wp2_with fail
  refine hT.mono ?_
  rintro e w2 ⟨aa, ac, he, hOA, hfA, hb2⟩
  subst he
  dsimp only
  clear hT
  have hB2 := hb1.trans (hb2.mono hb1.size)
  obtain ⟨A, hA⟩ : ∃ D, tapeB ms = D := ⟨_, rfl⟩
  rw [hA] at hOA hL ⊢
  have HA : Hid (tapeB ms = A) := hA
  clear hA
  have hltA : ∀ q, (Value.slice aa A.length ac).ownBlock = some q → w1.heap.size ≤ q ∧ q < w2.heap.size := fun q e => hOA.own.lt q e
  have hA2 : Below w2.heap.size w2 (w2.alloc (.cells #[.slice aa A.length ac, .int .i64 0] 28)) := (Below.refl _ _).alloc (Nat.le_refl _) _
  have qA2 := heap_alloc_new w2 (.cells #[.slice aa A.length ac, .int .i64 0] 28)
  go_upto_region 3 with fail
  generalize hTA : w2.heap.size = TA at qA2 hltA ⊢
  have hTA1 : w1.heap.size ≤ TA := by rw [← hTA]; exact hb2.size
  clear hTA
  generalize w2.alloc (.cells #[.slice aa A.length ac, .int .i64 0] 28) = W2 at hA2 qA2 ⊢
  have hB2A := hB2.trans (hA2.mono hB2.size)
  have h12 := hb2.trans (hA2.mono hb2.size)
  have hOA2 := hOA.below hA2
  have hqW := hq.below hB2A
  have HlA : Hid _ := hltA
  clear hOA hA2 hb2 hB2 hltA hfA
  have HQ : Hid (∀ r ∈ qs ++ [noRaw], ∀ W, Below w.heap.size w W → I64 r.ki ∧ I64 r.a ∧ I64 r.b ∧ I64 r.c ∧ TextsAt W r.sa r.cap r.ss) := by
    show ∀ _, _
    intro r hr9 W hW
    rcases List.mem_append.1 hr9 with h | h
    · exact (hq.below hW).each r h
    · obtain rfl : r = noRaw := by simpa using h
      exact noRaw_ok W
  go_wp2_with (first
    | (at_builtin; go_loud (refine wpList_append_raws rfl _ _ rfl W2.heap.size _ 0 [] rfl (World.ownsRow_nil _ _ _ _) sc qs.length cap2 qs rfl rfl hqW (fun h => ⟨by have := hd0 h; omega, hd0 h⟩) (by omega) (Nat.le_refl _) ?_; intro v3 w3 ho3 hg3))
    | (at_builtin; go_loud (refine wpList_append_raws rfl _ _ rfl W2.heap.size _ (0 + qs.length) ([] ++ qs) rfl (World.ownsRow.alloc ho3 _) (some ⟨w3.heap.size, 0, none⟩) 1 1 [noRaw] rfl rfl ⟨.inr ⟨w3.heap.size, 0, rfl, fun j hj => by obtain rfl : j = 0 := (by simpa using hj); exact ⟨cells_new _ _ _ 0 _ rfl, cells_new _ _ _ 1 _ rfl, cells_new _ _ _ 2 _ rfl, cells_new _ _ _ 3 _ rfl, cells_new _ _ _ 4 _ rfl⟩⟩, (fun r hr => by obtain rfl : r = noRaw := (by simpa using hr); exact noRaw_ok _), by simp⟩ (fun h => by cases h) (by omega) (le_alloc hg3.size _) ?_; intro v4 w4 ho4 hg4)))
  have hb23 : Below W2.heap.size W2 w3 := Below.grown (Below.refl _ _) hg3 (Nat.le_refl _) (fun q e => by cases e)
  have hb24 : Below W2.heap.size W2 w4 := Below.grown (hb23.alloc hb23.size (.cells #[.int .i64 0, .int .i64 0, .int .i64 0, .int .i64 0, .slice none 0 0] 56)) hg4 (le_alloc hb23.size _) (fun q e => (ho3.lt q e).1)
  have hB4 := hB2A.trans (hb24.mono hB2A.size)
  have h14 := h12.trans (hb24.mono h12.size)
  have qA4 := (hb24.block _ (lt_of_heap qA2)).trans qA2
  rw [List.nil_append] at ho4
  obtain ⟨qa, qc, hv4, hq4⟩ := rawts_of_owns ho4 (fun r hr9 => HQ.out r hr9 w4 hB4) (by simp; omega)
  subst hv4
  have hOA4 := hOA2.below hb24
  have hqn : 1 ≤ min (qs ++ [noRaw]).length 24 := by simp; omega
  clear ho3 ho4 hg3 hg4 HQ hqW hb23 qA2 hOA2
  refine (records_any (qs ++ [noRaw]) qa _ qc w4 rfl hq4).mono ?_
  intro e w5 hrec
  obtain ⟨na, nc, ns, he, hlen, hrow, hM, hb5, hU⟩ := recs_rowU hrec
  subst he
  dsimp only
  clear hrec hq4
  have hn24 : ns.length ≤ 24 := by rw [hlen]; omega
  have hn1 : 1 ≤ ns.length := by rw [hlen]; exact hqn
  have hLE := tapeB_small (by omega) hM
  have HN : Hid (∀ W : World, Below w5.heap.size w5 W → ∀ x ∈ ns, MAt W x ∧ IsRec x) := by
    show ∀ _, _
    intro W hW
    exact fun x hx => ⟨(hM x hx).1.below hW, (hM x hx).2⟩
  have HV : Hid _ := hU
  have HUE : Hid (U8s (tapeB ns)) := u8_tape hM hU
  have hT := taped_any ns na _ nc w5 rfl (by omega) hrow hM
  clear hlen hqn hrow hM hU
  go_wp2_with fail
  refine hT.mono ?_
  rintro e w6 ⟨ea, ec, he, hSE, hfE, hb6⟩
  subst he
  dsimp only
  clear hT
  have hB5 := hB4.trans (hb5.mono hB4.size)
  have hB6 := hB5.trans (hb6.mono hB5.size)
  have h15 := h14.trans (hb5.mono h14.size)
  have h16 := h15.trans (hb6.mono h15.size)
  have qA6 := (hb6.block _ (lt_of_heap ((hb5.block _ (lt_of_heap qA4)).trans qA4))).trans ((hb5.block _ (lt_of_heap qA4)).trans qA4)
  have hOA6 := (hOA4.below hb5).below hb6
  obtain ⟨E, hE⟩ : ∃ D, tapeB ns = D := ⟨_, rfl⟩
  rw [hE] at hSE hLE ⊢
  have HE : Hid (tapeB ns = E) := hE
  clear hE
  have hA6 : Below w6.heap.size w6 (w6.alloc (.cells #[.slice ea E.length ec, .int .i64 0] 28)) := (Below.refl _ _).alloc (Nat.le_refl _) _
  have qE := heap_alloc_new w6 (.cells #[.slice ea E.length ec, .int .i64 0] 28)
  have qA := (hA6.block _ (lt_of_heap qA6)).trans qA6
  go_upto_region 4 with fail
  have hTE2 : TA < w6.heap.size := lt_of_heap qA6
  generalize hTE : w6.heap.size = TE at qE hTE2 ⊢
  have hTE1 : w1.heap.size ≤ TE := by rw [← hTE]; exact h16.size
  have hTEw : ∀ sb so, ea = some ⟨sb, so, none⟩ → w5.heap.size ≤ sb := hfE
  clear hTE
  generalize w6.alloc (.cells #[.slice ea E.length ec, .int .i64 0] 28) = W3 at hA6 qE qA ⊢
  have hB3 := hB6.trans (hA6.mono hB6.size)
  have h13 := h16.trans (hA6.mono h16.size)
  have hOa := hOA6.below hA6
  have hSe := hSE.below hA6
  have hEp : Hid (0 < E.length) := by
    show _ < _
    have h1 := tapeB_two ns (fun y _ => onTape_two y)
    rw [HE.out] at h1
    omega
  have hTA5 : TA < w5.heap.size := lt_of_heap ((hb5.block _ (lt_of_heap qA4)).trans qA4)
  have hneE : Hid (∀ sb so, ea = some ⟨sb, so, none⟩ → (Value.slice aa A.length ac).ownBlock ≠ some sb) := by
    show ∀ _, _
    intro sb so e e2
    have h1 := (HlA.out sb e2).2
    have h2 := hTEw sb so e
    omega
  clear hOA6 hSE hOA4 qA6 qA4 hA6 hb24 hB4 h14 hB5 hB6 h15 h16 hb5 hb6 h12 hB2A hTEw hfE
  have c0 : W3.cell? ⟨TA, 0, none⟩ = some (.slice aa A.length ac) := cells_at qA 0 _ rfl
  go_upto_region 5 with fail
  clear c0
  have hTT : TE ≠ TA := by omega
  have hV0 : Below w1.heap.size w1 W3.drew := h13.drew
  have qA_0 : W3.drew.heap[TA]? = some (.cells #[.slice aa A.length ac, .int .i64 0] 28 (0, 0)) := qA
  have qE_0 : W3.drew.heap[TE]? = some (.cells #[.slice ea E.length ec, .int .i64 0] 28 (0, 0)) := qE
  have hO_0 := hOa.below ((Below.refl W3.heap.size W3).drew)
  have hS_0 := hSe.below ((Below.refl W3.heap.size W3).drew)
  refine wp_region_held_drew (S := fun w' => w'.cell? ⟨TE, 0, none⟩ = some (.slice ea E.length ec)) (by kernel_rfl) (cells_at qE_0 0 _ rfl) (fun hHeld => ?_)
  generalize W3.drew = V0 at hV0 qA_0 qE_0 hO_0 hS_0 hHeld ⊢
  refine take_dst (i := 0) (d := 34) (v := .pointer (some ⟨TA, 0, none⟩)) rfl rfl (by kernel_rfl) (by kernel_rfl) (by kernel_rfl) (fun _ _ _ h => h) (Or.inl ⟨by rfl, ?_⟩) hHeld ?_
  · (intro w0 hSw; (try dsimp only at hSw); go_simp)
  simp only [Act.put, List.setIfInBounds_toArray, List.set_cons_zero, List.set_cons_succ]
  refine take_dst (i := 4) (d := 38) (v := .pointer (some ⟨TE, 0, none⟩)) rfl rfl (by kernel_rfl) (by kernel_rfl) (by kernel_rfl) (fun _ _ _ h => h) (Or.inl ⟨by rfl, ?_⟩) hHeld ?_
  · (intro w0 hSw; (try dsimp only at hSw); go_simp)
  simp only [Act.put, List.setIfInBounds_toArray, List.set_cons_zero, List.set_cons_succ]
  refine take_dst (i := 5) (d := 39) (v := .slice ea E.length ec) rfl rfl (by kernel_rfl) (by kernel_rfl) (by kernel_rfl) (fun _ _ _ h => h) (Or.inl ⟨by rfl, ?_⟩) hHeld ?_
  · (intro w0 hSw; (try dsimp only at hSw); go_simp)
  simp only [Act.put, List.setIfInBounds_toArray, List.set_cons_zero, List.set_cons_succ]
  refine wpAnyH_ready (rs := [1, 2]) (by kernel_rfl) (by simp) (AllReadyH.cons rfl (fun K9 hK => ?_) (AllReadyH.cons rfl (fun K9 hK => ?_) AllReadyH.nil))
  · skip
    have c_1 : V0.cell? ⟨TA, 0, none⟩ = some (.slice aa A.length ac) := cells_at qA_0 0 _ rfl
    refine step_run rfl 35 rfl (.slice aa A.length ac) V0 (by go_simp) ?_
    clear c_1
    refine hK.out _ _ (cells_at qE_0 0 _ rfl) (fun hHeld => ?_)
    simp only [Act.put, List.setIfInBounds_toArray, List.set_cons_zero, List.set_cons_succ]
    refine wpAnyH_ready (rs := [2]) (by kernel_rfl) (by simp) (AllReadyH.cons rfl (fun K9 hK => ?_) AllReadyH.nil)
    refine step_run rfl 36 rfl (.slice (some ⟨V0.heap.size, 0, none⟩) 3 3) (V0.alloc (.cells (ub [0, 1, 9]).toArray 5)) (by go_simp; rfl) ?_
    have hA_2 : Below V0.heap.size V0 (V0.alloc (.cells (ub [0, 1, 9]).toArray 5)) := (Below.refl _ _).alloc (Nat.le_refl _) _
    have N_2 := heap_alloc_new V0 (.cells (ub [0, 1, 9]).toArray 5)
    have hB_2 := hV0.trans (hA_2.mono hV0.size)
    have qA_2 := (hA_2.block _ (lt_of_heap qA_0)).trans qA_0
    have qE_2 := (hA_2.block _ (lt_of_heap qE_0)).trans qE_0
    have hO_2 := hO_0.below hA_2
    have hS_2 := hS_0.below hA_2
    refine hK.out _ _ (cells_at qE_2 0 _ rfl) (fun hHeld => ?_)
    simp only [Act.put, List.setIfInBounds_toArray, List.set_cons_zero, List.set_cons_succ]
    generalize V0.alloc (.cells (ub [0, 1, 9]).toArray 5) = V2 at hA_2 N_2 hB_2 qA_2 qE_2 hO_2 hS_2 hHeld ⊢
    generalize V0.heap.size = b2 at N_2 ⊢
    clear hA_2
    refine wpAnyH_ready (rs := [3]) (by kernel_rfl) (by simp) (AllReadyH.cons rfl (fun K9 hK => ?_) AllReadyH.nil)
    refine step_append_part rfl 37 rfl (.tmp 35) (.tmp 36) rfl w1.heap.size (.slice aa A.length ac) A.length A rfl hO_2.own (some ⟨b2, 0, none⟩) 3 3 [0, 1, 9] rfl rfl (row_sliceO N_2 rfl (by decide)) (by omega) hB_2.size ?_
    intro v1 V3 ho_3 G_3
    have hB_3 := Below.grown hB_2 G_3.grown hB_2.size (fun q e => (HlA.out q e).1)
    have qA_3 := (G_3.grown.block _ (lt_of_heap qA_2) (fun e => by have := (HlA.out _ e.symm).2; omega)).trans qA_2
    have qE_3 := (G_3.grown.block _ (lt_of_heap qE_2) (fun e => by have := (HlA.out _ e.symm).2; omega)).trans qE_2
    have hS_3 := slice_grewO G_3 hS_2 hneE.out
    have nA_3 : v1.ownBlock ≠ some TA := fun e => by rcases G_3.fresh _ e with g | g; have := (HlA.out _ g).2; omega; have := lt_of_heap qA_2; omega
    have nE_3 : v1.ownBlock ≠ some TE := fun e => by rcases G_3.fresh _ e with g | g; have := (HlA.out _ g).2; omega; have := lt_of_heap qE_2; omega
    have nS_3 : ∀ sb so, ea = some ⟨sb, so, none⟩ → v1.ownBlock ≠ some sb := fun sb so e1 e => by rcases G_3.fresh _ e with g | g; exact hneE.out sb so e1 g; have := slice_lt9 hS_2 hEp.out sb so e1; omega
    refine hK.out _ _ (cells_at qE_3 0 _ rfl) (fun hHeld => ?_)
    simp only [Act.put, List.setIfInBounds_toArray, List.set_cons_zero, List.set_cons_succ]
    refine wpAnyH_ready (rs := [6]) (by kernel_rfl) (by simp) (AllReadyH.cons rfl (fun K9 hK => ?_) AllReadyH.nil)
    refine step_append_part rfl 40 rfl (.tmp 37) (.tmp 39) rfl w1.heap.size v1 (A.length + 3) (A ++ [0, 1, 9]) rfl ho_3 ea E.length ec E rfl rfl hS_3 (by omega) hB_3.size ?_
    intro v2 V4 ho_4 G_4
    have hB_4 := Below.grown hB_3 G_4.grown hB_3.size (fun q e => (ho_3.lt q e).1)
    have qA_4 := (G_4.grown.block _ (lt_of_heap qA_3) (fun e => nA_3 e.symm)).trans qA_3
    have qE_4 := (G_4.grown.block _ (lt_of_heap qE_3) (fun e => nE_3 e.symm)).trans qE_3
    have nA_4 : v2.ownBlock ≠ some TA := fun e => by rcases G_4.fresh _ e with g | g; exact nA_3 g; have := lt_of_heap qA_3; omega
    have nE_4 : v2.ownBlock ≠ some TE := fun e => by rcases G_4.fresh _ e with g | g; exact nE_3 g; have := lt_of_heap qE_3; omega
    refine hK.out _ _ (cells_at qE_4 0 _ rfl) (fun hHeld => ?_)
    simp only [Act.put, List.setIfInBounds_toArray, List.set_cons_zero, List.set_cons_succ]
    obtain ⟨xa, xc, hv, hxn, hxs⟩ := owns_form ho_4
    have hne9 : ∀ sb so, xa = some ⟨sb, so, none⟩ → TA ≠ sb := fun sb so e e2 => nA_4 (by rw [hv, e, ← e2]; rfl)
    subst hv
    have z0 := cells_at qA_4 0 _ rfl
    have y0 := frozen_at qA_4 0
    refine take_dst (i := 7) (d := 41) (v := .pointer (some ⟨TA, 0, none⟩)) rfl rfl (by kernel_rfl) (by kernel_rfl) (by kernel_rfl) (fun _ _ _ h => h) (Or.inl ⟨by rfl, ?_⟩) hHeld ?_
    · (intro w0 hSw; (try dsimp only at hSw); go_simp)
    simp only [Act.put, List.setIfInBounds_toArray, List.set_cons_zero, List.set_cons_succ]
    refine wpAnyH_ready (rs := [8]) (by kernel_rfl) (by simp) (AllReadyH.cons rfl (fun K9 hK => ?_) AllReadyH.nil)
    refine step_store rfl rfl (V4.setCell ⟨TA, 0, none⟩ (.slice xa (A.length + 3 + E.length) xc)) (by go_simp) ?_
    have qA9 : (V4.setCell ⟨TA, 0, none⟩ (.slice xa (A.length + 3 + E.length) xc)).heap[TA]? = some (.cells #[.slice xa (A.length + 3 + E.length) xc, .int .i64 0] 28 (0, 0)) := by simpa using heap_setCell_same _ _ 0 _ _ (.slice xa (A.length + 3 + E.length) xc) qA_4
    have qE9 := heap_far (j := 0) (v := .slice xa (A.length + 3 + E.length) xc) qE_4 hTT
    have hB9 := hB_4.setCell (p := ⟨TA, 0, none⟩) hTA1 (.slice xa (A.length + 3 + E.length) xc)
    have hS9 := hxs.setCellT TA 0 (.slice xa (A.length + 3 + E.length) xc) hne9
    refine hK.out _ _ (cells_at qE9 0 _ rfl) (fun hHeld => ?_)
    refine wpAnyH_done (by kernel_rfl) ?_ _
    have hGoal : ∃ pa pc, Below w1.heap.size w1 (V4.setCell ⟨TA, 0, none⟩ (.slice xa (A.length + 3 + E.length) xc)) ∧ (V4.setCell ⟨TA, 0, none⟩ (.slice xa (A.length + 3 + E.length) xc)).heap[TA]? = some (.cells #[.slice pa (A.length + 3 + E.length) pc, .int .i64 0] 28 (0, 0)) ∧ (V4.setCell ⟨TA, 0, none⟩ (.slice xa (A.length + 3 + E.length) xc)).heap[TE]? = some (.cells #[.slice ea E.length ec, .int .i64 0] 28 (0, 0)) ∧ SliceAt (V4.setCell ⟨TA, 0, none⟩ (.slice xa (A.length + 3 + E.length) xc)) pa pc (A ++ [0, 1, 9] ++ E) := ⟨xa, xc, hB9, qA9, qE9, hS9⟩
    clear qA9 qE9 hB9 hS9 hHeld z0 y0
    generalize (V4.setCell ⟨TA, 0, none⟩ (.slice xa (A.length + 3 + E.length) xc)) = VE at hGoal ⊢
    obtain ⟨pa, pc, hB9, qA9, qE9, hS9⟩ := hGoal
    have hBw := hb1.trans (hB9.mono hb1.size)
    obtain ⟨LN, hLN⟩ : ∃ n, A.length + 3 + E.length = n := ⟨_, rfl⟩
    rw [hLN] at qA9
    have hbl : (A ++ [0, 1, 9] ++ E).length = LN := by simp; omega
    have hU8 : U8s (A ++ [0, 1, 9] ++ E) := by
      intro z hz
      rcases List.mem_append.1 hz with hz | hz
      · rcases List.mem_append.1 hz with hz | hz
        · exact HUA.out z (by rw [HA.out]; exact hz)
        · simp at hz
          rcases hz with rfl | rfl | rfl <;> omega
      · exact HUE.out z (by rw [HE.out]; exact hz)
    have hRc := recover_any (A ++ [0, 1, 9] ++ E) pa LN pc 0 VE hbl.symm hS9 hU8 (by omega)
    have c0 : VE.cell? ⟨TA, 0, none⟩ = some (.slice pa LN pc) := cells_at qA9 0 _ rfl
    have c1 : VE.cell? ⟨TA, 1, none⟩ = some (.int .i64 0) := cells_at qA9 1 _ rfl
    have Hbl : Hid _ := hbl
    have hLl : LN ≤ 100000 := by omega
    clear hbl hU8 hS9 hLN
    go_wp2_with fail
    refine hRc.mono ?_
    intro e w9 h9
    have hb9 := h9.below
    rcases h9.out with ⟨h0, -⟩ | ⟨-, v, ys, r, ra, rc, h1, h2, h3, h4, -, -, he⟩
    · exfalso
      rw [tapeOk_iff.2 ⟨by rw [Hbl.out]; omega, by omega, by rw [Hbl.out]; omega⟩] at h0
      cases h0
    · subst he
      dsimp only
      obtain ⟨ya, yc, hv, -, -, -, hyr⟩ := msRow_of_owns h3
      subst hv
      obtain ⟨hya, hyn⟩ := tape_scan2 ([0, 1, 9] ++ E) r (noRec_odd E) h2 ms ys (HR.out VE hB9).2 (fun y hy => ⟨(h4 y hy).1, (h4 y hy).2.1⟩) (by rw [HA.out, ← List.append_assoc]; exact h1)
      have hyA : tapeB ys = A := by rw [hya.tape, hyn, List.take_of_length_le (Nat.le_refl _), HA.out]
      have hyu := hya.good HU.out
      have hW9 := hB9.trans (hb9.mono hB9.size)
      have hBw9 := hBw.trans (hb9.mono hBw.size)
      have HBg : Hid (∀ W : World, Below w9.heap.size w9 W → Calls Try.prog 16 #[.slice ya ms.length yc, .slice ma ms.length mc] W fun e w' => e = .returned (.bool true) ∧ Below W.heap.size W w') := by
        show ∀ _, _
        intro W hW
        obtain ⟨hr9, hm9⟩ := HR.out W (hW9.trans (hW.mono hW9.size))
        exact begins_agree ys ms ya ma _ _ yc mc W hyn.symm rfl hya (by omega) (hyr.below hW) hr9 (fun y hy => ⟨(h4 y hy).1.below hW, (h4 y hy).2.1⟩) hm9 hyu
      rw [hyA, hyn]
      have e9 := (hb9.block _ (lt_of_heap qE9)).trans qE9
      clear hRc h9 h1 h2 h3 h4 hyr hya hyn hyA hyu c0 c1 HR HU HUA HUE HA HE HlA hneE HN HV Hbl qA9
      rw [show min (0 : Int) (A.length : Int) = 0 by omega]
      have hA9 : Below w9.heap.size w9 (w9.alloc (.cells #[.slice ra A.length rc, .int .i64 0] 28)) := (Below.refl _ _).alloc (Nat.le_refl _) _
      have qV := heap_alloc_new w9 (.cells #[.slice ra A.length rc, .int .i64 0] 28)
      have e9A := (hA9.block _ (lt_of_heap e9)).trans e9
      have hEI : (0 : Int) < E.length := by have := hEp.out; omega
      go_upto_region 7 with fail
      generalize hVB : w9.heap.size = VB at qV ⊢
      clear hVB
      generalize w9.alloc (.cells #[.slice ra A.length rc, .int .i64 0] 28) = W9 at hA9 qV e9A ⊢
      have hBwA := hBw9.trans (hA9.mono hBw9.size)
      have hBg := HBg.out W9 hA9
      clear HBg
      go_wp2_with fail
      refine hBg.mono ?_
      rintro e w10 ⟨he, hb10⟩
      subst he
      dsimp only
      clear hBg
      have hB10 := hBwA.trans (hb10.mono hBwA.size)
      have x0 := cells_at ((hb10.block _ (lt_of_heap qV)).trans qV) 0 _ rfl
      have x1 := cells_at ((hb10.block _ (lt_of_heap e9A)).trans e9A) 0 _ rfl
      go_wp2_with fail
      go_ret
      refine ⟨?_, hB10⟩
      have hEp9 := hEp.out
      first | rfl | simp [hEp9] | simp [hEI]
  · skip
    refine step_run rfl 36 rfl (.slice (some ⟨V0.heap.size, 0, none⟩) 3 3) (V0.alloc (.cells (ub [0, 1, 9]).toArray 5)) (by go_simp; rfl) ?_
    have hA_5 : Below V0.heap.size V0 (V0.alloc (.cells (ub [0, 1, 9]).toArray 5)) := (Below.refl _ _).alloc (Nat.le_refl _) _
    have N_5 := heap_alloc_new V0 (.cells (ub [0, 1, 9]).toArray 5)
    have hB_5 := hV0.trans (hA_5.mono hV0.size)
    have qA_5 := (hA_5.block _ (lt_of_heap qA_0)).trans qA_0
    have qE_5 := (hA_5.block _ (lt_of_heap qE_0)).trans qE_0
    have hO_5 := hO_0.below hA_5
    have hS_5 := hS_0.below hA_5
    refine hK.out _ _ (cells_at qE_5 0 _ rfl) (fun hHeld => ?_)
    simp only [Act.put, List.setIfInBounds_toArray, List.set_cons_zero, List.set_cons_succ]
    generalize V0.alloc (.cells (ub [0, 1, 9]).toArray 5) = V5 at hA_5 N_5 hB_5 qA_5 qE_5 hO_5 hS_5 hHeld ⊢
    generalize V0.heap.size = b5 at N_5 ⊢
    clear hA_5
    refine wpAnyH_ready (rs := [1]) (by kernel_rfl) (by simp) (AllReadyH.cons rfl (fun K9 hK => ?_) AllReadyH.nil)
    have c_6 : V5.cell? ⟨TA, 0, none⟩ = some (.slice aa A.length ac) := cells_at qA_5 0 _ rfl
    refine step_run rfl 35 rfl (.slice aa A.length ac) V5 (by go_simp) ?_
    clear c_6
    refine hK.out _ _ (cells_at qE_5 0 _ rfl) (fun hHeld => ?_)
    simp only [Act.put, List.setIfInBounds_toArray, List.set_cons_zero, List.set_cons_succ]
    refine wpAnyH_ready (rs := [3]) (by kernel_rfl) (by simp) (AllReadyH.cons rfl (fun K9 hK => ?_) AllReadyH.nil)
    refine step_append_part rfl 37 rfl (.tmp 35) (.tmp 36) rfl w1.heap.size (.slice aa A.length ac) A.length A rfl hO_5.own (some ⟨b5, 0, none⟩) 3 3 [0, 1, 9] rfl rfl (row_sliceO N_5 rfl (by decide)) (by omega) hB_5.size ?_
    intro v1 V7 ho_7 G_7
    have hB_7 := Below.grown hB_5 G_7.grown hB_5.size (fun q e => (HlA.out q e).1)
    have qA_7 := (G_7.grown.block _ (lt_of_heap qA_5) (fun e => by have := (HlA.out _ e.symm).2; omega)).trans qA_5
    have qE_7 := (G_7.grown.block _ (lt_of_heap qE_5) (fun e => by have := (HlA.out _ e.symm).2; omega)).trans qE_5
    have hS_7 := slice_grewO G_7 hS_5 hneE.out
    have nA_7 : v1.ownBlock ≠ some TA := fun e => by rcases G_7.fresh _ e with g | g; have := (HlA.out _ g).2; omega; have := lt_of_heap qA_5; omega
    have nE_7 : v1.ownBlock ≠ some TE := fun e => by rcases G_7.fresh _ e with g | g; have := (HlA.out _ g).2; omega; have := lt_of_heap qE_5; omega
    have nS_7 : ∀ sb so, ea = some ⟨sb, so, none⟩ → v1.ownBlock ≠ some sb := fun sb so e1 e => by rcases G_7.fresh _ e with g | g; exact hneE.out sb so e1 g; have := slice_lt9 hS_5 hEp.out sb so e1; omega
    refine hK.out _ _ (cells_at qE_7 0 _ rfl) (fun hHeld => ?_)
    simp only [Act.put, List.setIfInBounds_toArray, List.set_cons_zero, List.set_cons_succ]
    refine wpAnyH_ready (rs := [6]) (by kernel_rfl) (by simp) (AllReadyH.cons rfl (fun K9 hK => ?_) AllReadyH.nil)
    refine step_append_part rfl 40 rfl (.tmp 37) (.tmp 39) rfl w1.heap.size v1 (A.length + 3) (A ++ [0, 1, 9]) rfl ho_7 ea E.length ec E rfl rfl hS_7 (by omega) hB_7.size ?_
    intro v2 V8 ho_8 G_8
    have hB_8 := Below.grown hB_7 G_8.grown hB_7.size (fun q e => (ho_7.lt q e).1)
    have qA_8 := (G_8.grown.block _ (lt_of_heap qA_7) (fun e => nA_7 e.symm)).trans qA_7
    have qE_8 := (G_8.grown.block _ (lt_of_heap qE_7) (fun e => nE_7 e.symm)).trans qE_7
    have nA_8 : v2.ownBlock ≠ some TA := fun e => by rcases G_8.fresh _ e with g | g; exact nA_7 g; have := lt_of_heap qA_7; omega
    have nE_8 : v2.ownBlock ≠ some TE := fun e => by rcases G_8.fresh _ e with g | g; exact nE_7 g; have := lt_of_heap qE_7; omega
    refine hK.out _ _ (cells_at qE_8 0 _ rfl) (fun hHeld => ?_)
    simp only [Act.put, List.setIfInBounds_toArray, List.set_cons_zero, List.set_cons_succ]
    obtain ⟨xa, xc, hv, hxn, hxs⟩ := owns_form ho_8
    have hne9 : ∀ sb so, xa = some ⟨sb, so, none⟩ → TA ≠ sb := fun sb so e e2 => nA_8 (by rw [hv, e, ← e2]; rfl)
    subst hv
    have z0 := cells_at qA_8 0 _ rfl
    have y0 := frozen_at qA_8 0
    refine take_dst (i := 7) (d := 41) (v := .pointer (some ⟨TA, 0, none⟩)) rfl rfl (by kernel_rfl) (by kernel_rfl) (by kernel_rfl) (fun _ _ _ h => h) (Or.inl ⟨by rfl, ?_⟩) hHeld ?_
    · (intro w0 hSw; (try dsimp only at hSw); go_simp)
    simp only [Act.put, List.setIfInBounds_toArray, List.set_cons_zero, List.set_cons_succ]
    refine wpAnyH_ready (rs := [8]) (by kernel_rfl) (by simp) (AllReadyH.cons rfl (fun K9 hK => ?_) AllReadyH.nil)
    refine step_store rfl rfl (V8.setCell ⟨TA, 0, none⟩ (.slice xa (A.length + 3 + E.length) xc)) (by go_simp) ?_
    have qA9 : (V8.setCell ⟨TA, 0, none⟩ (.slice xa (A.length + 3 + E.length) xc)).heap[TA]? = some (.cells #[.slice xa (A.length + 3 + E.length) xc, .int .i64 0] 28 (0, 0)) := by simpa using heap_setCell_same _ _ 0 _ _ (.slice xa (A.length + 3 + E.length) xc) qA_8
    have qE9 := heap_far (j := 0) (v := .slice xa (A.length + 3 + E.length) xc) qE_8 hTT
    have hB9 := hB_8.setCell (p := ⟨TA, 0, none⟩) hTA1 (.slice xa (A.length + 3 + E.length) xc)
    have hS9 := hxs.setCellT TA 0 (.slice xa (A.length + 3 + E.length) xc) hne9
    refine hK.out _ _ (cells_at qE9 0 _ rfl) (fun hHeld => ?_)
    refine wpAnyH_done (by kernel_rfl) ?_ _
    have hGoal : ∃ pa pc, Below w1.heap.size w1 (V8.setCell ⟨TA, 0, none⟩ (.slice xa (A.length + 3 + E.length) xc)) ∧ (V8.setCell ⟨TA, 0, none⟩ (.slice xa (A.length + 3 + E.length) xc)).heap[TA]? = some (.cells #[.slice pa (A.length + 3 + E.length) pc, .int .i64 0] 28 (0, 0)) ∧ (V8.setCell ⟨TA, 0, none⟩ (.slice xa (A.length + 3 + E.length) xc)).heap[TE]? = some (.cells #[.slice ea E.length ec, .int .i64 0] 28 (0, 0)) ∧ SliceAt (V8.setCell ⟨TA, 0, none⟩ (.slice xa (A.length + 3 + E.length) xc)) pa pc (A ++ [0, 1, 9] ++ E) := ⟨xa, xc, hB9, qA9, qE9, hS9⟩
    clear qA9 qE9 hB9 hS9 hHeld z0 y0
    generalize (V8.setCell ⟨TA, 0, none⟩ (.slice xa (A.length + 3 + E.length) xc)) = VE at hGoal ⊢
    obtain ⟨pa, pc, hB9, qA9, qE9, hS9⟩ := hGoal
    have hBw := hb1.trans (hB9.mono hb1.size)
    obtain ⟨LN, hLN⟩ : ∃ n, A.length + 3 + E.length = n := ⟨_, rfl⟩
    rw [hLN] at qA9
    have hbl : (A ++ [0, 1, 9] ++ E).length = LN := by simp; omega
    have hU8 : U8s (A ++ [0, 1, 9] ++ E) := by
      intro z hz
      rcases List.mem_append.1 hz with hz | hz
      · rcases List.mem_append.1 hz with hz | hz
        · exact HUA.out z (by rw [HA.out]; exact hz)
        · simp at hz
          rcases hz with rfl | rfl | rfl <;> omega
      · exact HUE.out z (by rw [HE.out]; exact hz)
    have hRc := recover_any (A ++ [0, 1, 9] ++ E) pa LN pc 0 VE hbl.symm hS9 hU8 (by omega)
    have c0 : VE.cell? ⟨TA, 0, none⟩ = some (.slice pa LN pc) := cells_at qA9 0 _ rfl
    have c1 : VE.cell? ⟨TA, 1, none⟩ = some (.int .i64 0) := cells_at qA9 1 _ rfl
    have Hbl : Hid _ := hbl
    have hLl : LN ≤ 100000 := by omega
    clear hbl hU8 hS9 hLN
    go_wp2_with fail
    refine hRc.mono ?_
    intro e w9 h9
    have hb9 := h9.below
    rcases h9.out with ⟨h0, -⟩ | ⟨-, v, ys, r, ra, rc, h1, h2, h3, h4, -, -, he⟩
    · exfalso
      rw [tapeOk_iff.2 ⟨by rw [Hbl.out]; omega, by omega, by rw [Hbl.out]; omega⟩] at h0
      cases h0
    · subst he
      dsimp only
      obtain ⟨ya, yc, hv, -, -, -, hyr⟩ := msRow_of_owns h3
      subst hv
      obtain ⟨hya, hyn⟩ := tape_scan2 ([0, 1, 9] ++ E) r (noRec_odd E) h2 ms ys (HR.out VE hB9).2 (fun y hy => ⟨(h4 y hy).1, (h4 y hy).2.1⟩) (by rw [HA.out, ← List.append_assoc]; exact h1)
      have hyA : tapeB ys = A := by rw [hya.tape, hyn, List.take_of_length_le (Nat.le_refl _), HA.out]
      have hyu := hya.good HU.out
      have hW9 := hB9.trans (hb9.mono hB9.size)
      have hBw9 := hBw.trans (hb9.mono hBw.size)
      have HBg : Hid (∀ W : World, Below w9.heap.size w9 W → Calls Try.prog 16 #[.slice ya ms.length yc, .slice ma ms.length mc] W fun e w' => e = .returned (.bool true) ∧ Below W.heap.size W w') := by
        show ∀ _, _
        intro W hW
        obtain ⟨hr9, hm9⟩ := HR.out W (hW9.trans (hW.mono hW9.size))
        exact begins_agree ys ms ya ma _ _ yc mc W hyn.symm rfl hya (by omega) (hyr.below hW) hr9 (fun y hy => ⟨(h4 y hy).1.below hW, (h4 y hy).2.1⟩) hm9 hyu
      rw [hyA, hyn]
      have e9 := (hb9.block _ (lt_of_heap qE9)).trans qE9
      clear hRc h9 h1 h2 h3 h4 hyr hya hyn hyA hyu c0 c1 HR HU HUA HUE HA HE HlA hneE HN HV Hbl qA9
      rw [show min (0 : Int) (A.length : Int) = 0 by omega]
      have hA9 : Below w9.heap.size w9 (w9.alloc (.cells #[.slice ra A.length rc, .int .i64 0] 28)) := (Below.refl _ _).alloc (Nat.le_refl _) _
      have qV := heap_alloc_new w9 (.cells #[.slice ra A.length rc, .int .i64 0] 28)
      have e9A := (hA9.block _ (lt_of_heap e9)).trans e9
      have hEI : (0 : Int) < E.length := by have := hEp.out; omega
      go_upto_region 7 with fail
      generalize hVB : w9.heap.size = VB at qV ⊢
      clear hVB
      generalize w9.alloc (.cells #[.slice ra A.length rc, .int .i64 0] 28) = W9 at hA9 qV e9A ⊢
      have hBwA := hBw9.trans (hA9.mono hBw9.size)
      have hBg := HBg.out W9 hA9
      clear HBg
      go_wp2_with fail
      refine hBg.mono ?_
      rintro e w10 ⟨he, hb10⟩
      subst he
      dsimp only
      clear hBg
      have hB10 := hBwA.trans (hb10.mono hBwA.size)
      have x0 := cells_at ((hb10.block _ (lt_of_heap qV)).trans qV) 0 _ rfl
      have x1 := cells_at ((hb10.block _ (lt_of_heap e9A)).trans e9A) 0 _ rfl
      go_wp2_with fail
      go_ret
      refine ⟨?_, hB10⟩
      have hEp9 := hEp.out
      first | rfl | simp [hEp9] | simp [hEI]
end Go.Proofs.Ythpocgndgphedaa
