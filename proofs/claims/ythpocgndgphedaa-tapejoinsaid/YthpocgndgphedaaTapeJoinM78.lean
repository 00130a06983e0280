/- The law sheaveskeep.TapeJoin answers true for every argument, and each argument reads behind the call as it read before: no condition but the form's own reach. -/
import Derived.Test.YthpocgndgphedaaTapeJoinM60
import Derived.Test.YthpocgndgphedaaTapeJoinM72
import Derived.Test.YthpocgndgphedaaTapeJoinM30
import Derived.Test.YthpocgndgphedaaPicked
import Derived.Test.YthpocgndgphedaaTapeJoinM66
import Derived.Test.YthpocgndgphedaaCalls
import Derived.Test.YthpocgndgphedaaGrew
import Derived.Laws.AppendOwnNone
import Derived.Deep.CutRange
import Derived.Deep.DeepCutAuto
import Derived.Test.YthpocgndgphedaaRows
import Derived.Test.YthpocgndgphedaaOpenB
import Derived.WalkKit
import Derived.ProofKit
import Derived.OpenShut
import Derived.Deep.DeepHandedRow
import Derived.SevenTiedAt
import Derived.Below
namespace Go.Proofs.Ythpocgndgphedaa
open Go.RowKit

set_option maxRecDepth 100000 in
theorem recs_rowU {w w' : World} {e : Ending} {N : Nat} (h : RecsIs w w' e N) : ∃ (sa : Option Addr) (cap : Nat) (ms : List MV), e = .returned (.slice sa ms.length cap) ∧ ms.length = N ∧ MsRow w' sa ms ∧ (∀ x ∈ ms, MAt w' x ∧ IsRec x) ∧ Below w.heap.size w w' ∧ ∀ x ∈ ms, U8M x.bl x.pl x.cbl x.cpl x.ds := by
  obtain ⟨v, ms, he, hl, ho, ha, hb, hu⟩ := h.out
  obtain ⟨sa, cap, rfl, -, -, -, hr⟩ := msRow_of_owns ho
  exact ⟨sa, cap, ms, he, hl, hr, fun x hx => ⟨(ha x hx).1, (ha x hx).2.1⟩, hb, hu⟩
set_option maxRecDepth 100000 in
theorem recs_row {w w' : World} {e : Ending} {N : Nat} (h : RecsIs w w' e N) : ∃ (sa : Option Addr) (cap : Nat) (ms : List MV), e = .returned (.slice sa ms.length cap) ∧ ms.length = N ∧ MsRow w' sa ms ∧ (∀ x ∈ ms, MAt w' x ∧ IsRec x) ∧ Below w.heap.size w w' := by
  obtain ⟨sa, cap, ms, h1, h2, h3, h4, h5, -⟩ := recs_rowU h
  exact ⟨sa, cap, ms, h1, h2, h3, h4, h5⟩
set_option maxRecDepth 100000 in
theorem encode_rec (x : MV) (w : World) (hM : MAt w x) (hI : IsRec x) :
    Calls Try.prog 31 #[.agg #[.int .i64 x.m.fr, .int .i64 x.m.tt, .int .i64 x.m.ki, .int .i64 x.m.bau, .int .i64 x.m.bnu, .slice x.m.bta x.m.btn x.m.btc, .int .i64 x.m.hau, .int .i64 x.m.hrd, .slice x.m.hba x.m.hbn x.m.hbc, .slice x.m.hpa x.m.hpn x.m.hpc, .int .i64 x.m.sau, .int .i64 x.m.srd, .slice x.m.sda x.m.sdn x.m.sdc, .int .i64 x.m.cau, .int .i64 x.m.crd, .slice x.m.cba x.m.cbn x.m.cbc, .slice x.m.cpa x.m.cpn x.m.cpc, .slice x.m.cva x.m.cvn x.m.cvc, .int .i64 x.m.ro]] w fun e w' => ∃ v, e = .returned (.tuple #[v, .int .i64 0]) ∧ w'.ownsRow w.heap.size 5 1 v x.bytes.length (ub x.bytes) ∧ Below w.heap.size w w' := by
  have h := encode_any x.m x.ss x.bl x.pl x.cbl x.cpl x.ds x.vl w hM.at' hM.dig hM.dn
  have h0 : checkF x.m (carriedF x.m x.ss x.bl x.pl x.cbl x.cpl x.vl) = 0 := hI.check
  rw [h0] at h
  exact h
set_option maxRecDepth 100000 in
theorem sync_ok (bs : List Int) (sa : Option Addr) (n cap : Nat) (sy : Int) (w : World) (hn : n = bs.length) (hs : SliceAt w sa cap bs) (hl : bs.length ≤ 400000) (hy : 0 ≤ sy ∧ sy ≤ bs.length) :
    Calls Try.prog 12 #[.agg #[.slice sa n cap, .int .i64 sy]] w fun e w' => TapeIs w w' e bs bs.length 0 := by
  have h := tapeSync_any bs sa n cap sy w hn hs (by omega)
  have hk : tapeOk bs.length sy = true := tapeOk_iff.2 ⟨hl, hy.1, hy.2⟩
  rw [syncN, if_pos hk, syncF, if_pos hk, List.take_of_length_le (Nat.le_refl _)] at h
  exact h
set_option maxRecDepth 100000 in
theorem crash_ok (bs : List Int) (sa : Option Addr) (n cap : Nat) (sy keep : Int) (w : World) (hn : n = bs.length) (hs : SliceAt w sa cap bs) (hl : bs.length ≤ 400000) (hy : 0 ≤ sy ∧ sy ≤ bs.length) (hk : 0 ≤ keep ∧ keep ≤ 1000000) :
    Calls Try.prog 14 #[.agg #[.slice sa n cap, .int .i64 sy], .int .i64 keep] w fun e w' => TapeIs w w' e (bs.take (leftN bs.length sy keep)) (leftN bs.length sy keep) 0 := by
  have h := tapeCrash_any bs sa n cap sy keep w hn hs (by omega) (by omega) (by omega)
  have ht : tapeOk bs.length sy = true := tapeOk_iff.2 ⟨hl, hy.1, hy.2⟩
  rw [crashN, if_pos ⟨ht, hk.1⟩, crashF, if_pos ht, if_neg (by omega)] at h
  exact h
set_option maxRecDepth 100000 in
theorem crash_neg (bs : List Int) (sa : Option Addr) (n cap : Nat) (sy keep : Int) (w : World) (hn : n = bs.length) (hs : SliceAt w sa cap bs) (hl : bs.length ≤ 400000) (hy : 0 ≤ sy ∧ sy ≤ bs.length) (hk : keep < 0 ∧ -1000000 ≤ keep) :
    Calls Try.prog 14 #[.agg #[.slice sa n cap, .int .i64 sy], .int .i64 keep] w fun e w' => TapeIs w w' e [] 0 2 := by
  have h := tapeCrash_any bs sa n cap sy keep w hn hs (by omega) (by omega) (by omega)
  have ht : tapeOk bs.length sy = true := tapeOk_iff.2 ⟨hl, hy.1, hy.2⟩
  rw [crashN, if_neg (by omega), crashF, if_pos ht, if_pos hk.1] at h
  exact h
set_option maxRecDepth 100000 in
theorem tapeB_small {ms : List MV} {w : World} (h : ms.length ≤ 100) (hM : ∀ x ∈ ms, MAt w x ∧ IsRec x) : (tapeB ms).length ≤ 32500 := by
  have := tapeB_le ms (fun x hx => ((hM x hx).2.len (hM x hx).1.dn).2)
  omega
/-- A message that stands for none. -/
def noX : MV := ⟨⟨0, 0, 0, 0, 0, 0, 0, 0, 0, 0, 0, 0, none, none, none, none, none, none, none, 0, 0, 0, 0, 0, 0, 0, 0, 0, 0, 0, 0, 0, 0⟩, [], [], [], [], [], [], []⟩
end Go.Proofs.Ythpocgndgphedaa

namespace Go.Proofs.Ythpocgndgphedaa
open Go.RowKit

/-- What is recovered of the first k bytes of records. -/
structure RcvK (w w' : World) (e : Ending) (ms : List MV) (k : Nat) (sy : Int) : Prop where
  out : ∃ (ya : Option Addr) (yc : Nat) (ys : List MV) (ra : Option Addr) (rc : Nat), e = .returned (.tuple #[.slice ya ys.length yc, .agg #[.slice ra (tapeB ys).length rc, .int .i64 (min sy (tapeB ys).length)], .int .i64 0]) ∧ MsRow w' ya ys ∧ (∀ y ∈ ys, MAt w' y ∧ IsRec y) ∧ (∀ y ∈ ys, U8M y.bl y.pl y.cbl y.cpl y.ds) ∧ SliceAt w' ra rc (tapeB ys) ∧ Agree ys ms ∧ (∀ j, j ≤ ms.length → (tapeB (ms.take j)).length ≤ k → j ≤ ys.length) ∧ (tapeB ys).length ≤ k ∧ Below w.heap.size w w'
set_option maxRecDepth 100000 in
theorem Agree.good {ys ms : List MV} (h : Agree ys ms) (hu : ∀ x ∈ ms, U8M x.bl x.pl x.cbl x.cpl x.ds) : ∀ y ∈ ys, U8M y.bl y.pl y.cbl y.cpl y.ds := by
  intro y hy
  obtain ⟨i, hi, e⟩ := List.getElem_of_mem hy
  have hi2 : i < ms.length := by have := h.le; omega
  have h1 := h.same i hi hi2
  rw [e] at h1
  exact u8_same h1 (hu _ (List.getElem_mem hi2))
set_option maxRecDepth 100000 in
theorem recover_part (ms : List MV) (k : Nat) (sa : Option Addr) (n cap : Nat) (sy : Int) (w : World) (hn : n = ((tapeB ms).take k).length) (hs : SliceAt w sa cap ((tapeB ms).take k)) (hm : ∀ x ∈ ms, MAt w x ∧ IsRec x) (hu : ∀ x ∈ ms, U8M x.bl x.pl x.cbl x.cpl x.ds) (hl : (tapeB ms).length ≤ 400000) (hy : 0 ≤ sy ∧ sy ≤ n) :
    Calls Try.prog 15 #[.agg #[.slice sa n cap, .int .i64 sy]] w fun e w' => RcvK w w' e ms k sy := by
  have hL : ((tapeB ms).take k).length ≤ 400000 := by rw [List.length_take]; omega
  refine (recover_any ((tapeB ms).take k) sa n cap sy w hn hs (fun z hz => u8_tape hm hu z (List.mem_of_mem_take hz)) (by omega)).mono ?_
  intro e w' h
  have hk : tapeOk ((tapeB ms).take k).length sy = true := tapeOk_iff.2 ⟨hL, hy.1, by omega⟩
  rcases h.out with ⟨h0, -⟩ | ⟨-, v, ys, r, ra, rc, h1, h2, h3, h4, h5, -, h7⟩
  · rw [hk] at h0; cases h0
  · obtain ⟨ya, yc, rfl, -, -, -, hr⟩ := msRow_of_owns h3
    obtain ⟨a1, a2, a3⟩ := tape_scan ms ys r k hm (fun y hy => ⟨(h4 y hy).1, (h4 y hy).2.1⟩) h1 h2
    exact ⟨ya, yc, ys, ra, rc, h7, hr, fun y hy => ⟨(h4 y hy).1, (h4 y hy).2.1⟩, a1.good hu, h5, a1, a2, a3, h.below⟩
set_option maxRecDepth 100000 in
/-- A tape of nothing. -/
theorem recover_none (w : World) :
    Calls Try.prog 15 #[.agg #[.slice none 0 0, .int .i64 0]] w fun e w' => ∃ ya yc ra rc, e = .returned (.tuple #[.slice ya 0 yc, .agg #[.slice ra 0 rc, .int .i64 0], .int .i64 0]) ∧ Below w.heap.size w w' := by
  refine (recover_part [] 0 none 0 0 0 w rfl (nilSliceT w) (fun x hx => by cases hx) (fun x hx => by cases hx) (by simp [tapeB]) ⟨by omega, by omega⟩).mono ?_
  intro e w' h
  obtain ⟨ya, yc, ys, ra, rc, he, -, -, -, -, ha, -, -, hb⟩ := h.out
  have hz : ys = [] := List.eq_nil_of_length_eq_zero (by have := ha.le; simp at this; simp [this])
  subst hz
  exact ⟨ya, yc, ra, rc, he, hb⟩
set_option maxRecDepth 100000 in
/-- One that may not be. -/
theorem recover_bad (w : World) :
    Calls Try.prog 15 #[.agg #[.slice none 0 0, .int .i64 1]] w fun e w' => e = .returned (.tuple #[.slice none 0 0, .agg #[.slice none 0 0, .int .i64 0], .int .i64 12]) ∧ Below w.heap.size w w' := by
  refine (recover_any [] none 0 0 1 w rfl (nilSliceT w) (fun z hz => by cases hz) (by simp)).mono ?_
  intro e w' h
  rcases h.out with ⟨-, he⟩ | ⟨h0, -⟩
  · exact ⟨he, h.below⟩
  · exact absurd h0 (by decide)
set_option maxRecDepth 100000 in
theorem begins_agree (ys ms : List MV) (sa sc : Option Addr) (n m ca cc : Nat) (w : World) (hn : n = ys.length) (hm : m = ms.length) (h : Agree ys ms) (hl : ms.length ≤ 1000000) (ra : MsRow w sa ys) (rb : MsRow w sc ms) (hy : ∀ y ∈ ys, MAt w y ∧ IsRec y) (hx : ∀ x ∈ ms, MAt w x ∧ IsRec x) (hu : ∀ y ∈ ys, U8M y.bl y.pl y.cbl y.cpl y.ds) :
    Calls Try.prog 16 #[.slice sa n ca, .slice sc m cc] w fun e w' => e = .returned (.bool true) ∧ Below w.heap.size w w' :=
  begins_eq ys ms sa sc n m ca cc w hn hm h.le hl ra rb (fun i h1 h2 => ⟨⟨(hy _ (List.getElem_mem h1)).1, (hy _ (List.getElem_mem h1)).2.check, hu _ (List.getElem_mem h1)⟩, (hx _ (List.getElem_mem h2)).1, h.same i h1 h2⟩)
end Go.Proofs.Ythpocgndgphedaa

namespace Go.Proofs.Ythpocgndgphedaa
open Go.RowKit

/-- Memory of its own, from B on. -/
structure RcvL (B : Nat) (w : World) (v : Value) (ys : List MV) (ra : Option Addr) (rc : Nat) : Prop where
  row : w.ownsRow B 47 19 v ys.length (mcells ys)
  recs : RecsAt w B v ys
  data : SliceAt w ra rc (tapeB ys)
  fresh : ∀ sb so, ra = some ⟨sb, so, none⟩ → B ≤ sb
set_option maxRecDepth 100000 in
theorem RcvL.below {B : Nat} {w w' : World} {v : Value} {ys : List MV} {ra : Option Addr} {rc : Nat} (h : RcvL B w v ys ra rc) (hb : Below w.heap.size w w') : RcvL B w' v ys ra rc := ⟨owns_keep h.row hb, h.recs.below hb, h.data.below hb, h.fresh⟩
set_option maxRecDepth 100000 in
theorem RcvL.far {B : Nat} {w : World} {v : Value} {ys : List MV} {ra : Option Addr} {rc : Nat} (h : RcvL B w v ys ra rc) (b j : Nat) (x : Value) (hb : b < B) : RcvL B (w.setCell ⟨b, j, none⟩ x) v ys ra rc :=
  ⟨owns_far h.row _ _ _ hb, h.recs.far (b := b) hb (fun q hq => heap_setCell_other _ ⟨b, j, none⟩ q _ hq), h.data.setCellT _ _ _ (fun sb so e => by have := h.fresh sb so e; omega), h.fresh⟩
set_option maxRecDepth 100000 in
theorem recover_own (ms : List MV) (sa : Option Addr) (n cap : Nat) (w w0 : World) (hn : n = (tapeB ms).length) (hs : SliceAt w sa cap (tapeB ms)) (hm : ∀ x ∈ ms, MAt w0 x ∧ IsRec x) (hu : ∀ x ∈ ms, U8M x.bl x.pl x.cbl x.cpl x.ds) (hl : (tapeB ms).length ≤ 400000) :
    Calls Try.prog 15 #[.agg #[.slice sa n cap, .int .i64 0]] w fun e w' => ∃ (v : Value) (ys : List MV) (ra : Option Addr) (rc : Nat), e = .returned (.tuple #[v, .agg #[.slice ra (tapeB ms).length rc, .int .i64 0], .int .i64 0]) ∧ RcvL w.heap.size w' v ys ra rc ∧ Agree ys ms ∧ ys.length = ms.length ∧ (∀ y ∈ ys, U8M y.bl y.pl y.cbl y.cpl y.ds) ∧ Below w.heap.size w w' := by
  refine (recover_any (tapeB ms) sa n cap 0 w hn hs (u8_tape hm hu) (by omega)).mono ?_
  intro e w' h
  have hk : tapeOk (tapeB ms).length 0 = true := tapeOk_iff.2 ⟨hl, by omega, by omega⟩
  rcases h.out with ⟨h0, -⟩ | ⟨-, v, ys, r, ra, rc, h1, h2, h3, h4, h5, h6, h7⟩
  · rw [hk] at h0; cases h0
  · obtain ⟨a1, a2, a3⟩ := tape_whole hm (fun y hy => ⟨(h4 y hy).1, (h4 y hy).2.1⟩) h1 h2
    rw [a3, show min (0 : Int) ((tapeB ms).length : Int) = 0 by omega] at h7
    exact ⟨v, ys, ra, rc, h7, ⟨h3, h4, h5, fun sb so e => (h6 sb so e).1⟩, a1, a2, a1.good hu, h.below⟩
set_option maxRecDepth 100000 in
theorem RcvL.form {B : Nat} {w : World} {v : Value} {ys : List MV} {ra : Option Addr} {rc : Nat} (h : RcvL B w v ys ra rc) : ∃ ya yc, v = .slice ya ys.length yc ∧ MsRow w ya ys ∧ ys.length ≤ yc ∧ ∀ y ∈ ys, MAt w y ∧ IsRec y := by
  obtain ⟨ya, yc, hv, -, hc, -, hr⟩ := msRow_of_owns h.row
  exact ⟨ya, yc, hv, hr, hc, fun y hy => ⟨(h.recs y hy).1, (h.recs y hy).2.1⟩⟩
set_option maxRecDepth 100000 in
theorem step_append_part {w : World} {ops : Array Oper} {o : Oper} {a : Act} {K : Act → World → Prop} {Q : Exit → Act → World → Prop} {E : Prop}
    (hg : o.guard = none) (d : Nat) (hd : o.dst = some d) (s x : Operand) (ho : o.op = .call { callee := .builtin .append, args := #[s, x], argTypes := #[26, 26] })
    (base : Nat) (v : Value) (n : Nat) (bs : List Int) (hs : a.eval s = v) (hown : w.ownsRow base 5 1 v n (ub bs))
    (sa : Option Addr) (m cap : Nat) (cs : List Int) (hx : a.eval x = .slice sa m cap) (hm : m = cs.length) (hp : SliceAt w sa cap cs)
    (hlen : n + m ≤ 140737488355328) (hbase : base ≤ w.heap.size)
    (hK : ∀ v' w', w'.ownsRow base 5 1 v' (n + m) (ub (bs ++ cs)) → Grew w v w' v' → K (a.put (some d) v') w') :
    if Region.wanted o (yielded ops a.tmps) = true then Oper.wp Try.prog o a w K Q else E := by
  obtain ⟨i, hi, hz0, hz1, hz2⟩ := info_parts infoU8
  cases sa with
  | none =>
    obtain rfl := hp.nil rfl
    obtain rfl : cs = [] := List.eq_nil_of_length_eq_zero (by have := hp.le; omega)
    subst hm
    have hw : Region.wanted o (yielded ops a.tmps) = true := by simp [Region.wanted, hg]
    rw [if_pos hw]
    have hrun := run_append_owned_none (P := Try.prog) (w := w) base 26 o.type 5 i 1 Try.underlying26 hi v n (ub bs) hown
    unfold Oper.wp execOp
    simp only [ho, resolve, invoke, builtin, Sem.run_bind, Sem.run_pure, Result.andThen_ok, List.map_toArray, List.map_cons, List.map_nil, hs, hx, hrun, List.length_nil]
    have h9 := hK v w (by simpa using hown) (Grew.of (World.grownBy.refl _ _) (.inl rfl))
    rw [← hd] at h9
    exact h9
  | some ad =>
    refine step_append_at hg s x 26 ho base 5 i (.int .u8 0) 1 1 Try.underlying26 hi hz0 hz1 hz2 rfl (by decide) v n (ub bs) hs hown ad m cap (ub cs) hx (by rw [ub_length, hm]; omega) ?_ (u8_one cs) (by unfold maxLen; omega) (by omega) hbase (fun v' w' h1 h2 => by rw [hd]; exact hK v' w' (by rw [show ub (bs ++ cs) = ub bs ++ ub cs by simp [ub]]; exact h1) h2)
    intro j u hu
    rcases hp.bytes with hb | ⟨sb, so, e, hb⟩
    · subst hb; simp [ub] at hu
    · cases e
      have hj : j < cs.length := by
        rcases Nat.lt_or_ge j cs.length with g | g
        · exact g
        · rw [List.getElem?_eq_none (by rw [ub_length]; exact g)] at hu; cases hu
      rw [add_off, hb j hj]
      simp [ub, hj] at hu
      simp [hj, hu]
end Go.Proofs.Ythpocgndgphedaa

namespace Go.Proofs.Ythpocgndgphedaa
open Go.ChangeShapes Go.WideShapes Go.ChangeAt Go.RowKit Go.Deep

set_option maxRecDepth 100000 in
theorem infoRaw : (Try.prog.info? 56).map (fun i => (i.zero, i.size, i.bytes)) = some (some (.agg #[.int .i64 0, .int .i64 0, .int .i64 0, .int .i64 0, .slice none 0 0]), 5, 56) := by kernel_rfl
def rcell (r : Rt) : List Value := [.int .i64 r.ki, .int .i64 r.a, .int .i64 r.b, .int .i64 r.c, .slice r.sa r.ss.length r.cap]
set_option maxRecDepth 100000 in
theorem rcell_len (r : Rt) : (rcell r).length = 5 := rfl
def rcells (rs : List Rt) : List Value := rs.flatMap rcell
set_option maxRecDepth 100000 in
theorem rcells_len (rs : List Rt) : (rcells rs).length = rs.length * 5 := by
  induction rs with
  | nil => rfl
  | cons x l ih => simp only [rcells, List.flatMap_cons, List.length_append] at ih ⊢; rw [ih, rcell_len]; simp; omega
set_option maxRecDepth 100000 in
theorem rcells_app (xs ys : List Rt) : rcells (xs ++ ys) = rcells xs ++ rcells ys := by simp [rcells]
set_option maxRecDepth 100000 in
theorem rcells_at (rs : List Rt) (k : Nat) (hk : k < rs.length) (j : Nat) (hj : j < 5) : (rcells rs)[k * 5 + j]? = (rcell (rs[k]))[j]? := by
  induction rs generalizing k with
  | nil => simp at hk
  | cons x l ih =>
    cases k with
    | zero =>
      simp only [rcells, List.flatMap_cons, Nat.zero_mul, Nat.zero_add, List.getElem_cons_zero]
      rw [List.getElem?_append_left (by rw [rcell_len]; exact hj)]
    | succ k =>
      simp only [rcells, List.flatMap_cons, List.getElem_cons_succ]
      rw [List.getElem?_append_right (by rw [rcell_len]; omega), rcell_len, show (k + 1) * 5 + j - 5 = k * 5 + j by omega]
      exact ih k (by simpa using hk)
set_option maxRecDepth 100000 in
theorem rcells_one (rs : List Rt) : ∀ u ∈ rcells rs, u.oneCell' = true := by
  intro u hu
  obtain ⟨r, _, hu⟩ := List.mem_flatMap.1 hu
  simp [rcell] at hu
  rcases hu with rfl | rfl | rfl | rfl | rfl <;> rfl
set_option maxRecDepth 100000 in
theorem raws_cells {w : World} {ad : Addr} {cs : List Rt} (hp : RawTs w (some ad) cs) : ∀ j u, (rcells cs)[j]? = some u → w.cell? (ad.add j) = some u := by
  intro j u hu
  rcases hp.cells with hb | ⟨sb, so, e, hb⟩
  · subst hb; simp [rcells] at hu
  · cases e
    have hj : j < cs.length * 5 := by
      rcases Nat.lt_or_ge j (cs.length * 5) with g | g
      · exact g
      · rw [List.getElem?_eq_none (by rw [rcells_len]; exact g)] at hu; cases hu
    have hk : j / 5 < cs.length := by omega
    have hd : j = j / 5 * 5 + j % 5 := by omega
    have h5 : j % 5 < 5 := by omega
    rw [add_off]
    obtain ⟨h0, h1, h2, h3, h4⟩ := hb (j / 5) hk
    rw [hd, rcells_at cs (j / 5) hk (j % 5) h5] at hu
    have hq : so + j = so + j / 5 * 5 + j % 5 := by omega
    rw [hq]
    generalize j / 5 = q at *
    rcases (by omega : j % 5 = 0 ∨ j % 5 = 1 ∨ j % 5 = 2 ∨ j % 5 = 3 ∨ j % 5 = 4) with h | h | h | h | h <;> rw [h] at hu ⊢ <;> simp [rcell] at hu <;> subst hu
    · exact h0
    · exact h1
    · exact h2
    · exact h3
    · exact h4
set_option maxRecDepth 100000 in
theorem rawts_of_owns {w : World} {base n : Nat} {v : Value} {rs : List Rt} (h : w.ownsRow base 56 5 v n (rcells rs)) (he : ∀ r ∈ rs, I64 r.ki ∧ I64 r.a ∧ I64 r.b ∧ I64 r.c ∧ TextsAt w r.sa r.cap r.ss) (hs : rs.length ≤ 3000000000000000000) : ∃ sa cap, v = .slice sa rs.length cap ∧ RawTs w sa rs := by
  have hl : n = rs.length := by have := h.1; rw [rcells_len] at this; omega
  subst hl
  rcases h.2 with ⟨rfl, hn⟩ | ⟨g, cap, cur, rfl, hr⟩
  · exact ⟨none, 0, by rw [hn], .inl (List.eq_nil_of_length_eq_zero (by omega)), he, hs⟩
  · refine ⟨some ⟨g, 0, none⟩, cap, rfl, .inr ⟨g, 0, rfl, fun j hj => ?_⟩, he, hs⟩
    have hc : ∀ i, i < 5 → w.cell? ⟨g, 0 + j * 5 + i, none⟩ = (rcell (rs[j]))[i]? := fun i hi => by
      rw [show 0 + j * 5 + i = j * 5 + i by omega, World.ownsRow.cellAt h (j * 5 + i) (by omega), rcells_at rs j hj i hi]
    exact ⟨hc 0 (by omega), hc 1 (by omega), hc 2 (by omega), hc 3 (by omega), hc 4 (by omega)⟩
set_option maxRecDepth 100000 in
/-- 'append(l, p...)': l a row that the call owns, p whatever slice of raw things, nil too. -/
theorem wpList_append_raws {w : World} {ops : Array Oper} {rest : List Oper} {o : Oper} {a : Act} {Q : Exit → Act → World → Prop} (hgd : o.guard = none) (s x : Operand)
    (ho : o.op = .call { callee := .builtin .append, args := #[s, x], argTypes := #[22, 22] })
    (base : Nat) (v : Value) (n : Nat) (bs : List Rt) (hs : a.eval s = v) (hown : w.ownsRow base 56 5 v n (rcells bs))
    (sa : Option Addr) (m cap : Nat) (cs : List Rt) (hx : a.eval x = .slice sa m cap) (hm : m = cs.length) (hp : RawTs w sa cs) (hnil : sa = none → m = 0 ∧ cap = 0)
    (hlen : (n + m) * 56 ≤ 140737488355328) (hbase : base ≤ w.heap.size)
    (h : ∀ v' w', w'.ownsRow base 56 5 v' (n + m) (rcells (bs ++ cs)) → w.grownBy w' v.ownBlock → wpList Try.prog ops Q rest (a.put o.dst v') w') : wpList Try.prog ops Q (o :: rest) a w := by
  obtain ⟨i, hi, hz0, hz1, hz2⟩ := info_parts infoRaw
  cases sa with
  | none =>
    obtain ⟨h1, h2⟩ := hnil rfl
    subst h1 h2
    obtain rfl : cs = [] := List.eq_nil_of_length_eq_zero hm.symm
    exact wpList_append_own_none hgd s x 22 ho base 56 i 5 Try.underlying22 hi v n (rcells bs) hs hown hx (h v w (by simpa using hown) (World.grownBy.refl _ _))
  | some ad =>
    refine wpList_append_own w hgd s x 22 ho base 56 i (.agg #[.int .i64 0, .int .i64 0, .int .i64 0, .int .i64 0, .slice none 0 0]) 5 56 Try.underlying22 hi hz0 hz1 hz2 rfl (by decide) v n (rcells bs) hs hown ad m cap (rcells cs) hx (by rw [rcells_len, hm]) (raws_cells hp) (rcells_one cs) (by unfold maxLen; omega) hlen hbase ?_
    intro v' w' h1 h2 _
    exact h v' w' (by rw [rcells_app]; exact h1) h2
/-- A raw thing of nothing. -/
def noRaw : Rt := ⟨0, 0, 0, 0, none, 0, []⟩
set_option maxRecDepth 100000 in
theorem noRaw_ok (w : World) : I64 noRaw.ki ∧ I64 noRaw.a ∧ I64 noRaw.b ∧ I64 noRaw.c ∧ TextsAt w noRaw.sa noRaw.cap noRaw.ss :=
  ⟨by constructor <;> decide, by constructor <;> decide, by constructor <;> decide, by constructor <;> decide, Nat.le_refl _, by decide, fun _ => rfl, ⟨.inl rfl, fun s h => by cases h⟩⟩
set_option maxRecDepth 100000 in
theorem open_rawtm {H : Type} {enc : TypeId × Value → H} {W : World} {base : Nat} {v : Value} {d : DataW H} {p : List MemPlace}
    (hv : Value.okWide Try.prog W .any base 22 v) (h : DataW.Trod enc Try.prog W 0 (fun _ => true) true 22 v d p) (hfit : ∀ n ∈ d.weights Try.prog 22, n ≤ reachBytes) :
    ∃ sa cap rs, v = .slice sa (List.length rs) cap ∧ RawTs W sa rs ∧ rs.length ≤ cap ∧ (sa = none → cap = 0) ∧ rs.length * 56 ≤ 140737488351232 := by
  obtain ⟨sa, cap, rs, rfl, h1, h2⟩ := open_rawts hv h hfit
  refine ⟨sa, cap, rs, rfl, h1, h2, ?_⟩
  obtain ⟨fuel, hf⟩ := h
  rcases open_slice Try.underlying22 hf with ⟨he, _⟩ | ⟨a, len, cap0, m, n, D, Pl, he, _, hl, hm, hmm, hd, hx⟩
  · simp [Value.cells] at he
    obtain ⟨rfl, h3, rfl⟩ := he
    exact ⟨fun _ => rfl, by rw [h3]; simp⟩
  · simp [Value.cells] at he
    obtain ⟨rfl, rfl, rfl⟩ := he
    simp only [Prod.mk.injEq] at hd
    obtain ⟨rfl, rfl⟩ := hd
    simp only [if_true] at hmm
    subst hmm
    have hw := hfit ((((List.range rs.length).map D).length + ((List.range (m - rs.length)).map fun j => D (rs.length + j)).length) * Try.prog.bytesOf 56) (by simp [DataW.weights, Try.underlying22])
    rw [bRawT] at hw
    simp [reachBytes] at hw
    exact ⟨(fun e => by cases e), by omega⟩
end Go.Proofs.Ythpocgndgphedaa

namespace Go.Proofs.Ythpocgndgphedaa
open Go.RowKit

set_option maxRecDepth 100000 in
theorem MsRow.drop {w : World} {sb so : Nat} {ms : List MV} (h : MsRow w (some ⟨sb, so, none⟩) ms) (k : Nat) : MsRow w (some ⟨sb, so + k * 19, none⟩) (ms.drop k) := by
  rcases h with h | ⟨sb', so', e, h⟩
  · exact .inl (by rw [h]; simp)
  · cases e
    refine .inr ⟨sb, so + k * 19, rfl, fun i hi => ?_⟩
    rw [List.getElem_drop, show so + k * 19 + i * 19 = so + (k + i) * 19 by omega]
    exact h (k + i) (by rw [List.length_drop] at hi; omega)
set_option maxRecDepth 100000 in
set_option maxHeartbeats 4000000 in
theorem tapeJoin_walk (sa : Option Addr) (cap : Nat) (rs : List Rt) (sc : Option Addr) (cap2 : Nat) (qs : List Rt) (w : World) (hr : RawTs w sa rs) (_hc : rs.length ≤ cap) (_hc0 : sa = none → cap = 0) (_hc1 : rs.length * 56 ≤ 140737488351232) (hq : RawTs w sc qs) (_hd : qs.length ≤ cap2) (hd0 : sc = none → cap2 = 0) (hd1 : qs.length * 56 ≤ 140737488351232) :
    Calls Try.prog 8 #[.slice sa rs.length cap, .slice sc qs.length cap2] w fun e w' => e = .returned (.bool true) ∧ Below w.heap.size w w' := by
  obtain ⟨i, hi, hz0, hz1, hz2⟩ := info_parts infoRaw
  go_enter Try.func8, Try.ntmps8
  go_wp2_with fail
  refine (records_any rs sa _ cap w rfl hr).mono ?_
  intro e w1 hrec
  obtain ⟨ma, mc, ms, he, hlen, hrow, hM, hb1, hU⟩ := recs_rowU hrec
  subst he
  dsimp only
  clear hrec
  have hm24 : ms.length ≤ 24 := by rw [hlen]; omega
  have hL := tapeB_small (by omega) hM
  have HR : Hid (∀ W : World, Below w1.heap.size w1 W → ∀ x ∈ ms, MAt W x ∧ IsRec x) := by
    show ∀ _, _
    intro W hW
    exact fun x hx => ⟨(hM x hx).1.below hW, (hM x hx).2⟩
  have HU : Hid _ := hU
  have hT := taped_any ms ma _ mc w1 rfl (by omega) hrow hM
  clear hlen hrow hM hU
  go_wp2_with fail
  refine hT.mono ?_
  rintro e w2 ⟨aa, ac, he, hS, -, hb2⟩
  subst he
  dsimp only
  clear hT
  have hB2 := hb1.trans (hb2.mono hb1.size)
  obtain ⟨A, hA⟩ : ∃ D, tapeB ms = D := ⟨_, rfl⟩
  rw [hA] at hS hL ⊢
  have HA : Hid (tapeB ms = A) := hA
  clear hA
  have hA2 : Below w2.heap.size w2 (w2.alloc (.cells #[.slice aa A.length ac, .int .i64 0] 28)) := (Below.refl _ _).alloc (Nat.le_refl _) _
  have qA2 := heap_alloc_new w2 (.cells #[.slice aa A.length ac, .int .i64 0] 28)
  go_upto_region 2 with fail
  generalize hTA : w2.heap.size = TA at qA2 ⊢
  clear hTA
  generalize w2.alloc (.cells #[.slice aa A.length ac, .int .i64 0] 28) = W2 at hA2 qA2 ⊢
  have hB2A := hB2.trans (hA2.mono hB2.size)
  have h12 := hb2.trans (hA2.mono hb2.size)
  have hSA := hS.below hA2
  have hqW := hq.below hB2A
  clear hS hA2 hb2 hB2
  have HQ : Hid (∀ r ∈ qs ++ [noRaw], ∀ W, Below w.heap.size w W → I64 r.ki ∧ I64 r.a ∧ I64 r.b ∧ I64 r.c ∧ TextsAt W r.sa r.cap r.ss) := by
    show ∀ _, _
    intro r hr9 W hW
    rcases List.mem_append.1 hr9 with h | h
    · exact (hq.below hW).each r h
    · obtain rfl : r = noRaw := by simpa using h
      exact noRaw_ok W
  go_wp2_with (first
    | (at_builtin; go_loud (refine wpList_append_raws rfl _ _ rfl W2.heap.size _ 0 [] rfl (World.ownsRow_nil _ _ _ _) sc qs.length cap2 qs rfl rfl hqW (fun h => ⟨by have := hd0 h; omega, hd0 h⟩) (by omega) (Nat.le_refl _) ?_; intro v3 w3 ho3 hg3))
    | (at_builtin; go_loud (refine wpList_append_raws rfl _ _ rfl W2.heap.size _ (0 + qs.length) ([] ++ qs) rfl (World.ownsRow.alloc ho3 _) (some ⟨w3.heap.size, 0, none⟩) 1 1 [noRaw] rfl rfl ⟨.inr ⟨w3.heap.size, 0, rfl, fun j hj => by obtain rfl : j = 0 := (by simpa using hj); exact ⟨cells_new _ _ _ 0 _ rfl, cells_new _ _ _ 1 _ rfl, cells_new _ _ _ 2 _ rfl, cells_new _ _ _ 3 _ rfl, cells_new _ _ _ 4 _ rfl⟩⟩, (fun r hr => by obtain rfl : r = noRaw := (by simpa using hr); exact noRaw_ok _), by simp⟩ (fun h => by cases h) (by omega) (le_alloc hg3.size _) ?_; intro v4 w4 ho4 hg4)))
  have hb23 : Below W2.heap.size W2 w3 := Below.grown (Below.refl _ _) hg3 (Nat.le_refl _) (fun q e => by cases e)
  have hb24 : Below W2.heap.size W2 w4 := Below.grown (hb23.alloc hb23.size (.cells #[.int .i64 0, .int .i64 0, .int .i64 0, .int .i64 0, .slice none 0 0] 56)) hg4 (le_alloc hb23.size _) (fun q e => (ho3.lt q e).1)
  have hB4 := hB2A.trans (hb24.mono hB2A.size)
  have h14 := h12.trans (hb24.mono h12.size)
  have qA4 := (hb24.block _ (lt_of_heap qA2)).trans qA2
  rw [List.nil_append] at ho4
  obtain ⟨qa, qc, hv4, hq4⟩ := rawts_of_owns ho4 (fun r hr9 => HQ.out r hr9 w4 hB4) (by simp; omega)
  subst hv4
  have hSA4 := hSA.below hb24
  have hqn : 1 ≤ min (qs ++ [noRaw]).length 24 := by simp; omega
  clear ho3 ho4 hg3 hg4 HQ hqW hSA hb23 qA2
  refine (records_any (qs ++ [noRaw]) qa _ qc w4 rfl hq4).mono ?_
  intro e w5 hrec
  obtain ⟨na, nc, ns, he, hlen, hrow, hM, hb5, hU⟩ := recs_rowU hrec
  subst he
  dsimp only
  clear hrec hq4
  have hn24 : ns.length ≤ 24 := by rw [hlen]; omega
  have hn1 : 1 ≤ ns.length := by rw [hlen]; exact hqn
  have hLE := tapeB_small (by omega) hM
  have HN : Hid (∀ W : World, Below w5.heap.size w5 W → ∀ x ∈ ns, MAt W x ∧ IsRec x) := by
    show ∀ _, _
    intro W hW
    exact fun x hx => ⟨(hM x hx).1.below hW, (hM x hx).2⟩
  have HV : Hid _ := hU
  have hT := taped_any ns na _ nc w5 rfl (by omega) hrow hM
  clear hlen hqn hrow hM hU
  go_wp2_with fail
  refine hT.mono ?_
  rintro e w6 ⟨ea, ec, he, hSE, -, hb6⟩
  subst he
  dsimp only
  clear hT
  have hB5 := hB4.trans (hb5.mono hB4.size)
  have hB6 := hB5.trans (hb6.mono hB5.size)
  have h15 := h14.trans (hb5.mono h14.size)
  have h16 := h15.trans (hb6.mono h15.size)
  have qA6 := (hb6.block _ (lt_of_heap ((hb5.block _ (lt_of_heap qA4)).trans qA4))).trans ((hb5.block _ (lt_of_heap qA4)).trans qA4)
  have hSA6 := (hSA4.below hb5).below hb6
  obtain ⟨E, hE⟩ : ∃ D, tapeB ns = D := ⟨_, rfl⟩
  rw [hE] at hSE hLE ⊢
  have HE : Hid (tapeB ns = E) := hE
  clear hE
  have hA6 : Below w6.heap.size w6 (w6.alloc (.cells #[.slice ea E.length ec, .int .i64 0] 28)) := (Below.refl _ _).alloc (Nat.le_refl _) _
  have qE := heap_alloc_new w6 (.cells #[.slice ea E.length ec, .int .i64 0] 28)
  have qA := (hA6.block _ (lt_of_heap qA6)).trans qA6
  go_upto_region 3 with fail
  generalize hTE : w6.heap.size = TE at qE ⊢
  clear hTE
  generalize w6.alloc (.cells #[.slice ea E.length ec, .int .i64 0] 28) = W3 at hA6 qE qA ⊢
  have hB3 := hB6.trans (hA6.mono hB6.size)
  have h13 := h16.trans (hA6.mono h16.size)
  have h53 := hb6.trans (hA6.mono hb6.size)
  have hSa := hSA6.below hA6
  have hSe := hSE.below hA6
  have hAB : TA < W3.heap.size := lt_of_heap qA
  have hEB : TE < W3.heap.size := lt_of_heap qE
  clear hSA6 hSE hSA4 qA6 qA4 hA6 hb24 hB4 h14 hB5 hB6 h15 h16 hb5 hb6 h12 hB2A
  have HRc : Hid (∀ (xa : Option Addr) (xc : Nat) (W : World), Below W3.heap.size W3 W → SliceAt W xa xc (A ++ E) → Calls Try.prog 15 #[.agg #[.slice xa (0 + A.length + E.length) xc, .int .i64 0]] W fun e w' => ∃ v, e = .returned v ∧ ((∃ (u : Value) (ys : List MV) (ra : Option Addr) (rc : Nat), v = .tuple #[u, .agg #[.slice ra (0 + A.length + E.length) rc, .int .i64 0], .int .i64 0] ∧ RcvL W.heap.size w' u ys ra rc ∧ Hid (Agree ys (ms ++ ns) ∧ ys.length = (ms ++ ns).length ∧ ∀ y ∈ ys, U8M y.bl y.pl y.cbl y.cpl y.ds)) ∧ Below W.heap.size W w')) := by
    show ∀ _, _
    intro xa xc W hW hxs
    have hj : tapeB (ms ++ ns) = A ++ E := by rw [← HA.out, ← HE.out]; simp [tapeB]
    have hjl : (tapeB (ms ++ ns)).length = 0 + A.length + E.length := by rw [hj, List.length_append]; omega
    have h := recover_own (ms ++ ns) xa (0 + A.length + E.length) xc W W hjl.symm (by rw [hj]; exact hxs) (fun z hz => by
      rcases List.mem_append.1 hz with hz | hz
      · exact HR.out W (h13.trans (hW.mono h13.size)) z hz
      · exact HN.out W (h53.trans (hW.mono h53.size)) z hz) (fun z hz => by
      rcases List.mem_append.1 hz with hz | hz
      · exact HU.out z hz
      · exact HV.out z hz) (by rw [hjl]; omega)
    refine h.mono ?_
    rintro e w' ⟨v, ys, ra, rc, he, h1, h2, h3, h4, h5⟩
    rw [hjl] at he
    exact ⟨_, he, ⟨v, ys, ra, rc, rfl, h1, h2, h3, h4⟩, h5⟩
  go_cut [9, 10, 11] (fun uu p f wx => ∃ (u : Value) (b : Nat) (zs : List MV) (ra : Option Addr) (rc B : Nat), uu = u ∧ p = .pointer (some ⟨b, 0, none⟩) ∧ f = .int .i64 0 ∧ Below W3.heap.size W3 wx ∧ wx.heap[b]? = some (.cells #[.slice ra (0 + A.length + E.length) rc, .int .i64 0] 28 (0, 0)) ∧ wx.heap[TA]? = some (.cells #[.slice aa A.length ac, .int .i64 0] 28 (0, 0)) ∧ wx.heap[TE]? = some (.cells #[.slice ea E.length ec, .int .i64 0] 28 (0, 0)) ∧ RcvL B wx u zs ra rc ∧ Hid (Agree zs (ms ++ ns) ∧ zs.length = (ms ++ ns).length ∧ ∀ y ∈ zs, U8M y.bl y.pl y.cbl y.cpl y.ds))
  case first =>
    have hV0 : Below W3.heap.size W3 W3.drew := (Below.refl _ _).drew
    have qA_0 : W3.drew.heap[TA]? = some (.cells #[.slice aa A.length ac, .int .i64 0] 28 (0, 0)) := qA
    have qE_0 : W3.drew.heap[TE]? = some (.cells #[.slice ea E.length ec, .int .i64 0] 28 (0, 0)) := qE
    refine wp_region_held_drew (S := fun w' => w'.cell? ⟨TA, 0, none⟩ = some (.slice aa A.length ac) ∧ w'.cell? ⟨TE, 0, none⟩ = some (.slice ea E.length ec)) (by kernel_rfl) ⟨cells_at qA_0 0 _ rfl, cells_at qE_0 0 _ rfl⟩ (fun hHeld => ?_)
    generalize W3.drew = V0 at hV0 qA_0 qE_0 hHeld ⊢
    refine take_dst (i := 0) (d := 35) (v := .pointer (some ⟨TA, 0, none⟩)) rfl rfl (by kernel_rfl) (by kernel_rfl) (by kernel_rfl) (fun _ _ _ h => h) (Or.inl ⟨by rfl, ?_⟩) hHeld ?_
    · (intro w0 hSw; (try dsimp only at hSw); go_simp)
    simp only [Act.put, List.setIfInBounds_toArray, List.set_cons_zero, List.set_cons_succ]
    refine take_dst (i := 1) (d := 36) (v := .slice aa A.length ac) rfl rfl (by kernel_rfl) (by kernel_rfl) (by kernel_rfl) (fun _ _ _ h => h) (Or.inl ⟨by rfl, ?_⟩) hHeld ?_
    · (intro w0 hSw; (try dsimp only at hSw); go_simp)
    simp only [Act.put, List.setIfInBounds_toArray, List.set_cons_zero, List.set_cons_succ]
    refine take_dst (i := 3) (d := 38) (v := .pointer (some ⟨TE, 0, none⟩)) rfl rfl (by kernel_rfl) (by kernel_rfl) (by kernel_rfl) (fun _ _ _ h => h) (Or.inl ⟨by rfl, ?_⟩) hHeld ?_
    · (intro w0 hSw; (try dsimp only at hSw); go_simp)
    simp only [Act.put, List.setIfInBounds_toArray, List.set_cons_zero, List.set_cons_succ]
    refine take_dst (i := 4) (d := 39) (v := .slice ea E.length ec) rfl rfl (by kernel_rfl) (by kernel_rfl) (by kernel_rfl) (fun _ _ _ h => h) (Or.inl ⟨by rfl, ?_⟩) hHeld ?_
    · (intro w0 hSw; (try dsimp only at hSw); go_simp)
    simp only [Act.put, List.setIfInBounds_toArray, List.set_cons_zero, List.set_cons_succ]
    refine wpAnyH_ready (rs := [2, 12]) (by kernel_rfl) (by simp) (AllReadyH.cons rfl (fun K hK => ?_) (AllReadyH.cons rfl (fun K hK => ?_) AllReadyH.nil))
    · skip
      refine step_append_part rfl 37 rfl (.const (.slice none 0 0)) (.tmp 36) rfl W3.heap.size (.slice none 0 0) 0 [] rfl (World.ownsRow_nil _ _ _ _) aa A.length ac A rfl rfl (hSa.below hV0) (by omega) hV0.size ?_
      intro v1 V1 ho_1 G_1
      have hz_1 : ∀ q, (Value.slice none 0 0).ownBlock = some q → W3.heap.size ≤ q := fun q e => by cases e
      have hB_1 := Below.grown hV0 G_1.grown hV0.size hz_1
      have qA_1 := (hB_1.block _ hAB).trans qA
      have qE_1 := (hB_1.block _ hEB).trans qE
      refine hK.out _ _ ⟨cells_at qA_1 0 _ rfl, cells_at qE_1 0 _ rfl⟩ (fun hHeld => ?_)
      simp only [Act.put, List.setIfInBounds_toArray, List.set_cons_zero, List.set_cons_succ]
      refine wpAnyH_ready (rs := [5, 12]) (by kernel_rfl) (by simp) (AllReadyH.cons rfl (fun K hK => ?_) (AllReadyH.cons rfl (fun K hK => ?_) AllReadyH.nil))
      · skip
        refine step_append_part rfl 40 rfl (.tmp 37) (.tmp 39) rfl W3.heap.size (v1) (0 + A.length) ([] ++ A) rfl ho_1 ea E.length ec E rfl rfl (hSe.below hB_1) (by omega) hB_1.size ?_
        intro v2 V2 ho_2 G_2
        have hz_2 : ∀ q, (v1).ownBlock = some q → W3.heap.size ≤ q := fun q e => (ho_1.lt q e).1
        have hB_2 := Below.grown hB_1 G_2.grown hB_1.size hz_2
        have qA_2 := (hB_2.block _ hAB).trans qA
        have qE_2 := (hB_2.block _ hEB).trans qE
        refine hK.out _ _ ⟨cells_at qA_2 0 _ rfl, cells_at qE_2 0 _ rfl⟩ (fun hHeld => ?_)
        simp only [Act.put, List.setIfInBounds_toArray, List.set_cons_zero, List.set_cons_succ]
        obtain ⟨xa_2, xc_2, hv_2, hn_2, hxs_2⟩ := owns_form ho_2
        rw [List.nil_append] at hxs_2
        subst hv_2
        refine take_dst (i := 6) (d := 41) (v := .agg #[.slice xa_2 (0 + A.length + E.length) xc_2, .int .i64 0]) rfl rfl (by kernel_rfl) (by kernel_rfl) (by kernel_rfl) (fun _ _ _ h => h) (Or.inl ⟨by rfl, ?_⟩) hHeld ?_
        · (intro w0 hSw; (try dsimp only at hSw); go_simp)
        simp only [Act.put, List.setIfInBounds_toArray, List.set_cons_zero, List.set_cons_succ]
        refine wpAnyH_ready (rs := [7, 12]) (by kernel_rfl) (by simp) (AllReadyH.cons rfl (fun K hK => ?_) (AllReadyH.cons rfl (fun K hK => ?_) AllReadyH.nil))
        · skip
          refine step_calls_dst rfl 42 rfl 15 [.tmp 41] #[28] rfl [.agg #[.slice xa_2 (0 + A.length + E.length) xc_2, .int .i64 0]] rfl (enters_of Try.func15 (by kernel_rfl) rfl) (fun v w' => (∃ (u : Value) (ys : List MV) (ra : Option Addr) (rc : Nat), v = .tuple #[u, .agg #[.slice ra (0 + A.length + E.length) rc, .int .i64 0], .int .i64 0] ∧ RcvL V2.heap.size w' u ys ra rc ∧ Hid (Agree ys (ms ++ ns) ∧ ys.length = (ms ++ ns).length ∧ ∀ y ∈ ys, U8M y.bl y.pl y.cbl y.cpl y.ds)) ∧ Below V2.heap.size V2 w') (HRc.out xa_2 xc_2 V2 hB_2 hxs_2) ?_
          rintro v V3 ⟨⟨u, zs, ra, rc, rfl, hL_3, hG_3⟩, hb_3⟩
          have hB_3 := hB_2.trans (hb_3.mono hB_2.size)
          have qA_3 := (hB_3.block _ hAB).trans qA
          have qE_3 := (hB_3.block _ hEB).trans qE
          refine hK.out _ _ ⟨cells_at qA_3 0 _ rfl, cells_at qE_3 0 _ rfl⟩ (fun hHeld => ?_)
          simp only [Act.put, List.setIfInBounds_toArray, List.set_cons_zero, List.set_cons_succ]
          refine take_dst (i := 8) (d := 34) (v := .tuple #[u, .agg #[.slice ra (0 + A.length + E.length) rc, .int .i64 0], .int .i64 0]) rfl rfl (by kernel_rfl) (by kernel_rfl) (by kernel_rfl) (fun _ _ _ h => h) (Or.inl ⟨by rfl, ?_⟩) hHeld ?_
          · (intro w0 hSw; (try dsimp only at hSw); go_simp)
          simp only [Act.put, List.setIfInBounds_toArray, List.set_cons_zero, List.set_cons_succ]
          refine take_dst (i := 9) (d := 43) (v := u) rfl rfl (by kernel_rfl) (by kernel_rfl) (by kernel_rfl) (fun _ _ _ h => h) (Or.inl ⟨by rfl, ?_⟩) hHeld ?_
          · (intro w0 hSw; (try dsimp only at hSw); go_simp)
          simp only [Act.put, List.setIfInBounds_toArray, List.set_cons_zero, List.set_cons_succ]
          refine take_dst (i := 10) (d := 44) (v := .agg #[.slice ra (0 + A.length + E.length) rc, .int .i64 0]) rfl rfl (by kernel_rfl) (by kernel_rfl) (by kernel_rfl) (fun _ _ _ h => h) (Or.inl ⟨by rfl, ?_⟩) hHeld ?_
          · (intro w0 hSw; (try dsimp only at hSw); go_simp)
          simp only [Act.put, List.setIfInBounds_toArray, List.set_cons_zero, List.set_cons_succ]
          refine take_dst (i := 11) (d := 45) (v := .int .i64 0) rfl rfl (by kernel_rfl) (by kernel_rfl) (by kernel_rfl) (fun _ _ _ h => h) (Or.inl ⟨by rfl, ?_⟩) hHeld ?_
          · (intro w0 hSw; (try dsimp only at hSw); go_simp)
          simp only [Act.put, List.setIfInBounds_toArray, List.set_cons_zero, List.set_cons_succ]
          refine wpAnyH_ready (rs := [12]) (by kernel_rfl) (by simp) (AllReadyH.cons rfl (fun K hK => ?_) AllReadyH.nil)
          have hLo_0 := hL_3
          refine step_run rfl 10 rfl (.pointer (some ⟨V3.heap.size, 0, none⟩)) (V3.alloc (.cells #[.slice none 0 0, .int .i64 0] 28)) (by go_simp) ?_
          have hA_4 : Below V3.heap.size V3 (V3.alloc (.cells #[.slice none 0 0, .int .i64 0] 28)) := (Below.refl _ _).alloc (Nat.le_refl _) _
          have N_4 := heap_alloc_new V3 (.cells #[.slice none 0 0, .int .i64 0] 28)
          have hl_4 : W3.heap.size ≤ V3.heap.size := hB_3.size
          have hB_4 := hB_3.trans (hA_4.mono hB_3.size)
          have qA_4 := (hB_4.block _ hAB).trans qA
          have qE_4 := (hB_4.block _ hEB).trans qE
          have hL_4 := hL_3.below hA_4
          have hle_4 : V3.heap.size ≤ V3.heap.size := Nat.le_refl _
          refine hK.out _ _ ⟨cells_at qA_4 0 _ rfl, cells_at qE_4 0 _ rfl⟩ (fun hHeld => ?_)
          simp only [Act.put, List.setIfInBounds_toArray, List.set_cons_zero, List.set_cons_succ]
          generalize hVq_4 : V3.alloc (.cells #[.slice none 0 0, .int .i64 0] 28) = V4 at hA_4 N_4 hB_4 qA_4 qE_4 hL_4 hHeld ⊢
          have z0_5 := cells_at N_4 0 _ rfl
          have y0_5 := frozen_at N_4 0
          have z1_5 := cells_at N_4 1 _ rfl
          have y1_5 := frozen_at N_4 1
          refine take_dst (i := 13) (d := 9) (v := u) rfl rfl (by kernel_rfl) (by kernel_rfl) (by kernel_rfl) (fun _ _ _ h => h) (Or.inl ⟨by rfl, ?_⟩) hHeld ?_
          · (intro w0 hSw; (try dsimp only at hSw); go_simp)
          simp only [Act.put, List.setIfInBounds_toArray, List.set_cons_zero, List.set_cons_succ]
          refine wpAnyH_ready (rs := [14]) (by kernel_rfl) (by simp) (AllReadyH.cons rfl (fun K hK => ?_) AllReadyH.nil)
          refine step_store rfl rfl ((V4.setCell ⟨V3.heap.size, 0, none⟩ (.slice ra (0 + A.length + E.length) rc)).setCell ⟨V3.heap.size, 1, none⟩ (.int .i64 0)) (by go_simp) ?_
          have N_5 : ((V4.setCell ⟨V3.heap.size, 0, none⟩ (.slice ra (0 + A.length + E.length) rc)).setCell ⟨V3.heap.size, 1, none⟩ (.int .i64 0)).heap[V3.heap.size]? = some (.cells #[.slice ra (0 + A.length + E.length) rc, .int .i64 0] 28 (0, 0)) := by simpa using heap_setCell_same _ _ 1 _ _ (.int .i64 0) (heap_setCell_same _ _ 0 _ _ (.slice ra (0 + A.length + E.length) rc) N_4)
          have hB_5 := (hB_4.setCell (p := ⟨V3.heap.size, 0, none⟩) hl_4 (.slice ra (0 + A.length + E.length) rc)).setCell (p := ⟨V3.heap.size, 1, none⟩) hl_4 (.int .i64 0)
          have qA_5 := (hB_5.block _ hAB).trans qA
          have qE_5 := (hB_5.block _ hEB).trans qE
          have hL_5 := (hLo_0).below (((hA_4.setCell (p := ⟨V3.heap.size, 0, none⟩) (Nat.le_refl _) (.slice ra (0 + A.length + E.length) rc))).setCell (p := ⟨V3.heap.size, 1, none⟩) (Nat.le_refl _) (.int .i64 0))
          refine hK.out _ _ ⟨cells_at qA_5 0 _ rfl, cells_at qE_5 0 _ rfl⟩ (fun hHeld => ?_)
          generalize ((V4.setCell ⟨V3.heap.size, 0, none⟩ (.slice ra (0 + A.length + E.length) rc)).setCell ⟨V3.heap.size, 1, none⟩ (.int .i64 0)) = VE5 at N_5 hB_5 qA_5 qE_5 hL_5 hHeld ⊢
          refine take_dst (i := 15) (d := 11) (v := .int .i64 0) rfl rfl (by kernel_rfl) (by kernel_rfl) (by kernel_rfl) (fun _ _ _ h => h) (Or.inl ⟨by rfl, ?_⟩) hHeld ?_
          · (intro w0 hSw; (try dsimp only at hSw); go_simp)
          simp only [Act.put, List.setIfInBounds_toArray, List.set_cons_zero, List.set_cons_succ]
          refine wpAnyH_done (by kernel_rfl) ?_ _
          go_wp2_with fail
          go_meet
          case rel => exact ⟨u, V3.heap.size, zs, ra, rc, _, rfl, rfl, rfl, hB_5, N_5, qA_5, qE_5, hL_5, hG_3⟩
        · skip
          refine step_run rfl 10 rfl (.pointer (some ⟨V2.heap.size, 0, none⟩)) (V2.alloc (.cells #[.slice none 0 0, .int .i64 0] 28)) (by go_simp) ?_
          have hA_6 : Below V2.heap.size V2 (V2.alloc (.cells #[.slice none 0 0, .int .i64 0] 28)) := (Below.refl _ _).alloc (Nat.le_refl _) _
          have N_6 := heap_alloc_new V2 (.cells #[.slice none 0 0, .int .i64 0] 28)
          have hl_6 : W3.heap.size ≤ V2.heap.size := hB_2.size
          have hB_6 := hB_2.trans (hA_6.mono hB_2.size)
          have qA_6 := (hB_6.block _ hAB).trans qA
          have qE_6 := (hB_6.block _ hEB).trans qE
          have hxs_6 := hxs_2.below hA_6
          refine hK.out _ _ ⟨cells_at qA_6 0 _ rfl, cells_at qE_6 0 _ rfl⟩ (fun hHeld => ?_)
          simp only [Act.put, List.setIfInBounds_toArray, List.set_cons_zero, List.set_cons_succ]
          generalize hVq_6 : V2.alloc (.cells #[.slice none 0 0, .int .i64 0] 28) = V6 at hA_6 N_6 hB_6 qA_6 qE_6 hxs_6 hHeld ⊢
          generalize V2.heap.size = b6 at N_6 hl_6 ⊢
          refine wpAnyH_ready (rs := [7]) (by kernel_rfl) (by simp) (AllReadyH.cons rfl (fun K hK => ?_) AllReadyH.nil)
          refine step_calls_dst rfl 42 rfl 15 [.tmp 41] #[28] rfl [.agg #[.slice xa_2 (0 + A.length + E.length) xc_2, .int .i64 0]] rfl (enters_of Try.func15 (by kernel_rfl) rfl) (fun v w' => (∃ (u : Value) (ys : List MV) (ra : Option Addr) (rc : Nat), v = .tuple #[u, .agg #[.slice ra (0 + A.length + E.length) rc, .int .i64 0], .int .i64 0] ∧ RcvL V6.heap.size w' u ys ra rc ∧ Hid (Agree ys (ms ++ ns) ∧ ys.length = (ms ++ ns).length ∧ ∀ y ∈ ys, U8M y.bl y.pl y.cbl y.cpl y.ds)) ∧ Below V6.heap.size V6 w') (HRc.out xa_2 xc_2 V6 hB_6 hxs_6) ?_
          rintro v V7 ⟨⟨u, zs, ra, rc, rfl, hL_7, hG_7⟩, hb_7⟩
          have hB_7 := hB_6.trans (hb_7.mono hB_6.size)
          have qA_7 := (hB_7.block _ hAB).trans qA
          have qE_7 := (hB_7.block _ hEB).trans qE
          have N_7 := (hb_7.block _ (lt_of_heap N_6)).trans N_6
          have hbl_7 : b6 < V6.heap.size := lt_of_heap N_6
          refine hK.out _ _ ⟨cells_at qA_7 0 _ rfl, cells_at qE_7 0 _ rfl⟩ (fun hHeld => ?_)
          simp only [Act.put, List.setIfInBounds_toArray, List.set_cons_zero, List.set_cons_succ]
          refine take_dst (i := 8) (d := 34) (v := .tuple #[u, .agg #[.slice ra (0 + A.length + E.length) rc, .int .i64 0], .int .i64 0]) rfl rfl (by kernel_rfl) (by kernel_rfl) (by kernel_rfl) (fun _ _ _ h => h) (Or.inl ⟨by rfl, ?_⟩) hHeld ?_
          · (intro w0 hSw; (try dsimp only at hSw); go_simp)
          simp only [Act.put, List.setIfInBounds_toArray, List.set_cons_zero, List.set_cons_succ]
          refine take_dst (i := 9) (d := 43) (v := u) rfl rfl (by kernel_rfl) (by kernel_rfl) (by kernel_rfl) (fun _ _ _ h => h) (Or.inl ⟨by rfl, ?_⟩) hHeld ?_
          · (intro w0 hSw; (try dsimp only at hSw); go_simp)
          simp only [Act.put, List.setIfInBounds_toArray, List.set_cons_zero, List.set_cons_succ]
          refine take_dst (i := 10) (d := 44) (v := .agg #[.slice ra (0 + A.length + E.length) rc, .int .i64 0]) rfl rfl (by kernel_rfl) (by kernel_rfl) (by kernel_rfl) (fun _ _ _ h => h) (Or.inl ⟨by rfl, ?_⟩) hHeld ?_
          · (intro w0 hSw; (try dsimp only at hSw); go_simp)
          simp only [Act.put, List.setIfInBounds_toArray, List.set_cons_zero, List.set_cons_succ]
          refine take_dst (i := 11) (d := 45) (v := .int .i64 0) rfl rfl (by kernel_rfl) (by kernel_rfl) (by kernel_rfl) (fun _ _ _ h => h) (Or.inl ⟨by rfl, ?_⟩) hHeld ?_
          · (intro w0 hSw; (try dsimp only at hSw); go_simp)
          simp only [Act.put, List.setIfInBounds_toArray, List.set_cons_zero, List.set_cons_succ]
          have z0_8 := cells_at N_7 0 _ rfl
          have y0_8 := frozen_at N_7 0
          have z1_8 := cells_at N_7 1 _ rfl
          have y1_8 := frozen_at N_7 1
          refine take_dst (i := 13) (d := 9) (v := u) rfl rfl (by kernel_rfl) (by kernel_rfl) (by kernel_rfl) (fun _ _ _ h => h) (Or.inl ⟨by rfl, ?_⟩) hHeld ?_
          · (intro w0 hSw; (try dsimp only at hSw); go_simp)
          simp only [Act.put, List.setIfInBounds_toArray, List.set_cons_zero, List.set_cons_succ]
          refine wpAnyH_ready (rs := [14]) (by kernel_rfl) (by simp) (AllReadyH.cons rfl (fun K hK => ?_) AllReadyH.nil)
          refine step_store rfl rfl ((V7.setCell ⟨b6, 0, none⟩ (.slice ra (0 + A.length + E.length) rc)).setCell ⟨b6, 1, none⟩ (.int .i64 0)) (by go_simp) ?_
          have N_8 : ((V7.setCell ⟨b6, 0, none⟩ (.slice ra (0 + A.length + E.length) rc)).setCell ⟨b6, 1, none⟩ (.int .i64 0)).heap[b6]? = some (.cells #[.slice ra (0 + A.length + E.length) rc, .int .i64 0] 28 (0, 0)) := by simpa using heap_setCell_same _ _ 1 _ _ (.int .i64 0) (heap_setCell_same _ _ 0 _ _ (.slice ra (0 + A.length + E.length) rc) N_7)
          have hB_8 := (hB_7.setCell (p := ⟨b6, 0, none⟩) hl_6 (.slice ra (0 + A.length + E.length) rc)).setCell (p := ⟨b6, 1, none⟩) hl_6 (.int .i64 0)
          have qA_8 := (hB_8.block _ hAB).trans qA
          have qE_8 := (hB_8.block _ hEB).trans qE
          have hL_8 := (hL_7.far b6 0 (.slice ra (0 + A.length + E.length) rc) hbl_7).far b6 1 (.int .i64 0) hbl_7
          refine hK.out _ _ ⟨cells_at qA_8 0 _ rfl, cells_at qE_8 0 _ rfl⟩ (fun hHeld => ?_)
          generalize ((V7.setCell ⟨b6, 0, none⟩ (.slice ra (0 + A.length + E.length) rc)).setCell ⟨b6, 1, none⟩ (.int .i64 0)) = VE8 at N_8 hB_8 qA_8 qE_8 hL_8 hHeld ⊢
          refine take_dst (i := 15) (d := 11) (v := .int .i64 0) rfl rfl (by kernel_rfl) (by kernel_rfl) (by kernel_rfl) (fun _ _ _ h => h) (Or.inl ⟨by rfl, ?_⟩) hHeld ?_
          · (intro w0 hSw; (try dsimp only at hSw); go_simp)
          simp only [Act.put, List.setIfInBounds_toArray, List.set_cons_zero, List.set_cons_succ]
          refine wpAnyH_done (by kernel_rfl) ?_ _
          go_wp2_with fail
          go_meet
          case rel => exact ⟨u, b6, zs, ra, rc, _, rfl, rfl, rfl, hB_8, N_8, qA_8, qE_8, hL_8, hG_7⟩
      · skip
        refine step_run rfl 10 rfl (.pointer (some ⟨V1.heap.size, 0, none⟩)) (V1.alloc (.cells #[.slice none 0 0, .int .i64 0] 28)) (by go_simp) ?_
        have hA_9 : Below V1.heap.size V1 (V1.alloc (.cells #[.slice none 0 0, .int .i64 0] 28)) := (Below.refl _ _).alloc (Nat.le_refl _) _
        have N_9 := heap_alloc_new V1 (.cells #[.slice none 0 0, .int .i64 0] 28)
        have hl_9 : W3.heap.size ≤ V1.heap.size := hB_1.size
        have hB_9 := hB_1.trans (hA_9.mono hB_1.size)
        have qA_9 := (hB_9.block _ hAB).trans qA
        have qE_9 := (hB_9.block _ hEB).trans qE
        have ho_9 := World.ownsRow.alloc ho_1 (.cells #[.slice none 0 0, .int .i64 0] 28)
        have nN_9 : v1.ownBlock ≠ some V1.heap.size := fun e => by have := (ho_1.lt _ e).2; omega
        refine hK.out _ _ ⟨cells_at qA_9 0 _ rfl, cells_at qE_9 0 _ rfl⟩ (fun hHeld => ?_)
        simp only [Act.put, List.setIfInBounds_toArray, List.set_cons_zero, List.set_cons_succ]
        generalize hVq_9 : V1.alloc (.cells #[.slice none 0 0, .int .i64 0] 28) = V9 at hA_9 N_9 hB_9 qA_9 qE_9 ho_9 hHeld ⊢
        generalize V1.heap.size = b9 at N_9 hl_9 nN_9 ⊢
        refine wpAnyH_ready (rs := [5]) (by kernel_rfl) (by simp) (AllReadyH.cons rfl (fun K hK => ?_) AllReadyH.nil)
        refine step_append_part rfl 40 rfl (.tmp 37) (.tmp 39) rfl W3.heap.size (v1) (0 + A.length) ([] ++ A) rfl ho_9 ea E.length ec E rfl rfl (hSe.below hB_9) (by omega) hB_9.size ?_
        intro v2 V10 ho_10 G_10
        have hz_10 : ∀ q, (v1).ownBlock = some q → W3.heap.size ≤ q := fun q e => (ho_9.lt q e).1
        have hB_10 := Below.grown hB_9 G_10.grown hB_9.size hz_10
        have qA_10 := (hB_10.block _ hAB).trans qA
        have qE_10 := (hB_10.block _ hEB).trans qE
        have N_10 := (G_10.grown.block _ (lt_of_heap N_9) (fun e => nN_9 e.symm)).trans N_9
        have nN_10 : v2.ownBlock ≠ some b9 := fun e => by rcases G_10.fresh _ e with g | g; exact nN_9 g; have := lt_of_heap N_9; omega
        refine hK.out _ _ ⟨cells_at qA_10 0 _ rfl, cells_at qE_10 0 _ rfl⟩ (fun hHeld => ?_)
        simp only [Act.put, List.setIfInBounds_toArray, List.set_cons_zero, List.set_cons_succ]
        obtain ⟨xa_10, xc_10, hv_10, hn_10, hxs_10⟩ := owns_form ho_10
        rw [List.nil_append] at hxs_10
        subst hv_10
        refine take_dst (i := 6) (d := 41) (v := .agg #[.slice xa_10 (0 + A.length + E.length) xc_10, .int .i64 0]) rfl rfl (by kernel_rfl) (by kernel_rfl) (by kernel_rfl) (fun _ _ _ h => h) (Or.inl ⟨by rfl, ?_⟩) hHeld ?_
        · (intro w0 hSw; (try dsimp only at hSw); go_simp)
        simp only [Act.put, List.setIfInBounds_toArray, List.set_cons_zero, List.set_cons_succ]
        refine wpAnyH_ready (rs := [7]) (by kernel_rfl) (by simp) (AllReadyH.cons rfl (fun K hK => ?_) AllReadyH.nil)
        refine step_calls_dst rfl 42 rfl 15 [.tmp 41] #[28] rfl [.agg #[.slice xa_10 (0 + A.length + E.length) xc_10, .int .i64 0]] rfl (enters_of Try.func15 (by kernel_rfl) rfl) (fun v w' => (∃ (u : Value) (ys : List MV) (ra : Option Addr) (rc : Nat), v = .tuple #[u, .agg #[.slice ra (0 + A.length + E.length) rc, .int .i64 0], .int .i64 0] ∧ RcvL V10.heap.size w' u ys ra rc ∧ Hid (Agree ys (ms ++ ns) ∧ ys.length = (ms ++ ns).length ∧ ∀ y ∈ ys, U8M y.bl y.pl y.cbl y.cpl y.ds)) ∧ Below V10.heap.size V10 w') (HRc.out xa_10 xc_10 V10 hB_10 hxs_10) ?_
        rintro v V11 ⟨⟨u, zs, ra, rc, rfl, hL_11, hG_11⟩, hb_11⟩
        have hB_11 := hB_10.trans (hb_11.mono hB_10.size)
        have qA_11 := (hB_11.block _ hAB).trans qA
        have qE_11 := (hB_11.block _ hEB).trans qE
        have N_11 := (hb_11.block _ (lt_of_heap N_10)).trans N_10
        have hbl_11 : b9 < V10.heap.size := lt_of_heap N_10
        refine hK.out _ _ ⟨cells_at qA_11 0 _ rfl, cells_at qE_11 0 _ rfl⟩ (fun hHeld => ?_)
        simp only [Act.put, List.setIfInBounds_toArray, List.set_cons_zero, List.set_cons_succ]
        refine take_dst (i := 8) (d := 34) (v := .tuple #[u, .agg #[.slice ra (0 + A.length + E.length) rc, .int .i64 0], .int .i64 0]) rfl rfl (by kernel_rfl) (by kernel_rfl) (by kernel_rfl) (fun _ _ _ h => h) (Or.inl ⟨by rfl, ?_⟩) hHeld ?_
        · (intro w0 hSw; (try dsimp only at hSw); go_simp)
        simp only [Act.put, List.setIfInBounds_toArray, List.set_cons_zero, List.set_cons_succ]
        refine take_dst (i := 9) (d := 43) (v := u) rfl rfl (by kernel_rfl) (by kernel_rfl) (by kernel_rfl) (fun _ _ _ h => h) (Or.inl ⟨by rfl, ?_⟩) hHeld ?_
        · (intro w0 hSw; (try dsimp only at hSw); go_simp)
        simp only [Act.put, List.setIfInBounds_toArray, List.set_cons_zero, List.set_cons_succ]
        refine take_dst (i := 10) (d := 44) (v := .agg #[.slice ra (0 + A.length + E.length) rc, .int .i64 0]) rfl rfl (by kernel_rfl) (by kernel_rfl) (by kernel_rfl) (fun _ _ _ h => h) (Or.inl ⟨by rfl, ?_⟩) hHeld ?_
        · (intro w0 hSw; (try dsimp only at hSw); go_simp)
        simp only [Act.put, List.setIfInBounds_toArray, List.set_cons_zero, List.set_cons_succ]
        refine take_dst (i := 11) (d := 45) (v := .int .i64 0) rfl rfl (by kernel_rfl) (by kernel_rfl) (by kernel_rfl) (fun _ _ _ h => h) (Or.inl ⟨by rfl, ?_⟩) hHeld ?_
        · (intro w0 hSw; (try dsimp only at hSw); go_simp)
        simp only [Act.put, List.setIfInBounds_toArray, List.set_cons_zero, List.set_cons_succ]
        have z0_12 := cells_at N_11 0 _ rfl
        have y0_12 := frozen_at N_11 0
        have z1_12 := cells_at N_11 1 _ rfl
        have y1_12 := frozen_at N_11 1
        refine take_dst (i := 13) (d := 9) (v := u) rfl rfl (by kernel_rfl) (by kernel_rfl) (by kernel_rfl) (fun _ _ _ h => h) (Or.inl ⟨by rfl, ?_⟩) hHeld ?_
        · (intro w0 hSw; (try dsimp only at hSw); go_simp)
        simp only [Act.put, List.setIfInBounds_toArray, List.set_cons_zero, List.set_cons_succ]
        refine wpAnyH_ready (rs := [14]) (by kernel_rfl) (by simp) (AllReadyH.cons rfl (fun K hK => ?_) AllReadyH.nil)
        refine step_store rfl rfl ((V11.setCell ⟨b9, 0, none⟩ (.slice ra (0 + A.length + E.length) rc)).setCell ⟨b9, 1, none⟩ (.int .i64 0)) (by go_simp) ?_
        have N_12 : ((V11.setCell ⟨b9, 0, none⟩ (.slice ra (0 + A.length + E.length) rc)).setCell ⟨b9, 1, none⟩ (.int .i64 0)).heap[b9]? = some (.cells #[.slice ra (0 + A.length + E.length) rc, .int .i64 0] 28 (0, 0)) := by simpa using heap_setCell_same _ _ 1 _ _ (.int .i64 0) (heap_setCell_same _ _ 0 _ _ (.slice ra (0 + A.length + E.length) rc) N_11)
        have hB_12 := (hB_11.setCell (p := ⟨b9, 0, none⟩) hl_9 (.slice ra (0 + A.length + E.length) rc)).setCell (p := ⟨b9, 1, none⟩) hl_9 (.int .i64 0)
        have qA_12 := (hB_12.block _ hAB).trans qA
        have qE_12 := (hB_12.block _ hEB).trans qE
        have hL_12 := (hL_11.far b9 0 (.slice ra (0 + A.length + E.length) rc) hbl_11).far b9 1 (.int .i64 0) hbl_11
        refine hK.out _ _ ⟨cells_at qA_12 0 _ rfl, cells_at qE_12 0 _ rfl⟩ (fun hHeld => ?_)
        generalize ((V11.setCell ⟨b9, 0, none⟩ (.slice ra (0 + A.length + E.length) rc)).setCell ⟨b9, 1, none⟩ (.int .i64 0)) = VE12 at N_12 hB_12 qA_12 qE_12 hL_12 hHeld ⊢
        refine take_dst (i := 15) (d := 11) (v := .int .i64 0) rfl rfl (by kernel_rfl) (by kernel_rfl) (by kernel_rfl) (fun _ _ _ h => h) (Or.inl ⟨by rfl, ?_⟩) hHeld ?_
        · (intro w0 hSw; (try dsimp only at hSw); go_simp)
        simp only [Act.put, List.setIfInBounds_toArray, List.set_cons_zero, List.set_cons_succ]
        refine wpAnyH_done (by kernel_rfl) ?_ _
        go_wp2_with fail
        go_meet
        case rel => exact ⟨u, b9, zs, ra, rc, _, rfl, rfl, rfl, hB_12, N_12, qA_12, qE_12, hL_12, hG_11⟩
    · skip
      refine step_run rfl 10 rfl (.pointer (some ⟨V0.heap.size, 0, none⟩)) (V0.alloc (.cells #[.slice none 0 0, .int .i64 0] 28)) (by go_simp) ?_
      have hA_13 : Below V0.heap.size V0 (V0.alloc (.cells #[.slice none 0 0, .int .i64 0] 28)) := (Below.refl _ _).alloc (Nat.le_refl _) _
      have N_13 := heap_alloc_new V0 (.cells #[.slice none 0 0, .int .i64 0] 28)
      have hl_13 : W3.heap.size ≤ V0.heap.size := hV0.size
      have hB_13 := hV0.trans (hA_13.mono hV0.size)
      have qA_13 := (hB_13.block _ hAB).trans qA
      have qE_13 := (hB_13.block _ hEB).trans qE
      refine hK.out _ _ ⟨cells_at qA_13 0 _ rfl, cells_at qE_13 0 _ rfl⟩ (fun hHeld => ?_)
      simp only [Act.put, List.setIfInBounds_toArray, List.set_cons_zero, List.set_cons_succ]
      generalize hVq_13 : V0.alloc (.cells #[.slice none 0 0, .int .i64 0] 28) = V13 at hA_13 N_13 hB_13 qA_13 qE_13 hHeld ⊢
      generalize V0.heap.size = b13 at N_13 hl_13 ⊢
      refine wpAnyH_ready (rs := [2]) (by kernel_rfl) (by simp) (AllReadyH.cons rfl (fun K hK => ?_) AllReadyH.nil)
      refine step_append_part rfl 37 rfl (.const (.slice none 0 0)) (.tmp 36) rfl W3.heap.size (.slice none 0 0) 0 [] rfl (World.ownsRow_nil _ _ _ _) aa A.length ac A rfl rfl (hSa.below hB_13) (by omega) hB_13.size ?_
      intro v1 V14 ho_14 G_14
      have hz_14 : ∀ q, (Value.slice none 0 0).ownBlock = some q → W3.heap.size ≤ q := fun q e => by cases e
      have hB_14 := Below.grown hB_13 G_14.grown hB_13.size hz_14
      have qA_14 := (hB_14.block _ hAB).trans qA
      have qE_14 := (hB_14.block _ hEB).trans qE
      have N_14 := (G_14.grown.block _ (lt_of_heap N_13) (fun e => by cases e)).trans N_13
      have nN_14 : v1.ownBlock ≠ some b13 := fun e => by rcases G_14.fresh _ e with g | g; cases g; have := lt_of_heap N_13; omega
      refine hK.out _ _ ⟨cells_at qA_14 0 _ rfl, cells_at qE_14 0 _ rfl⟩ (fun hHeld => ?_)
      simp only [Act.put, List.setIfInBounds_toArray, List.set_cons_zero, List.set_cons_succ]
      refine wpAnyH_ready (rs := [5]) (by kernel_rfl) (by simp) (AllReadyH.cons rfl (fun K hK => ?_) AllReadyH.nil)
      refine step_append_part rfl 40 rfl (.tmp 37) (.tmp 39) rfl W3.heap.size (v1) (0 + A.length) ([] ++ A) rfl ho_14 ea E.length ec E rfl rfl (hSe.below hB_14) (by omega) hB_14.size ?_
      intro v2 V15 ho_15 G_15
      have hz_15 : ∀ q, (v1).ownBlock = some q → W3.heap.size ≤ q := fun q e => (ho_14.lt q e).1
      have hB_15 := Below.grown hB_14 G_15.grown hB_14.size hz_15
      have qA_15 := (hB_15.block _ hAB).trans qA
      have qE_15 := (hB_15.block _ hEB).trans qE
      have N_15 := (G_15.grown.block _ (lt_of_heap N_14) (fun e => nN_14 e.symm)).trans N_14
      have nN_15 : v2.ownBlock ≠ some b13 := fun e => by rcases G_15.fresh _ e with g | g; exact nN_14 g; have := lt_of_heap N_14; omega
      refine hK.out _ _ ⟨cells_at qA_15 0 _ rfl, cells_at qE_15 0 _ rfl⟩ (fun hHeld => ?_)
      simp only [Act.put, List.setIfInBounds_toArray, List.set_cons_zero, List.set_cons_succ]
      obtain ⟨xa_15, xc_15, hv_15, hn_15, hxs_15⟩ := owns_form ho_15
      rw [List.nil_append] at hxs_15
      subst hv_15
      refine take_dst (i := 6) (d := 41) (v := .agg #[.slice xa_15 (0 + A.length + E.length) xc_15, .int .i64 0]) rfl rfl (by kernel_rfl) (by kernel_rfl) (by kernel_rfl) (fun _ _ _ h => h) (Or.inl ⟨by rfl, ?_⟩) hHeld ?_
      · (intro w0 hSw; (try dsimp only at hSw); go_simp)
      simp only [Act.put, List.setIfInBounds_toArray, List.set_cons_zero, List.set_cons_succ]
      refine wpAnyH_ready (rs := [7]) (by kernel_rfl) (by simp) (AllReadyH.cons rfl (fun K hK => ?_) AllReadyH.nil)
      refine step_calls_dst rfl 42 rfl 15 [.tmp 41] #[28] rfl [.agg #[.slice xa_15 (0 + A.length + E.length) xc_15, .int .i64 0]] rfl (enters_of Try.func15 (by kernel_rfl) rfl) (fun v w' => (∃ (u : Value) (ys : List MV) (ra : Option Addr) (rc : Nat), v = .tuple #[u, .agg #[.slice ra (0 + A.length + E.length) rc, .int .i64 0], .int .i64 0] ∧ RcvL V15.heap.size w' u ys ra rc ∧ Hid (Agree ys (ms ++ ns) ∧ ys.length = (ms ++ ns).length ∧ ∀ y ∈ ys, U8M y.bl y.pl y.cbl y.cpl y.ds)) ∧ Below V15.heap.size V15 w') (HRc.out xa_15 xc_15 V15 hB_15 hxs_15) ?_
      rintro v V16 ⟨⟨u, zs, ra, rc, rfl, hL_16, hG_16⟩, hb_16⟩
      have hB_16 := hB_15.trans (hb_16.mono hB_15.size)
      have qA_16 := (hB_16.block _ hAB).trans qA
      have qE_16 := (hB_16.block _ hEB).trans qE
      have N_16 := (hb_16.block _ (lt_of_heap N_15)).trans N_15
      have hbl_16 : b13 < V15.heap.size := lt_of_heap N_15
      refine hK.out _ _ ⟨cells_at qA_16 0 _ rfl, cells_at qE_16 0 _ rfl⟩ (fun hHeld => ?_)
      simp only [Act.put, List.setIfInBounds_toArray, List.set_cons_zero, List.set_cons_succ]
      refine take_dst (i := 8) (d := 34) (v := .tuple #[u, .agg #[.slice ra (0 + A.length + E.length) rc, .int .i64 0], .int .i64 0]) rfl rfl (by kernel_rfl) (by kernel_rfl) (by kernel_rfl) (fun _ _ _ h => h) (Or.inl ⟨by rfl, ?_⟩) hHeld ?_
      · (intro w0 hSw; (try dsimp only at hSw); go_simp)
      simp only [Act.put, List.setIfInBounds_toArray, List.set_cons_zero, List.set_cons_succ]
      refine take_dst (i := 9) (d := 43) (v := u) rfl rfl (by kernel_rfl) (by kernel_rfl) (by kernel_rfl) (fun _ _ _ h => h) (Or.inl ⟨by rfl, ?_⟩) hHeld ?_
      · (intro w0 hSw; (try dsimp only at hSw); go_simp)
      simp only [Act.put, List.setIfInBounds_toArray, List.set_cons_zero, List.set_cons_succ]
      refine take_dst (i := 10) (d := 44) (v := .agg #[.slice ra (0 + A.length + E.length) rc, .int .i64 0]) rfl rfl (by kernel_rfl) (by kernel_rfl) (by kernel_rfl) (fun _ _ _ h => h) (Or.inl ⟨by rfl, ?_⟩) hHeld ?_
      · (intro w0 hSw; (try dsimp only at hSw); go_simp)
      simp only [Act.put, List.setIfInBounds_toArray, List.set_cons_zero, List.set_cons_succ]
      refine take_dst (i := 11) (d := 45) (v := .int .i64 0) rfl rfl (by kernel_rfl) (by kernel_rfl) (by kernel_rfl) (fun _ _ _ h => h) (Or.inl ⟨by rfl, ?_⟩) hHeld ?_
      · (intro w0 hSw; (try dsimp only at hSw); go_simp)
      simp only [Act.put, List.setIfInBounds_toArray, List.set_cons_zero, List.set_cons_succ]
      have z0_17 := cells_at N_16 0 _ rfl
      have y0_17 := frozen_at N_16 0
      have z1_17 := cells_at N_16 1 _ rfl
      have y1_17 := frozen_at N_16 1
      refine take_dst (i := 13) (d := 9) (v := u) rfl rfl (by kernel_rfl) (by kernel_rfl) (by kernel_rfl) (fun _ _ _ h => h) (Or.inl ⟨by rfl, ?_⟩) hHeld ?_
      · (intro w0 hSw; (try dsimp only at hSw); go_simp)
      simp only [Act.put, List.setIfInBounds_toArray, List.set_cons_zero, List.set_cons_succ]
      refine wpAnyH_ready (rs := [14]) (by kernel_rfl) (by simp) (AllReadyH.cons rfl (fun K hK => ?_) AllReadyH.nil)
      refine step_store rfl rfl ((V16.setCell ⟨b13, 0, none⟩ (.slice ra (0 + A.length + E.length) rc)).setCell ⟨b13, 1, none⟩ (.int .i64 0)) (by go_simp) ?_
      have N_17 : ((V16.setCell ⟨b13, 0, none⟩ (.slice ra (0 + A.length + E.length) rc)).setCell ⟨b13, 1, none⟩ (.int .i64 0)).heap[b13]? = some (.cells #[.slice ra (0 + A.length + E.length) rc, .int .i64 0] 28 (0, 0)) := by simpa using heap_setCell_same _ _ 1 _ _ (.int .i64 0) (heap_setCell_same _ _ 0 _ _ (.slice ra (0 + A.length + E.length) rc) N_16)
      have hB_17 := (hB_16.setCell (p := ⟨b13, 0, none⟩) hl_13 (.slice ra (0 + A.length + E.length) rc)).setCell (p := ⟨b13, 1, none⟩) hl_13 (.int .i64 0)
      have qA_17 := (hB_17.block _ hAB).trans qA
      have qE_17 := (hB_17.block _ hEB).trans qE
      have hL_17 := (hL_16.far b13 0 (.slice ra (0 + A.length + E.length) rc) hbl_16).far b13 1 (.int .i64 0) hbl_16
      refine hK.out _ _ ⟨cells_at qA_17 0 _ rfl, cells_at qE_17 0 _ rfl⟩ (fun hHeld => ?_)
      generalize ((V16.setCell ⟨b13, 0, none⟩ (.slice ra (0 + A.length + E.length) rc)).setCell ⟨b13, 1, none⟩ (.int .i64 0)) = VE17 at N_17 hB_17 qA_17 qE_17 hL_17 hHeld ⊢
      refine take_dst (i := 15) (d := 11) (v := .int .i64 0) rfl rfl (by kernel_rfl) (by kernel_rfl) (by kernel_rfl) (fun _ _ _ h => h) (Or.inl ⟨by rfl, ?_⟩) hHeld ?_
      · (intro w0 hSw; (try dsimp only at hSw); go_simp)
      simp only [Act.put, List.setIfInBounds_toArray, List.set_cons_zero, List.set_cons_succ]
      refine wpAnyH_done (by kernel_rfl) ?_ _
      go_wp2_with fail
      go_meet
      case rel => exact ⟨u, b13, zs, ra, rc, _, rfl, rfl, rfl, hB_17, N_17, qA_17, qE_17, hL_17, hG_16⟩
  case rest =>
    obtain ⟨u, VB, zs, ra, rc, B, rfl, rfl, rfl, hb4, qV, qA4, qE4, hL4, hG4⟩ := hcut
    obtain ⟨za, zc, hv, hzr, hzc, hzm⟩ := hL4.form
    subst hv
    generalize wc = W4 at hb4 qV qA4 qE4 hL4 hzr hzm ⊢
    apply_assumption
    clear HRc hL4 qA qE
    have hB4 := hB3.trans (hb4.mono hB3.size)
    have h14 := h13.trans (hb4.mono h13.size)
    have h54 := h53.trans (hb4.mono h53.size)
    have hSa4 := hSa.below hb4
    have hSe4 := hSe.below hb4
    have c0 : W4.cell? ⟨TA, 0, none⟩ = some (.slice aa A.length ac) := cells_at qA4 0 _ rfl
    have c1 : W4.cell? ⟨TA, 1, none⟩ = some (.int .i64 0) := cells_at qA4 1 _ rfl
    have hR1 := recover_part ms A.length aa A.length ac 0 W4 (by rw [HA.out, List.take_of_length_le (Nat.le_refl _)]) (by rw [HA.out, List.take_of_length_le (Nat.le_refl _)]; exact hSa4) (HR.out W4 h14) HU.out (by rw [HA.out]; omega) ⟨by omega, by omega⟩
    go_wp2_with fail
    refine hR1.mono ?_
    intro e w5 h5
    obtain ⟨xa, xc, xs, xra, xrc, he, hxr, hxm, hxu, -, hxa, hxl, -, hb5⟩ := h5.out
    subst he
    dsimp only
    clear hR1 h5 c0 c1
    have hxn : xs.length = ms.length := by
      have h1 := hxl ms.length (Nat.le_refl _) (by rw [List.take_of_length_le (Nat.le_refl _), HA.out]; exact Nat.le_refl _)
      have h2 := hxa.le
      omega
    generalize (tapeB xs).length = XL at *
    generalize min (0 : Int) (XL : Int) = XM at *
    have hB5 := hB4.trans (hb5.mono hB4.size)
    have qV5 := (hb5.block _ (lt_of_heap qV)).trans qV
    have qA5 := (hb5.block _ (lt_of_heap qA4)).trans qA4
    have qE5 := (hb5.block _ (lt_of_heap qE4)).trans qE4
    have hA5 : Below w5.heap.size w5 (w5.alloc (.cells #[.slice xra XL xrc, .int .i64 XM] 28)) := (Below.refl _ _).alloc (Nat.le_refl _) _
    have qV5A := (hA5.block _ (lt_of_heap qV5)).trans qV5
    have qA5A := (hA5.block _ (lt_of_heap qA5)).trans qA5
    have qE5A := (hA5.block _ (lt_of_heap qE5)).trans qE5
    go_upto_region 5 with fail
    generalize w5.alloc (.cells #[.slice xra XL xrc, .int .i64 XM] 28) = W5 at hA5 qV5A qA5A qE5A ⊢
    generalize w5.heap.size = XB at ⊢
    have h45 := hb5.trans (hA5.mono hb5.size)
    have hB5A := hB5.trans (hA5.mono hB5.size)
    have h55 := h54.trans (h45.mono h54.size)
    have hSe5 := hSe4.below h45
    have c0 : W5.cell? ⟨TE, 0, none⟩ = some (.slice ea E.length ec) := cells_at qE5A 0 _ rfl
    have c1 : W5.cell? ⟨TE, 1, none⟩ = some (.int .i64 0) := cells_at qE5A 1 _ rfl
    have hR2 := recover_part ns E.length ea E.length ec 0 W5 (by rw [HE.out, List.take_of_length_le (Nat.le_refl _)]) (by rw [HE.out, List.take_of_length_le (Nat.le_refl _)]; exact hSe5) (HN.out W5 h55) HV.out (by rw [HE.out]; omega) ⟨by omega, by omega⟩
    go_wp2_with fail
    refine hR2.mono ?_
    intro e w6 h6
    obtain ⟨ya, yc, ys, yra, yrc, he, hyr, hym, hyu, -, hya, hyl, -, hb6⟩ := h6.out
    subst he
    dsimp only
    clear hR2 h6 c0 c1
    have hyn : ys.length = ns.length := by
      have h1 := hyl ns.length (Nat.le_refl _) (by rw [List.take_of_length_le (Nat.le_refl _), HE.out]; exact Nat.le_refl _)
      have h2 := hya.le
      omega
    generalize (tapeB ys).length = YL at *
    generalize min (0 : Int) (YL : Int) = YM at *
    have hB6 := hB5A.trans (hb6.mono hB5A.size)
    have qV6 := (hb6.block _ (lt_of_heap qV5A)).trans qV5A
    have qA6 := (hb6.block _ (lt_of_heap qA5A)).trans qA5A
    have qE6 := (hb6.block _ (lt_of_heap qE5A)).trans qE5A
    have hA6 : Below w6.heap.size w6 (w6.alloc (.cells #[.slice yra YL yrc, .int .i64 YM] 28)) := (Below.refl _ _).alloc (Nat.le_refl _) _
    have qV6A := (hA6.block _ (lt_of_heap qV6)).trans qV6
    have qA6A := (hA6.block _ (lt_of_heap qA6)).trans qA6
    have qE6A := (hA6.block _ (lt_of_heap qE6)).trans qE6
    go_upto_region 6 with fail
    generalize w6.alloc (.cells #[.slice yra YL yrc, .int .i64 YM] 28) = W6 at hA6 qV6A qA6A qE6A ⊢
    generalize w6.heap.size = YB at ⊢
    have h56 := hb6.trans (hA6.mono hb6.size)
    have h46 := h45.trans (h56.mono h45.size)
    have h556 := hA5.trans (h56.mono hA5.size)
    have hB6A := hB6.trans (hA6.mono hB6.size)
    obtain ⟨hza, hzn, hzu⟩ := hG4.out
    rw [List.length_append] at hzn
    have hk1 : 0 < zs.length := by omega
    obtain ⟨tb, tq, rfl, hzq⟩ : ∃ sb so, za = some ⟨sb, so, none⟩ ∧ MsRow W4 (some ⟨sb, so, none⟩) zs := by
      rcases hzr with h | ⟨sb, so, e, h⟩
      · rw [h] at hk1; simp at hk1
      · exact ⟨sb, so, e, .inr ⟨sb, so, rfl, h⟩⟩
    have HB1 : Hid (∀ W : World, Below W6.heap.size W6 W → Calls Try.prog 16 #[.slice xa ms.length xc, .slice (some ⟨tb, tq, none⟩) (ms.length + ns.length) zc] W fun e w' => e = .returned (.bool true) ∧ Below W.heap.size W w') := by
      show ∀ _, _
      intro W hW
      have h4W := h46.trans (hW.mono h46.size)
      have h5W := h556.trans (hW.mono h556.size)
      exact begins_eq xs zs xa _ _ _ xc zc W hxn.symm hzn.symm (by omega) (by omega) (hxr.below h5W) (hzq.below h4W) (fun i h1 h2 => ⟨⟨(hxm _ (List.getElem_mem h1)).1.below h5W, (hxm _ (List.getElem_mem h1)).2.check, hxu _ (List.getElem_mem h1)⟩, (hzm _ (List.getElem_mem h2)).1.below h4W, by
        have e1 := hza.same i h2 (by rw [List.length_append]; omega)
        rw [List.getElem_append_left (by omega)] at e1
        exact e1.symm.trans (hxa.same i h1 (by omega))⟩)
    have HB2 : Hid (∀ W : World, Below W6.heap.size W6 W → Calls Try.prog 16 #[.slice ya ns.length yc, .slice (some ⟨tb, tq + ms.length * 19, none⟩) ns.length (zc - ms.length)] W fun e w' => e = .returned (.bool true) ∧ Below W.heap.size W w') := by
      show ∀ _, _
      intro W hW
      have h4W := h46.trans (hW.mono h46.size)
      have h6W := hA6.trans (hW.mono hA6.size)
      exact begins_eq ys (zs.drop ms.length) ya _ _ _ yc _ W hyn.symm (by rw [List.length_drop]; omega) (by rw [List.length_drop]; omega) (by rw [List.length_drop]; omega) (hyr.below h6W) ((hzq.below h4W).drop ms.length) (fun i h1 h2 => ⟨⟨(hym _ (List.getElem_mem h1)).1.below h6W, (hym _ (List.getElem_mem h1)).2.check, hyu _ (List.getElem_mem h1)⟩, (hzm _ (List.mem_of_mem_drop (List.getElem_mem h2))).1.below h4W, by
        rw [List.getElem_drop]
        have h3 : ms.length + i < zs.length := by omega
        have e1 := hza.same (ms.length + i) h3 (by rw [List.length_append]; omega)
        rw [List.getElem_append_right (by omega)] at e1
        simp only [Nat.add_sub_cancel_left] at e1
        exact e1.symm.trans (hya.same i h1 (by omega))⟩)
    rw [hxn, hyn, hzn]
    have hzc2 : ms.length + ns.length ≤ zc := by omega
    clear hxn hyn hzn hG4 hza hzu hzq hzm hzr hxr hxm hxu hxa hxl hyr hym hyu hya hyl hzc hk1 HA HE HR HN HU HV
    have hnb : ((ns.length : Int) == 0) = false := by rw [beq_eq_false_iff_ne]; omega
    have hw1 : IntKind.i64.wrap ((ms.length : Int) + (ns.length : Int)) = (ms.length : Int) + ns.length := by rw [IntKind.wrap_i64]; omega
    have hw2 : IntKind.i64.wrap ((A.length : Int) + (E.length : Int)) = (A.length : Int) + E.length := by rw [IntKind.wrap_i64]; omega
    have hzI : (ms.length : Int) + ns.length ≤ zc := by omega
    have hmI : (ms.length : Int) ≤ (ms.length : Int) + ns.length := by omega
    have hmc : (ms.length : Int) < zc := by omega
    rw [Nat.zero_add] at *
    go_wp2_with fail
    refine (HB1.out W6 (Below.refl _ _)).mono ?_
    rintro e w7 ⟨he, hb7⟩
    subst he
    dsimp only
    have hB7 := hB6A.trans (hb7.mono hB6A.size)
    go_wp2_with fail
    refine (HB2.out w7 hb7).mono ?_
    rintro e w8 ⟨he, hb8⟩
    subst he
    dsimp only
    have hB8 := hB7.trans (hb8.mono hB7.size)
    have h78 := hb7.trans (hb8.mono hb7.size)
    have x0 := cells_at ((h78.block _ (lt_of_heap qV6A)).trans qV6A) 0 _ rfl
    have x1 := cells_at ((h78.block _ (lt_of_heap qA6A)).trans qA6A) 0 _ rfl
    have x2 := cells_at ((h78.block _ (lt_of_heap qE6A)).trans qE6A) 0 _ rfl
    go_wp2_with fail
    go_ret
    exact ⟨rfl, hB8⟩
end Go.Proofs.Ythpocgndgphedaa

namespace Go.Proofs.Ythpocgndgphedaa.tapeJoin
open Go.ChangeShapes Go.WideShapes Go.ChangeAt Go.RowKit

set_option maxRecDepth 100000 in
/-- What the walk gives, for every argument and every world. -/
theorem contract (H : Type) (enc : TypeId × Value → H) (W : World) (base : Nat) (args : Array Value) (ds gs : List (DataW H)) (before : List MemPlace)
    (hval : ∀ (j : Nat) t v, Try.f8.params[j]? = some t → args[j]? = some v → Value.okWide Try.prog W .any base t v)
    (hW : DataW.Whole enc Try.prog Try.f8.params.toList Rows.tapeJoinSpec.vars false W args.toList ds gs before) (hsz : (DataW.weightsEach Try.prog (Try.f8.params.toList ++ (OpenSpec.ofChange Rows.tapeJoinSpec).bare.plain.varTypes Try.prog) (ds ++ gs)).all (· ≤ reachBytes) = true) (_hL : laidMetH Try.prog Rows.tapeJoinRow.laid W) :
    Calls Try.prog 8 args W fun e W' => ∃ v, e = .returned v ∧ Rows.tapeJoinSpec.post enc Try.prog Try.f8 false true false false W args v W' := by
  have hW' := hW
  obtain ⟨p, q, hA0, hV, rfl, hfz, hnd⟩ := hW
  have hA : DataW.TrodAll enc Try.prog W 0 (fun _ => true) true Try.f8.params.toList args.toList ds p := hA0
  rw [Try.params8] at hA hval hsz
  obtain ⟨v0, vs0, d0, ds0, p0, q0, hargs, rfl, rfl, h0, r0⟩ := trodAll_cons hA
  obtain ⟨v1, vs1, d1, ds1, p1, q1, rfl, rfl, rfl, h1, r1⟩ := trodAll_cons r0
  obtain ⟨rfl, rfl, rfl⟩ := trodAll_nil r1
  obtain rfl : args = #[v0, v1] := by cases args; simp_all
  obtain ⟨rfl, rfl⟩ := trodVars_none hV
  have k0 := h0
  have lt0 : ∀ x ∈ p0, x.block < W.heap.size := by obtain ⟨m, hm⟩ := k0; exact DataW.trod_lt m _ _ _ hm
  obtain ⟨sa0, cap0, rs0, rfl, q0_0, q0_1, q0_2, q0_3⟩ := open_rawtm (hval 0 22 v0 rfl rfl) h0 (fit_each hsz (j := 0) rfl rfl)
  have k1 := h1
  have lt1 : ∀ x ∈ p1, x.block < W.heap.size := by obtain ⟨m, hm⟩ := k1; exact DataW.trod_lt m _ _ _ hm
  obtain ⟨sa1, cap1, rs1, rfl, q1_0, q1_1, q1_2, q1_3⟩ := open_rawtm (hval 1 22 v1 rfl rfl) h1 (fit_each hsz (j := 1) rfl rfl)
  clear hA0
  refine (tapeJoin_walk sa0 cap0 rs0 sa1 cap1 rs1 W q0_0 q0_1 q0_2 q0_3 q1_0 q1_1 q1_2 q1_3).mono fun e W' ⟨he, bel⟩ => ?_
  subst he
  exact ⟨_, rfl, _, _, _, [], _, [], hW', trodAll_mk1 (shut_bool Try.underlying4 _), (trodAll_cons_mk (Below.trod laidOut (by kernel_rfl) (of_decide_eq_true (by kernel_rfl)) k0 bel lt0) (trodAll_cons_mk (Below.trod laidOut (by kernel_rfl) (of_decide_eq_true (by kernel_rfl)) k1 bel lt1) trodAll_mk0)), rfl, bel.frame _, fun h => by cases h⟩

set_option maxRecDepth 100000 in
theorem laid_met (os : Os) : laidMet Try.prog Rows.tapeJoinRow.laid ((World.holding Try.prog os ⟨#[], #[], []⟩).forCall (fun _ _ => 0) ⟨#[], #[.slice none 0 0, .slice none 0 0], []⟩).memory :=
  laidMet_of_run' 8 (by kernel_rfl) (by kernel_rfl)
set_option maxRecDepth 100000 in
theorem reads (os : Os) {H : Type} (enc : TypeId × Value → H) : ∃ places, DataW.whole enc Try.prog ((World.holding Try.prog os ⟨#[], #[], []⟩).forCall (fun _ _ => 0) ⟨#[], #[.slice none 0 0, .slice none 0 0], []⟩).memory Try.f8.params.toList Rows.tapeJoinSpec.vars false (#[.slice none 0 0, .slice none 0 0] : Array Value).toList 8 = some ([.nil, .nil], [], places) :=
  ⟨[], by kernel_rfl⟩

set_option maxRecDepth 100000 in
theorem lifted (os : Os) (started : os.Started) (H : Type) (enc : TypeId × Value → H) (F : Stop.Interp) :
    ReturnsInHanded {} Try.checked os 8 .any ((OpenSpec.ofChange Rows.tapeJoinSpec).preRow enc Try.prog Try.f8 Rows.tapeJoinRow.domain false Rows.tapeJoinRow.laid) (((OpenSpec.ofChange Rows.tapeJoinSpec).at F).post enc Try.prog Try.f8 false true false false) := by
  obtain ⟨places, hx⟩ := reads os enc
  refine returnsInHanded_of_row (C := Try.checked) (s := OpenSpec.ofChange Rows.tapeJoinSpec) own started (by kernel_rfl) Try.func8
    (witness_row_at (enc := enc) (C := Try.checked) false (World.holding Try.prog os ⟨#[], #[], []⟩) #[.slice none 0 0, .slice none 0 0] rfl (by kernel_rfl) (by kernel_rfl) (by kernel_rfl)
      (OpenSpec.preRow_of_cond 8 hx (by kernel_rfl) (fun k hk => by cases hk) (by kernel_rfl) (laid_met os))) ?_
  intro W base args ds gs before hval hW _ _ hsz hL _ _
  exact contract H enc W base args ds gs before hval hW hsz hL

set_option maxRecDepth 100000 in
theorem said : Rows.TapeJoinSaid :=
  OpenClaim.holds_of_cond 8 Try.f8 rfl rfl rfl rfl rfl rfl rfl ⟨rfl, rfl, rfl, rfl, rfl⟩ rfl rfl rfl rfl rfl (by kernel_rfl) Try.func8 (by kernel_rfl)
    (of_decide_eq_true (by kernel_rfl)) (by unfold Func.isWrapper; first | (rw [if_pos (by decide +kernel)]; kernel_rfl) | (rw [if_neg (by decide +kernel)]; exact ⟨rfl, rfl⟩))
    (fun os started H enc _ F => by rw [OpenClaim.pre_eq_preRow]; exact lifted os started H enc F)

end Go.Proofs.Ythpocgndgphedaa.tapeJoin
namespace Go.Proofs.Ythpocgndgphedaa
set_option maxRecDepth 100000 in
theorem tapeJoin_holds : Rows.TapeJoinSaid := tapeJoin.said
#print axioms tapeJoin_holds
end Go.Proofs.Ythpocgndgphedaa
