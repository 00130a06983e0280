/- The law sheaveslaw.TapeChecks answers true for every argument, and each argument reads behind the call as it read before: no condition but the form's own reach. -/
import Derived.Test.YtchmfbhdnhaleaaGrew
import Derived.Shelf.Abstract
import Derived.Deep.RegionHeld
import Derived.Test.YtchmfbhdnhaleaaMsg
import Derived.Test.YtchmfbhdnhaleaaTapeChecksM6
import Derived.Deep.RegionHeld3
import Derived.Laws.Rows
import Derived.Laws.Tables
import Derived.Test.YtchmfbhdnhaleaaTapeChecksM0
import Derived.Test.YtchmfbhdnhaleaaCheckAny
import Derived.Test.YtchmfbhdnhaleaaTChk
import Derived.Test.YtchmfbhdnhaleaaRRec
import Derived.Test.YtchmfbhdnhaleaaRows
import Derived.Test.YtchmfbhdnhaleaaOpenB
import Derived.WalkKit
import Derived.ProofKit
import Derived.OpenShut
import Derived.Deep.DeepHandedRow
import Derived.SevenTiedAt
import Derived.Below
namespace Go.Proofs.Ytchmfbhdnhaleaa
open Go.RowKit

set_option maxRecDepth 100000 in
theorem step_calls {ops : Array Oper} {o : Oper} {a : Act} {w : World} {K : Act → World → Prop} {Q : Exit → Act → World → Prop} {E : Prop}
    (hg : o.guard = none) (f : FuncId) (xs : List Operand) (ats : Array TypeId) (ho : o.op = .call { callee := .value (.func f), args := xs.toArray, argTypes := ats })
    (vs : List Value) (hv : xs.map a.eval = vs) (hent : ∀ args w, (callFunc f args).run Try.prog w = .ok (.enter f args) w)
    (R : Value → World → Prop) (hc : Calls Try.prog f vs.toArray w fun e w' => ∃ v, e = .returned v ∧ R v w') (hK : ∀ v w', R v w' → K (a.put o.dst v) w') :
    if Region.wanted o (yielded ops a.tmps) = true then Oper.wp Try.prog o a w K Q else E := by
  have hw : Region.wanted o (yielded ops a.tmps) = true := by simp [Region.wanted, hg]
  rw [if_pos hw]
  obtain ⟨dst, op, ty, pos, after, guard⟩ := o
  simp only at ho
  subst ho
  unfold Oper.wp
  rw [execOp_call_go, List.map_toArray, hv, hent, Oper.upon_enter, show (#[] ++ vs.toArray ++ #[] : Array Value) = vs.toArray by simp]
  refine hc.mono ?_
  rintro e w' ⟨v, rfl, h⟩
  exact hK v w' h
set_option maxRecDepth 100000 in
/-- Take an operation first, its slot written out. -/
theorem take_dst {P : Program} {ops : Array Oper} {Q : Exit → Act → World → Prop} {md : Region.Mode} {S : World → Prop} {i d : Nat} {oi : Oper} {v : Value} {fuel : Nat} {listed : Array Bool} {a : Act} {w : World} (hi : ops[i]? = some oi) (hd : oi.dst = some d)
    (hs : Region.noSelect ops = true) (hf : Region.free md ops listed i = true) (hr : (Region.ready md ops listed).contains i = true)
    (hQ : ∀ c a w, Q (.panic c) (a.put (some d) v) w → Q (.panic c) a w) (hy : YieldsIf P ops S oi v a) (hS : S w)
    (h : wpAnyH P md ops Q S fuel (listed.setIfInBounds i true) (a.put (some d) v) w) : wpAnyH P md ops Q S (fuel + 1) listed a w :=
  wpAnyH_take hi hs hf hr (by rw [hd]; exact hQ) hy hS (by rw [hd]; exact h)
set_option maxRecDepth 100000 in
/-- A call with a contract as the one operation that comes up, its slot written out. -/
theorem step_calls_dst {ops : Array Oper} {o : Oper} {a : Act} {w : World} {K : Act → World → Prop} {Q : Exit → Act → World → Prop} {E : Prop}
    (hg : o.guard = none) (d : Nat) (hd : o.dst = some d) (f : FuncId) (xs : List Operand) (ats : Array TypeId) (ho : o.op = .call { callee := .value (.func f), args := xs.toArray, argTypes := ats })
    (vs : List Value) (hv : xs.map a.eval = vs) (hent : ∀ args w, (callFunc f args).run Try.prog w = .ok (.enter f args) w)
    (R : Value → World → Prop) (hc : Calls Try.prog f vs.toArray w fun e w' => ∃ v, e = .returned v ∧ R v w') (hK : ∀ v w', R v w' → K (a.put (some d) v) w') :
    if Region.wanted o (yielded ops a.tmps) = true then Oper.wp Try.prog o a w K Q else E :=
  step_calls hg f xs ats ho vs hv hent R hc (by rw [hd]; exact hK)
set_option maxRecDepth 100000 in
/-- The same for a call behind a guard that lets it by. -/
theorem step_calls_on {ops : Array Oper} {o : Oper} {a : Act} {w : World} {K : Act → World → Prop} {Q : Exit → Act → World → Prop} {E : Prop}
    (hw : Region.wanted o (yielded ops a.tmps) = true) (d : Nat) (hd : o.dst = some d) (f : FuncId) (xs : List Operand) (ats : Array TypeId) (ho : o.op = .call { callee := .value (.func f), args := xs.toArray, argTypes := ats })
    (vs : List Value) (hv : xs.map a.eval = vs) (hent : ∀ args w, (callFunc f args).run Try.prog w = .ok (.enter f args) w)
    (R : Value → World → Prop) (hc : Calls Try.prog f vs.toArray w fun e w' => ∃ v, e = .returned v ∧ R v w') (hK : ∀ v w', R v w' → K (a.put (some d) v) w') :
    if Region.wanted o (yielded ops a.tmps) = true then Oper.wp Try.prog o a w K Q else E := by
  rw [if_pos hw]
  obtain ⟨dst, op, ty, pos, after, guard⟩ := o
  simp only at ho hd
  subst ho hd
  unfold Oper.wp
  rw [execOp_call_go, List.map_toArray, hv, hent, Oper.upon_enter, show (#[] ++ vs.toArray ++ #[] : Array Value) = vs.toArray by simp]
  refine hc.mono ?_
  rintro e w' ⟨v, rfl, h⟩
  exact hK v w' h
set_option maxRecDepth 100000 in
/-- An operation that is no call, and that turns the world, as the one that comes up. -/
theorem step_run {ops : Array Oper} {o : Oper} {a : Act} {w : World} {K : Act → World → Prop} {Q : Exit → Act → World → Prop} {E : Prop}
    (hg : o.guard = none) (d : Nat) (hd : o.dst = some d) (v : Value) (w' : World) (hr : (execOp a.eval o).run Try.prog w = .ok (.value v) w') (hK : K (a.put (some d) v) w') :
    if Region.wanted o (yielded ops a.tmps) = true then Oper.wp Try.prog o a w K Q else E := by
  have hw : Region.wanted o (yielded ops a.tmps) = true := by simp [Region.wanted, hg]
  rw [if_pos hw]
  unfold Oper.wp
  rw [hr, Oper.upon_value, hd]
  exact hK
set_option maxRecDepth 100000 in
/-- An append onto a row that the call owns, as one step of such a region, and where the new slice lies. -/
theorem step_append_at {ops : Array Oper} {o : Oper} {a : Act} {w : World} {K : Act → World → Prop} {Q : Exit → Act → World → Prop} {E : Prop}
    (hg : o.guard = none) (s x : Operand) (t : TypeId) (ho : o.op = .call { callee := .builtin .append, args := #[s, x], argTypes := #[t, t] })
    (base : Nat) (e : TypeId) (i : TypeInfo) (z : Value) (size bytes : Nat) (ht : Try.prog.underlying t = some (.slice e)) (hi : Try.prog.info? e = some i) (hz : i.zero = some z)
    (hsize : i.size = size) (hby : i.bytes = bytes) (hzs : z.cells.size = size) (hsz : 0 < size)
    (v : Value) (n : Nat) (xs : List Value) (hs : a.eval s = v) (hown : w.ownsRow base e size v n xs)
    (ad : Addr) (m c : Nat) (news : List Value) (hx : a.eval x = .slice (some ad) m c) (hl : news.length = m * size) (hnews : ∀ j u, news[j]? = some u → w.cell? (ad.add j) = some u) (h1 : ∀ u ∈ news, u.oneCell' = true)
    (h63 : n + m ≤ maxLen) (hbytes : (n + m) * bytes ≤ 140737488355328) (hbase : base ≤ w.heap.size)
    (hK : ∀ v' w', w'.ownsRow base e size v' (n + m) (xs ++ news) → Grew w v w' v' → K (a.put o.dst v') w') :
    if Region.wanted o (yielded ops a.tmps) = true then Oper.wp Try.prog o a w K Q else E := by
  have hw : Region.wanted o (yielded ops a.tmps) = true := by simp [Region.wanted, hg]
  rw [if_pos hw]
  obtain ⟨v', w', hr, h2, h3, _, h5⟩ := run_append_own_at (P := Try.prog) w base t o.type e i z size bytes ht hi hz hsize hby hzs hsz v n xs hown ad m c news hl hnews h1 h63 hbytes hbase
  unfold Oper.wp execOp
  simp only [ho, resolve, invoke, builtin, Sem.run_bind, Sem.run_pure, Result.andThen_ok, List.map_toArray, List.map_cons, List.map_nil, hs, hx, hr]
  exact hK v' w' h2 (Grew.of h3 h5)
end Go.Proofs.Ytchmfbhdnhaleaa

namespace Go.Proofs.Ytchmfbhdnhaleaa
open Go.RowKit

/-- What is read of a message that came in. -/
structure MsgIn (w : World) (m : Msg) (ss : List ByteArray) (bl pl cbl cpl : List Part) (ds vl : List Int) : Prop where
  e1 : m.btn = ss.length
  e2 : m.hbn = bl.length
  e3 : m.hpn = pl.length
  e4 : m.cbn = cbl.length
  e5 : m.cpn = cpl.length
  e6 : m.cvn = vl.length
  e7 : m.sdn = ds.length
  txs : TextsAt w m.bta m.btc ss
  bat : ReadAt w m.hba m.hbc bl
  par : ReadAt w m.hpa m.hpc pl
  cbat : ReadAt w m.cba m.cbc cbl
  cpar : ReadAt w m.cpa m.cpc cpl
  dig : SliceAt w m.sda m.sdc ds
  digr : m.sdc ≤ 140737488351232
  vot : IntsAt w m.cva vl
  votr : vl.length * 8 ≤ 140737488355328
set_option maxRecDepth 100000 in
theorem MsgIn.below {w w' : World} {m : Msg} {ss : List ByteArray} {bl pl cbl cpl : List Part} {ds vl : List Int} (h : MsgIn w m ss bl pl cbl cpl ds vl) (hb : Below w.heap.size w w') : MsgIn w' m ss bl pl cbl cpl ds vl :=
  ⟨h.e1, h.e2, h.e3, h.e4, h.e5, h.e6, h.e7, h.txs.below hb, h.bat.below hb, h.par.below hb, h.cbat.below hb, h.cpar.below hb, h.dig.below hb, h.digr, h.vot.below hb, h.votr⟩
set_option maxRecDepth 100000 in
theorem sMsg' : (Try.prog.info? 35).map (·.size) = some 19 := by kernel_rfl
set_option maxRecDepth 100000 in
/-- A struct that is stored as a row, as the one operation that comes up. -/
theorem step_store_row {ops : Array Oper} {o : Oper} {a : Act} {w : World} {K : Act → World → Prop} {Q : Exit → Act → World → Prop} {E : Prop}
    (hg : o.guard = none) (hd : o.dst = none) (ty : TypeId) (x y : Operand) (ho : o.op = .store ty x y) (g : Nat) (cells : Array Value) (hx : a.eval x = .pointer (some ⟨g, 0, none⟩)) (hy : a.eval y = .agg cells)
    (t : TypeId) (old : Array Value) (hh : w.heap[g]? = some (.cells old t (0, 0))) (hi : (Try.prog.info? ty).map (·.size) = some cells.size) (hold : old.size = cells.size) (h1 : cells.all (·.oneCell') = true) (hK : K a (w.setRow g cells)) :
    if Region.wanted o (yielded ops a.tmps) = true then Oper.wp Try.prog o a w K Q else E := by
  rw [if_pos (by simp [Region.wanted, hg])]
  exact wp_store_row ty x y ho g cells hx hy t old hh hi hold h1 (by rw [hd]; exact hK)
set_option maxRecDepth 100000 in
theorem cell_row {w : World} {b : Nat} {cs : Array Value} {k j : Nat} (h : k ≠ b) : (w.setRow b cs).cell? ⟨k, j, none⟩ = w.cell? ⟨k, j, none⟩ := World.cell?_of_block (setRow_other w b k cs h)
set_option maxRecDepth 100000 in
theorem StrsAt.setRow {w : World} {sa : Option Addr} {ss : List ByteArray} (h : StrsAt w sa ss) (b : Nat) (cs : Array Value) (hne : ∀ sb so, sa = some ⟨sb, so, none⟩ → sb ≠ b) : StrsAt (w.setRow b cs) sa ss := by
  refine ⟨?_, h.size⟩
  rcases h.cells with h | ⟨sb, so, rfl, hc⟩
  · exact .inl h
  · exact .inr ⟨sb, so, rfl, fun k hk => (cell_row (hne sb so rfl)).trans (hc k hk)⟩
set_option maxRecDepth 100000 in
theorem slice_setRow {w : World} {sa : Option Addr} {cap : Nat} {bs : List Int} (h : SliceAt w sa cap bs) (b : Nat) (cs : Array Value) (hne : ∀ sb so, sa = some ⟨sb, so, none⟩ → sb ≠ b) : SliceAt (w.setRow b cs) sa cap bs := by
  refine ⟨h.le, h.max, h.some, h.nil, ?_⟩
  rcases h.bytes with hc | ⟨sb, so, e, hc⟩
  · exact .inl hc
  · exact .inr ⟨sb, so, e, fun k hk => (cell_row (hne sb so e)).trans (hc k hk)⟩
set_option maxRecDepth 100000 in
theorem list_setRow {w : World} {ra : Option Addr} {rc B : Nat} {qs : List Part} (h : ListAt w ra rc qs) (hf : Fresh B ra qs) (b : Nat) (cs : Array Value) (hb : b < B) : ListAt (w.setRow b cs) ra rc qs := by
  refine ⟨h.le, h.max, h.small, h.some, ⟨?_, fun p hp => ?_⟩⟩
  · rcases h.parts.cells with hc | ⟨sb, so, rfl, hc⟩
    · exact .inl hc
    · exact .inr ⟨sb, so, rfl, fun k hk => (cell_row (by have := hf.row sb so rfl; omega)).trans (hc k hk)⟩
  · exact slice_setRow (h.parts.each p hp) b cs (fun sb so e => by have := hf.each p hp sb so e; omega)
set_option maxRecDepth 100000 in
theorem ints_setRow {w : World} {va : Option Addr} {vl : List Int} (h : IntsAt w va vl) (b : Nat) (cs : Array Value) (hne : ∀ sb so, va = some ⟨sb, so, none⟩ → sb ≠ b) : IntsAt (w.setRow b cs) va vl := by
  refine ⟨?_⟩
  rcases h.cells with h | ⟨sb, so, rfl, hc⟩
  · exact .inl h
  · exact .inr ⟨sb, so, rfl, fun k hk => (cell_row (hne sb so rfl)).trans (hc k hk)⟩
set_option maxRecDepth 100000 in
theorem fresh_le {B C : Nat} {ra : Option Addr} {qs : List Part} (h : Fresh C ra qs) (hb : B ≤ C) : Fresh B ra qs := ⟨fun sb so e => Nat.le_trans hb (h.row sb so e), fun p hp sb so e => Nat.le_trans hb (h.each p hp sb so e)⟩
set_option maxRecDepth 100000 in
set_option maxHeartbeats 8000000 in
theorem messages_any (m : Msg) (ss : List ByteArray) (bl pl cbl cpl : List Part) (ds vl : List Int) (w : World) (H : MsgIn w m ss bl pl cbl cpl ds vl) :
    Calls Try.prog 8 #[.agg #[.int .i64 m.fr, .int .i64 m.tt, .int .i64 m.ki, .int .i64 m.bau, .int .i64 m.bnu, .slice m.bta m.btn m.btc, .int .i64 m.hau, .int .i64 m.hrd, .slice m.hba m.hbn m.hbc, .slice m.hpa m.hpn m.hpc, .int .i64 m.sau, .int .i64 m.srd, .slice m.sda m.sdn m.sdc, .int .i64 m.cau, .int .i64 m.crd, .slice m.cba m.cbn m.cbc, .slice m.cpa m.cpn m.cpc, .slice m.cva m.cvn m.cvc, .int .i64 m.ro]] w fun e w' => ∃ xa xc ya yc yl za zc zl ua uc va vc xl qa qc ql ra rc, e = .returned (.agg #[.int .i64 m.fr, .int .i64 m.tt, .int .i64 m.ki, .int .i64 m.bau, .int .i64 m.bnu, .slice xa ss.length xc, .int .i64 m.hau, .int .i64 m.hrd, .slice ya bl.length yc, .slice za pl.length zc, .int .i64 m.sau, .int .i64 m.srd, .slice ua ds.length uc, .int .i64 m.cau, .int .i64 m.crd, .slice va cbl.length vc, .slice qa cpl.length qc, .slice ra vl.length rc, .int .i64 m.ro]) ∧ Same yl bl ∧ Same zl pl ∧ Same xl cbl ∧ Same ql cpl ∧ StrsAt w' xa ss ∧ ListAt w' ya yc yl ∧ ListAt w' za zc zl ∧ SliceAt w' ua uc ds ∧ ListAt w' va vc xl ∧ ListAt w' qa qc ql ∧ IntsAt w' ra vl ∧ Below w.heap.size w w' := by
  have hR : Below w.heap.size w ((w.alloc (.cells #[.int .i64 m.fr, .int .i64 m.tt, .int .i64 m.ki, .int .i64 m.bau, .int .i64 m.bnu, .slice m.bta m.btn m.btc, .int .i64 m.hau, .int .i64 m.hrd, .slice m.hba m.hbn m.hbc, .slice m.hpa m.hpn m.hpc, .int .i64 m.sau, .int .i64 m.srd, .slice m.sda m.sdn m.sdc, .int .i64 m.cau, .int .i64 m.crd, .slice m.cba m.cbn m.cbc, .slice m.cpa m.cpn m.cpc, .slice m.cva m.cvn m.cvc, .int .i64 m.ro] 35)).alloc (.cells #[.int .i64 0, .int .i64 0, .int .i64 0, .int .i64 0, .int .i64 0, .slice none 0 0, .int .i64 0, .int .i64 0, .slice none 0 0, .slice none 0 0, .int .i64 0, .int .i64 0, .slice none 0 0, .int .i64 0, .int .i64 0, .slice none 0 0, .slice none 0 0, .slice none 0 0, .int .i64 0] 35)) := ((Below.refl _ _).alloc (Nat.le_refl _) _).alloc (by simp) _
  have q0 := heap_alloc2_old w (.cells #[.int .i64 m.fr, .int .i64 m.tt, .int .i64 m.ki, .int .i64 m.bau, .int .i64 m.bnu, .slice m.bta m.btn m.btc, .int .i64 m.hau, .int .i64 m.hrd, .slice m.hba m.hbn m.hbc, .slice m.hpa m.hpn m.hpc, .int .i64 m.sau, .int .i64 m.srd, .slice m.sda m.sdn m.sdc, .int .i64 m.cau, .int .i64 m.crd, .slice m.cba m.cbn m.cbc, .slice m.cpa m.cpn m.cpc, .slice m.cva m.cvn m.cvc, .int .i64 m.ro] 35) (.cells #[.int .i64 0, .int .i64 0, .int .i64 0, .int .i64 0, .int .i64 0, .slice none 0 0, .int .i64 0, .int .i64 0, .slice none 0 0, .slice none 0 0, .int .i64 0, .int .i64 0, .slice none 0 0, .int .i64 0, .int .i64 0, .slice none 0 0, .slice none 0 0, .slice none 0 0, .int .i64 0] 35)
  have q1 : ((w.alloc (.cells #[.int .i64 m.fr, .int .i64 m.tt, .int .i64 m.ki, .int .i64 m.bau, .int .i64 m.bnu, .slice m.bta m.btn m.btc, .int .i64 m.hau, .int .i64 m.hrd, .slice m.hba m.hbn m.hbc, .slice m.hpa m.hpn m.hpc, .int .i64 m.sau, .int .i64 m.srd, .slice m.sda m.sdn m.sdc, .int .i64 m.cau, .int .i64 m.crd, .slice m.cba m.cbn m.cbc, .slice m.cpa m.cpn m.cpc, .slice m.cva m.cvn m.cvc, .int .i64 m.ro] 35)).alloc (.cells #[.int .i64 0, .int .i64 0, .int .i64 0, .int .i64 0, .int .i64 0, .slice none 0 0, .int .i64 0, .int .i64 0, .slice none 0 0, .slice none 0 0, .int .i64 0, .int .i64 0, .slice none 0 0, .int .i64 0, .int .i64 0, .slice none 0 0, .slice none 0 0, .slice none 0 0, .int .i64 0] 35)).heap[w.heap.size + 1]? = some (.cells #[.int .i64 0, .int .i64 0, .int .i64 0, .int .i64 0, .int .i64 0, .slice none 0 0, .int .i64 0, .int .i64 0, .slice none 0 0, .slice none 0 0, .int .i64 0, .int .i64 0, .slice none 0 0, .int .i64 0, .int .i64 0, .slice none 0 0, .slice none 0 0, .slice none 0 0, .int .i64 0] 35 (0, 0)) := by
    have := heap_alloc_new (w.alloc (.cells #[.int .i64 m.fr, .int .i64 m.tt, .int .i64 m.ki, .int .i64 m.bau, .int .i64 m.bnu, .slice m.bta m.btn m.btc, .int .i64 m.hau, .int .i64 m.hrd, .slice m.hba m.hbn m.hbc, .slice m.hpa m.hpn m.hpc, .int .i64 m.sau, .int .i64 m.srd, .slice m.sda m.sdn m.sdc, .int .i64 m.cau, .int .i64 m.crd, .slice m.cba m.cbn m.cbc, .slice m.cpa m.cpn m.cpc, .slice m.cva m.cvn m.cvc, .int .i64 m.ro] 35)) (.cells #[.int .i64 0, .int .i64 0, .int .i64 0, .int .i64 0, .int .i64 0, .slice none 0 0, .int .i64 0, .int .i64 0, .slice none 0 0, .slice none 0 0, .int .i64 0, .int .i64 0, .slice none 0 0, .int .i64 0, .int .i64 0, .slice none 0 0, .slice none 0 0, .slice none 0 0, .int .i64 0] 35)
    rw [size_alloc] at this; exact this
  go_enter Try.func8, Try.ntmps8
  go_wp2_with fail
  generalize (w.alloc (.cells #[.int .i64 m.fr, .int .i64 m.tt, .int .i64 m.ki, .int .i64 m.bau, .int .i64 m.bnu, .slice m.bta m.btn m.btc, .int .i64 m.hau, .int .i64 m.hrd, .slice m.hba m.hbn m.hbc, .slice m.hpa m.hpn m.hpc, .int .i64 m.sau, .int .i64 m.srd, .slice m.sda m.sdn m.sdc, .int .i64 m.cau, .int .i64 m.crd, .slice m.cba m.cbn m.cbc, .slice m.cpa m.cpn m.cpc, .slice m.cva m.cvn m.cvc, .int .i64 m.ro] 35)).alloc (.cells #[.int .i64 0, .int .i64 0, .int .i64 0, .int .i64 0, .int .i64 0, .slice none 0 0, .int .i64 0, .int .i64 0, .slice none 0 0, .slice none 0 0, .int .i64 0, .int .i64 0, .slice none 0 0, .int .i64 0, .int .i64 0, .slice none 0 0, .slice none 0 0, .slice none 0 0, .int .i64 0] 35) = W0 at hR q0 q1 ⊢
  have hlt1 : w.heap.size + 1 < W0.heap.size := lt_of_heap q1
  have H1 : Hid (∀ W : World, Below W0.heap.size W0 W → Calls Try.prog 19 #[.agg #[.int .i64 m.bau, .int .i64 m.bnu, .slice m.bta m.btn m.btc]] W fun e w' => ∃ ra rc, e = .returned (.agg #[.int .i64 m.bau, .int .i64 m.bnu, .slice ra ss.length rc]) ∧ StrsAt w' ra ss ∧ Below W.heap.size W w' ∧ (∀ sb so, ra = some ⟨sb, so, none⟩ → W.heap.size ≤ sb)) := by
    show ∀ W, _
    intro W hW
    exact batch_any2 _ _ ss _ _ _ W H.e1 ((H.txs.below hR).below hW)
  have H2 : Hid (∀ W : World, Below W0.heap.size W0 W → Calls Try.prog 20 #[.agg #[.int .i64 m.hau, .int .i64 m.hrd, .slice m.hba m.hbn m.hbc, .slice m.hpa m.hpn m.hpc]] W fun e w' => ∃ xa xc xs ya yc ys, e = .returned (.agg #[.int .i64 m.hau, .int .i64 m.hrd, .slice xa bl.length xc, .slice ya pl.length yc]) ∧ Same xs bl ∧ Same ys pl ∧ ListAt w' xa xc xs ∧ ListAt w' ya yc ys ∧ Below W.heap.size W w' ∧ Fresh W.heap.size xa xs ∧ Fresh W.heap.size ya ys) := by
    show ∀ W, _
    intro W hW
    rw [H.e2, H.e3]
    exact headerCopy_any _ _ _ _ bl _ _ pl W ((H.bat.below hR).below hW) ((H.par.below hR).below hW)
  have H3 : Hid (∀ W : World, Below W0.heap.size W0 W → Calls Try.prog 21 #[.slice m.sda m.sdn m.sdc] W fun e w' => ∃ ra rc, e = .returned (.slice ra ds.length rc) ∧ SliceAt w' ra rc ds ∧ Below W.heap.size W w' ∧ (∀ sb so, ra = some ⟨sb, so, none⟩ → W.heap.size ≤ sb)) := by
    show ∀ W, _
    intro W hW
    exact octets_any2 ds _ _ _ W H.e7 ((H.dig.below hR).below hW) H.digr
  have H4 : Hid (∀ W : World, Below W0.heap.size W0 W → Calls Try.prog 22 #[.agg #[.int .i64 m.cau, .int .i64 m.crd, .slice m.cba m.cbn m.cbc, .slice m.cpa m.cpn m.cpc, .slice m.cva m.cvn m.cvc]] W fun e w' => ∃ xa xc xs ya yc ys za zc, e = .returned (.agg #[.int .i64 m.cau, .int .i64 m.crd, .slice xa cbl.length xc, .slice ya cpl.length yc, .slice za vl.length zc]) ∧ Same xs cbl ∧ Same ys cpl ∧ ListAt w' xa xc xs ∧ ListAt w' ya yc ys ∧ IntsAt w' za vl ∧ Below W.heap.size W w' ∧ Fresh W.heap.size xa xs ∧ Fresh W.heap.size ya ys ∧ (∀ sb so, za = some ⟨sb, so, none⟩ → W.heap.size ≤ sb)) := by
    show ∀ W, _
    intro W hW
    rw [H.e4, H.e5, H.e6]
    exact certCopy_any2 _ _ _ _ cbl _ _ cpl _ _ vl W ((H.cbat.below hR).below hW) ((H.cpar.below hR).below hW) ((H.vot.below hR).below hW) H.votr
  clear H
  have HLT : Hid (w.heap.size + 1 < W0.heap.size) := hlt1
  have qd : W0.drew.heap[w.heap.size]? = some (.cells #[.int .i64 m.fr, .int .i64 m.tt, .int .i64 m.ki, .int .i64 m.bau, .int .i64 m.bnu, .slice m.bta m.btn m.btc, .int .i64 m.hau, .int .i64 m.hrd, .slice m.hba m.hbn m.hbc, .slice m.hpa m.hpn m.hpc, .int .i64 m.sau, .int .i64 m.srd, .slice m.sda m.sdn m.sdc, .int .i64 m.cau, .int .i64 m.crd, .slice m.cba m.cbn m.cbc, .slice m.cpa m.cpn m.cpc, .slice m.cva m.cvn m.cvc, .int .i64 m.ro] 35 (0, 0)) := q0
  refine wp_region_held_drew (S := (fun w' => w'.cell? ⟨w.heap.size, 0, none⟩ = some (.int .i64 m.fr) ∧ w'.cell? ⟨w.heap.size, 1, none⟩ = some (.int .i64 m.tt) ∧ w'.cell? ⟨w.heap.size, 2, none⟩ = some (.int .i64 m.ki) ∧ w'.cell? ⟨w.heap.size, 3, none⟩ = some (.int .i64 m.bau) ∧ w'.cell? ⟨w.heap.size, 4, none⟩ = some (.int .i64 m.bnu) ∧ w'.cell? ⟨w.heap.size, 5, none⟩ = some (.slice m.bta m.btn m.btc) ∧ w'.cell? ⟨w.heap.size, 6, none⟩ = some (.int .i64 m.hau) ∧ w'.cell? ⟨w.heap.size, 7, none⟩ = some (.int .i64 m.hrd) ∧ w'.cell? ⟨w.heap.size, 8, none⟩ = some (.slice m.hba m.hbn m.hbc) ∧ w'.cell? ⟨w.heap.size, 9, none⟩ = some (.slice m.hpa m.hpn m.hpc) ∧ w'.cell? ⟨w.heap.size, 10, none⟩ = some (.int .i64 m.sau) ∧ w'.cell? ⟨w.heap.size, 11, none⟩ = some (.int .i64 m.srd) ∧ w'.cell? ⟨w.heap.size, 12, none⟩ = some (.slice m.sda m.sdn m.sdc) ∧ w'.cell? ⟨w.heap.size, 13, none⟩ = some (.int .i64 m.cau) ∧ w'.cell? ⟨w.heap.size, 14, none⟩ = some (.int .i64 m.crd) ∧ w'.cell? ⟨w.heap.size, 15, none⟩ = some (.slice m.cba m.cbn m.cbc) ∧ w'.cell? ⟨w.heap.size, 16, none⟩ = some (.slice m.cpa m.cpn m.cpc) ∧ w'.cell? ⟨w.heap.size, 17, none⟩ = some (.slice m.cva m.cvn m.cvc) ∧ w'.cell? ⟨w.heap.size, 18, none⟩ = some (.int .i64 m.ro))) (by kernel_rfl) ⟨cells_at qd 0 _ rfl, cells_at qd 1 _ rfl, cells_at qd 2 _ rfl, cells_at qd 3 _ rfl, cells_at qd 4 _ rfl, cells_at qd 5 _ rfl, cells_at qd 6 _ rfl, cells_at qd 7 _ rfl, cells_at qd 8 _ rfl, cells_at qd 9 _ rfl, cells_at qd 10 _ rfl, cells_at qd 11 _ rfl, cells_at qd 12 _ rfl, cells_at qd 13 _ rfl, cells_at qd 14 _ rfl, cells_at qd 15 _ rfl, cells_at qd 16 _ rfl, cells_at qd 17 _ rfl, cells_at qd 18 _ rfl⟩ (fun hHeld => ?_)
  refine take_dst (i := 0) (d := 3) (v := .pointer (some ⟨w.heap.size, 0, none⟩)) rfl rfl (by kernel_rfl) (by kernel_rfl) (by kernel_rfl) (fun _ _ _ h => h) (Or.inl ⟨by rfl, ?_⟩) hHeld ?_
  · (intro w0 hSw; (try dsimp only at hSw); go_simp)
  simp only [Act.put, List.setIfInBounds_toArray, List.set_cons_zero, List.set_cons_succ]
  refine take_dst (i := 1) (d := 4) (v := .int .i64 m.fr) rfl rfl (by kernel_rfl) (by kernel_rfl) (by kernel_rfl) (fun _ _ _ h => h) (Or.inl ⟨by rfl, ?_⟩) hHeld ?_
  · (intro w0 hSw; (try dsimp only at hSw); go_simp)
  simp only [Act.put, List.setIfInBounds_toArray, List.set_cons_zero, List.set_cons_succ]
  refine take_dst (i := 2) (d := 5) (v := .pointer (some ⟨w.heap.size, 1, none⟩)) rfl rfl (by kernel_rfl) (by kernel_rfl) (by kernel_rfl) (fun _ _ _ h => h) (Or.inl ⟨by rfl, ?_⟩) hHeld ?_
  · (intro w0 hSw; (try dsimp only at hSw); go_simp)
  simp only [Act.put, List.setIfInBounds_toArray, List.set_cons_zero, List.set_cons_succ]
  refine take_dst (i := 3) (d := 6) (v := .int .i64 m.tt) rfl rfl (by kernel_rfl) (by kernel_rfl) (by kernel_rfl) (fun _ _ _ h => h) (Or.inl ⟨by rfl, ?_⟩) hHeld ?_
  · (intro w0 hSw; (try dsimp only at hSw); go_simp)
  simp only [Act.put, List.setIfInBounds_toArray, List.set_cons_zero, List.set_cons_succ]
  refine take_dst (i := 4) (d := 7) (v := .pointer (some ⟨w.heap.size, 2, none⟩)) rfl rfl (by kernel_rfl) (by kernel_rfl) (by kernel_rfl) (fun _ _ _ h => h) (Or.inl ⟨by rfl, ?_⟩) hHeld ?_
  · (intro w0 hSw; (try dsimp only at hSw); go_simp)
  simp only [Act.put, List.setIfInBounds_toArray, List.set_cons_zero, List.set_cons_succ]
  refine take_dst (i := 5) (d := 8) (v := .int .i64 m.ki) rfl rfl (by kernel_rfl) (by kernel_rfl) (by kernel_rfl) (fun _ _ _ h => h) (Or.inl ⟨by rfl, ?_⟩) hHeld ?_
  · (intro w0 hSw; (try dsimp only at hSw); go_simp)
  simp only [Act.put, List.setIfInBounds_toArray, List.set_cons_zero, List.set_cons_succ]
  refine take_dst (i := 6) (d := 9) (v := .pointer (some ⟨w.heap.size, 3, none⟩)) rfl rfl (by kernel_rfl) (by kernel_rfl) (by kernel_rfl) (fun _ _ _ h => h) (Or.inl ⟨by rfl, ?_⟩) hHeld ?_
  · (intro w0 hSw; (try dsimp only at hSw); go_simp)
  simp only [Act.put, List.setIfInBounds_toArray, List.set_cons_zero, List.set_cons_succ]
  refine take_dst (i := 7) (d := 10) (v := .agg #[.int .i64 m.bau, .int .i64 m.bnu, .slice m.bta m.btn m.btc]) rfl rfl (by kernel_rfl) (by kernel_rfl) (by kernel_rfl) (fun _ _ _ h => h) (Or.inl ⟨by rfl, ?_⟩) hHeld ?_
  · (intro w0 hSw; (try dsimp only at hSw); go_simp)
  simp only [Act.put, List.setIfInBounds_toArray, List.set_cons_zero, List.set_cons_succ]
  refine take_dst (i := 9) (d := 12) (v := .pointer (some ⟨w.heap.size, 6, none⟩)) rfl rfl (by kernel_rfl) (by kernel_rfl) (by kernel_rfl) (fun _ _ _ h => h) (Or.inl ⟨by rfl, ?_⟩) hHeld ?_
  · (intro w0 hSw; (try dsimp only at hSw); go_simp)
  simp only [Act.put, List.setIfInBounds_toArray, List.set_cons_zero, List.set_cons_succ]
  refine take_dst (i := 10) (d := 13) (v := .agg #[.int .i64 m.hau, .int .i64 m.hrd, .slice m.hba m.hbn m.hbc, .slice m.hpa m.hpn m.hpc]) rfl rfl (by kernel_rfl) (by kernel_rfl) (by kernel_rfl) (fun _ _ _ h => h) (Or.inl ⟨by rfl, ?_⟩) hHeld ?_
  · (intro w0 hSw; (try dsimp only at hSw); go_simp)
  simp only [Act.put, List.setIfInBounds_toArray, List.set_cons_zero, List.set_cons_succ]
  refine take_dst (i := 12) (d := 15) (v := .pointer (some ⟨w.heap.size, 10, none⟩)) rfl rfl (by kernel_rfl) (by kernel_rfl) (by kernel_rfl) (fun _ _ _ h => h) (Or.inl ⟨by rfl, ?_⟩) hHeld ?_
  · (intro w0 hSw; (try dsimp only at hSw); go_simp)
  simp only [Act.put, List.setIfInBounds_toArray, List.set_cons_zero, List.set_cons_succ]
  refine take_dst (i := 13) (d := 16) (v := .pointer (some ⟨w.heap.size, 10, none⟩)) rfl rfl (by kernel_rfl) (by kernel_rfl) (by kernel_rfl) (fun _ _ _ h => h) (Or.inl ⟨by rfl, ?_⟩) hHeld ?_
  · (intro w0 hSw; (try dsimp only at hSw); go_simp)
  simp only [Act.put, List.setIfInBounds_toArray, List.set_cons_zero, List.set_cons_succ]
  refine take_dst (i := 14) (d := 17) (v := .int .i64 m.sau) rfl rfl (by kernel_rfl) (by kernel_rfl) (by kernel_rfl) (fun _ _ _ h => h) (Or.inl ⟨by rfl, ?_⟩) hHeld ?_
  · (intro w0 hSw; (try dsimp only at hSw); go_simp)
  simp only [Act.put, List.setIfInBounds_toArray, List.set_cons_zero, List.set_cons_succ]
  refine take_dst (i := 15) (d := 18) (v := .pointer (some ⟨w.heap.size, 10, none⟩)) rfl rfl (by kernel_rfl) (by kernel_rfl) (by kernel_rfl) (fun _ _ _ h => h) (Or.inl ⟨by rfl, ?_⟩) hHeld ?_
  · (intro w0 hSw; (try dsimp only at hSw); go_simp)
  simp only [Act.put, List.setIfInBounds_toArray, List.set_cons_zero, List.set_cons_succ]
  refine take_dst (i := 16) (d := 19) (v := .pointer (some ⟨w.heap.size, 11, none⟩)) rfl rfl (by kernel_rfl) (by kernel_rfl) (by kernel_rfl) (fun _ _ _ h => h) (Or.inl ⟨by rfl, ?_⟩) hHeld ?_
  · (intro w0 hSw; (try dsimp only at hSw); go_simp)
  simp only [Act.put, List.setIfInBounds_toArray, List.set_cons_zero, List.set_cons_succ]
  refine take_dst (i := 17) (d := 20) (v := .int .i64 m.srd) rfl rfl (by kernel_rfl) (by kernel_rfl) (by kernel_rfl) (fun _ _ _ h => h) (Or.inl ⟨by rfl, ?_⟩) hHeld ?_
  · (intro w0 hSw; (try dsimp only at hSw); go_simp)
  simp only [Act.put, List.setIfInBounds_toArray, List.set_cons_zero, List.set_cons_succ]
  refine take_dst (i := 18) (d := 21) (v := .pointer (some ⟨w.heap.size, 10, none⟩)) rfl rfl (by kernel_rfl) (by kernel_rfl) (by kernel_rfl) (fun _ _ _ h => h) (Or.inl ⟨by rfl, ?_⟩) hHeld ?_
  · (intro w0 hSw; (try dsimp only at hSw); go_simp)
  simp only [Act.put, List.setIfInBounds_toArray, List.set_cons_zero, List.set_cons_succ]
  refine take_dst (i := 19) (d := 22) (v := .pointer (some ⟨w.heap.size, 12, none⟩)) rfl rfl (by kernel_rfl) (by kernel_rfl) (by kernel_rfl) (fun _ _ _ h => h) (Or.inl ⟨by rfl, ?_⟩) hHeld ?_
  · (intro w0 hSw; (try dsimp only at hSw); go_simp)
  simp only [Act.put, List.setIfInBounds_toArray, List.set_cons_zero, List.set_cons_succ]
  refine take_dst (i := 20) (d := 23) (v := .slice m.sda m.sdn m.sdc) rfl rfl (by kernel_rfl) (by kernel_rfl) (by kernel_rfl) (fun _ _ _ h => h) (Or.inl ⟨by rfl, ?_⟩) hHeld ?_
  · (intro w0 hSw; (try dsimp only at hSw); go_simp)
  simp only [Act.put, List.setIfInBounds_toArray, List.set_cons_zero, List.set_cons_succ]
  refine take_dst (i := 23) (d := 26) (v := .pointer (some ⟨w.heap.size, 13, none⟩)) rfl rfl (by kernel_rfl) (by kernel_rfl) (by kernel_rfl) (fun _ _ _ h => h) (Or.inl ⟨by rfl, ?_⟩) hHeld ?_
  · (intro w0 hSw; (try dsimp only at hSw); go_simp)
  simp only [Act.put, List.setIfInBounds_toArray, List.set_cons_zero, List.set_cons_succ]
  refine take_dst (i := 24) (d := 27) (v := .agg #[.int .i64 m.cau, .int .i64 m.crd, .slice m.cba m.cbn m.cbc, .slice m.cpa m.cpn m.cpc, .slice m.cva m.cvn m.cvc]) rfl rfl (by kernel_rfl) (by kernel_rfl) (by kernel_rfl) (fun _ _ _ h => h) (Or.inl ⟨by rfl, ?_⟩) hHeld ?_
  · (intro w0 hSw; (try dsimp only at hSw); go_simp)
  simp only [Act.put, List.setIfInBounds_toArray, List.set_cons_zero, List.set_cons_succ]
  refine take_dst (i := 26) (d := 29) (v := .pointer (some ⟨w.heap.size, 18, none⟩)) rfl rfl (by kernel_rfl) (by kernel_rfl) (by kernel_rfl) (fun _ _ _ h => h) (Or.inl ⟨by rfl, ?_⟩) hHeld ?_
  · (intro w0 hSw; (try dsimp only at hSw); go_simp)
  simp only [Act.put, List.setIfInBounds_toArray, List.set_cons_zero, List.set_cons_succ]
  refine take_dst (i := 27) (d := 30) (v := .int .i64 m.ro) rfl rfl (by kernel_rfl) (by kernel_rfl) (by kernel_rfl) (fun _ _ _ h => h) (Or.inl ⟨by rfl, ?_⟩) hHeld ?_
  · (intro w0 hSw; (try dsimp only at hSw); go_simp)
  simp only [Act.put, List.setIfInBounds_toArray, List.set_cons_zero, List.set_cons_succ]
  refine wpAnyH_ready (rs := [8]) (by kernel_rfl) (by simp) (AllReadyH.cons rfl (fun K hK => ?_) AllReadyH.nil)
  refine step_calls_dst rfl 11 rfl 19 [.tmp 10] #[24] rfl [.agg #[.int .i64 m.bau, .int .i64 m.bnu, .slice m.bta m.btn m.btc]] rfl (enters_of Try.func19 (by kernel_rfl) rfl) (fun v w' => ∃ xa xc, v = .agg #[.int .i64 m.bau, .int .i64 m.bnu, .slice xa ss.length xc] ∧ StrsAt w' xa ss ∧ Below W0.heap.size W0 w' ∧ (∀ sb so, xa = some ⟨sb, so, none⟩ → W0.heap.size ≤ sb)) ((H1.out _ ((Below.refl _ _).drew)).mono (fun e w2 h => by obtain ⟨xa, xc, he, h1, h2, h3⟩ := h; exact ⟨_, he, xa, xc, rfl, h1, below_drew h2, h3⟩)) ?_
  rintro v w1 ⟨xa, xc, rfl, hs1, hb1w, hf1⟩
  have s1 := (hb1w.block _ (lt_of_heap q0)).trans q0
  refine hK.out _ _ ⟨cells_at s1 0 _ rfl, cells_at s1 1 _ rfl, cells_at s1 2 _ rfl, cells_at s1 3 _ rfl, cells_at s1 4 _ rfl, cells_at s1 5 _ rfl, cells_at s1 6 _ rfl, cells_at s1 7 _ rfl, cells_at s1 8 _ rfl, cells_at s1 9 _ rfl, cells_at s1 10 _ rfl, cells_at s1 11 _ rfl, cells_at s1 12 _ rfl, cells_at s1 13 _ rfl, cells_at s1 14 _ rfl, cells_at s1 15 _ rfl, cells_at s1 16 _ rfl, cells_at s1 17 _ rfl, cells_at s1 18 _ rfl⟩ (fun hHeld => ?_)
  simp only [Act.put, List.setIfInBounds_toArray, List.set_cons_zero, List.set_cons_succ]
  refine wpAnyH_ready (rs := [11]) (by kernel_rfl) (by simp) (AllReadyH.cons rfl (fun K hK => ?_) AllReadyH.nil)
  refine step_calls_dst rfl 14 rfl 20 [.tmp 13] #[27] rfl [.agg #[.int .i64 m.hau, .int .i64 m.hrd, .slice m.hba m.hbn m.hbc, .slice m.hpa m.hpn m.hpc]] rfl (enters_of Try.func20 (by kernel_rfl) rfl) (fun v w' => ∃ ya yc yl za zc zl, v = .agg #[.int .i64 m.hau, .int .i64 m.hrd, .slice ya bl.length yc, .slice za pl.length zc] ∧ Same yl bl ∧ Same zl pl ∧ ListAt w' ya yc yl ∧ ListAt w' za zc zl ∧ Below w1.heap.size w1 w' ∧ Fresh w1.heap.size ya yl ∧ Fresh w1.heap.size za zl) ((H2.out _ hb1w).mono (fun e w2 h => by obtain ⟨ya, yc, yl, za, zc, zl, he, h1⟩ := h; exact ⟨_, he, ya, yc, yl, za, zc, zl, rfl, h1⟩)) ?_
  rintro v w2 ⟨ya, yc, yl, za, zc, zl, rfl, hS1, hS2, hL1, hL2, hb2, hF1, hF2⟩
  have hb2w := hb1w.trans (hb2.mono hb1w.size)
  have s2 := (hb2w.block _ (lt_of_heap q0)).trans q0
  refine hK.out _ _ ⟨cells_at s2 0 _ rfl, cells_at s2 1 _ rfl, cells_at s2 2 _ rfl, cells_at s2 3 _ rfl, cells_at s2 4 _ rfl, cells_at s2 5 _ rfl, cells_at s2 6 _ rfl, cells_at s2 7 _ rfl, cells_at s2 8 _ rfl, cells_at s2 9 _ rfl, cells_at s2 10 _ rfl, cells_at s2 11 _ rfl, cells_at s2 12 _ rfl, cells_at s2 13 _ rfl, cells_at s2 14 _ rfl, cells_at s2 15 _ rfl, cells_at s2 16 _ rfl, cells_at s2 17 _ rfl, cells_at s2 18 _ rfl⟩ (fun hHeld => ?_)
  simp only [Act.put, List.setIfInBounds_toArray, List.set_cons_zero, List.set_cons_succ]
  refine wpAnyH_ready (rs := [21]) (by kernel_rfl) (by simp) (AllReadyH.cons rfl (fun K hK => ?_) AllReadyH.nil)
  refine step_calls_dst rfl 24 rfl 21 [.tmp 23] #[28] rfl [.slice m.sda m.sdn m.sdc] rfl (enters_of Try.func21 (by kernel_rfl) rfl) (fun v w' => ∃ ua uc, v = .slice ua ds.length uc ∧ SliceAt w' ua uc ds ∧ Below w2.heap.size w2 w' ∧ (∀ sb so, ua = some ⟨sb, so, none⟩ → w2.heap.size ≤ sb)) ((H3.out _ hb2w).mono (fun e w2 h => by obtain ⟨ua, uc, he, h1⟩ := h; exact ⟨_, he, ua, uc, rfl, h1⟩)) ?_
  rintro v w3 ⟨ua, uc, rfl, hs3, hb3, hf3⟩
  have hb3w := hb2w.trans (hb3.mono hb2w.size)
  have s3 := (hb3w.block _ (lt_of_heap q0)).trans q0
  refine hK.out _ _ ⟨cells_at s3 0 _ rfl, cells_at s3 1 _ rfl, cells_at s3 2 _ rfl, cells_at s3 3 _ rfl, cells_at s3 4 _ rfl, cells_at s3 5 _ rfl, cells_at s3 6 _ rfl, cells_at s3 7 _ rfl, cells_at s3 8 _ rfl, cells_at s3 9 _ rfl, cells_at s3 10 _ rfl, cells_at s3 11 _ rfl, cells_at s3 12 _ rfl, cells_at s3 13 _ rfl, cells_at s3 14 _ rfl, cells_at s3 15 _ rfl, cells_at s3 16 _ rfl, cells_at s3 17 _ rfl, cells_at s3 18 _ rfl⟩ (fun hHeld => ?_)
  simp only [Act.put, List.setIfInBounds_toArray, List.set_cons_zero, List.set_cons_succ]
  refine take_dst (i := 22) (d := 25) (v := .agg #[.int .i64 m.sau, .int .i64 m.srd, .slice ua ds.length uc]) rfl rfl (by kernel_rfl) (by kernel_rfl) (by kernel_rfl) (fun _ _ _ h => h) (Or.inl ⟨by rfl, ?_⟩) hHeld ?_
  · (intro w0 hSw; (try dsimp only at hSw); go_simp)
  simp only [Act.put, List.setIfInBounds_toArray, List.set_cons_zero, List.set_cons_succ]
  refine wpAnyH_ready (rs := [25]) (by kernel_rfl) (by simp) (AllReadyH.cons rfl (fun K hK => ?_) AllReadyH.nil)
  refine step_calls_dst rfl 28 rfl 22 [.tmp 27] #[33] rfl [.agg #[.int .i64 m.cau, .int .i64 m.crd, .slice m.cba m.cbn m.cbc, .slice m.cpa m.cpn m.cpc, .slice m.cva m.cvn m.cvc]] rfl (enters_of Try.func22 (by kernel_rfl) rfl) (fun v w' => ∃ va vc xl qa qc ql ra rc, v = .agg #[.int .i64 m.cau, .int .i64 m.crd, .slice va cbl.length vc, .slice qa cpl.length qc, .slice ra vl.length rc] ∧ Same xl cbl ∧ Same ql cpl ∧ ListAt w' va vc xl ∧ ListAt w' qa qc ql ∧ IntsAt w' ra vl ∧ Below w3.heap.size w3 w' ∧ Fresh w3.heap.size va xl ∧ Fresh w3.heap.size qa ql ∧ (∀ sb so, ra = some ⟨sb, so, none⟩ → w3.heap.size ≤ sb)) ((H4.out _ hb3w).mono (fun e w2 h => by obtain ⟨va, vc, xl, qa, qc, ql, ra, rc, he, h1⟩ := h; exact ⟨_, he, va, vc, xl, qa, qc, ql, ra, rc, rfl, h1⟩)) ?_
  rintro v w4 ⟨va, vc, xl, qa, qc, ql, ra, rc, rfl, hS3, hS4, hL3, hL4, hI4, hb4, hF3, hF4, hf4⟩
  have hb4w := hb3w.trans (hb4.mono hb3w.size)
  have s4 := (hb4w.block _ (lt_of_heap q0)).trans q0
  have t1 := (hb4w.block _ (lt_of_heap q1)).trans q1
  refine hK.out _ _ ⟨cells_at s4 0 _ rfl, cells_at s4 1 _ rfl, cells_at s4 2 _ rfl, cells_at s4 3 _ rfl, cells_at s4 4 _ rfl, cells_at s4 5 _ rfl, cells_at s4 6 _ rfl, cells_at s4 7 _ rfl, cells_at s4 8 _ rfl, cells_at s4 9 _ rfl, cells_at s4 10 _ rfl, cells_at s4 11 _ rfl, cells_at s4 12 _ rfl, cells_at s4 13 _ rfl, cells_at s4 14 _ rfl, cells_at s4 15 _ rfl, cells_at s4 16 _ rfl, cells_at s4 17 _ rfl, cells_at s4 18 _ rfl⟩ (fun hHeld => ?_)
  simp only [Act.put, List.setIfInBounds_toArray, List.set_cons_zero, List.set_cons_succ]
  refine take_dst (i := 28) (d := 31) (v := .agg #[.int .i64 m.fr, .int .i64 m.tt, .int .i64 m.ki, .int .i64 m.bau, .int .i64 m.bnu, .slice xa ss.length xc, .int .i64 m.hau, .int .i64 m.hrd, .slice ya bl.length yc, .slice za pl.length zc, .int .i64 m.sau, .int .i64 m.srd, .slice ua ds.length uc, .int .i64 m.cau, .int .i64 m.crd, .slice va cbl.length vc, .slice qa cpl.length qc, .slice ra vl.length rc, .int .i64 m.ro]) rfl rfl (by kernel_rfl) (by kernel_rfl) (by kernel_rfl) (fun _ _ _ h => h) (Or.inl ⟨by rfl, ?_⟩) hHeld ?_
  · (intro w0 hSw; (try dsimp only at hSw); go_simp)
  simp only [Act.put, List.setIfInBounds_toArray, List.set_cons_zero, List.set_cons_succ]
  refine wpAnyH_ready (rs := [29]) (by kernel_rfl) (by simp) (AllReadyH.cons rfl (fun K hK => ?_) AllReadyH.nil)
  refine step_store_row rfl rfl 35 (.tmp 2) (.tmp 31) rfl (w.heap.size + 1) #[.int .i64 m.fr, .int .i64 m.tt, .int .i64 m.ki, .int .i64 m.bau, .int .i64 m.bnu, .slice xa ss.length xc, .int .i64 m.hau, .int .i64 m.hrd, .slice ya bl.length yc, .slice za pl.length zc, .int .i64 m.sau, .int .i64 m.srd, .slice ua ds.length uc, .int .i64 m.cau, .int .i64 m.crd, .slice va cbl.length vc, .slice qa cpl.length qc, .slice ra vl.length rc, .int .i64 m.ro] rfl rfl 35 _ t1 sMsg' rfl (by simp [Value.oneCell']) ?_
  have hne : w.heap.size ≠ w.heap.size + 1 := by omega
  have s5 := (setRow_other w4 (w.heap.size + 1) w.heap.size #[.int .i64 m.fr, .int .i64 m.tt, .int .i64 m.ki, .int .i64 m.bau, .int .i64 m.bnu, .slice xa ss.length xc, .int .i64 m.hau, .int .i64 m.hrd, .slice ya bl.length yc, .slice za pl.length zc, .int .i64 m.sau, .int .i64 m.srd, .slice ua ds.length uc, .int .i64 m.cau, .int .i64 m.crd, .slice va cbl.length vc, .slice qa cpl.length qc, .slice ra vl.length rc, .int .i64 m.ro] hne).trans s4
  have t2 := setRow_heap w4 (w.heap.size + 1) _ #[.int .i64 m.fr, .int .i64 m.tt, .int .i64 m.ki, .int .i64 m.bau, .int .i64 m.bnu, .slice xa ss.length xc, .int .i64 m.hau, .int .i64 m.hrd, .slice ya bl.length yc, .slice za pl.length zc, .int .i64 m.sau, .int .i64 m.srd, .slice ua ds.length uc, .int .i64 m.cau, .int .i64 m.crd, .slice va cbl.length vc, .slice qa cpl.length qc, .slice ra vl.length rc, .int .i64 m.ro] _ _ t1
  refine hK.out _ _ ⟨cells_at s5 0 _ rfl, cells_at s5 1 _ rfl, cells_at s5 2 _ rfl, cells_at s5 3 _ rfl, cells_at s5 4 _ rfl, cells_at s5 5 _ rfl, cells_at s5 6 _ rfl, cells_at s5 7 _ rfl, cells_at s5 8 _ rfl, cells_at s5 9 _ rfl, cells_at s5 10 _ rfl, cells_at s5 11 _ rfl, cells_at s5 12 _ rfl, cells_at s5 13 _ rfl, cells_at s5 14 _ rfl, cells_at s5 15 _ rfl, cells_at s5 16 _ rfl, cells_at s5 17 _ rfl, cells_at s5 18 _ rfl⟩ (fun hHeld => ?_)
  refine wpAnyH_done (by kernel_rfl) ?_ _
  have a1 := hb1w.size
  have a2 := hb2.size
  have a3 := hb3.size
  have hlt := HLT.out
  have hs1' := (((hs1.below hb2).below hb3).below hb4).setRow (w.heap.size + 1) #[.int .i64 m.fr, .int .i64 m.tt, .int .i64 m.ki, .int .i64 m.bau, .int .i64 m.bnu, .slice xa ss.length xc, .int .i64 m.hau, .int .i64 m.hrd, .slice ya bl.length yc, .slice za pl.length zc, .int .i64 m.sau, .int .i64 m.srd, .slice ua ds.length uc, .int .i64 m.cau, .int .i64 m.crd, .slice va cbl.length vc, .slice qa cpl.length qc, .slice ra vl.length rc, .int .i64 m.ro] (fun sb so e => by have := hf1 sb so e; omega)
  have hL1' := list_setRow ((hL1.below hb3).below hb4) hF1 (w.heap.size + 1) #[.int .i64 m.fr, .int .i64 m.tt, .int .i64 m.ki, .int .i64 m.bau, .int .i64 m.bnu, .slice xa ss.length xc, .int .i64 m.hau, .int .i64 m.hrd, .slice ya bl.length yc, .slice za pl.length zc, .int .i64 m.sau, .int .i64 m.srd, .slice ua ds.length uc, .int .i64 m.cau, .int .i64 m.crd, .slice va cbl.length vc, .slice qa cpl.length qc, .slice ra vl.length rc, .int .i64 m.ro] (by omega)
  have hL2' := list_setRow ((hL2.below hb3).below hb4) hF2 (w.heap.size + 1) #[.int .i64 m.fr, .int .i64 m.tt, .int .i64 m.ki, .int .i64 m.bau, .int .i64 m.bnu, .slice xa ss.length xc, .int .i64 m.hau, .int .i64 m.hrd, .slice ya bl.length yc, .slice za pl.length zc, .int .i64 m.sau, .int .i64 m.srd, .slice ua ds.length uc, .int .i64 m.cau, .int .i64 m.crd, .slice va cbl.length vc, .slice qa cpl.length qc, .slice ra vl.length rc, .int .i64 m.ro] (by omega)
  have hs3' := slice_setRow (hs3.below hb4) (w.heap.size + 1) #[.int .i64 m.fr, .int .i64 m.tt, .int .i64 m.ki, .int .i64 m.bau, .int .i64 m.bnu, .slice xa ss.length xc, .int .i64 m.hau, .int .i64 m.hrd, .slice ya bl.length yc, .slice za pl.length zc, .int .i64 m.sau, .int .i64 m.srd, .slice ua ds.length uc, .int .i64 m.cau, .int .i64 m.crd, .slice va cbl.length vc, .slice qa cpl.length qc, .slice ra vl.length rc, .int .i64 m.ro] (fun sb so e => by have := hf3 sb so e; omega)
  have hL3' := list_setRow hL3 hF3 (w.heap.size + 1) #[.int .i64 m.fr, .int .i64 m.tt, .int .i64 m.ki, .int .i64 m.bau, .int .i64 m.bnu, .slice xa ss.length xc, .int .i64 m.hau, .int .i64 m.hrd, .slice ya bl.length yc, .slice za pl.length zc, .int .i64 m.sau, .int .i64 m.srd, .slice ua ds.length uc, .int .i64 m.cau, .int .i64 m.crd, .slice va cbl.length vc, .slice qa cpl.length qc, .slice ra vl.length rc, .int .i64 m.ro] (by omega)
  have hL4' := list_setRow hL4 hF4 (w.heap.size + 1) #[.int .i64 m.fr, .int .i64 m.tt, .int .i64 m.ki, .int .i64 m.bau, .int .i64 m.bnu, .slice xa ss.length xc, .int .i64 m.hau, .int .i64 m.hrd, .slice ya bl.length yc, .slice za pl.length zc, .int .i64 m.sau, .int .i64 m.srd, .slice ua ds.length uc, .int .i64 m.cau, .int .i64 m.crd, .slice va cbl.length vc, .slice qa cpl.length qc, .slice ra vl.length rc, .int .i64 m.ro] (by omega)
  have hI4' := ints_setRow hI4 (w.heap.size + 1) #[.int .i64 m.fr, .int .i64 m.tt, .int .i64 m.ki, .int .i64 m.bau, .int .i64 m.bnu, .slice xa ss.length xc, .int .i64 m.hau, .int .i64 m.hrd, .slice ya bl.length yc, .slice za pl.length zc, .int .i64 m.sau, .int .i64 m.srd, .slice ua ds.length uc, .int .i64 m.cau, .int .i64 m.crd, .slice va cbl.length vc, .slice qa cpl.length qc, .slice ra vl.length rc, .int .i64 m.ro] (fun sb so e => by have := hf4 sb so e; omega)
  have hB := (Upd.setRow (cs := #[.int .i64 m.fr, .int .i64 m.tt, .int .i64 m.ki, .int .i64 m.bau, .int .i64 m.bnu, .slice xa ss.length xc, .int .i64 m.hau, .int .i64 m.hrd, .slice ya bl.length yc, .slice za pl.length zc, .int .i64 m.sau, .int .i64 m.srd, .slice ua ds.length uc, .int .i64 m.cau, .int .i64 m.crd, .slice va cbl.length vc, .slice qa cpl.length qc, .slice ra vl.length rc, .int .i64 m.ro]) t1).below (hR.trans (hb4w.mono hR.size)) (Nat.le_trans hR.size hb4w.size) (by omega)
  generalize hWF : w4.setRow (w.heap.size + 1) #[.int .i64 m.fr, .int .i64 m.tt, .int .i64 m.ki, .int .i64 m.bau, .int .i64 m.bnu, .slice xa ss.length xc, .int .i64 m.hau, .int .i64 m.hrd, .slice ya bl.length yc, .slice za pl.length zc, .int .i64 m.sau, .int .i64 m.srd, .slice ua ds.length uc, .int .i64 m.cau, .int .i64 m.crd, .slice va cbl.length vc, .slice qa cpl.length qc, .slice ra vl.length rc, .int .i64 m.ro] = WF at *
  clear hWF hHeld
  go_wp2_with fail
  exact bodyPost_ret (v := .agg #[.int .i64 m.fr, .int .i64 m.tt, .int .i64 m.ki, .int .i64 m.bau, .int .i64 m.bnu, .slice xa ss.length xc, .int .i64 m.hau, .int .i64 m.hrd, .slice ya bl.length yc, .slice za pl.length zc, .int .i64 m.sau, .int .i64 m.srd, .slice ua ds.length uc, .int .i64 m.cau, .int .i64 m.crd, .slice va cbl.length vc, .slice qa cpl.length qc, .slice ra vl.length rc, .int .i64 m.ro]) (results_cell_row (fn := Try.f8) (p := 2) (ty := 35) rfl _ _ (w.heap.size + 1) 35 _ (0, 0) _ rfl t2 Try.underlying35 rfl sMsg') rfl ⟨xa, xc, ya, yc, yl, za, zc, zl, ua, uc, va, vc, xl, qa, qc, ql, ra, rc, rfl, hS1, hS2, hS3, hS4, hs1', hL1', hL2', hs3', hL3', hL4', hI4', hB⟩
end Go.Proofs.Ytchmfbhdnhaleaa

namespace Go.Proofs.Ytchmfbhdnhaleaa
open Go.ChangeShapes Go.WideShapes Go.ChangeAt Go.RowKit Go.Deep

set_option maxRecDepth 100000 in
theorem cMsg : Try.prog.cellsOf 35 = 19 := by kernel_rfl
set_option maxRecDepth 100000 in
theorem cSlotM : Try.prog.cellsOf 30 = 3 := by kernel_rfl
set_option maxRecDepth 100000 in
theorem cBatchM : Try.prog.cellsOf 24 = 3 := by kernel_rfl
set_option maxRecDepth 100000 in
theorem cCertM : Try.prog.cellsOf 33 = 5 := by kernel_rfl
set_option maxRecDepth 100000 in
theorem cHeadM : Try.prog.cellsOf 27 = 4 := by kernel_rfl
set_option maxRecDepth 100000 in
theorem cIntM : Try.prog.cellsOf 3 = 1 := by kernel_rfl
set_option maxRecDepth 100000 in
theorem open_cert_cells {H : Type} {enc : TypeId × Value → H} {W : World} {fuel : Nat} {cs : List Value} {x : DataW H × List MemPlace}
    (hf : DataW.trod enc Try.prog W 0 (fun _ => true) true fuel 33 cs = some x) (hfit : ∀ n ∈ x.1.weights Try.prog 33, n ≤ reachBytes) :
    ∃ au rd ba bc bl pa pc pl va vc vl, cs = [.int .i64 au, .int .i64 rd, .slice ba (List.length bl) bc, .slice pa (List.length pl) pc, .slice va (List.length vl) vc] ∧ ReadAt W ba bc bl ∧ ReadAt W pa pc pl ∧ NumsAt W va vc vl := by
  obtain ⟨y0, y1, n, rfl, hl, h0, h1⟩ := trod_struct2 Try.underlying33 hf
  rw [cCert] at hl
  match cs, hl with
  | [c0, c1, c2, c3, c4], _ =>
  obtain ⟨au, rd, ba, bc, bl, pa, pc, pl, e0, _, _, hb, hp⟩ := open_header_cells h0 (fun n hn => hfit n (by simp [DataW.weights, DataW.weightsEach, Try.underlying33, hn]))
  obtain ⟨va, vc, vl, e1, hn⟩ := open_nums_cells h1 (fun n hn => hfit n (by simp [DataW.weights, DataW.weightsEach, Try.underlying33, hn]))
  simp [cHeaderC, cIntsC] at e0 e1
  obtain ⟨rfl, rfl, rfl, rfl⟩ := e0
  subst e1
  exact ⟨au, rd, ba, bc, bl, pa, pc, pl, va, vc, vl, rfl, hb, hp, hn⟩
set_option maxRecDepth 100000 in
theorem open_message {H : Type} {enc : TypeId × Value → H} {W : World} {base : Nat} {v : Value} {d : DataW H} {p : List MemPlace}
    (hv : Value.okWide Try.prog W .any base 35 v) (h : DataW.Trod enc Try.prog W 0 (fun _ => true) true 35 v d p) (hfit : ∀ n ∈ d.weights Try.prog 35, n ≤ reachBytes) :
    ∃ m ss bl pl cbl cpl ds vl, v = .agg #[.int .i64 m.fr, .int .i64 m.tt, .int .i64 m.ki, .int .i64 m.bau, .int .i64 m.bnu, .slice m.bta m.btn m.btc, .int .i64 m.hau, .int .i64 m.hrd, .slice m.hba m.hbn m.hbc, .slice m.hpa m.hpn m.hpc, .int .i64 m.sau, .int .i64 m.srd, .slice m.sda m.sdn m.sdc, .int .i64 m.cau, .int .i64 m.crd, .slice m.cba m.cbn m.cbc, .slice m.cpa m.cpn m.cpc, .slice m.cva m.cvn m.cvc, .int .i64 m.ro] ∧ MsgIn W m ss bl pl cbl cpl ds vl := by
  obtain ⟨cs, rfl, _⟩ := okWide_struct Try.underlying35 hv
  obtain ⟨fuel, hf⟩ := h
  obtain ⟨xs, n, _, hx, hl, hlen, hg⟩ := DataW.trod_struct Try.underlying35 hf
  rw [cMsg] at hl
  match xs, hlen with
  | [y0, y1, y2, y3, y4, y5, y6, y7], _ =>
  have h0 := hg 0 _ rfl
  have h1 := hg 1 _ rfl
  have h2 := hg 2 _ rfl
  have h3 := hg 3 _ rfl
  have h4 := hg 4 _ rfl
  have h5 := hg 5 _ rfl
  have h6 := hg 6 _ rfl
  have h7 := hg 7 _ rfl
  simp only [Prod.mk.injEq] at hx
  obtain ⟨rfl, rfl⟩ := hx
  obtain ⟨l⟩ := cs
  match l, hl with
  | [c0, c1, c2, c3, c4, c5, c6, c7, c8, c9, c10, c11, c12, c13, c14, c15, c16, c17, c18], _ =>
  obtain ⟨a0, e0, rfl, _⟩ := DataW.trod_int Try.underlying3 h0
  obtain ⟨a1, e1, rfl, _⟩ := DataW.trod_int Try.underlying3 h1
  obtain ⟨a2, e2, rfl, _⟩ := DataW.trod_int Try.underlying3 h2
  obtain ⟨bau, bnu, ta, tc, ss, e3, _, _, ht⟩ := open_batch_cells h3 (fun n hn => hfit n (by simp [DataW.weights, DataW.weightsEach, Try.underlying35, hn]))
  obtain ⟨hau, hrd, ba, bc, bl, pa, pc, pl, e4, _, _, hb, hp⟩ := open_header_cells h4 (fun n hn => hfit n (by simp [DataW.weights, DataW.weightsEach, Try.underlying35, hn]))
  obtain ⟨sau, srd, sa, sc, ds, e5, _, _, hs, _, hsc⟩ := open_slot_cells h5 (fun n hn => hfit n (by simp [DataW.weights, DataW.weightsEach, Try.underlying35, hn]))
  obtain ⟨cau, crd, cba, cbc, cbl, cpa, cpc, cpl, va, vc, vl, e6, hcb, hcp, hn⟩ := open_cert_cells h6 (fun n hn => hfit n (by simp [DataW.weights, DataW.weightsEach, Try.underlying35, hn]))
  obtain ⟨a7, e7, rfl, _⟩ := DataW.trod_int Try.underlying3 h7
  simp [cIntM, cBatchM, cHeadM, cSlotM, cCertM, Value.cells] at e0 e1 e2 e3 e4 e5 e6 e7
  obtain ⟨rfl, rfl, rfl⟩ := e3
  obtain ⟨rfl, rfl, rfl, rfl⟩ := e4
  obtain ⟨rfl, rfl, rfl⟩ := e5
  obtain ⟨rfl, rfl, rfl, rfl, rfl⟩ := e6
  subst e0 e1 e2 e7
  exact ⟨⟨a0, a1, a2, bau, bnu, hau, hrd, sau, srd, cau, crd, a7, ta, ba, pa, sa, cba, cpa, va, ss.length, tc, bl.length, bc, pl.length, pc, ds.length, sc, cbl.length, cbc, cpl.length, cpc, vl.length, vc⟩, ss, bl, pl, cbl, cpl, ds, vl, rfl, ⟨rfl, rfl, rfl, rfl, rfl, rfl, rfl, ht, hb, hp, hcb, hcp, hs, hsc, hn.ints, by have h1 := hn.le; have h2 := hn.reach; omega⟩⟩
end Go.Proofs.Ytchmfbhdnhaleaa

namespace Go.Proofs.Ytchmfbhdnhaleaa
open Go.RowKit

set_option maxRecDepth 100000 in
theorem headerF_sameM {au rd : Int} {xl bl yl pl : List Part} (h1 : Same xl bl) (h2 : Same yl pl) : headerF au rd xl yl = headerF au rd bl pl := by
  rw [headerF, headerF, digF_same h1, digF_same h2, h1.length, h2.length]
set_option maxRecDepth 100000 in
theorem certF_sameM {au rd : Int} {xl bl yl pl : List Part} {vl : List Int} (h1 : Same xl bl) (h2 : Same yl pl) : certF au rd xl yl vl = certF au rd bl pl vl := by
  rw [certF, certF, headerF_sameM h1 h2]
/-- The same message elsewhere in memory. -/
def moved (m : Msg) (xa ya za ua va qa ra : Option Addr) (xc yc zc uc vc qc rc : Nat) : Msg := { m with bta := xa, btc := xc, hba := ya, hbc := yc, hpa := za, hpc := zc, sda := ua, sdc := uc, cba := va, cbc := vc, cpa := qa, cpc := qc, cva := ra, cvc := rc }
set_option maxRecDepth 100000 in
theorem moved_check (m : Msg) (xa ya za ua va qa ra : Option Addr) (xc yc zc uc vc qc rc : Nat) (e : Int) : checkF (moved m xa ya za ua va qa ra xc yc zc uc vc qc rc) e = checkF m e := by
  have h : msgEmpty (strip (moved m xa ya za ua va qa ra xc yc zc uc vc qc rc)) = msgEmpty (strip m) := by
    by_cases k1 : m.ki = 1
    · simp [strip, moved, msgEmpty, k1]
    by_cases k2 : m.ki = 2
    · simp [strip, moved, msgEmpty, k2]
    by_cases k3 : m.ki = 3
    · simp [strip, moved, msgEmpty, k3]
    by_cases k4 : m.ki = 4
    · simp [strip, moved, msgEmpty, k4]
    · simp [strip, moved, msgEmpty, k1, k2, k3, k4]
  rw [checkF, checkF, h]
  rfl
set_option maxRecDepth 100000 in
theorem moved_carried (m : Msg) (xa ya za ua va qa ra : Option Addr) (xc yc zc uc vc qc rc : Nat) (ss : List ByteArray) (yl zl xl ql bl pl cbl cpl : List Part) (vl : List Int) (h1 : Same yl bl) (h2 : Same zl pl) (h3 : Same xl cbl) (h4 : Same ql cpl) :
    carriedF (moved m xa ya za ua va qa ra xc yc zc uc vc qc rc) ss yl zl xl ql vl = carriedF m ss bl pl cbl cpl vl := by
  rw [carriedF, carriedF, headerF_sameM h1 h2, certF_sameM h3 h4]
  rfl
set_option maxRecDepth 100000 in
theorem MsgIn.toAt {w : World} {m : Msg} {ss : List ByteArray} {bl pl cbl cpl : List Part} {ds vl : List Int} (h : MsgIn w m ss bl pl cbl cpl ds vl) : MsgAt w m ss bl pl cbl cpl vl :=
  ⟨h.e1, h.e2, h.e3, h.e4, h.e5, h.e6, by have := h.txs.le; have := h.txs.reach; omega, by have := h.votr; omega, by have := h.e7; have := h.dig.le; have := h.digr; omega, h.txs.strs, h.bat.list, h.par.list, h.cbat.list, h.cpar.list, h.vot⟩
end Go.Proofs.Ytchmfbhdnhaleaa

namespace Go.Proofs.Ytchmfbhdnhaleaa
open Go.RowKit

set_option maxRecDepth 100000 in
theorem moved_rec (m : Msg) (xa ya za ua va qa ra : Option Addr) (xc yc zc uc vc qc rc : Nat) (e : Int) : recF (moved m xa ya za ua va qa ra xc yc zc uc vc qc rc) e = recF m e := rfl
set_option maxRecDepth 100000 in
set_option maxHeartbeats 1000000 in
theorem tapeChecks_walk (m : Msg) (ss : List ByteArray) (bl pl cbl cpl : List Part) (ds vl : List Int) (w : World) (H : MsgIn w m ss bl pl cbl cpl ds vl) :
    Calls Try.prog 3 #[.agg #[.int .i64 m.fr, .int .i64 m.tt, .int .i64 m.ki, .int .i64 m.bau, .int .i64 m.bnu, .slice m.bta m.btn m.btc, .int .i64 m.hau, .int .i64 m.hrd, .slice m.hba m.hbn m.hbc, .slice m.hpa m.hpn m.hpc, .int .i64 m.sau, .int .i64 m.srd, .slice m.sda m.sdn m.sdc, .int .i64 m.cau, .int .i64 m.crd, .slice m.cba m.cbn m.cbc, .slice m.cpa m.cpn m.cpc, .slice m.cva m.cvn m.cvc, .int .i64 m.ro]] w fun e w' => e = .returned (.bool true) ∧ Below w.heap.size w w' := by
  have hA : Below w.heap.size w (w.alloc (.cells #[.int .i64 m.fr, .int .i64 m.tt, .int .i64 m.ki, .int .i64 m.bau, .int .i64 m.bnu, .slice m.bta m.btn m.btc, .int .i64 m.hau, .int .i64 m.hrd, .slice m.hba m.hbn m.hbc, .slice m.hpa m.hpn m.hpc, .int .i64 m.sau, .int .i64 m.srd, .slice m.sda m.sdn m.sdc, .int .i64 m.cau, .int .i64 m.crd, .slice m.cba m.cbn m.cbc, .slice m.cpa m.cpn m.cpc, .slice m.cva m.cvn m.cvc, .int .i64 m.ro] 35)) := (Below.refl _ _).alloc (Nat.le_refl _) _
  have q0 := heap_alloc_new w (.cells #[.int .i64 m.fr, .int .i64 m.tt, .int .i64 m.ki, .int .i64 m.bau, .int .i64 m.bnu, .slice m.bta m.btn m.btc, .int .i64 m.hau, .int .i64 m.hrd, .slice m.hba m.hbn m.hbc, .slice m.hpa m.hpn m.hpc, .int .i64 m.sau, .int .i64 m.srd, .slice m.sda m.sdn m.sdc, .int .i64 m.cau, .int .i64 m.crd, .slice m.cba m.cbn m.cbc, .slice m.cpa m.cpn m.cpc, .slice m.cva m.cvn m.cvc, .int .i64 m.ro] 35)
  go_enter Try.func3, Try.ntmps3
  go_wp2_with (refine wpList_load_row rfl 35 _ rfl w.heap.size rfl 35 #[.int .i64 m.fr, .int .i64 m.tt, .int .i64 m.ki, .int .i64 m.bau, .int .i64 m.bnu, .slice m.bta m.btn m.btc, .int .i64 m.hau, .int .i64 m.hrd, .slice m.hba m.hbn m.hbc, .slice m.hpa m.hpn m.hpc, .int .i64 m.sau, .int .i64 m.srd, .slice m.sda m.sdn m.sdc, .int .i64 m.cau, .int .i64 m.crd, .slice m.cba m.cbn m.cbc, .slice m.cpa m.cpn m.cpc, .slice m.cva m.cvn m.cvc, .int .i64 m.ro] (0, 0) _ q0 Try.underlying35 rfl sMsg' ?_)
  refine (messages_any m ss bl pl cbl cpl ds vl _ (H.below hA)).mono ?_
  rintro e w1 ⟨xa, xc, ya, yc, yl, za, zc, zl, ua, uc, va, vc, xl, qa, qc, ql, ra, rc, he, hS1, hS2, hS3, hS4, h1, h2, h3, h4, h5, h6, h7, hb1⟩
  rw [← H.e1, ← H.e2, ← H.e3, ← H.e4, ← H.e5, ← H.e6, ← H.e7] at he
  subst he
  dsimp only
  have hat := H.toAt
  have hC := tapeCheck_any (moved m xa ya za ua va qa ra xc yc zc uc vc qc rc) ss yl zl xl ql vl w1 ⟨H.e1, by rw [hS1.length]; exact H.e2, by rw [hS2.length]; exact H.e3, by rw [hS3.length]; exact H.e4, by rw [hS4.length]; exact H.e5, H.e6, hat.s1, hat.s6, hat.s7, h1, h2, h3, h5, h6, h7⟩
  rw [moved_check, moved_carried _ _ _ _ _ _ _ _ _ _ _ _ _ _ _ _ _ _ _ _ _ _ _ _ _ hS1 hS2 hS3 hS4, moved_rec] at hC
  generalize hR : checkF m (carriedF m ss bl pl cbl cpl vl) = R at *
  go_wp2_with fail
  refine hC.mono ?_
  rintro e w2 ⟨he, hb2⟩
  subst he
  dsimp only
  have hb12 := hb1.trans (hb2.mono hb1.size)
  have q2 := (hb12.block _ (lt_of_heap q0)).trans q0
  have hB2 := hA.trans (hb12.mono hA.size)
  have hM := recordFault_any m ss bl pl cbl cpl vl w2 (hat.below hB2)
  rw [hR] at hM
  clear hR
  go_wp2_with (refine wpList_load_row rfl 35 _ rfl w.heap.size rfl 35 #[.int .i64 m.fr, .int .i64 m.tt, .int .i64 m.ki, .int .i64 m.bau, .int .i64 m.bnu, .slice m.bta m.btn m.btc, .int .i64 m.hau, .int .i64 m.hrd, .slice m.hba m.hbn m.hbc, .slice m.hpa m.hpn m.hpc, .int .i64 m.sau, .int .i64 m.srd, .slice m.sda m.sdn m.sdc, .int .i64 m.cau, .int .i64 m.crd, .slice m.cba m.cbn m.cbc, .slice m.cpa m.cpn m.cpc, .slice m.cva m.cvn m.cvc, .int .i64 m.ro] (0, 0) _ q2 Try.underlying35 rfl sMsg' ?_)
  refine hM.mono ?_
  rintro e w3 ⟨he, hb3⟩
  subst he
  dsimp only
  go_wp2_with fail
  go_ret
  exact ⟨by simp, hB2.trans (hb3.mono hB2.size)⟩
end Go.Proofs.Ytchmfbhdnhaleaa

namespace Go.Proofs.Ytchmfbhdnhaleaa.tapeChecks
open Go.ChangeShapes Go.WideShapes Go.ChangeAt Go.RowKit

set_option maxRecDepth 100000 in
/-- What the walk gives, for every argument and every world. -/
theorem contract (H : Type) (enc : TypeId × Value → H) (W : World) (base : Nat) (args : Array Value) (ds gs : List (DataW H)) (before : List MemPlace)
    (hval : ∀ (j : Nat) t v, Try.f3.params[j]? = some t → args[j]? = some v → Value.okWide Try.prog W .any base t v)
    (hW : DataW.Whole enc Try.prog Try.f3.params.toList Rows.tapeChecksSpec.vars false W args.toList ds gs before) (hsz : (DataW.weightsEach Try.prog (Try.f3.params.toList ++ (OpenSpec.ofChange Rows.tapeChecksSpec).bare.plain.varTypes Try.prog) (ds ++ gs)).all (· ≤ reachBytes) = true) (_hL : laidMetH Try.prog Rows.tapeChecksRow.laid W) :
    Calls Try.prog 3 args W fun e W' => ∃ v, e = .returned v ∧ Rows.tapeChecksSpec.post enc Try.prog Try.f3 false true false false W args v W' := by
  have hW' := hW
  obtain ⟨p, q, hA0, hV, rfl, hfz, hnd⟩ := hW
  have hA : DataW.TrodAll enc Try.prog W 0 (fun _ => true) true Try.f3.params.toList args.toList ds p := hA0
  rw [Try.params3] at hA hval hsz
  obtain ⟨v0, vs0, d0, ds0, p0, q0, hargs, rfl, rfl, h0, r0⟩ := trodAll_cons hA
  obtain ⟨rfl, rfl, rfl⟩ := trodAll_nil r0
  obtain rfl : args = #[v0] := by cases args; simp_all
  obtain ⟨rfl, rfl⟩ := trodVars_none hV
  have k0 := h0
  have lt0 : ∀ x ∈ p0, x.block < W.heap.size := by obtain ⟨m, hm⟩ := k0; exact DataW.trod_lt m _ _ _ hm
  obtain ⟨m0, ss0, bl0, pl0, cbl0, cpl0, ds0, vl0, rfl, q0_0⟩ := open_message (hval 0 35 v0 rfl rfl) h0 (fit_each hsz (j := 0) rfl rfl)
  clear hA0
  refine (tapeChecks_walk m0 ss0 bl0 pl0 cbl0 cpl0 ds0 vl0 W q0_0).mono fun e W' ⟨he, bel⟩ => ?_
  subst he
  exact ⟨_, rfl, _, _, _, [], _, [], hW', trodAll_mk1 (shut_bool Try.underlying4 _), (trodAll_cons_mk (Below.trod laidOut (by kernel_rfl) (of_decide_eq_true (by kernel_rfl)) k0 bel lt0) trodAll_mk0), rfl, bel.frame _, fun h => by cases h⟩

set_option maxRecDepth 100000 in
theorem laid_met (os : Os) : laidMet Try.prog Rows.tapeChecksRow.laid ((World.holding Try.prog os ⟨#[], #[], []⟩).forCall (fun _ _ => 0) ⟨#[], #[.agg #[.int .i64 0, .int .i64 0, .int .i64 0, .int .i64 0, .int .i64 0, .slice none 0 0, .int .i64 0, .int .i64 0, .slice none 0 0, .slice none 0 0, .int .i64 0, .int .i64 0, .slice none 0 0, .int .i64 0, .int .i64 0, .slice none 0 0, .slice none 0 0, .slice none 0 0, .int .i64 0]], []⟩).memory :=
  laidMet_of_run' 8 (by kernel_rfl) (by kernel_rfl)
set_option maxRecDepth 100000 in
theorem reads (os : Os) {H : Type} (enc : TypeId × Value → H) : ∃ places, DataW.whole enc Try.prog ((World.holding Try.prog os ⟨#[], #[], []⟩).forCall (fun _ _ => 0) ⟨#[], #[.agg #[.int .i64 0, .int .i64 0, .int .i64 0, .int .i64 0, .int .i64 0, .slice none 0 0, .int .i64 0, .int .i64 0, .slice none 0 0, .slice none 0 0, .int .i64 0, .int .i64 0, .slice none 0 0, .int .i64 0, .int .i64 0, .slice none 0 0, .slice none 0 0, .slice none 0 0, .int .i64 0]], []⟩).memory Try.f3.params.toList Rows.tapeChecksSpec.vars false (#[.agg #[.int .i64 0, .int .i64 0, .int .i64 0, .int .i64 0, .int .i64 0, .slice none 0 0, .int .i64 0, .int .i64 0, .slice none 0 0, .slice none 0 0, .int .i64 0, .int .i64 0, .slice none 0 0, .int .i64 0, .int .i64 0, .slice none 0 0, .slice none 0 0, .slice none 0 0, .int .i64 0]] : Array Value).toList 8 = some ([.agg [.lit (.int .i64 0), .lit (.int .i64 0), .lit (.int .i64 0), .agg [.lit (.int .i64 0), .lit (.int .i64 0), .nil], .agg [.lit (.int .i64 0), .lit (.int .i64 0), .nil, .nil], .agg [.lit (.int .i64 0), .lit (.int .i64 0), .nil], .agg [.agg [.lit (.int .i64 0), .lit (.int .i64 0), .nil, .nil], .nil], .lit (.int .i64 0)]], [], places) :=
  ⟨[], by kernel_rfl⟩

set_option maxRecDepth 100000 in
theorem lifted (os : Os) (started : os.Started) (H : Type) (enc : TypeId × Value → H) (F : Stop.Interp) :
    ReturnsInHanded {} Try.checked os 3 .any ((OpenSpec.ofChange Rows.tapeChecksSpec).preRow enc Try.prog Try.f3 Rows.tapeChecksRow.domain false Rows.tapeChecksRow.laid) (((OpenSpec.ofChange Rows.tapeChecksSpec).at F).post enc Try.prog Try.f3 false true false false) := by
  obtain ⟨places, hx⟩ := reads os enc
  refine returnsInHanded_of_row (C := Try.checked) (s := OpenSpec.ofChange Rows.tapeChecksSpec) own started (by kernel_rfl) Try.func3
    (witness_row_at (enc := enc) (C := Try.checked) false (World.holding Try.prog os ⟨#[], #[], []⟩) #[.agg #[.int .i64 0, .int .i64 0, .int .i64 0, .int .i64 0, .int .i64 0, .slice none 0 0, .int .i64 0, .int .i64 0, .slice none 0 0, .slice none 0 0, .int .i64 0, .int .i64 0, .slice none 0 0, .int .i64 0, .int .i64 0, .slice none 0 0, .slice none 0 0, .slice none 0 0, .int .i64 0]] rfl (by kernel_rfl) (by kernel_rfl) (by kernel_rfl)
      (OpenSpec.preRow_of_cond 8 hx (by kernel_rfl) (fun k hk => by cases hk) (by kernel_rfl) (laid_met os))) ?_
  intro W base args ds gs before hval hW _ _ hsz hL _ _
  exact contract H enc W base args ds gs before hval hW hsz hL

set_option maxRecDepth 100000 in
theorem said : Rows.TapeChecksSaid :=
  OpenClaim.holds_of_cond 3 Try.f3 rfl rfl rfl rfl rfl rfl rfl ⟨rfl, rfl, rfl, rfl, rfl⟩ rfl rfl rfl rfl rfl (by kernel_rfl) Try.func3 (by kernel_rfl)
    (of_decide_eq_true (by kernel_rfl)) (by unfold Func.isWrapper; first | (rw [if_pos (by decide +kernel)]; kernel_rfl) | (rw [if_neg (by decide +kernel)]; exact ⟨rfl, rfl⟩))
    (fun os started H enc _ F => by rw [OpenClaim.pre_eq_preRow]; exact lifted os started H enc F)

end Go.Proofs.Ytchmfbhdnhaleaa.tapeChecks
namespace Go.Proofs.Ytchmfbhdnhaleaa
set_option maxRecDepth 100000 in
theorem tapeChecks_holds : Rows.TapeChecksSaid := tapeChecks.said
#print axioms tapeChecks_holds
end Go.Proofs.Ytchmfbhdnhaleaa
