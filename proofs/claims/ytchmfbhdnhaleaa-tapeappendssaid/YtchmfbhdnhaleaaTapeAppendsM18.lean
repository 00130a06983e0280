/- The document's joined: new memory with the bytes of both. -/
import Derived.Test.YtchmfbhdnhaleaaGrew
import Derived.Shelf.Abstract
import Derived.Deep.RegionHeld
import Derived.Test.YtchmfbhdnhaleaaSx
import Derived.Test.YtchmfbhdnhaleaaLAt
import Derived.Test.YtchmfbhdnhaleaaTapeAppendsM12
import Derived.Test.YtchmfbhdnhaleaaWithout
import Derived.Test.YtchmfbhdnhaleaaMsg
import Derived.ArgAppend
import Derived.Deep.RegionHeld3
import Derived.Deep.CutRange
import Derived.Deep.DeepCutAuto
import Derived.Test.YtchmfbhdnhaleaaPK
import Derived.Test.YtchmfbhdnhaleaaApp
namespace Go.Proofs.Ytchmfbhdnhaleaa
open Go.RowKit

set_option maxRecDepth 100000 in
theorem step_calls {ops : Array Oper} {o : Oper} {a : Act} {w : World} {K : Act → World → Prop} {Q : Exit → Act → World → Prop} {E : Prop}
    (hg : o.guard = none) (f : FuncId) (xs : List Operand) (ats : Array TypeId) (ho : o.op = .call { callee := .value (.func f), args := xs.toArray, argTypes := ats })
    (vs : List Value) (hv : xs.map a.eval = vs) (hent : ∀ args w, (callFunc f args).run Try.prog w = .ok (.enter f args) w)
    (R : Value → World → Prop) (hc : Calls Try.prog f vs.toArray w fun e w' => ∃ v, e = .returned v ∧ R v w') (hK : ∀ v w', R v w' → K (a.put o.dst v) w') :
    if Region.wanted o (yielded ops a.tmps) = true then Oper.wp Try.prog o a w K Q else E := by
  have hw : Region.wanted o (yielded ops a.tmps) = true := by simp [Region.wanted, hg]
  rw [if_pos hw]
  obtain ⟨dst, op, ty, pos, after, guard⟩ := o
  simp only at ho
  subst ho
  unfold Oper.wp
  rw [execOp_call_go, List.map_toArray, hv, hent, Oper.upon_enter, show (#[] ++ vs.toArray ++ #[] : Array Value) = vs.toArray by simp]
  refine hc.mono ?_
  rintro e w' ⟨v, rfl, h⟩
  exact hK v w' h
set_option maxRecDepth 100000 in
/-- Take an operation first, its slot written out. -/
theorem take_dst {P : Program} {ops : Array Oper} {Q : Exit → Act → World → Prop} {md : Region.Mode} {S : World → Prop} {i d : Nat} {oi : Oper} {v : Value} {fuel : Nat} {listed : Array Bool} {a : Act} {w : World} (hi : ops[i]? = some oi) (hd : oi.dst = some d)
    (hs : Region.noSelect ops = true) (hf : Region.free md ops listed i = true) (hr : (Region.ready md ops listed).contains i = true)
    (hQ : ∀ c a w, Q (.panic c) (a.put (some d) v) w → Q (.panic c) a w) (hy : YieldsIf P ops S oi v a) (hS : S w)
    (h : wpAnyH P md ops Q S fuel (listed.setIfInBounds i true) (a.put (some d) v) w) : wpAnyH P md ops Q S (fuel + 1) listed a w :=
  wpAnyH_take hi hs hf hr (by rw [hd]; exact hQ) hy hS (by rw [hd]; exact h)
set_option maxRecDepth 100000 in
/-- A call with a contract as the one operation that comes up, its slot written out. -/
theorem step_calls_dst {ops : Array Oper} {o : Oper} {a : Act} {w : World} {K : Act → World → Prop} {Q : Exit → Act → World → Prop} {E : Prop}
    (hg : o.guard = none) (d : Nat) (hd : o.dst = some d) (f : FuncId) (xs : List Operand) (ats : Array TypeId) (ho : o.op = .call { callee := .value (.func f), args := xs.toArray, argTypes := ats })
    (vs : List Value) (hv : xs.map a.eval = vs) (hent : ∀ args w, (callFunc f args).run Try.prog w = .ok (.enter f args) w)
    (R : Value → World → Prop) (hc : Calls Try.prog f vs.toArray w fun e w' => ∃ v, e = .returned v ∧ R v w') (hK : ∀ v w', R v w' → K (a.put (some d) v) w') :
    if Region.wanted o (yielded ops a.tmps) = true then Oper.wp Try.prog o a w K Q else E :=
  step_calls hg f xs ats ho vs hv hent R hc (by rw [hd]; exact hK)
set_option maxRecDepth 100000 in
/-- The same for a call behind a guard that lets it by. -/
theorem step_calls_on {ops : Array Oper} {o : Oper} {a : Act} {w : World} {K : Act → World → Prop} {Q : Exit → Act → World → Prop} {E : Prop}
    (hw : Region.wanted o (yielded ops a.tmps) = true) (d : Nat) (hd : o.dst = some d) (f : FuncId) (xs : List Operand) (ats : Array TypeId) (ho : o.op = .call { callee := .value (.func f), args := xs.toArray, argTypes := ats })
    (vs : List Value) (hv : xs.map a.eval = vs) (hent : ∀ args w, (callFunc f args).run Try.prog w = .ok (.enter f args) w)
    (R : Value → World → Prop) (hc : Calls Try.prog f vs.toArray w fun e w' => ∃ v, e = .returned v ∧ R v w') (hK : ∀ v w', R v w' → K (a.put (some d) v) w') :
    if Region.wanted o (yielded ops a.tmps) = true then Oper.wp Try.prog o a w K Q else E := by
  rw [if_pos hw]
  obtain ⟨dst, op, ty, pos, after, guard⟩ := o
  simp only at ho hd
  subst ho hd
  unfold Oper.wp
  rw [execOp_call_go, List.map_toArray, hv, hent, Oper.upon_enter, show (#[] ++ vs.toArray ++ #[] : Array Value) = vs.toArray by simp]
  refine hc.mono ?_
  rintro e w' ⟨v, rfl, h⟩
  exact hK v w' h
set_option maxRecDepth 100000 in
/-- An operation that is no call, and that turns the world, as the one that comes up. -/
theorem step_run {ops : Array Oper} {o : Oper} {a : Act} {w : World} {K : Act → World → Prop} {Q : Exit → Act → World → Prop} {E : Prop}
    (hg : o.guard = none) (d : Nat) (hd : o.dst = some d) (v : Value) (w' : World) (hr : (execOp a.eval o).run Try.prog w = .ok (.value v) w') (hK : K (a.put (some d) v) w') :
    if Region.wanted o (yielded ops a.tmps) = true then Oper.wp Try.prog o a w K Q else E := by
  have hw : Region.wanted o (yielded ops a.tmps) = true := by simp [Region.wanted, hg]
  rw [if_pos hw]
  unfold Oper.wp
  rw [hr, Oper.upon_value, hd]
  exact hK
set_option maxRecDepth 100000 in
/-- An append onto a row that the call owns, as one step of such a region, and where the new slice lies. -/
theorem step_append_at {ops : Array Oper} {o : Oper} {a : Act} {w : World} {K : Act → World → Prop} {Q : Exit → Act → World → Prop} {E : Prop}
    (hg : o.guard = none) (s x : Operand) (t : TypeId) (ho : o.op = .call { callee := .builtin .append, args := #[s, x], argTypes := #[t, t] })
    (base : Nat) (e : TypeId) (i : TypeInfo) (z : Value) (size bytes : Nat) (ht : Try.prog.underlying t = some (.slice e)) (hi : Try.prog.info? e = some i) (hz : i.zero = some z)
    (hsize : i.size = size) (hby : i.bytes = bytes) (hzs : z.cells.size = size) (hsz : 0 < size)
    (v : Value) (n : Nat) (xs : List Value) (hs : a.eval s = v) (hown : w.ownsRow base e size v n xs)
    (ad : Addr) (m c : Nat) (news : List Value) (hx : a.eval x = .slice (some ad) m c) (hl : news.length = m * size) (hnews : ∀ j u, news[j]? = some u → w.cell? (ad.add j) = some u) (h1 : ∀ u ∈ news, u.oneCell' = true)
    (h63 : n + m ≤ maxLen) (hbytes : (n + m) * bytes ≤ 140737488355328) (hbase : base ≤ w.heap.size)
    (hK : ∀ v' w', w'.ownsRow base e size v' (n + m) (xs ++ news) → Grew w v w' v' → K (a.put o.dst v') w') :
    if Region.wanted o (yielded ops a.tmps) = true then Oper.wp Try.prog o a w K Q else E := by
  have hw : Region.wanted o (yielded ops a.tmps) = true := by simp [Region.wanted, hg]
  rw [if_pos hw]
  obtain ⟨v', w', hr, h2, h3, _, h5⟩ := run_append_own_at (P := Try.prog) w base t o.type e i z size bytes ht hi hz hsize hby hzs hsz v n xs hown ad m c news hl hnews h1 h63 hbytes hbase
  unfold Oper.wp execOp
  simp only [ho, resolve, invoke, builtin, Sem.run_bind, Sem.run_pure, Result.andThen_ok, List.map_toArray, List.map_cons, List.map_nil, hs, hx, hr]
  exact hK v' w' h2 (Grew.of h3 h5)
end Go.Proofs.Ytchmfbhdnhaleaa

namespace Go.Proofs.Ytchmfbhdnhaleaa
open Go.RowKit

set_option maxRecDepth 100000 in
theorem owns_shape {w : World} {base n : Nat} {e : TypeId} {s : Nat} {v : Value} {xs : List Value} (h : w.ownsRow base e s v n xs) : ∃ za zc, v = .slice za n zc := by
  rcases h.2 with ⟨rfl, hn⟩ | ⟨g, cap, cur, rfl, _⟩
  · subst hn; exact ⟨none, 0, rfl⟩
  · exact ⟨some ⟨g, 0, none⟩, cap, rfl⟩
set_option maxRecDepth 100000 in
/-- A row stays where a block below its base is rewritten. -/
theorem owns_far {w : World} {base n : Nat} {e : TypeId} {s : Nat} {v : Value} {xs : List Value} (h : w.ownsRow base e s v n xs) (b j : Nat) (x : Value) (hb : b < base) : (w.setCell ⟨b, j, none⟩ x).ownsRow base e s v n xs := by
  obtain ⟨h1, h2⟩ := h
  refine ⟨h1, ?_⟩
  rcases h2 with h2 | ⟨g, cap, cur, rfl, hg, hc, r⟩
  · exact .inl h2
  · exact .inr ⟨g, cap, cur, rfl, hg, (heap_setCell_other w ⟨b, j, none⟩ g x (by show g ≠ b; omega)).trans hc, r⟩
end Go.Proofs.Ytchmfbhdnhaleaa

namespace Go.Proofs.Ytchmfbhdnhaleaa
open Go.RowKit

set_option maxRecDepth 100000 in
theorem infoBs : (Try.prog.info? 28).map (fun i => (i.zero, i.size, i.bytes)) = some (some (.slice none 0 0), 1, 24) := by kernel_rfl
def pv (ps : List Part) : List Value := ps.map Part.val
set_option maxRecDepth 100000 in
theorem pv_length (ps : List Part) : (pv ps).length = ps.length := by simp [pv]
/-- The same bytes, one by one. -/
def Same (ps qs : List Part) : Prop := ps.map (·.bs) = qs.map (·.bs)
set_option maxRecDepth 100000 in
theorem Same.length {ps qs : List Part} (h : Same ps qs) : ps.length = qs.length := by simpa using congrArg List.length h
/-- The lists that lie apart from a row. -/
def Apart (w : World) (B : Nat) (v : Value) (ps : List Part) : Prop := ∀ p ∈ ps, SliceAt w p.sa p.cap p.bs ∧ ∀ sb so, p.sa = some ⟨sb, so, none⟩ → B ≤ sb ∧ sb < w.heap.size ∧ v.ownBlock ≠ some sb
/-- All of it is new. -/
structure Fresh (B : Nat) (ra : Option Addr) (qs : List Part) : Prop where
  row : ∀ sb so, ra = some ⟨sb, so, none⟩ → B ≤ sb
  each : ∀ p ∈ qs, ∀ sb so, p.sa = some ⟨sb, so, none⟩ → B ≤ sb
set_option maxRecDepth 100000 in
theorem ListAt.setCell {w : World} {ra : Option Addr} {rc B : Nat} {qs : List Part} (h : ListAt w ra rc qs) (hf : Fresh B ra qs) (b j : Nat) (v : Value) (hb : b < B) : ListAt (w.setCell ⟨b, j, Option.none⟩ v) ra rc qs := by
  refine ⟨h.le, h.max, h.small, h.some, ⟨?_, fun p hp => ?_⟩⟩
  · rcases h.parts.cells with hc | ⟨sb, so, rfl, hc⟩
    · exact .inl hc
    · exact .inr ⟨sb, so, rfl, fun k hk => (World.cell?_setCell_far _ _ _ _ (by have := hf.row sb so rfl; show b ≠ sb; omega)).trans (hc k hk)⟩
  · have hs := h.parts.each p hp
    refine ⟨hs.le, hs.max, hs.some, hs.nil, ?_⟩
    rcases hs.bytes with hc | ⟨sb, so, e, hc⟩
    · exact .inl hc
    · exact .inr ⟨sb, so, e, fun k hk => (World.cell?_setCell_far _ _ _ _ (by have := hf.each p hp sb so e; show b ≠ sb; omega)).trans (hc k hk)⟩
set_option maxRecDepth 100000 in
theorem listAt_of_owns {w : World} {base n : Nat} {v : Value} {ps : List Part} (h : w.ownsRow base 28 1 v n (pv ps)) (ha : Apart w base v ps) : ∃ ra rc, v = .slice ra n rc ∧ n = ps.length ∧ (n ≤ 9000000000000000000 → ListAt w ra rc ps) ∧ Fresh base ra ps := by
  have hl : n = ps.length := by have := h.1; rw [pv_length] at this; omega
  rcases h.2 with ⟨rfl, hn⟩ | ⟨g, cap, cur, rfl, hr⟩
  · have hb : ps = [] := List.eq_nil_of_length_eq_zero (by omega)
    subst hn hb
    exact ⟨none, 0, rfl, rfl, fun _ => ⟨Nat.le_refl _, by decide, by decide, .inl rfl, ⟨.inl rfl, fun p hp => by cases hp⟩⟩, ⟨(fun _ _ e => by cases e), (fun p hp => by cases hp)⟩⟩
  · refine ⟨some ⟨g, 0, none⟩, cap, rfl, hl, fun hm => ⟨?_, ?_, by omega, .inr ⟨g, 0, rfl⟩, ⟨.inr ⟨g, 0, rfl, fun j hj => ?_⟩, fun p hp => (ha p hp).1⟩⟩, ⟨(fun sb so e => by cases e; exact (h.lt _ rfl).1), (fun p hp sb so e => ((ha p hp).2 sb so e).1)⟩⟩
    · obtain ⟨_, _, h1, _⟩ := hr
      omega
    · obtain ⟨_, _, _, h2, _⟩ := hr
      exact h2
    · rw [Nat.zero_add, World.ownsRow.cellAt h j (by omega)]
      simp [pv, Part.val, hj]

set_option maxRecDepth 100000 in
theorem owns_keep {w w' : World} {base n : Nat} {e : TypeId} {s : Nat} {v : Value} {xs : List Value} (h : w.ownsRow base e s v n xs) (hb : Below w.heap.size w w') : w'.ownsRow base e s v n xs := by
  have hB : ∀ q, v.ownBlock = some q → q < w.heap.size := fun q e => (h.lt q e).2
  obtain ⟨h1, h2⟩ := h
  refine ⟨h1, ?_⟩
  rcases h2 with h2 | ⟨g, cap, cur, rfl, hg, hc, r⟩
  · exact .inl h2
  · exact .inr ⟨g, cap, cur, rfl, hg, (hb.block g (hB g rfl)).trans hc, r⟩
set_option maxRecDepth 100000 in
theorem nilSlice (w : World) : SliceAt w none 0 [] := ⟨Nat.le_refl _, by decide, .inl rfl, fun _ => rfl, .inl rfl⟩
set_option maxRecDepth 100000 in
/-- One list more: it lies apart, too. -/
theorem Apart.more_at {w w2 w3 : World} {B : Nat} {v v1 : Value} {qs : List Part} {q : Part} {o : Obj} {n sz : Nat} {e : TypeId} {xs : List Value} (h : Apart w B v qs) (hB : B ≤ w.heap.size) (ho : w.ownsRow B e sz v n xs) (hb2 : Below w.heap.size w w2)
    (hq : ∀ sb so, q.sa = some ⟨sb, so, none⟩ → w.heap.size ≤ sb ∧ sb < w2.heap.size) (hs2 : SliceAt w2 q.sa q.cap q.bs) (G : Grew (w2.alloc o) v w3 v1) : Apart w3 B v1 (qs ++ [q]) := by
  have hA : Below w2.heap.size w2 (w2.alloc o) := (Below.refl _ _).alloc (Nat.le_refl _) _
  have hsz : w2.heap.size < (w2.alloc o).heap.size := by rw [size_alloc]; omega
  have h3 := G.grown.size
  have h2 := hb2.size
  intro p hp
  rcases List.mem_append.1 hp with hp | hp
  · obtain ⟨hs, ha⟩ := h p hp
    refine ⟨G.slice ((hs.below hb2).below hA) (fun sb so e => (ha sb so e).2.2), fun sb so e => ?_⟩
    obtain ⟨a1, a2, a3⟩ := ha sb so e
    refine ⟨a1, by omega, fun hv => ?_⟩
    rcases G.fresh sb hv with g | g
    · exact a3 g
    · omega
  · obtain rfl : p = q := by simpa using hp
    have hne : ∀ sb so, p.sa = some ⟨sb, so, none⟩ → w.heap.size ≤ sb ∧ sb < w2.heap.size ∧ v.ownBlock ≠ some sb := fun sb so e => by
      have hl := hq sb so e
      exact ⟨hl.1, hl.2, fun hv => by have := (ho.lt sb hv).2; omega⟩
    refine ⟨G.slice (hs2.below hA) (fun sb so e => (hne sb so e).2.2), fun sb so e => ?_⟩
    obtain ⟨a1, a2, a3⟩ := hne sb so e
    refine ⟨by omega, by omega, fun hv => ?_⟩
    rcases G.fresh sb hv with g | g
    · exact a3 g
    · omega
set_option maxRecDepth 100000 in
theorem Apart.more {w w2 w3 : World} {B : Nat} {v v1 : Value} {qs : List Part} {q : Part} {o : Obj} {k n : Nat} {e : TypeId} {xs : List Value} (h : Apart w B v qs) (hB : B ≤ w.heap.size) (ho : w.ownsRow B e 1 v n xs) (hb2 : Below w.heap.size w w2)
    (ho2 : w2.ownsRow w.heap.size 5 1 (.slice q.sa k q.cap) k (ub q.bs)) (hs2 : SliceAt w2 q.sa q.cap q.bs) (G : Grew (w2.alloc o) v w3 v1) : Apart w3 B v1 (qs ++ [q]) :=
  h.more_at hB ho hb2 (fun sb so e => ho2.lt sb (by rw [e]; rfl)) hs2 G
end Go.Proofs.Ytchmfbhdnhaleaa

namespace Go.Proofs.Ytchmfbhdnhaleaa
open Go.RowKit

/-- P8.3: X is what is told of the record, B its bytes. -/
def appF (n : Nat) (sy X : Int) (L : Nat) : Int := if tapeOk n sy then (if X ≠ 0 then X else if 400000 < n + 2 + L then 6 else 0) else 12
def appB (bs : List Int) (F : Int) (B : List Int) : List Int := if F = 0 then bs ++ [(B.length : Int) / 256, (B.length : Int) % 256] ++ B else []
def appS (sy F : Int) : Int := if F = 0 then sy else 0
set_option maxRecDepth 100000 in
theorem appIs_bad {w w' : World} {bs B : List Int} {sy F er : Int} (hF : F = er) (h0 : er ≠ 0) (hb : Below w.heap.size w w') : TapeIs w w' (.returned (.tuple #[.agg #[.slice none 0 0, .int .i64 0], .int .i64 er])) (appB bs F B) (appS sy F) F := by
  subst hF
  rw [appB, appS, if_neg h0, if_neg h0]
  exact TapeIs.bad _ hb
set_option maxRecDepth 100000 in
theorem heap_cell_alloc {w : World} {o : Obj} {a : Addr} {v : Value} (h : w.cell? a = some v) : (w.alloc o).cell? a = some v := by
  have hl : a.block < w.heap.size := block_lt_of_cell h
  exact (((Below.refl w.heap.size w).alloc (Nat.le_refl _) o).cell hl).trans h
set_option maxRecDepth 100000 in
set_option maxHeartbeats 4000000 in
theorem tapeAppend_any (m : Msg) (bs : List Int) (sa : Option Addr) (n cap : Nat) (sy X : Int) (B : List Int) (w : World) (hn : n = bs.length) (hs : SliceAt w sa cap bs) (hl : bs.length ≤ 140737488355328) (hX : X ≠ 0 → B = []) (hX0 : X = 0 → 0 < B.length) (hBL : B.length ≤ 4000)
    (HE : ∀ W : World, Below w.heap.size w W → Calls Try.prog 25 #[.agg #[.int .i64 m.fr, .int .i64 m.tt, .int .i64 m.ki, .int .i64 m.bau, .int .i64 m.bnu, .slice m.bta m.btn m.btc, .int .i64 m.hau, .int .i64 m.hrd, .slice m.hba m.hbn m.hbc, .slice m.hpa m.hpn m.hpc, .int .i64 m.sau, .int .i64 m.srd, .slice m.sda m.sdn m.sdc, .int .i64 m.cau, .int .i64 m.crd, .slice m.cba m.cbn m.cbc, .slice m.cpa m.cpn m.cpc, .slice m.cva m.cvn m.cvc, .int .i64 m.ro]] W fun e w' => ∃ v, e = .returned (.tuple #[v, .int .i64 X]) ∧ w'.ownsRow W.heap.size 5 1 v B.length (ub B) ∧ Below W.heap.size W w') :
    Calls Try.prog 11 #[.agg #[.slice sa n cap, .int .i64 sy], .agg #[.int .i64 m.fr, .int .i64 m.tt, .int .i64 m.ki, .int .i64 m.bau, .int .i64 m.bnu, .slice m.bta m.btn m.btc, .int .i64 m.hau, .int .i64 m.hrd, .slice m.hba m.hbn m.hbc, .slice m.hpa m.hpn m.hpc, .int .i64 m.sau, .int .i64 m.srd, .slice m.sda m.sdn m.sdc, .int .i64 m.cau, .int .i64 m.crd, .slice m.cba m.cbn m.cbc, .slice m.cpa m.cpn m.cpc, .slice m.cva m.cvn m.cvc, .int .i64 m.ro]] w fun e w' => TapeIs w w' e (appB bs (appF bs.length sy X B.length) B) (appS sy (appF bs.length sy X B.length)) (appF bs.length sy X B.length) := by
  subst hn
  have HE' : Hid (∀ W : World, Below w.heap.size w W → Calls Try.prog 25 #[.agg #[.int .i64 m.fr, .int .i64 m.tt, .int .i64 m.ki, .int .i64 m.bau, .int .i64 m.bnu, .slice m.bta m.btn m.btc, .int .i64 m.hau, .int .i64 m.hrd, .slice m.hba m.hbn m.hbc, .slice m.hpa m.hpn m.hpc, .int .i64 m.sau, .int .i64 m.srd, .slice m.sda m.sdn m.sdc, .int .i64 m.cau, .int .i64 m.crd, .slice m.cba m.cbn m.cbc, .slice m.cpa m.cpn m.cpc, .slice m.cva m.cvn m.cvc, .int .i64 m.ro]] W fun e w' => ∃ v, e = .returned (.tuple #[v, .int .i64 X]) ∧ w'.ownsRow W.heap.size 5 1 v B.length (ub B) ∧ Below W.heap.size W w') := HE
  clear HE
  have HS : Hid (SliceAt w sa cap bs) := hs
  have hle := hs.le
  have hA : Below w.heap.size w (((w.alloc (.cells #[.slice sa bs.length cap, .int .i64 sy] 41)).alloc (.cells #[.int .i64 m.fr, .int .i64 m.tt, .int .i64 m.ki, .int .i64 m.bau, .int .i64 m.bnu, .slice m.bta m.btn m.btc, .int .i64 m.hau, .int .i64 m.hrd, .slice m.hba m.hbn m.hbc, .slice m.hpa m.hpn m.hpc, .int .i64 m.sau, .int .i64 m.srd, .slice m.sda m.sdn m.sdc, .int .i64 m.cau, .int .i64 m.crd, .slice m.cba m.cbn m.cbc, .slice m.cpa m.cpn m.cpc, .slice m.cva m.cvn m.cvc, .int .i64 m.ro] 35)).alloc (.cells #[.slice none 0 0, .int .i64 0] 41)) := (((Below.refl _ _).alloc (Nat.le_refl _) _).alloc (by simp) _).alloc (by simp; omega) _
  have r0 := heap_keep (o := .cells #[.slice none 0 0, .int .i64 0] 41) (heap_alloc2_old w (.cells #[.slice sa bs.length cap, .int .i64 sy] 41) (.cells #[.int .i64 m.fr, .int .i64 m.tt, .int .i64 m.ki, .int .i64 m.bau, .int .i64 m.bnu, .slice m.bta m.btn m.btc, .int .i64 m.hau, .int .i64 m.hrd, .slice m.hba m.hbn m.hbc, .slice m.hpa m.hpn m.hpc, .int .i64 m.sau, .int .i64 m.srd, .slice m.sda m.sdn m.sdc, .int .i64 m.cau, .int .i64 m.crd, .slice m.cba m.cbn m.cbc, .slice m.cpa m.cpn m.cpc, .slice m.cva m.cvn m.cvc, .int .i64 m.ro] 35))
  have r1 := heap_keep (o := .cells #[.slice none 0 0, .int .i64 0] 41) (heap_alloc2_new w (.cells #[.slice sa bs.length cap, .int .i64 sy] 41) (.cells #[.int .i64 m.fr, .int .i64 m.tt, .int .i64 m.ki, .int .i64 m.bau, .int .i64 m.bnu, .slice m.bta m.btn m.btc, .int .i64 m.hau, .int .i64 m.hrd, .slice m.hba m.hbn m.hbc, .slice m.hpa m.hpn m.hpc, .int .i64 m.sau, .int .i64 m.srd, .slice m.sda m.sdn m.sdc, .int .i64 m.cau, .int .i64 m.crd, .slice m.cba m.cbn m.cbc, .slice m.cpa m.cpn m.cpc, .slice m.cva m.cvn m.cvc, .int .i64 m.ro] 35))
  have r2 := heap_new_at ((w.alloc (.cells #[.slice sa bs.length cap, .int .i64 sy] 41)).alloc (.cells #[.int .i64 m.fr, .int .i64 m.tt, .int .i64 m.ki, .int .i64 m.bau, .int .i64 m.bnu, .slice m.bta m.btn m.btc, .int .i64 m.hau, .int .i64 m.hrd, .slice m.hba m.hbn m.hbc, .slice m.hpa m.hpn m.hpc, .int .i64 m.sau, .int .i64 m.srd, .slice m.sda m.sdn m.sdc, .int .i64 m.cau, .int .i64 m.crd, .slice m.cba m.cbn m.cbc, .slice m.cpa m.cpn m.cpc, .slice m.cva m.cvn m.cvc, .int .i64 m.ro] 35)) (.cells #[.slice none 0 0, .int .i64 0] 41) (w.heap.size + 1 + 1) (by simp)
  have hM := mayBe_any sa bs.length cap sy (((w.alloc (.cells #[.slice sa bs.length cap, .int .i64 sy] 41)).alloc (.cells #[.int .i64 m.fr, .int .i64 m.tt, .int .i64 m.ki, .int .i64 m.bau, .int .i64 m.bnu, .slice m.bta m.btn m.btc, .int .i64 m.hau, .int .i64 m.hrd, .slice m.hba m.hbn m.hbc, .slice m.hpa m.hpn m.hpc, .int .i64 m.sau, .int .i64 m.srd, .slice m.sda m.sdn m.sdc, .int .i64 m.cau, .int .i64 m.crd, .slice m.cba m.cbn m.cbc, .slice m.cpa m.cpn m.cpc, .slice m.cva m.cvn m.cvc, .int .i64 m.ro] 35)).alloc (.cells #[.slice none 0 0, .int .i64 0] 41)) hl
  have hF : appF bs.length sy X B.length = if tapeOk bs.length sy then (if X ≠ 0 then X else if 400000 < bs.length + 2 + B.length then 6 else 0) else 12 := rfl
  generalize appF bs.length sy X B.length = F at hF ⊢
  have HF : Hid _ := hF
  clear hF hs
  go_enter Try.func11, Try.ntmps11
  go_wp2_with fail
  generalize ((w.alloc (.cells #[.slice sa bs.length cap, .int .i64 sy] 41)).alloc (.cells #[.int .i64 m.fr, .int .i64 m.tt, .int .i64 m.ki, .int .i64 m.bau, .int .i64 m.bnu, .slice m.bta m.btn m.btc, .int .i64 m.hau, .int .i64 m.hrd, .slice m.hba m.hbn m.hbc, .slice m.hpa m.hpn m.hpc, .int .i64 m.sau, .int .i64 m.srd, .slice m.sda m.sdn m.sdc, .int .i64 m.cau, .int .i64 m.crd, .slice m.cba m.cbn m.cbc, .slice m.cpa m.cpn m.cpc, .slice m.cva m.cvn m.cvc, .int .i64 m.ro] 35)).alloc (.cells #[.slice none 0 0, .int .i64 0] 41) = W0 at hA r0 r1 r2 hM ⊢
  refine hM.mono ?_
  rintro e w1 ⟨he, hb1⟩
  subst he
  dsimp only
  have hB1 := hA.trans (hb1.mono hA.size)
  have p0 := (hb1.block _ (lt_of_heap r0)).trans r0
  have p1 := (hb1.block _ (lt_of_heap r1)).trans r1
  have p2 := (hb1.block _ (lt_of_heap r2)).trans r2
  clear hM r0 r1 r2 hb1 hA
  cases ht : tapeOk bs.length sy with
  | false =>
    have hF : Hid (F = 12) := by show _ = _; rw [HF.out, ht]; rfl
    have d0 : w1.cell? ⟨w.heap.size + 1 + 1, 0, none⟩ = some (.slice none 0 0) := cells_at p2 0 _ rfl
    have d1 : w1.cell? ⟨w.heap.size + 1 + 1, 1, none⟩ = some (.int .i64 0) := cells_at p2 1 _ rfl
    have f0 := frozen_at p2 0
    have f1 := frozen_at p2 1
    clear ht
    go_wp2_with fail
    refine bodyPost_ret (v := .tuple #[.agg #[.slice none 0 0, .int .i64 0], .int .i64 12]) (by simp [results, Try.results11, go_sem, d0, d1]) rfl (appIs_bad hF.out (by decide) ?_)
    exact (hB1.setCell (by simp; omega) _).setCell (by simp; omega) _
  | true =>
    obtain ⟨t1, t2, t3⟩ := tapeOk_iff.1 ht
    go_wp2_with (refine wpList_load_row rfl 35 _ rfl (w.heap.size + 1) rfl 35 _ (0, 0) _ p1 Try.underlying35 rfl sMsg ?_)
    refine (HE'.out w1 hB1).mono ?_
    rintro e w2 ⟨v, he, ho, hb2⟩
    subst he
    dsimp only
    have hB2 := hB1.trans (hb2.mono hB1.size)
    have q0 := (hb2.block _ (lt_of_heap p0)).trans p0
    have q2 := (hb2.block _ (lt_of_heap p2)).trans p2
    have hlt2 : w.heap.size + 1 + 1 < w1.heap.size := lt_of_heap p2
    clear p0 p1 p2
    by_cases hx : X = 0
    · have hLp := hX0 hx
      obtain ⟨ra, rc, hv, -, hs2⟩ := owns_form ho
      subst hv
      have c0 : w2.cell? ⟨w.heap.size, 0, none⟩ = some (.slice sa bs.length cap) := cells_at q0 0 _ rfl
      subst hx
      by_cases hbig : 400000 < bs.length + 2 + B.length
      · have hF : Hid (F = 6) := by show _ = _; rw [HF.out, ht]; simp [hbig]
        have hbigI : (400000 : Int) < (bs.length : Int) + 2 + (B.length : Int) := by omega
        have d0 : w2.cell? ⟨w.heap.size + 1 + 1, 0, none⟩ = some (.slice none 0 0) := cells_at q2 0 _ rfl
        have d1 : w2.cell? ⟨w.heap.size + 1 + 1, 1, none⟩ = some (.int .i64 0) := cells_at q2 1 _ rfl
        have f0 := frozen_at q2 0
        have f1 := frozen_at q2 1
        clear ht hX hX0 hLp hbig
        go_wp2_with fail
        refine bodyPost_ret (v := .tuple #[.agg #[.slice none 0 0, .int .i64 0], .int .i64 6]) (by simp [results, Try.results11, go_sem, d0, d1]) rfl (appIs_bad hF.out (by decide) ?_)
        exact (hB2.setCell (by simp; omega) _).setCell (by simp; omega) _
      · have hF : Hid (F = 0) := by show _ = _; rw [HF.out, ht]; simp [hbig]
        have hbigI : ¬ (400000 : Int) < (bs.length : Int) + 2 + (B.length : Int) := by omega
        have Hbig : Hid (bs.length + 2 + B.length ≤ 400000) := by show _ ≤ _; omega
        have hnc : (bs.length : Int) ≤ cap := by omega
        have hn0 : (0 : Int) ≤ bs.length := by omega
        have hL0 : (0 : Int) ≤ B.length := by omega
        have hL1 : (B.length : Int) ≤ 4000 := by omega
        have HL : Hid (0 < B.length ∧ B.length ≤ 4000) := ⟨hLp, hBL⟩
        obtain ⟨i, hi, hz0, hz1, hz2⟩ := info_parts infoU8
        have hsW := HS.out.below hB2
        clear ht hX hX0 hLp hbig hBL t1
        have hlt0 : w.heap.size < w2.heap.size := lt_of_heap q0
        have hlt2' : w.heap.size + 1 + 1 < w2.heap.size := lt_of_heap q2
        have Hnil : Hid (sa = none → bs.length = 0 ∧ bs.length = 0) := by
          show _ → _
          intro h
          have := hsW.nil h
          have := hsW.le
          omega
        have Hcell : Hid (∀ b, sa = some b → ∀ j u, (ub bs)[j]? = some u → w2.cell? (b.add j) = some u) := by
          show ∀ _, _
          intro b hb j u hu
          have hj : j < bs.length := by
            rcases Nat.lt_or_ge j bs.length with g | g
            · exact g
            · rw [List.getElem?_eq_none (by rw [ub_length]; exact g)] at hu; cases hu
          rcases hsW.bytes with h | ⟨sb, so, e, h⟩
          · rw [h] at hj; simp at hj
          · rw [hb] at e
            cases e
            rw [add_off, h j hj]
            simp [ub, hj] at hu
            simp [hj, hu]
        obtain ⟨rb, ro, hra, hrec⟩ : ∃ rb ro, ra = some ⟨rb, ro, none⟩ ∧ ∀ j, j < B.length → w2.cell? ⟨rb, ro + j, none⟩ = some (.int .u8 (B.getD j 0)) := by
          rcases hs2.bytes with h | h
          · rw [h] at HL; exact absurd HL.out.1 (by simp)
          · exact h
        subst hra
        have hrb : rb < w2.heap.size := block_lt_of_cell (hrec 0 HL.out.1)
        have Hrec : Hid (∀ j u, (ub B)[j]? = some u → w2.cell? ((⟨rb, ro, none⟩ : Addr).add j) = some u) := by
          show ∀ _, _
          intro j u hu
          have hj : j < B.length := by
            rcases Nat.lt_or_ge j B.length with g | g
            · exact g
            · rw [List.getElem?_eq_none (by rw [ub_length]; exact g)] at hu; cases hu
          rw [add_off, hrec j hj]
          simp [ub, hj] at hu
          simp [hj, hu]
        clear hrec hsW hs2 hB1 ho
        go_wp2_with (at_builtin; refine wpList_append_grows _ rfl _ _ 28 rfl 5 i (.int .u8 0) 1 1 Try.underlying28 hi hz0 hz1 hz2 rfl (by decide) sa bs.length bs.length (ub bs) rfl Hnil.out (by rw [ub_length]; omega) (fun b hb j u hu => (heap_cell_alloc (Hcell.out b hb j u hu))) ⟨w2.heap.size, 0, none⟩ 2 2 [.int .u8 ((B.length : Int) / 256), .int .u8 ((B.length : Int) % 256)] rfl rfl (cells_new _ _ _) (u8_one [_, _]) (by omega) (by unfold maxLen; omega) (by omega) ?_; intro v3 w3 ho3 hg3; have hb3 : Below w2.heap.size w2 w3 := ((Below.refl _ _).alloc (Nat.le_refl _) _).trans ((grown_none hg3).mono (le_alloc (Nat.le_refl _) _)))
        have s0 := (hb3.block _ hlt0).trans q0
        have s2 := (hb3.block _ hlt2').trans q2
        have c1 : w3.cell? ⟨w.heap.size, 1, none⟩ = some (.int .i64 sy) := cells_at s0 1 _ rfl
        have hB3 := hB2.trans (hb3.mono hB2.size)
        have ho3' : w3.ownsRow w2.heap.size 5 1 v3 (bs.length + 2) (ub (bs ++ [(B.length : Int) / 256, (B.length : Int) % 256])) := by
          have := ownsRow_base' ho3 (le_alloc (Nat.le_refl w2.heap.size) (.cells #[.int .u8 ((B.length : Int) / 256), .int .u8 ((B.length : Int) % 256)] 5))
          simpa [ub] using this
        have hne0 : v3.ownBlock ≠ some w.heap.size := fun e => by have := (ho3'.lt _ e).1; omega
        have hne2 : v3.ownBlock ≠ some (w.heap.size + 1 + 1) := fun e => by have := (ho3'.lt _ e).1; omega
        have Hrec3 : Hid (∀ j u, (ub B)[j]? = some u → w3.drew.cell? ((⟨rb, ro, none⟩ : Addr).add j) = some u) := by
          show ∀ _, _
          intro j u hu
          have h1 := Hrec.out j u hu
          exact (hb3.cell (by simpa [add_off] using hrb)).trans h1
        clear ho3 hg3 c0 q0 q2
        have hneO : ¬ w.heap.size + 1 + 1 = w.heap.size := by omega
        go_region_held3 (fun w' => w'.cell? ⟨w.heap.size, 1, none⟩ = some (.int .i64 sy)) (go_keep) ((refine step_append_at rfl _ _ 28 rfl w2.heap.size 5 i (.int .u8 0) 1 1 Try.underlying28 hi hz0 hz1 hz2 rfl (by decide) v3 (bs.length + 2) _ rfl ho3'.drew ⟨rb, ro, none⟩ B.length rc (ub B) rfl (by rw [ub_length]; omega) Hrec3.out (u8_one B) (by have := Hbig.out; unfold maxLen; omega) (by have := Hbig.out; omega) hb3.size ?_; intro v4 w4 ho4 G4; have t0 := G4.row s0 hne0; have t2 := G4.row s2 hne2; have g1 : w4.cell? ⟨w.heap.size, 1, none⟩ = some (.int .i64 sy) := cells_at t0 1 _ rfl; have e0 : w4.cell? ⟨w.heap.size + 1 + 1, 0, none⟩ = some (.slice none 0 0) := cells_at t2 0 _ rfl; have e1 : w4.cell? ⟨w.heap.size + 1 + 1, 1, none⟩ = some (.int .i64 0) := cells_at t2 1 _ rfl; have k0 := frozen_at t2 0; have k1 := frozen_at t2 1; obtain ⟨za, zc, rfl⟩ := owns_shape ho4))
        all_goals
          have ho5 : w4.ownsRow w2.heap.size 5 1 (.slice za (bs.length + 2 + B.length) zc) (bs.length + 2 + B.length) (ub (bs ++ [(B.length : Int) / 256, (B.length : Int) % 256] ++ B)) := by simpa [ub] using ho4
          have hb4 := G4.below (base := w2.heap.size) hb3.size (fun q e => (ho3'.lt q e).1)
          go_wp2_with fail
          obtain ⟨xa, xc, hv, hlen, hs5⟩ := owns_form ho5
          have hlt5 := ho5.lt
          simp only [Value.slice.injEq, true_and] at hv
          obtain ⟨rfl, rfl⟩ := hv
          have hE : appB bs F B = bs ++ [(B.length : Int) / 256, (B.length : Int) % 256] ++ B := by rw [appB, if_pos hF.out]
          have hS : appS sy F = sy := by rw [appS, if_pos hF.out]
          have h34 := hb4.size
          rw [hE, hS, hF.out]
          refine bodyPost_ret (v := .tuple #[.agg #[.slice za (bs.length + 2 + B.length) zc, .int .i64 sy], .int .i64 0]) (by simp [results, Try.results11, go_sem, e0, e1]) rfl ⟨za, zc, by rw [← hlen], ?_, ?_, ?_⟩
          · exact (hs5.setCellT _ _ _ (fun sb so e => by have := (hlt5 sb (by rw [e]; rfl)).1; omega)).setCellT _ _ _ (fun sb so e => by have := (hlt5 sb (by rw [e]; rfl)).1; omega)
          · intro sb so e
            have := hlt5 sb (by rw [e]; rfl)
            exact ⟨by have := hB2.size; omega, by simpa using this.2⟩
          · have hb34 : Below w2.heap.size w3 w4 := ⟨hb4.os, hb4.tape, hb4.output, hb4.size, hb4.block⟩
            exact ((hB3.trans (hb34.mono hB2.size)).setCell (by simp; omega) _).setCell (by simp; omega) _
    · have hF : Hid (F = X) := by show _ = _; rw [HF.out, ht]; simp [hx]
      have d0 : w2.cell? ⟨w.heap.size + 1 + 1, 0, none⟩ = some (.slice none 0 0) := cells_at q2 0 _ rfl
      have d1 : w2.cell? ⟨w.heap.size + 1 + 1, 1, none⟩ = some (.int .i64 0) := cells_at q2 1 _ rfl
      have f0 := frozen_at q2 0
      have f1 := frozen_at q2 1
      clear ht hX hX0
      go_wp2_with fail
      refine bodyPost_ret (v := .tuple #[.agg #[.slice none 0 0, .int .i64 0], .int .i64 X]) (by simp [results, Try.results11, go_sem, d0, d1]) rfl (appIs_bad hF.out hx ?_)
      exact (hB2.setCell (by simp; omega) _).setCell (by simp; omega) _
end Go.Proofs.Ytchmfbhdnhaleaa

namespace Go.Proofs.Ytchmfbhdnhaleaa
open Go.RowKit

set_option maxRecDepth 100000 in
theorem in_bool (n a b : Int) (r : Bool) (w : World) (h : r = decide (a ≤ n ∧ n ≤ b)) : Calls Try.prog 36 #[.int .i64 n, .int .i64 a, .int .i64 b] w fun e w' => e = .returned (.bool r) ∧ w = w' := by
  by_cases h1 : a ≤ n
  · by_cases h2 : n ≤ b
    · obtain rfl : r = true := by simp [h, h1, h2]
      clear h
      go_enter Try.func36, Try.ntmps36
      go_wp2
      go_ret
      exact ⟨rfl, rfl⟩
    · obtain rfl : r = false := by simp [h, h2]
      clear h
      go_enter Try.func36, Try.ntmps36
      go_wp2
      go_ret
      exact ⟨rfl, rfl⟩
  · obtain rfl : r = false := by simp [h, h1]
    clear h
    go_enter Try.func36, Try.ntmps36
    go_wp2
    go_ret
    exact ⟨rfl, rfl⟩
set_option maxRecDepth 100000 in
theorem in_true (n a b : Int) (w : World) (h : a ≤ n ∧ n ≤ b) : Calls Try.prog 36 #[.int .i64 n, .int .i64 a, .int .i64 b] w fun e w' => e = .returned (.bool true) ∧ w = w' := in_bool n a b true w (by simp [h])
set_option maxRecDepth 100000 in
theorem in_false (n a b : Int) (w : World) (h : ¬ (a ≤ n ∧ n ≤ b)) : Calls Try.prog 36 #[.int .i64 n, .int .i64 a, .int .i64 b] w fun e w' => e = .returned (.bool false) ∧ w = w' := in_bool n a b false w (by rw [decide_eq_false h])
end Go.Proofs.Ytchmfbhdnhaleaa

namespace Go.Proofs.Ytchmfbhdnhaleaa
open Go.RowKit

set_option maxRecDepth 100000 in
set_option maxHeartbeats 1000000 in
theorem joined_any (xs ys : List Int) (sa sb : Option Addr) (n m c d : Nat) (w : World) (hn : n = xs.length) (hm : m = ys.length) (ha : SliceAt w sa c xs) (hb : SliceAt w sb d ys) (hl : xs.length + ys.length ≤ 140737488355328) :
    Calls Try.prog 28 #[.slice sa n c, .slice sb m d] w fun e w' => ∃ v, e = .returned v ∧ w'.ownsRow w.heap.size 5 1 v (xs.length + ys.length) (ub (xs ++ ys)) ∧ Below w.heap.size w w' := by
  subst hn hm
  obtain ⟨i, hi, hz0, hz1, hz2⟩ := info_parts infoU8
  go_enter Try.func28, Try.ntmps28
  go_wp2_with fail
  go_loopw [6, 5] (fun j v wr => ∃ k : Nat, k ≤ xs.length ∧ j = .int .i64 k ∧ Below w.heap.size w wr ∧ wr.ownsRow w.heap.size 5 1 v (k) (ub (xs.take k))) (fun j _ _ => xs.length - (intOf j).toNat)
  case atStart => exact ⟨0, Nat.zero_le _, rfl, Below.refl _ _, World.ownsRow_nil _ _ _ _⟩
  case round =>
    obtain ⟨k, hk, rfl, hbw, ho⟩ := hrel
    by_cases hlt : k < xs.length
    · obtain ⟨tb, tq, rfl, hc⟩ : ∃ tb tq, sa = some ⟨tb, tq, none⟩ ∧ ∀ j, j < xs.length → w.cell? ⟨tb, tq + j, none⟩ = some (.int .u8 (xs.getD j 0)) := by
        rcases ha.bytes with h | h
        · rw [h] at hlt; simp at hlt
        · exact h
      have ck := (hbw.cell (p := ⟨tb, tq + k, none⟩) (block_lt_of_cell (hc k hlt))).trans (hc k hlt)
      have hltI : (k : Int) < xs.length := by omega
      have hst : Hid (xs.take (k + 1) = xs.take k ++ [xs.getD k 0]) := by
        show _ = _
        rw [List.take_succ_eq_append_getElem hlt]
        simp [List.getD, hlt]
      clear hc
      generalize xs.getD k 0 = x at ck hst
      go_wp2_with (at_builtin; refine wpList_append_own _ rfl _ _ 28 rfl w.heap.size 5 i (.int .u8 0) 1 1 Try.underlying28 hi hz0 hz1 hz2 rfl (by decide) _ (k) _ rfl (World.ownsRow.alloc ho _) ⟨wr.heap.size, 0, none⟩ 1 1 [.int .u8 x] rfl rfl (cells_new _ _ _) (u8_one [_]) (by unfold maxLen; omega) (by omega) (le_alloc hbw.size _) ?_; intro v1 w2 ho1 hg1 _)
      have hb2 := Below.grown (hbw.alloc hbw.size _) hg1 (le_alloc hbw.size _) (fun q e => (ho.lt q e).1)
      go_roundw
      case rel =>
        have hR : ∃ k' : Nat, k' ≤ xs.length ∧ (Value.int .i64 ((k : Int) + 1)) = .int .i64 k' ∧ Below w.heap.size w w2 ∧ w2.ownsRow w.heap.size 5 1 v1 (k') (ub (xs.take k')) :=
          ⟨k + 1, by omega, by go_num, hb2, by rw [hst.out]; simpa [ub, Nat.add_assoc] using ho1⟩
        first | exact hR | ((repeat apply Exists.intro); exact ⟨hR, rfl⟩)
      case measure => simp [intOf]; omega
    · obtain rfl : k = xs.length := by omega
      rw [List.take_of_length_le (Nat.le_refl _)] at ho
      go_wp2_with fail
      go_loopw [7, 5] (fun j v wr => ∃ k : Nat, k ≤ ys.length ∧ j = .int .i64 k ∧ Below w.heap.size w wr ∧ wr.ownsRow w.heap.size 5 1 v (xs.length + k) (ub (xs ++ ys.take k))) (fun j _ _ => ys.length - (intOf j).toNat)
      case atStart => exact ⟨0, Nat.zero_le _, rfl, hbw, by simpa using ho⟩
      case round =>
        clear ho hbw
        obtain ⟨k, hk, rfl, hbw, ho⟩ := hrel
        by_cases hlt : k < ys.length
        · obtain ⟨tb, tq, rfl, hc⟩ : ∃ tb tq, sb = some ⟨tb, tq, none⟩ ∧ ∀ j, j < ys.length → w.cell? ⟨tb, tq + j, none⟩ = some (.int .u8 (ys.getD j 0)) := by
            rcases hb.bytes with h | h
            · rw [h] at hlt; simp at hlt
            · exact h
          have ck := (hbw.cell (p := ⟨tb, tq + k, none⟩) (block_lt_of_cell (hc k hlt))).trans (hc k hlt)
          have hltI : (k : Int) < ys.length := by omega
          have hst : Hid (ys.take (k + 1) = ys.take k ++ [ys.getD k 0]) := by
            show _ = _
            rw [List.take_succ_eq_append_getElem hlt]
            simp [List.getD, hlt]
          clear hc
          generalize ys.getD k 0 = x at ck hst
          go_wp2_with (at_builtin; refine wpList_append_own _ rfl _ _ 28 rfl w.heap.size 5 i (.int .u8 0) 1 1 Try.underlying28 hi hz0 hz1 hz2 rfl (by decide) _ (xs.length + k) _ rfl (World.ownsRow.alloc ho _) ⟨wr.heap.size, 0, none⟩ 1 1 [.int .u8 x] rfl rfl (cells_new _ _ _) (u8_one [_]) (by unfold maxLen; omega) (by omega) (le_alloc hbw.size _) ?_; intro v1 w2 ho1 hg1 _)
          have hb2 := Below.grown (hbw.alloc hbw.size _) hg1 (le_alloc hbw.size _) (fun q e => (ho.lt q e).1)
          go_roundw
          case rel =>
            have hR : ∃ k' : Nat, k' ≤ ys.length ∧ (Value.int .i64 ((k : Int) + 1)) = .int .i64 k' ∧ Below w.heap.size w w2 ∧ w2.ownsRow w.heap.size 5 1 v1 (xs.length + k') (ub (xs ++ ys.take k')) :=
              ⟨k + 1, by omega, by go_num, hb2, by rw [hst.out]; simpa [ub, Nat.add_assoc] using ho1⟩
            first | exact hR | ((repeat apply Exists.intro); exact ⟨hR, rfl⟩)
          case measure => simp [intOf]; omega
        · obtain rfl : k = ys.length := by omega
          rw [List.take_of_length_le (Nat.le_refl _)] at ho
          go_wp2_with fail
          go_ret
          exact ⟨_, rfl, ho, hbw⟩
end Go.Proofs.Ytchmfbhdnhaleaa
