/- Lists of lists of bytes that a call makes. -/
import Derived.Test.YtldlknmpkoebbaaPK
import Derived.ProofKit
import Derived.OpenShut
import Derived.SizedLaws
import Derived.Test.YtldlknmpkoebbaaStrsAt
import Derived.Deep.Strs
import Derived.Test.YtldlknmpkoebbaaApp
import Derived.Test.YtldlknmpkoebbaaSx
import Derived.Maps.AppendAt
import Derived.Shelf.Abstract
import Derived.Deep.RegionHeld
import Derived.Deep.RegionHeld3
import Derived.Laws.Rows
import Derived.Laws.Tables
import Derived.Test.YtldlknmpkoebbaaLAt
namespace Go.Proofs.Ytldlknmpkoebbaa
open Go.ChangeShapes Go.WideShapes Go.ChangeAt Go.RowKit

set_option maxRecDepth 100000 in
theorem cU8 : Try.prog.cellsOf 5 = 1 := by kernel_rfl
set_option maxRecDepth 100000 in
theorem own : ownKnob Try.prog.godebug = none := by kernel_rfl
set_option maxRecDepth 100000 in
theorem laidOut : laidOutB Try.prog = true := by kernel_rfl
/-- Each is a byte. -/
def AllU8 (bs : List Int) : Prop := ∀ x ∈ bs, 0 ≤ x ∧ x ≤ 255
set_option maxRecDepth 100000 in
theorem open_bytes_cells {H : Type} {enc : TypeId × Value → H} {W : World} {fuel : Nat} {cs : List Value} {x : DataW H × List MemPlace}
    (hf : DataW.trod enc Try.prog W 0 (fun _ => true) true fuel 22 cs = some x) :
    ∃ sa cap bs, cs = [.slice sa (List.length bs) cap] ∧ SliceAt W sa cap bs ∧ AllU8 bs := by
  rcases open_ints Try.underlying22 Try.underlying5 cU8 hf with ⟨rfl, _⟩ | ⟨x, len0, cap0, zs, rfl, _, hl, hm, hz, _, hcell, hwz⟩
  · exact ⟨none, 0, [], rfl, ⟨Nat.le_refl _, by decide, .inl rfl, fun _ => rfl, .inl rfl⟩, fun x hx => by cases hx⟩
  · simp only [if_true] at hz
    have hlen : (zs.take len0).length = len0 := by rw [List.length_take, hz]; omega
    refine ⟨some x, cap0, zs.take len0, by rw [hlen], ?_, fun y hy => bounds_u8 (hwz y (List.mem_of_mem_take hy))⟩
    rcases Nat.eq_zero_or_pos cap0 with h0 | h0
    · subst h0
      obtain rfl : len0 = 0 := by omega
      exact ⟨by simp, hm, .inl rfl, fun _ => rfl, .inl (by simp)⟩
    · obtain ⟨b, off, rfl, hc⟩ := ints_at hcell (by omega)
      refine ⟨by omega, hm, .inr ⟨b, off, rfl⟩, (fun e => by cases e), .inr ⟨b, off, rfl, fun j hj => ?_⟩⟩
      rw [hc j (by omega)]
      have : j < len0 := by omega
      simp [List.getD, this]
set_option maxRecDepth 100000 in
theorem open_bytes {H : Type} {enc : TypeId × Value → H} {W : World} {base : Nat} {v : Value} {d : DataW H} {p : List MemPlace}
    (hv : Value.okWide Try.prog W .any base 22 v) (h : DataW.Trod enc Try.prog W 0 (fun _ => true) true 22 v d p) :
    ∃ sa cap bs, v = .slice sa (List.length bs) cap ∧ SliceAt W sa cap bs ∧ AllU8 bs := by
  obtain ⟨a0, len0, cap0, rfl⟩ := okWide_slice Try.underlying22 hv
  obtain ⟨fuel, hf⟩ := h
  obtain ⟨sa, cap, bs, hcs, h1, h2⟩ := open_bytes_cells hf
  simp [Value.cells] at hcs
  obtain ⟨rfl, rfl, rfl⟩ := hcs
  exact ⟨_, _, bs, rfl, h1, h2⟩
set_option maxRecDepth 100000 in
theorem bU8 : Try.prog.bytesOf 5 = 1 := by kernel_rfl
set_option maxRecDepth 100000 in
/-- The form's own reach, of one argument. -/
theorem fit_each {H : Type} {ts : List TypeId} {ds : List (DataW H)} (h : (DataW.weightsEach Try.prog ts ds).all (· ≤ reachBytes) = true) {j : Nat} {t : TypeId} {d : DataW H} (ht : ts[j]? = some t) (hd : ds[j]? = some d) : ∀ n ∈ d.weights Try.prog t, n ≤ reachBytes := fun n hn => by
  simpa using List.all_eq_true.1 h n (DataW.weights_mem_each ht hd n hn)
set_option maxRecDepth 100000 in
/-- A slice of bytes has room for so many. -/
theorem bytes_fit {H : Type} {enc : TypeId × Value → H} {W : World} {fuel : Nat} {cs : List Value} {x : DataW H × List MemPlace} {sa : Option Addr} {n cap : Nat}
    (hf : DataW.trod enc Try.prog W 0 (fun _ => true) true fuel 22 cs = some x) (hfit : ∀ n ∈ x.1.weights Try.prog 22, n ≤ reachBytes) (e : cs = [.slice sa n cap]) : cap ≤ 140737488351232 := by
  rcases open_ints Try.underlying22 Try.underlying5 cU8 hf with ⟨rfl, _⟩ | ⟨a, len, cap', zs, rfl, _, hl, hm, hz, rfl, _, _⟩
  · simp at e
    omega
  · simp at e
    obtain ⟨_, rfl, rfl⟩ := e
    have := hfit (((zs.take len).length + (zs.drop len).length) * Try.prog.bytesOf 5) (by simp [DataW.weights, Try.underlying22, lits])
    rw [bU8] at this
    simp only [if_true] at hz
    simp [reachBytes] at this
    omega
end Go.Proofs.Ytldlknmpkoebbaa

namespace Go.Proofs.Ytldlknmpkoebbaa
open Go.ChangeShapes Go.WideShapes Go.ChangeAt Go.RowKit Go.Deep

/-- What is read of a slice of texts that came in. -/
structure TextsAt (w : World) (sa : Option Addr) (cap : Nat) (ss : List ByteArray) : Prop where
  le : ss.length ≤ cap
  reach : cap * 16 ≤ 140737488351232
  nil : sa = none → cap = 0
  strs : StrsAt w sa ss
set_option maxRecDepth 100000 in
theorem TextsAt.below {w w' : World} {sa : Option Addr} {cap : Nat} {ss : List ByteArray} (h : TextsAt w sa cap ss) (hb : Below w.heap.size w w') : TextsAt w' sa cap ss := ⟨h.le, h.reach, h.nil, h.strs.below hb⟩

set_option maxRecDepth 100000 in
theorem cStr : Try.prog.cellsOf 9 = 1 := by kernel_rfl
set_option maxRecDepth 100000 in
theorem bStr : Try.prog.bytesOf 9 = 16 := by kernel_rfl
set_option maxRecDepth 100000 in
theorem open_texts_cells {H : Type} {enc : TypeId × Value → H} {W : World} {fuel : Nat} {cs : List Value} {x : DataW H × List MemPlace}
    (hf : DataW.trod enc Try.prog W 0 (fun _ => true) true fuel 41 cs = some x) (hfit : ∀ n ∈ x.1.weights Try.prog 41, n ≤ reachBytes) :
    ∃ sa cap ss, cs = [.slice sa (List.length ss) cap] ∧ TextsAt W sa cap ss := by
  rcases open_strs Try.underlying41 Try.underlying9 cStr hf with ⟨rfl, _⟩ | ⟨a, len, cap, m, Sx, rfl, _, hl, hm, hmm, rfl, hc⟩
  · exact ⟨none, 0, [], rfl, ⟨Nat.le_refl _, by decide, fun _ => rfl, ⟨.inl rfl, fun s hs => by cases hs⟩⟩⟩
  · simp only [if_true] at hmm
    subst hmm
    have hw := hfit ((((List.range len).map fun i => (DataW.lit (.string (Sx i).data.toList) : DataW H)).length + ((List.range (m - len)).map fun j => (DataW.lit (.string (Sx (len + j)).data.toList) : DataW H)).length) * Try.prog.bytesOf 9) (by simp [DataW.weights, Try.underlying41])
    rw [bStr] at hw
    simp [reachBytes] at hw
    refine ⟨some a, m, (List.range len).map Sx, by simp, ⟨by simpa using hl, by omega, (fun e => by cases e), ⟨?_, ?_⟩⟩⟩
    · rcases Nat.eq_zero_or_pos len with h0 | h0
      · subst h0; exact .inl rfl
      · right
        have h9 := (hc 0 (by omega)).1
        obtain ⟨b, off, rfl⟩ : ∃ b off, a = ⟨b, off, none⟩ := by
          cases a with
          | mk b off spot =>
            cases spot with
            | none => exact ⟨b, off, rfl⟩
            | some s => simp [World.cell?, Addr.add] at h9; split at h9 <;> cases h9
        refine ⟨b, off, rfl, fun j hj => ?_⟩
        have hj' : j < len := by simpa using hj
        have := (hc j (by omega)).1
        rw [add_off] at this
        rw [this]
        simp [hj']
    · intro s hs
      simp at hs
      obtain ⟨j, hj, rfl⟩ := hs
      exact (hc j (by omega)).2
end Go.Proofs.Ytldlknmpkoebbaa

namespace Go.Proofs.Ytldlknmpkoebbaa
open Go.RowKit

structure Grew (w : World) (v : Value) (w' : World) (v' : Value) : Prop where
  grown : w.grownBy w' v.ownBlock
  fresh : ∀ q, v'.ownBlock = some q → v.ownBlock = some q ∨ w.heap.size ≤ q
set_option maxRecDepth 100000 in
theorem Grew.of {w w' : World} {v v' : Value} (h : w.grownBy w' v.ownBlock) (h2 : v'.ownBlock = v.ownBlock ∨ v'.ownBlock = some w.heap.size) : Grew w v w' v' :=
  ⟨h, fun q e => by
    rcases h2 with h2 | h2
    · exact .inl (h2.symm.trans e)
    · rw [h2] at e; cases e; exact .inr (Nat.le_refl _)⟩
set_option maxRecDepth 100000 in
theorem Grew.trans {w w1 w2 : World} {v v1 v2 : Value} (h : Grew w v w1 v1) (k : Grew w1 v1 w2 v2) : Grew w v w2 v2 := by
  refine ⟨⟨k.grown.os.trans h.grown.os, k.grown.tape.trans h.grown.tape, k.grown.output.trans h.grown.output, Nat.le_trans h.grown.size k.grown.size, fun q hq hne => ?_⟩, fun q e => ?_⟩
  · rw [k.grown.block q (Nat.lt_of_lt_of_le hq h.grown.size) (fun e => ?_)]
    · exact h.grown.block q hq hne
    · rcases h.fresh q e.symm with g | g
      · exact hne g.symm
      · omega
  · rcases k.fresh q e with g | g
    · exact h.fresh q g
    · exact .inr (Nat.le_trans h.grown.size g)
set_option maxRecDepth 100000 in
theorem Grew.alloc {w w' : World} {v v' : Value} {o : Obj} (h : Grew (w.alloc o) v w' v') : Grew w v w' v' := by
  refine ⟨⟨h.grown.os, h.grown.tape, h.grown.output, ?_, fun q hq hne => ?_⟩, fun q e => ?_⟩
  · exact Nat.le_trans (by simp) h.grown.size
  · rw [h.grown.block q (by rw [size_alloc]; omega) hne]
    exact ((Below.refl w.heap.size w).alloc (Nat.le_refl _) o).block q hq
  · rcases h.fresh q e with g | g
    · exact .inl g
    · exact .inr (Nat.le_trans (by simp) g)
set_option maxRecDepth 100000 in
theorem Grew.below {w w' : World} {v v' : Value} {base : Nat} (h : Grew w v w' v') (hB : base ≤ w.heap.size) (hv : ∀ q, v.ownBlock = some q → base ≤ q) : Below base w w' :=
  ⟨h.grown.os, h.grown.tape, h.grown.output, h.grown.size, fun k hk => h.grown.block k (by omega) (fun e => by have := hv k e.symm; omega)⟩
set_option maxRecDepth 100000 in
theorem Grew.row {w w' : World} {v v' : Value} {b : Nat} {o : Obj} (h : Grew w v w' v') (hb : w.heap[b]? = some o) (hne : v.ownBlock ≠ some b) : w'.heap[b]? = some o :=
  (h.grown.block b (lt_of_heap hb) (fun e => hne e.symm)).trans hb
set_option maxRecDepth 100000 in
theorem Grew.slice {w w' : World} {v v' : Value} {sa : Option Addr} {cap : Nat} {bs : List Int} (h : Grew w v w' v') (hs : SliceAt w sa cap bs) (hne : ∀ sb so, sa = some ⟨sb, so, none⟩ → v.ownBlock ≠ some sb) : SliceAt w' sa cap bs := by
  refine ⟨hs.le, hs.max, hs.some, hs.nil, ?_⟩
  rcases hs.bytes with hb | ⟨sb, so, rfl, hb⟩
  · exact .inl hb
  · exact .inr ⟨sb, so, rfl, fun j hj => (World.cell?_of_block (h.grown.block sb (block_lt_of_cell (hb j hj)) (fun e => hne sb so rfl e.symm))).trans (hb j hj)⟩
set_option maxRecDepth 100000 in
/-- 'append(b, p...)', and where the new slice lies. -/
theorem wpList_append_part_at {w : World} {ops : Array Oper} {rest : List Oper} {o : Oper} {a : Act} {Q : Exit → Act → World → Prop} (hgd : o.guard = none) (s x : Operand)
    (ho : o.op = .call { callee := .builtin .append, args := #[s, x], argTypes := #[22, 22] })
    (base : Nat) (v : Value) (n : Nat) (bs : List Int) (hs : a.eval s = v) (hown : w.ownsRow base 5 1 v n (ub bs))
    (sa : Option Addr) (m cap : Nat) (cs : List Int) (hx : a.eval x = .slice sa m cap) (hm : m = cs.length) (hp : SliceAt w sa cap cs)
    (hlen : n + m ≤ 140737488355328) (hbase : base ≤ w.heap.size)
    (h : ∀ v' w', w'.ownsRow base 5 1 v' (n + m) (ub (bs ++ cs)) → Grew w v w' v' → wpList Try.prog ops Q rest (a.put o.dst v') w') : wpList Try.prog ops Q (o :: rest) a w := by
  obtain ⟨i, hi, hz0, hz1, hz2⟩ := info_parts infoU8
  cases sa with
  | none =>
    obtain rfl := hp.nil rfl
    obtain rfl : cs = [] := List.eq_nil_of_length_eq_zero (by have := hp.le; omega)
    subst hm
    exact wpList_append_own_none hgd s x 22 ho base 5 i 1 Try.underlying22 hi v n (ub bs) hs hown hx (h v w (by simpa using hown) (Grew.of (World.grownBy.refl _ _) (.inl rfl)))
  | some ad =>
    refine wpList_append_own_at w hgd s x 22 ho base 5 i (.int .u8 0) 1 1 Try.underlying22 hi hz0 hz1 hz2 rfl (by decide) v n (ub bs) hs hown ad m cap (ub cs) hx (by rw [ub_length, hm]; omega) ?_ (u8_one cs) (by unfold maxLen; omega) (by omega) hbase (fun v' w' h1 h2 _ h4 => h v' w' (by rw [show ub (bs ++ cs) = ub bs ++ ub cs by simp [ub]]; exact h1) (Grew.of h2 h4))
    intro j u hu
    rcases hp.bytes with hb | ⟨sb, so, e, hb⟩
    · subst hb; simp [ub] at hu
    · cases e
      have hj : j < cs.length := by
        rcases Nat.lt_or_ge j cs.length with g | g
        · exact g
        · rw [List.getElem?_eq_none (by rw [ub_length]; exact g)] at hu; cases hu
      rw [add_off, hb j hj]
      simp [ub, hj] at hu
      simp [hj, hu]
set_option maxRecDepth 100000 in
/-- The same behind a guard that is met ('a && f(append(b, p...))'). -/
theorem wpList_append_part_w {w : World} {ops : Array Oper} {rest : List Oper} {o : Oper} {a : Act} {Q : Exit → Act → World → Prop} (hw : Region.wanted o (yielded ops a.tmps) = true) (s x : Operand)
    (ho : o.op = .call { callee := .builtin .append, args := #[s, x], argTypes := #[22, 22] })
    (base : Nat) (v : Value) (n : Nat) (bs : List Int) (hs : a.eval s = v) (hown : w.ownsRow base 5 1 v n (ub bs))
    (ad : Addr) (m cap : Nat) (cs : List Int) (hx : a.eval x = .slice (some ad) m cap) (hm : m = cs.length) (hp : SliceAt w (some ad) cap cs)
    (hlen : n + m ≤ 140737488355328) (hbase : base ≤ w.heap.size)
    (h : ∀ v' w', w'.ownsRow base 5 1 v' (n + m) (ub (bs ++ cs)) → w.grownBy w' v.ownBlock → wpList Try.prog ops Q rest (a.put o.dst v') w') : wpList Try.prog ops Q (o :: rest) a w := by
  obtain ⟨i, hi, hz0, hz1, hz2⟩ := info_parts infoU8
  refine wpList_step fun K hK => ?_
  rw [if_pos hw]
  refine wp_append_own w s x 22 ho base 5 i (.int .u8 0) 1 1 Try.underlying22 hi hz0 hz1 hz2 rfl (by decide) v n (ub bs) hs hown ad m cap (ub cs) hx (by rw [ub_length, hm]; omega) ?_ (u8_one cs) (by unfold maxLen; omega) (by omega) hbase (fun v' w' h1 h2 _ => hK _ _ (h v' w' (by rw [show ub (bs ++ cs) = ub bs ++ ub cs by simp [ub]]; exact h1) h2))
  intro j u hu
  rcases hp.bytes with hb | ⟨sb, so, e, hb⟩
  · subst hb; simp [ub] at hu
  · cases e
    have hj : j < cs.length := by
      rcases Nat.lt_or_ge j cs.length with g | g
      · exact g
      · rw [List.getElem?_eq_none (by rw [ub_length]; exact g)] at hu; cases hu
    rw [add_off, hb j hj]
    simp [ub, hj] at hu
    simp [hj, hu]
end Go.Proofs.Ytldlknmpkoebbaa

namespace Go.Proofs.Ytldlknmpkoebbaa
open Go.RowKit

set_option maxRecDepth 100000 in
theorem step_calls {ops : Array Oper} {o : Oper} {a : Act} {w : World} {K : Act → World → Prop} {Q : Exit → Act → World → Prop} {E : Prop}
    (hg : o.guard = none) (f : FuncId) (xs : List Operand) (ats : Array TypeId) (ho : o.op = .call { callee := .value (.func f), args := xs.toArray, argTypes := ats })
    (vs : List Value) (hv : xs.map a.eval = vs) (hent : ∀ args w, (callFunc f args).run Try.prog w = .ok (.enter f args) w)
    (R : Value → World → Prop) (hc : Calls Try.prog f vs.toArray w fun e w' => ∃ v, e = .returned v ∧ R v w') (hK : ∀ v w', R v w' → K (a.put o.dst v) w') :
    if Region.wanted o (yielded ops a.tmps) = true then Oper.wp Try.prog o a w K Q else E := by
  have hw : Region.wanted o (yielded ops a.tmps) = true := by simp [Region.wanted, hg]
  rw [if_pos hw]
  obtain ⟨dst, op, ty, pos, after, guard⟩ := o
  simp only at ho
  subst ho
  unfold Oper.wp
  rw [execOp_call_go, List.map_toArray, hv, hent, Oper.upon_enter, show (#[] ++ vs.toArray ++ #[] : Array Value) = vs.toArray by simp]
  refine hc.mono ?_
  rintro e w' ⟨v, rfl, h⟩
  exact hK v w' h
set_option maxRecDepth 100000 in
/-- Take an operation first, its slot written out. -/
theorem take_dst {P : Program} {ops : Array Oper} {Q : Exit → Act → World → Prop} {md : Region.Mode} {S : World → Prop} {i d : Nat} {oi : Oper} {v : Value} {fuel : Nat} {listed : Array Bool} {a : Act} {w : World} (hi : ops[i]? = some oi) (hd : oi.dst = some d)
    (hs : Region.noSelect ops = true) (hf : Region.free md ops listed i = true) (hr : (Region.ready md ops listed).contains i = true)
    (hQ : ∀ c a w, Q (.panic c) (a.put (some d) v) w → Q (.panic c) a w) (hy : YieldsIf P ops S oi v a) (hS : S w)
    (h : wpAnyH P md ops Q S fuel (listed.setIfInBounds i true) (a.put (some d) v) w) : wpAnyH P md ops Q S (fuel + 1) listed a w :=
  wpAnyH_take hi hs hf hr (by rw [hd]; exact hQ) hy hS (by rw [hd]; exact h)
set_option maxRecDepth 100000 in
/-- A call with a contract as the one operation that comes up, its slot written out. -/
theorem step_calls_dst {ops : Array Oper} {o : Oper} {a : Act} {w : World} {K : Act → World → Prop} {Q : Exit → Act → World → Prop} {E : Prop}
    (hg : o.guard = none) (d : Nat) (hd : o.dst = some d) (f : FuncId) (xs : List Operand) (ats : Array TypeId) (ho : o.op = .call { callee := .value (.func f), args := xs.toArray, argTypes := ats })
    (vs : List Value) (hv : xs.map a.eval = vs) (hent : ∀ args w, (callFunc f args).run Try.prog w = .ok (.enter f args) w)
    (R : Value → World → Prop) (hc : Calls Try.prog f vs.toArray w fun e w' => ∃ v, e = .returned v ∧ R v w') (hK : ∀ v w', R v w' → K (a.put (some d) v) w') :
    if Region.wanted o (yielded ops a.tmps) = true then Oper.wp Try.prog o a w K Q else E :=
  step_calls hg f xs ats ho vs hv hent R hc (by rw [hd]; exact hK)
set_option maxRecDepth 100000 in
/-- The same for a call behind a guard that lets it by. -/
theorem step_calls_on {ops : Array Oper} {o : Oper} {a : Act} {w : World} {K : Act → World → Prop} {Q : Exit → Act → World → Prop} {E : Prop}
    (hw : Region.wanted o (yielded ops a.tmps) = true) (d : Nat) (hd : o.dst = some d) (f : FuncId) (xs : List Operand) (ats : Array TypeId) (ho : o.op = .call { callee := .value (.func f), args := xs.toArray, argTypes := ats })
    (vs : List Value) (hv : xs.map a.eval = vs) (hent : ∀ args w, (callFunc f args).run Try.prog w = .ok (.enter f args) w)
    (R : Value → World → Prop) (hc : Calls Try.prog f vs.toArray w fun e w' => ∃ v, e = .returned v ∧ R v w') (hK : ∀ v w', R v w' → K (a.put (some d) v) w') :
    if Region.wanted o (yielded ops a.tmps) = true then Oper.wp Try.prog o a w K Q else E := by
  rw [if_pos hw]
  obtain ⟨dst, op, ty, pos, after, guard⟩ := o
  simp only at ho hd
  subst ho hd
  unfold Oper.wp
  rw [execOp_call_go, List.map_toArray, hv, hent, Oper.upon_enter, show (#[] ++ vs.toArray ++ #[] : Array Value) = vs.toArray by simp]
  refine hc.mono ?_
  rintro e w' ⟨v, rfl, h⟩
  exact hK v w' h
set_option maxRecDepth 100000 in
/-- An operation that is no call, and that turns the world, as the one that comes up. -/
theorem step_run {ops : Array Oper} {o : Oper} {a : Act} {w : World} {K : Act → World → Prop} {Q : Exit → Act → World → Prop} {E : Prop}
    (hg : o.guard = none) (d : Nat) (hd : o.dst = some d) (v : Value) (w' : World) (hr : (execOp a.eval o).run Try.prog w = .ok (.value v) w') (hK : K (a.put (some d) v) w') :
    if Region.wanted o (yielded ops a.tmps) = true then Oper.wp Try.prog o a w K Q else E := by
  have hw : Region.wanted o (yielded ops a.tmps) = true := by simp [Region.wanted, hg]
  rw [if_pos hw]
  unfold Oper.wp
  rw [hr, Oper.upon_value, hd]
  exact hK
set_option maxRecDepth 100000 in
/-- An append onto a row that the call owns, as one step of such a region, and where the new slice lies. -/
theorem step_append_at {ops : Array Oper} {o : Oper} {a : Act} {w : World} {K : Act → World → Prop} {Q : Exit → Act → World → Prop} {E : Prop}
    (hg : o.guard = none) (s x : Operand) (t : TypeId) (ho : o.op = .call { callee := .builtin .append, args := #[s, x], argTypes := #[t, t] })
    (base : Nat) (e : TypeId) (i : TypeInfo) (z : Value) (size bytes : Nat) (ht : Try.prog.underlying t = some (.slice e)) (hi : Try.prog.info? e = some i) (hz : i.zero = some z)
    (hsize : i.size = size) (hby : i.bytes = bytes) (hzs : z.cells.size = size) (hsz : 0 < size)
    (v : Value) (n : Nat) (xs : List Value) (hs : a.eval s = v) (hown : w.ownsRow base e size v n xs)
    (ad : Addr) (m c : Nat) (news : List Value) (hx : a.eval x = .slice (some ad) m c) (hl : news.length = m * size) (hnews : ∀ j u, news[j]? = some u → w.cell? (ad.add j) = some u) (h1 : ∀ u ∈ news, u.oneCell' = true)
    (h63 : n + m ≤ maxLen) (hbytes : (n + m) * bytes ≤ 140737488355328) (hbase : base ≤ w.heap.size)
    (hK : ∀ v' w', w'.ownsRow base e size v' (n + m) (xs ++ news) → Grew w v w' v' → K (a.put o.dst v') w') :
    if Region.wanted o (yielded ops a.tmps) = true then Oper.wp Try.prog o a w K Q else E := by
  have hw : Region.wanted o (yielded ops a.tmps) = true := by simp [Region.wanted, hg]
  rw [if_pos hw]
  obtain ⟨v', w', hr, h2, h3, _, h5⟩ := run_append_own_at (P := Try.prog) w base t o.type e i z size bytes ht hi hz hsize hby hzs hsz v n xs hown ad m c news hl hnews h1 h63 hbytes hbase
  unfold Oper.wp execOp
  simp only [ho, resolve, invoke, builtin, Sem.run_bind, Sem.run_pure, Result.andThen_ok, List.map_toArray, List.map_cons, List.map_nil, hs, hx, hr]
  exact hK v' w' h2 (Grew.of h3 h5)
end Go.Proofs.Ytldlknmpkoebbaa

namespace Go.Proofs.Ytldlknmpkoebbaa
open Go.RowKit

set_option maxRecDepth 100000 in
theorem sMsg' : (Try.prog.info? 53).map (·.size) = some 19 := by kernel_rfl
set_option maxRecDepth 100000 in
/-- A struct that is stored as a row, as the one operation that comes up. -/
theorem step_store_row {ops : Array Oper} {o : Oper} {a : Act} {w : World} {K : Act → World → Prop} {Q : Exit → Act → World → Prop} {E : Prop}
    (hg : o.guard = none) (hd : o.dst = none) (ty : TypeId) (x y : Operand) (ho : o.op = .store ty x y) (g : Nat) (cells : Array Value) (hx : a.eval x = .pointer (some ⟨g, 0, none⟩)) (hy : a.eval y = .agg cells)
    (t : TypeId) (old : Array Value) (hh : w.heap[g]? = some (.cells old t (0, 0))) (hi : (Try.prog.info? ty).map (·.size) = some cells.size) (hold : old.size = cells.size) (h1 : cells.all (·.oneCell') = true) (hK : K a (w.setRow g cells)) :
    if Region.wanted o (yielded ops a.tmps) = true then Oper.wp Try.prog o a w K Q else E := by
  rw [if_pos (by simp [Region.wanted, hg])]
  exact wp_store_row ty x y ho g cells hx hy t old hh hi hold h1 (by rw [hd]; exact hK)
set_option maxRecDepth 100000 in
theorem cell_row {w : World} {b : Nat} {cs : Array Value} {k j : Nat} (h : k ≠ b) : (w.setRow b cs).cell? ⟨k, j, none⟩ = w.cell? ⟨k, j, none⟩ := World.cell?_of_block (setRow_other w b k cs h)
set_option maxRecDepth 100000 in
theorem StrsAt.setRow {w : World} {sa : Option Addr} {ss : List ByteArray} (h : StrsAt w sa ss) (b : Nat) (cs : Array Value) (hne : ∀ sb so, sa = some ⟨sb, so, none⟩ → sb ≠ b) : StrsAt (w.setRow b cs) sa ss := by
  refine ⟨?_, h.size⟩
  rcases h.cells with h | ⟨sb, so, rfl, hc⟩
  · exact .inl h
  · exact .inr ⟨sb, so, rfl, fun k hk => (cell_row (hne sb so rfl)).trans (hc k hk)⟩
set_option maxRecDepth 100000 in
theorem slice_setRow {w : World} {sa : Option Addr} {cap : Nat} {bs : List Int} (h : SliceAt w sa cap bs) (b : Nat) (cs : Array Value) (hne : ∀ sb so, sa = some ⟨sb, so, none⟩ → sb ≠ b) : SliceAt (w.setRow b cs) sa cap bs := by
  refine ⟨h.le, h.max, h.some, h.nil, ?_⟩
  rcases h.bytes with hc | ⟨sb, so, e, hc⟩
  · exact .inl hc
  · exact .inr ⟨sb, so, e, fun k hk => (cell_row (hne sb so e)).trans (hc k hk)⟩
end Go.Proofs.Ytldlknmpkoebbaa

namespace Go.Proofs.Ytldlknmpkoebbaa
open Go.RowKit

set_option maxRecDepth 100000 in
theorem infoBs : (Try.prog.info? 22).map (fun i => (i.zero, i.size, i.bytes)) = some (some (.slice none 0 0), 1, 24) := by kernel_rfl
def pv (ps : List Part) : List Value := ps.map Part.val
set_option maxRecDepth 100000 in
theorem pv_length (ps : List Part) : (pv ps).length = ps.length := by simp [pv]
/-- The same bytes, one by one. -/
def Same (ps qs : List Part) : Prop := ps.map (·.bs) = qs.map (·.bs)
set_option maxRecDepth 100000 in
theorem Same.length {ps qs : List Part} (h : Same ps qs) : ps.length = qs.length := by simpa using congrArg List.length h
/-- The lists that lie apart from a row. -/
def Apart (w : World) (B : Nat) (v : Value) (ps : List Part) : Prop := ∀ p ∈ ps, SliceAt w p.sa p.cap p.bs ∧ ∀ sb so, p.sa = some ⟨sb, so, none⟩ → B ≤ sb ∧ sb < w.heap.size ∧ v.ownBlock ≠ some sb
/-- All of it is new. -/
structure Fresh (B : Nat) (ra : Option Addr) (qs : List Part) : Prop where
  row : ∀ sb so, ra = some ⟨sb, so, none⟩ → B ≤ sb
  each : ∀ p ∈ qs, ∀ sb so, p.sa = some ⟨sb, so, none⟩ → B ≤ sb
set_option maxRecDepth 100000 in
theorem ListAt.setCell {w : World} {ra : Option Addr} {rc B : Nat} {qs : List Part} (h : ListAt w ra rc qs) (hf : Fresh B ra qs) (b j : Nat) (v : Value) (hb : b < B) : ListAt (w.setCell ⟨b, j, Option.none⟩ v) ra rc qs := by
  refine ⟨h.le, h.max, h.small, h.some, ⟨?_, fun p hp => ?_⟩⟩
  · rcases h.parts.cells with hc | ⟨sb, so, rfl, hc⟩
    · exact .inl hc
    · exact .inr ⟨sb, so, rfl, fun k hk => (World.cell?_setCell_far _ _ _ _ (by have := hf.row sb so rfl; show b ≠ sb; omega)).trans (hc k hk)⟩
  · have hs := h.parts.each p hp
    refine ⟨hs.le, hs.max, hs.some, hs.nil, ?_⟩
    rcases hs.bytes with hc | ⟨sb, so, e, hc⟩
    · exact .inl hc
    · exact .inr ⟨sb, so, e, fun k hk => (World.cell?_setCell_far _ _ _ _ (by have := hf.each p hp sb so e; show b ≠ sb; omega)).trans (hc k hk)⟩
set_option maxRecDepth 100000 in
theorem listAt_of_owns {w : World} {base n : Nat} {v : Value} {ps : List Part} (h : w.ownsRow base 22 1 v n (pv ps)) (ha : Apart w base v ps) : ∃ ra rc, v = .slice ra n rc ∧ n = ps.length ∧ (n ≤ 9000000000000000000 → ListAt w ra rc ps) ∧ Fresh base ra ps := by
  have hl : n = ps.length := by have := h.1; rw [pv_length] at this; omega
  rcases h.2 with ⟨rfl, hn⟩ | ⟨g, cap, cur, rfl, hr⟩
  · have hb : ps = [] := List.eq_nil_of_length_eq_zero (by omega)
    subst hn hb
    exact ⟨none, 0, rfl, rfl, fun _ => ⟨Nat.le_refl _, by decide, by decide, .inl rfl, ⟨.inl rfl, fun p hp => by cases hp⟩⟩, ⟨(fun _ _ e => by cases e), (fun p hp => by cases hp)⟩⟩
  · refine ⟨some ⟨g, 0, none⟩, cap, rfl, hl, fun hm => ⟨?_, ?_, by omega, .inr ⟨g, 0, rfl⟩, ⟨.inr ⟨g, 0, rfl, fun j hj => ?_⟩, fun p hp => (ha p hp).1⟩⟩, ⟨(fun sb so e => by cases e; exact (h.lt _ rfl).1), (fun p hp sb so e => ((ha p hp).2 sb so e).1)⟩⟩
    · obtain ⟨_, _, h1, _⟩ := hr
      omega
    · obtain ⟨_, _, _, h2, _⟩ := hr
      exact h2
    · rw [Nat.zero_add, World.ownsRow.cellAt h j (by omega)]
      simp [pv, Part.val, hj]

set_option maxRecDepth 100000 in
theorem owns_keep {w w' : World} {base n : Nat} {e : TypeId} {s : Nat} {v : Value} {xs : List Value} (h : w.ownsRow base e s v n xs) (hb : Below w.heap.size w w') : w'.ownsRow base e s v n xs := by
  have hB : ∀ q, v.ownBlock = some q → q < w.heap.size := fun q e => (h.lt q e).2
  obtain ⟨h1, h2⟩ := h
  refine ⟨h1, ?_⟩
  rcases h2 with h2 | ⟨g, cap, cur, rfl, hg, hc, r⟩
  · exact .inl h2
  · exact .inr ⟨g, cap, cur, rfl, hg, (hb.block g (hB g rfl)).trans hc, r⟩
set_option maxRecDepth 100000 in
theorem nilSlice (w : World) : SliceAt w none 0 [] := ⟨Nat.le_refl _, by decide, .inl rfl, fun _ => rfl, .inl rfl⟩
set_option maxRecDepth 100000 in
/-- One list more: it lies apart, too. -/
theorem Apart.more_at {w w2 w3 : World} {B : Nat} {v v1 : Value} {qs : List Part} {q : Part} {o : Obj} {n sz : Nat} {e : TypeId} {xs : List Value} (h : Apart w B v qs) (hB : B ≤ w.heap.size) (ho : w.ownsRow B e sz v n xs) (hb2 : Below w.heap.size w w2)
    (hq : ∀ sb so, q.sa = some ⟨sb, so, none⟩ → w.heap.size ≤ sb ∧ sb < w2.heap.size) (hs2 : SliceAt w2 q.sa q.cap q.bs) (G : Grew (w2.alloc o) v w3 v1) : Apart w3 B v1 (qs ++ [q]) := by
  have hA : Below w2.heap.size w2 (w2.alloc o) := (Below.refl _ _).alloc (Nat.le_refl _) _
  have hsz : w2.heap.size < (w2.alloc o).heap.size := by rw [size_alloc]; omega
  have h3 := G.grown.size
  have h2 := hb2.size
  intro p hp
  rcases List.mem_append.1 hp with hp | hp
  · obtain ⟨hs, ha⟩ := h p hp
    refine ⟨G.slice ((hs.below hb2).below hA) (fun sb so e => (ha sb so e).2.2), fun sb so e => ?_⟩
    obtain ⟨a1, a2, a3⟩ := ha sb so e
    refine ⟨a1, by omega, fun hv => ?_⟩
    rcases G.fresh sb hv with g | g
    · exact a3 g
    · omega
  · obtain rfl : p = q := by simpa using hp
    have hne : ∀ sb so, p.sa = some ⟨sb, so, none⟩ → w.heap.size ≤ sb ∧ sb < w2.heap.size ∧ v.ownBlock ≠ some sb := fun sb so e => by
      have hl := hq sb so e
      exact ⟨hl.1, hl.2, fun hv => by have := (ho.lt sb hv).2; omega⟩
    refine ⟨G.slice (hs2.below hA) (fun sb so e => (hne sb so e).2.2), fun sb so e => ?_⟩
    obtain ⟨a1, a2, a3⟩ := hne sb so e
    refine ⟨by omega, by omega, fun hv => ?_⟩
    rcases G.fresh sb hv with g | g
    · exact a3 g
    · omega
set_option maxRecDepth 100000 in
theorem Apart.more {w w2 w3 : World} {B : Nat} {v v1 : Value} {qs : List Part} {q : Part} {o : Obj} {k n : Nat} {e : TypeId} {xs : List Value} (h : Apart w B v qs) (hB : B ≤ w.heap.size) (ho : w.ownsRow B e 1 v n xs) (hb2 : Below w.heap.size w w2)
    (ho2 : w2.ownsRow w.heap.size 5 1 (.slice q.sa k q.cap) k (ub q.bs)) (hs2 : SliceAt w2 q.sa q.cap q.bs) (G : Grew (w2.alloc o) v w3 v1) : Apart w3 B v1 (qs ++ [q]) :=
  h.more_at hB ho hb2 (fun sb so e => ho2.lt sb (by rw [e]; rfl)) hs2 G
end Go.Proofs.Ytldlknmpkoebbaa
