/- What sheaveskeep.Dag's walk uses: dags apart from a row, bytes as texts, regions by states. -/
import Derived.Test.YtbmodfegcmaieaaDoorGAppD
import Derived.Test.YtbmodfegcmaieaaDoorGOwnL
import Derived.Test.YtbmodfegcmaieaaDoorGCalls
import Derived.Test.YtbmodfegcmaieaaDoorGBtRow
namespace Go.Proofs.YtbmodfegcmaieaaDoor
open Go.RowKit

set_option maxRecDepth 100000 in
theorem list_drop {w : World} {sb so cap : Nat} {p : Part} {ps : List Part} (h : ListAt w (some ⟨sb, so, none⟩) cap (p :: ps)) : ListAt w (some ⟨sb, so + 1, none⟩) (cap - 1) ps := by
  have hle := h.le
  have hmx := h.max
  have hsm := h.small
  simp only [List.length_cons] at hle hsm
  refine ⟨by omega, by omega, by omega, .inr ⟨_, _, rfl⟩, ⟨.inr ⟨sb, so + 1, rfl, fun j hj => ?_⟩, fun q hq => h.parts.each q (List.mem_cons_of_mem _ hq)⟩⟩
  rcases h.parts.cells with hc | ⟨b, o, e, hc⟩
  · cases hc
  · cases e
    have := hc (j + 1) (by simpa using hj)
    rw [show so + 1 + j = so + (j + 1) by omega]
    simpa using this
end Go.Proofs.YtbmodfegcmaieaaDoor

namespace Go.Proofs.YtbmodfegcmaieaaDoor
open Go.RowKit

set_option maxRecDepth 100000 in
theorem step_append_on {ops : Array Oper} {o : Oper} {a : Act} {w : World} {K : Act → World → Prop} {Q : Exit → Act → World → Prop} {E : Prop}
    (hw : Region.wanted o (yielded ops a.tmps) = true) (d : Nat) (hd : o.dst = some d) (s x : Operand) (t : TypeId) (ho : o.op = .call { callee := .builtin .append, args := #[s, x], argTypes := #[t, t] })
    (base : Nat) (e : TypeId) (i : TypeInfo) (z : Value) (size bytes : Nat) (ht : Tryd.prog.underlying t = some (.slice e)) (hi : Tryd.prog.info? e = some i) (hz : i.zero = some z)
    (hsize : i.size = size) (hby : i.bytes = bytes) (hzs : z.cells.size = size) (hsz : 0 < size)
    (v : Value) (n : Nat) (xs : List Value) (hs : a.eval s = v) (hown : w.ownsRow base e size v n xs)
    (ad : Addr) (m c : Nat) (news : List Value) (hx : a.eval x = .slice (some ad) m c) (hl : news.length = m * size) (hnews : ∀ j u, news[j]? = some u → w.cell? (ad.add j) = some u) (h1 : ∀ u ∈ news, u.oneCell' = true)
    (h63 : n + m ≤ maxLen) (hbytes : (n + m) * bytes ≤ 140737488355328) (hbase : base ≤ w.heap.size)
    (hK : ∀ v' w', w'.ownsRow base e size v' (n + m) (xs ++ news) → Grew w v w' v' → K (a.put (some d) v') w') :
    if Region.wanted o (yielded ops a.tmps) = true then Oper.wp Tryd.prog o a w K Q else E := by
  rw [if_pos hw]
  obtain ⟨v', w', hr, h2, h3, _, h5⟩ := run_append_own_at (P := Tryd.prog) w base t o.type e i z size bytes ht hi hz hsize hby hzs hsz v n xs hown ad m c news hl hnews h1 h63 hbytes hbase
  unfold Oper.wp execOp
  simp only [ho, resolve, invoke, builtin, Sem.run_bind, Sem.run_pure, Result.andThen_ok, List.map_toArray, List.map_cons, List.map_nil, hs, hx, hr]
  rw [Oper.upon_value, hd]
  exact hK v' w' h2 (Grew.of h3 h5)
set_option maxRecDepth 100000 in
/-- An operation behind a guard that is no call, and that turns the world. -/
theorem step_run_on {ops : Array Oper} {o : Oper} {a : Act} {w : World} {K : Act → World → Prop} {Q : Exit → Act → World → Prop} {E : Prop}
    (hw : Region.wanted o (yielded ops a.tmps) = true) (d : Nat) (hd : o.dst = some d) (v : Value) (w' : World) (hr : (execOp a.eval o).run Tryd.prog w = .ok (.value v) w') (hK : K (a.put (some d) v) w') :
    if Region.wanted o (yielded ops a.tmps) = true then Oper.wp Tryd.prog o a w K Q else E := by
  rw [if_pos hw]
  unfold Oper.wp
  rw [hr, Oper.upon_value, hd]
  exact hK
set_option maxRecDepth 100000 in
/-- A store as the operation that comes up. -/
theorem step_store {ops : Array Oper} {o : Oper} {a : Act} {w : World} {K : Act → World → Prop} {Q : Exit → Act → World → Prop} {E : Prop}
    (hg : o.guard = none) (hd : o.dst = none) (w' : World) (hr : (execOp a.eval o).run Tryd.prog w = .ok .skip w') (hK : K a w') :
    if Region.wanted o (yielded ops a.tmps) = true then Oper.wp Tryd.prog o a w K Q else E := by
  have hw : Region.wanted o (yielded ops a.tmps) = true := by simp [Region.wanted, hg]
  rw [if_pos hw]
  unfold Oper.wp
  rw [hr, Oper.upon_skip, hd]
  exact hK
end Go.Proofs.YtbmodfegcmaieaaDoor

namespace Go.Proofs.YtbmodfegcmaieaaDoor
open Go.RowKit

/-- A dag lies apart from a row. -/
def DagOff (v : Value) (ka : Option Addr) (ks : List Ct) : Prop := (∀ sb so, ka = some ⟨sb, so, none⟩ → v.ownBlock ≠ some sb) ∧ ∀ c ∈ ks, ∀ q, CtIn c q → v.ownBlock ≠ some q
/-- A dag lies at B or behind it. -/
def DagNew (B : Nat) (ka : Option Addr) (ks : List Ct) : Prop := (∀ sb so, ka = some ⟨sb, so, none⟩ → B ≤ sb) ∧ ∀ c ∈ ks, ∀ q, CtIn c q → B ≤ q
set_option maxRecDepth 100000 in
theorem dagOff_none (v : Value) : DagOff v none [] := ⟨(fun _ _ e => by cases e), (fun c hc => by cases hc)⟩
set_option maxRecDepth 100000 in
theorem dagNew_none (B : Nat) : DagNew B none [] := ⟨(fun _ _ e => by cases e), (fun c hc => by cases hc)⟩
/-- What sheaveskeep.Dag answers. -/
def GrownIs (w w' : World) (e : Ending) (l : List Stp) (k : Nat) : Prop :=
  ∃ ka kc ks ba bc bl, e = .returned (.tuple #[.agg #[.slice ka (List.length ks) kc], .slice ba (List.length bl) bc]) ∧ GrownTo l k (cvs ks) ∧ DagAt w' ka kc ks ∧ DagNew w.heap.size ka ks ∧ BtsOwn w' w.heap.size (.slice ba (List.length bl) bc) bl ∧ DagOff (.slice ba (List.length bl) bc) ka ks ∧ bl.map (·.v) = bvTo l k ∧ Below w.heap.size w w'
/-- The blocks of a dag. -/
def DagIn (ka : Option Addr) (ks : List Ct) (b : Nat) : Prop := (∃ so, ka = some ⟨b, so, none⟩) ∨ ∃ c ∈ ks, CtIn c b
set_option maxRecDepth 100000 in
theorem dag_keep {w w' : World} {ka : Option Addr} {kc : Nat} {ks : List Ct} (h : DagAt w ka kc ks) (hs : w.heap.size ≤ w'.heap.size) (hk : ∀ b, DagIn ka ks b → b < w.heap.size → w'.heap[b]? = w.heap[b]?) : DagAt w' ka kc ks := by
  refine ⟨h.le, h.max, h.small, h.some, ⟨?_⟩, fun c hc => (h.each c hc).keep hs (fun q hq => hk q (.inr ⟨c, hc, hq⟩) ((h.each c hc).block_lt q hq))⟩
  rcases h.certs.cells with g | ⟨sb, so, e, g⟩
  · exact .inl g
  · refine .inr ⟨sb, so, e, fun i hi => ?_⟩
    obtain ⟨a0, a1, a2, a3, a4⟩ := g i hi
    have hb : w'.heap[sb]? = w.heap[sb]? := hk sb (.inl ⟨so, e⟩) (block_lt_of_cell a0)
    exact ⟨(World.cell?_of_block hb).trans a0, (World.cell?_of_block hb).trans a1, (World.cell?_of_block hb).trans a2, (World.cell?_of_block hb).trans a3, (World.cell?_of_block hb).trans a4⟩
set_option maxRecDepth 100000 in
theorem dag_row_lt {w : World} {ka : Option Addr} {kc : Nat} {ks : List Ct} (h : DagAt w ka kc ks) (hn : 0 < ks.length) (b so : Nat) (e : ka = some ⟨b, so, none⟩) : b < w.heap.size := by
  rcases h.certs.cells with hc | ⟨sb, so', e', hc⟩
  · rw [hc] at hn; simp at hn
  · rw [e] at e'; cases e'
    exact block_lt_of_cell (hc 0 hn).1
set_option maxRecDepth 100000 in
theorem slice_of1 {w : World} {b : Nat} {x : Int} (h : w.heap[b]? = some (.cells #[.int .u8 x] 5 (0, 0))) : SliceAt w (some ⟨b, 0, none⟩) 1 [x] := by
  refine ⟨Nat.le_refl _, by decide, .inr ⟨b, 0, rfl⟩, (fun e => by cases e), .inr ⟨b, 0, rfl, fun j hj => ?_⟩⟩
  obtain rfl : j = 0 := by simp at hj; exact hj
  simpa using cells_at h 0 _ rfl
set_option maxRecDepth 100000 in
theorem slice_of2 {w : World} {b : Nat} {x y : Int} (h : w.heap[b]? = some (.cells #[.int .u8 x, .int .u8 y] 5 (0, 0))) : SliceAt w (some ⟨b, 0, none⟩) 2 [x, y] := by
  refine ⟨Nat.le_refl _, by decide, .inr ⟨b, 0, rfl⟩, (fun e => by cases e), .inr ⟨b, 0, rfl, fun j hj => ?_⟩⟩
  have h0 := cells_at h 0 _ rfl
  have h1 := cells_at h 1 _ rfl
  match j, (show j < 2 from hj) with
  | 0, _ => simpa using h0
  | 1, _ => simpa using h1
set_option maxRecDepth 100000 in
theorem conv_one {w : World} {b : Nat} {x : Int} (h : w.heap[b]? = some (.cells #[.int .u8 x] 5 (0, 0))) : (convert 46 9 (.slice (some ⟨b, 0, none⟩) 1 1)).run Tryd.prog w = .ok (.string (bstr [x])) w := run_text w _ 1 1 [x] rfl (slice_of1 h)
set_option maxRecDepth 100000 in
theorem conv_two {w : World} {b : Nat} {x y : Int} (h : w.heap[b]? = some (.cells #[.int .u8 x, .int .u8 y] 5 (0, 0))) : (convert 46 9 (.slice (some ⟨b, 0, none⟩) 2 2)).run Tryd.prog w = .ok (.string (bstr [x, y])) w := run_text w _ 2 2 [x, y] rfl (slice_of2 h)
set_option maxRecDepth 100000 in
theorem any_named {P : Program} {md : Region.Mode} {ops : Array Oper} {Q : Exit → Act → World → Prop} {S : World → Prop} {fuel : Nat} {listed : Array Bool} {a : Act} {w : World}
    (h : ∀ GO : Nat → Array Bool → Act → World → Prop, Hid (∀ f l a w, wpAnyH P md ops Q S f l a w → GO f l a w) → Hid (∀ f l a w, GO f l a w → wpAnyH P md ops Q S f l a w) → GO fuel listed a w) : wpAnyH P md ops Q S fuel listed a w :=
  h _ (show ∀ _, _ from fun _ _ _ _ h => h) (show ∀ _, _ from fun _ _ _ _ h => h)
set_option maxRecDepth 100000 in
theorem act_named {GO : Nat → Array Bool → Act → World → Prop} {fuel : Nat} {listed : Array Bool} {a : Act} {w : World} (h : ∀ A0, Hid (a = A0) → GO fuel listed A0 w) : GO fuel listed a w := h a (show a = a from rfl)
set_option maxRecDepth 100000 in
theorem Apart.own {w w' : World} {B : Nat} {v v' : Value} {ps : List Part} (h : Apart w B v ps) (G : Grew w v w' v') : Apart w' B v' ps := fun p hp => by
  obtain ⟨hs, ha⟩ := h p hp
  refine ⟨G.slice hs (fun sb so e => (ha sb so e).2.2), fun sb so e => ?_⟩
  obtain ⟨a1, a2, a3⟩ := ha sb so e
  refine ⟨a1, Nat.lt_of_lt_of_le a2 G.grown.size, fun hv => ?_⟩
  rcases G.fresh sb hv with g | g
  · exact a3 g
  · omega
set_option maxRecDepth 100000 in
theorem Apart.far {w w' : World} {B : Nat} {u v v' : Value} {ps : List Part} (h : Apart w B u ps) (hv : Apart w B v ps) (G : Grew w v w' v') : Apart w' B u ps := fun p hp => by
  obtain ⟨hs, ha⟩ := h p hp
  refine ⟨G.slice hs (fun sb so e => ((hv p hp).2 sb so e).2.2), fun sb so e => ?_⟩
  obtain ⟨a1, a2, a3⟩ := ha sb so e
  exact ⟨a1, Nat.lt_of_lt_of_le a2 G.grown.size, a3⟩
set_option maxRecDepth 100000 in
theorem strs_of2 {w : World} {b : Nat} {x y : ByteArray} (h : w.heap[b]? = some (.cells #[.string x, .string y] 9 (0, 0))) (hx : x.size ≤ 20) (hy : y.size ≤ 20) : StrsAt w (some ⟨b, 0, none⟩) [x, y] := by
  refine ⟨.inr ⟨b, 0, rfl, fun j hj => ?_⟩, fun s hs => ?_⟩
  · have h0 := cells_at h 0 _ rfl
    have h1 := cells_at h 1 _ rfl
    match j, (show j < 2 from hj) with
    | 0, _ => simpa using h0
    | 1, _ => simpa using h1
  · simp at hs
    unfold maxLen
    rcases hs with rfl | rfl <;> omega
set_option maxRecDepth 100000 in
theorem size1 (x : Int) : (bstr [x]).size = 1 := rfl
set_option maxRecDepth 100000 in
theorem size2 (x y : Int) : (bstr [x, y]).size = 2 := rfl
set_option maxRecDepth 100000 in
theorem list_lt {w : World} {sa : Option Addr} {cap : Nat} {ps : List Part} (h : ListAt w sa cap ps) (hn : 0 < ps.length) (b so : Nat) (e : sa = some ⟨b, so, none⟩) : b < w.heap.size := by
  rcases h.parts.cells with hc | ⟨sb, so', e', hc⟩
  · rw [hc] at hn; simp at hn
  · rw [e] at e'; cases e'
    exact block_lt_of_cell (hc 0 hn)
/-- From one world to another: what is not the row's own, nor the box HB, stays. -/
structure Fr (W w' : World) (v v' : Value) (HB : Nat) : Prop where
  block : ∀ q, q < W.heap.size → v.ownBlock ≠ some q → q ≠ HB → w'.heap[q]? = W.heap[q]?
  size : W.heap.size ≤ w'.heap.size
  fresh : ∀ q, v'.ownBlock = some q → v.ownBlock = some q ∨ W.heap.size ≤ q
set_option maxRecDepth 100000 in
theorem Fr.refl (W : World) (v : Value) (HB : Nat) : Fr W W v v HB := ⟨fun _ _ _ _ => rfl, Nat.le_refl _, fun _ e => .inl e⟩
set_option maxRecDepth 100000 in
theorem Fr.below {W w' w2 : World} {v v' : Value} {HB : Nat} (h : Fr W w' v v' HB) (hb : Below w'.heap.size w' w2) : Fr W w2 v v' HB :=
  ⟨fun q h1 h2 h3 => (hb.block q (Nat.lt_of_lt_of_le h1 h.size)).trans (h.block q h1 h2 h3), Nat.le_trans h.size hb.size, h.fresh⟩
set_option maxRecDepth 100000 in
theorem Fr.grew {W w' w2 : World} {v v' v2 : Value} {HB : Nat} (h : Fr W w' v v' HB) (G : Grew w' v' w2 v2) : Fr W w2 v v2 HB := by
  refine ⟨fun q h1 h2 h3 => (G.grown.block q (Nat.lt_of_lt_of_le h1 h.size) (fun e => ?_)).trans (h.block q h1 h2 h3), Nat.le_trans h.size G.grown.size, fun q e => ?_⟩
  · rcases h.fresh q e.symm with g | g
    · exact h2 g
    · omega
  · rcases G.fresh q e with g | g
    · exact h.fresh q g
    · exact .inr (Nat.le_trans h.size g)
set_option maxRecDepth 100000 in
/-- Another row grows, that lies behind. -/
theorem Fr.other {W w' w2 : World} {v v' u u2 : Value} {HB : Nat} (h : Fr W w' v v' HB) (G : Grew w' u w2 u2) (hu : ∀ q, u.ownBlock = some q → W.heap.size ≤ q) : Fr W w2 v v' HB :=
  ⟨fun q h1 h2 h3 => (G.grown.block q (Nat.lt_of_lt_of_le h1 h.size) (fun e => by have := hu q e.symm; omega)).trans (h.block q h1 h2 h3), Nat.le_trans h.size G.grown.size, h.fresh⟩
set_option maxRecDepth 100000 in
theorem Fr.box {W w' : World} {v v' : Value} {HB : Nat} (h : Fr W w' v v' HB) (j : Nat) (x : Value) : Fr W (w'.setCell ⟨HB, j, none⟩ x) v v' HB :=
  ⟨fun q h1 h2 h3 => (heap_setCell_other _ ⟨HB, j, none⟩ q _ h3).trans (h.block q h1 h2 h3), by simpa using h.size, h.fresh⟩
set_option maxRecDepth 100000 in
theorem Fr.dag {W w' : World} {v v' : Value} {HB : Nat} {ka : Option Addr} {kc : Nat} {ks : List Ct} (h : Fr W w' v v' HB) (hd : DagAt W ka kc ks) (ho : DagOff v ka ks) (hlt : ∀ b, DagIn ka ks b → b ≠ HB) : DagAt w' ka kc ks :=
  dag_keep hd h.size (fun b hb hl => h.block b hl (by
    rcases hb with ⟨so, e⟩ | ⟨c, hc, hq⟩
    · exact ho.1 b so e
    · exact ho.2 c hc b hq) (hlt b hb))
set_option maxRecDepth 100000 in
theorem Fr.off {W w' : World} {v v' : Value} {HB : Nat} {ka : Option Addr} {kc : Nat} {ks : List Ct} (h : Fr W w' v v' HB) (hd : DagAt W ka kc ks) (hr : ∀ sb so, ka = some ⟨sb, so, none⟩ → sb < W.heap.size) (ho : DagOff v ka ks) : DagOff v' ka ks := by
  refine ⟨fun sb so e g => ?_, fun c hc q hq g => ?_⟩
  · rcases h.fresh sb g with g | g
    · exact ho.1 sb so e g
    · have := hr sb so e; omega
  · rcases h.fresh q g with g | g
    · exact ho.2 c hc q hq g
    · have := (hd.each c hc).block_lt q hq; omega
set_option maxRecDepth 100000 in
theorem BtsOwn.setCell {w : World} {B : Nat} {v : Value} {bl : List Bt} (h : BtsOwn w B v bl) (b j : Nat) (x : Value) (cs : Array Value) (t : TypeId) (hb : w.heap[b]? = some (.cells cs t (0, 0))) (h1 : (42 : TypeId) ≠ t) (h2 : (9 : TypeId) ≠ t) : BtsOwn (w.setCell ⟨b, j, none⟩ x) B v bl := by
  have hne : v.ownBlock ≠ some b := row_box h.row hb h1
  refine ⟨?_, fun c hc => ?_⟩
  · obtain ⟨g1, g2⟩ := h.row
    refine ⟨g1, ?_⟩
    rcases g2 with g2 | ⟨g, cap, cur, rfl, hg, hc, r⟩
    · exact .inl g2
    · exact .inr ⟨g, cap, cur, rfl, hg, (heap_setCell_other _ ⟨b, j, none⟩ g _ (fun e => hne (by rw [show g = b from e]; rfl))).trans hc, r⟩
  · have hk := h.each c hc
    refine heap_far hk (fun e => ?_)
    rw [BtOk, e, hb] at hk
    simp at hk
    exact h2 hk.2.symm
set_option maxRecDepth 100000 in
theorem kdag_end {w wr : World} {l : List Stp} {k : Nat} {ka za : Option Addr} {kc zc D1 : Nat} {ks : List Ct} {bl : List Bt} (hG : GrownTo l k (cvs ks)) (hV : bl.map (·.v) = bvTo l k) (hd : DagAt wr ka kc ks) (hoff : DagOff (.slice za bl.length zc) ka ks) (hnew : DagNew (D1 + 1) ka ks) (ho : BtsOwn wr w.heap.size (.slice za bl.length zc) bl)
    (b0 : wr.heap[w.heap.size]? = some (.cells #[.slice none 0 0] 51 (0, 0))) (hb : Below w.heap.size w wr) (hD : w.heap.size ≤ D1) : GrownIs w (wr.setCell ⟨w.heap.size, 0, none⟩ (.slice ka ks.length kc)) (.returned (.tuple #[.agg #[.slice ka ks.length kc], .slice za bl.length zc])) l k := by
  refine ⟨ka, kc, ks, za, zc, bl, rfl, hG, dag_setCell hd _ 0 _ (fun sb so e => by have := hnew.1 sb so e; omega) (fun c hc q hq => by have := hnew.2 c hc q hq; omega), ⟨fun sb so e => by have := hnew.1 sb so e; omega, fun c hc q hq => by have := hnew.2 c hc q hq; omega⟩, ho.setCell _ 0 _ _ _ b0 (by decide) (by decide), hoff, hV, hb.setCell (p := ⟨w.heap.size, 0, none⟩) (Nat.le_refl _) _⟩
end Go.Proofs.YtbmodfegcmaieaaDoor
