/- Rows of batches of two texts, that a call makes. -/
import Derived.Test.YtbmodfegcmaieaaDoorGAppB
import Derived.Deep.RegionHeld
import Derived.Test.YtbmodfegcmaieaaDoorGBcF
import Derived.Test.YtbmodfegcmaieaaDoorGOwnL
import Derived.Test.YtbmodfegcmaieaaDoorGCalls
import Derived.Laws.AppendOwnNone
import Derived.Test.YtbmodfegcmaieaaDoorGBstr
namespace Go.Proofs.YtbmodfegcmaieaaDoor
open Go.RowKit

set_option maxRecDepth 100000 in
theorem infoStr : (Tryd.prog.info? 9).map (fun i => (i.zero, i.size, i.bytes)) = some (some (.string ByteArray.empty), 1, 16) := by kernel_rfl
def sv (ss : List ByteArray) : List Value := ss.map Value.string
set_option maxRecDepth 100000 in
theorem sv_length (ss : List ByteArray) : (sv ss).length = ss.length := by simp [sv]
set_option maxRecDepth 100000 in
theorem sv_one (ss : List ByteArray) : ∀ u ∈ sv ss, u.oneCell' = true := by
  intro u hu; simp [sv] at hu; obtain ⟨x, _, rfl⟩ := hu; rfl
set_option maxRecDepth 100000 in
theorem strsAt_of_owns {w : World} {base n : Nat} {v : Value} {ss : List ByteArray} (h : w.ownsRow base 9 1 v n (sv ss)) (hz : ∀ s ∈ ss, s.size ≤ maxLen) : ∃ ra rc, v = .slice ra n rc ∧ n = ss.length ∧ StrsAt w ra ss ∧ ∀ sb so, ra = some ⟨sb, so, none⟩ → base ≤ sb := by
  have hl : n = ss.length := by have := h.1; rw [sv_length] at this; omega
  rcases h.2 with ⟨rfl, hn⟩ | ⟨g, cap, cur, rfl, _⟩
  · have hb : ss = [] := List.eq_nil_of_length_eq_zero (by omega)
    subst hn hb
    exact ⟨none, 0, rfl, rfl, ⟨.inl rfl, hz⟩, fun _ _ e => by cases e⟩
  · refine ⟨some ⟨g, 0, none⟩, cap, rfl, hl, ⟨.inr ⟨g, 0, rfl, fun j hj => ?_⟩, hz⟩, fun sb so e => by cases e; exact (h.lt _ rfl).1⟩
    rw [Nat.zero_add, World.ownsRow.cellAt h j (by omega)]
    simp [sv, hj]
set_option maxRecDepth 100000 in
theorem StrsAt.setCell {w : World} {sa : Option Addr} {ss : List ByteArray} (h : StrsAt w sa ss) (b j : Nat) (v : Value) (hne : ∀ sb so, sa = some ⟨sb, so, none⟩ → b ≠ sb) : StrsAt (w.setCell ⟨b, j, none⟩ v) sa ss := by
  refine ⟨?_, h.size⟩
  rcases h.cells with h | ⟨sb, so, rfl, hc⟩
  · exact .inl h
  · exact .inr ⟨sb, so, rfl, fun k hk => (World.cell?_setCell_far _ _ _ _ (hne sb so rfl)).trans (hc k hk)⟩
end Go.Proofs.YtbmodfegcmaieaaDoor

namespace Go.Proofs.YtbmodfegcmaieaaDoor
open Go.RowKit

set_option maxRecDepth 100000 in
theorem infoBatch : (Tryd.prog.info? 42).map (fun i => (i.zero, i.size, i.bytes)) = some (some (.agg #[.int .i64 0, .int .i64 0, .slice none 0 0]), 3, 40) := by kernel_rfl
set_option maxRecDepth 100000 in
theorem own_wideO {w : World} {B B' n : Nat} {e : TypeId} {sz : Nat} {v : Value} {xs : List Value} (h : w.ownsRow B e sz v n xs) (hB : B' ≤ B) : w.ownsRow B' e sz v n xs := ⟨h.1, h.2.imp id (fun ⟨g, c, cur, e1, e2, r⟩ => ⟨g, c, cur, e1, Nat.le_trans hB e2, r⟩)⟩
set_option maxRecDepth 100000 in
theorem strs_of_owns {w : World} {B n : Nat} {v : Value} {ss : List ByteArray} (h : w.ownsRow B 9 1 v n (sv ss)) (hz : ∀ s ∈ ss, s.size ≤ maxLen) : ∃ sa cap, v = .slice sa n cap ∧ StrsAt w sa ss := by
  have hl : n = ss.length := by have := h.1; rw [sv_length] at this; omega
  rcases h.2 with ⟨rfl, hn⟩ | ⟨g, cap, cur, rfl, hr⟩
  · obtain rfl : ss = [] := List.eq_nil_of_length_eq_zero (by omega)
    subst hn
    exact ⟨none, 0, rfl, .inl rfl, hz⟩
  · refine ⟨some ⟨g, 0, none⟩, cap, rfl, .inr ⟨g, 0, rfl, fun j hj => ?_⟩, hz⟩
    rw [Nat.zero_add, World.ownsRow.cellAt h j (by omega)]
    simp [sv, hj]
def bcl (l : List Bc) : List Value := l.flatMap Bc.cs
set_option maxRecDepth 100000 in
theorem bcl_app (a b : List Bc) : bcl (a ++ b) = bcl a ++ bcl b := by simp [bcl]
set_option maxRecDepth 100000 in
theorem bcl_cons (a : Bc) (b : List Bc) : bcl (a :: b) = a.cs ++ bcl b := by simp [bcl]
set_option maxRecDepth 100000 in
theorem bcl_length (l : List Bc) : (bcl l).length = l.length * 3 := by
  induction l with
  | nil => rfl
  | cons x r ih => rw [bcl_cons, List.length_append, ih]; simp [Bc.cs]; omega
set_option maxRecDepth 100000 in
theorem bcl_get (l : List Bc) (j i : Nat) (h : j < l.length) (hi : i < 3) : (bcl l)[j * 3 + i]? = (l[j]).cs[i]? := by
  induction l generalizing j with
  | nil => cases h
  | cons x r ih =>
    cases j with
    | zero =>
      rw [bcl_cons, Nat.zero_mul, Nat.zero_add, List.getElem?_append_left (by simp [Bc.cs]; exact hi)]; rfl
    | succ j =>
      have h' : j < r.length := by simpa using h
      rw [bcl_cons, List.getElem?_append_right (by simp [Bc.cs]; omega)]
      have e : (j + 1) * 3 + i - x.cs.length = j * 3 + i := by simp [Bc.cs]; omega
      rw [e, ih j h']; rfl
set_option maxRecDepth 100000 in
theorem bc_one (b : Bc) : ∀ u ∈ b.cs, u.oneCell' = true := by
  intro u hu
  simp [Bc.cs] at hu
  rcases hu with rfl | rfl | rfl <;> rfl
set_option maxRecDepth 100000 in
theorem bcl_one (l : List Bc) : ∀ u ∈ bcl l, u.oneCell' = true := by
  intro u hu
  obtain ⟨b, _, h⟩ := List.mem_flatMap.1 hu
  exact bc_one b u h
set_option maxRecDepth 100000 in
theorem bcs_of_owns {w : World} {B n : Nat} {v : Value} {bl : List Bc} (h : w.ownsRow B 42 3 v n (bcl bl)) (he : ∀ b ∈ bl, BcAt w b) : ∃ sa cap, v = .slice sa n cap ∧ n = bl.length ∧ BcsAt w sa bl := by
  have hl : n = bl.length := by have := h.1; rw [bcl_length] at this; omega
  rcases h.2 with ⟨rfl, hn⟩ | ⟨g, cap, cur, rfl, hr⟩
  · have hb : bl = [] := List.eq_nil_of_length_eq_zero (by omega)
    subst hb hn
    exact ⟨none, 0, rfl, hl, ⟨.inl rfl, he⟩⟩
  · refine ⟨some ⟨g, 0, none⟩, cap, rfl, hl, ⟨.inr ⟨g, 0, rfl, fun j hj => ?_⟩, he⟩⟩
    have e : ∀ i, i < 3 → w.cell? ⟨g, 0 + j * 3 + i, none⟩ = (bl[j]).cs[i]? := fun i hi => by rw [show 0 + j * 3 + i = j * 3 + i by omega, World.ownsRow.cellAt h (j * 3 + i) (by omega), bcl_get bl j i hj hi]
    exact ⟨e 0 (by omega), e 1 (by omega), e 2 (by omega)⟩
set_option maxRecDepth 100000 in
theorem bcl_cells {w : World} {sb so : Nat} {bl : List Bc} (h : BcsAt w (some ⟨sb, so, none⟩) bl) : ∀ j u, (bcl bl)[j]? = some u → w.cell? ((⟨sb, so, none⟩ : Addr).add j) = some u := by
  intro j u hu
  have hj : j < bl.length * 3 := by
    rcases Nat.lt_or_ge j (bl.length * 3) with g | g
    · exact g
    · rw [List.getElem?_eq_none (by rw [bcl_length]; exact g)] at hu; cases hu
  rcases h.cells with hb | ⟨sb', so', e, hb⟩
  · subst hb; simp at hj
  · cases e
    have hq : j / 3 < bl.length := by omega
    have hg := bcl_get bl (j / 3) (j % 3) hq (by omega)
    have ej : j / 3 * 3 + j % 3 = j := by omega
    rw [ej, hu] at hg
    obtain ⟨h0, h1, h2⟩ := hb (j / 3) hq
    rw [add_off]
    have hm : j % 3 = 0 ∨ j % 3 = 1 ∨ j % 3 = 2 := by omega
    rcases hm with m | m | m
    · rw [m] at hg
      have e2 : j = j / 3 * 3 := by omega
      rw [e2, h0]; exact hg.symm
    · rw [m] at hg
      have e2 : so + j = so + j / 3 * 3 + 1 := by omega
      rw [e2, h1]; exact hg.symm
    · rw [m] at hg
      have e2 : so + j = so + j / 3 * 3 + 2 := by omega
      rw [e2, h2]; exact hg.symm
/-- The texts of a batch lie in a row of their own. -/
def TxOwn (w : World) (B : Nat) (b : Bc) : Prop := w.ownsRow B 9 1 (.slice b.ta b.v.ss.length b.tc) b.v.ss.length (sv b.v.ss) ∧ ∀ s ∈ b.v.ss, s.size ≤ maxLen
set_option maxRecDepth 100000 in
theorem TxOwn.at {w : World} {B : Nat} {b : Bc} (h : TxOwn w B b) : BcAt w b := by
  obtain ⟨h, hz⟩ := h
  obtain ⟨sa, cap, hv, hst⟩ := strs_of_owns h hz
  simp at hv
  obtain ⟨h1, h2⟩ := hv
  rw [← h1] at hst
  refine ⟨hst, ?_, ?_, ?_, ?_⟩
  · rcases h.2 with ⟨e, hn⟩ | ⟨g, cap', cur, e, hr⟩
    · simp at e; omega
    · simp at e
      obtain ⟨_, _, h3, _⟩ := hr
      omega
  · rcases h.2 with ⟨e, hn⟩ | ⟨g, cap', cur, e, hr⟩
    · simp at e; unfold maxLen; omega
    · simp at e
      obtain ⟨_, _, _, h4, _⟩ := hr
      unfold maxLen at h4 ⊢
      omega
  · intro e0
    rcases h.2 with ⟨e, hn⟩ | ⟨g, cap', cur, e, hr⟩
    · simp at e; exact e.2.2
    · simp [e0] at e
  · intro sb so e0
    exact (h.lt sb (by rw [e0]; rfl)).2
set_option maxRecDepth 100000 in
/-- 'append(l, p...)': l a row that the call owns, p whatever slice of batches. -/
theorem wpList_append_bcs {w : World} {ops : Array Oper} {rest : List Oper} {o : Oper} {a : Act} {Q : Exit → Act → World → Prop} (hgd : o.guard = none) (s x : Operand)
    (ho : o.op = .call { callee := .builtin .append, args := #[s, x], argTypes := #[22, 22] })
    (base : Nat) (v : Value) (n : Nat) (bs : List Bc) (hs : a.eval s = v) (hown : w.ownsRow base 42 3 v n (bcl bs))
    (u : Value) (m : Nat) (cs : List Bc) (b2 : Nat) (hx : a.eval x = u) (hp : w.ownsRow b2 42 3 u m (bcl cs))
    (hlen : (n + m) * 40 ≤ 140737488355328) (hbase : base ≤ w.heap.size)
    (h : ∀ v' w', w'.ownsRow base 42 3 v' (n + m) (bcl (bs ++ cs)) → w.grownBy w' v.ownBlock → wpList Tryd.prog ops Q rest (a.put o.dst v') w') : wpList Tryd.prog ops Q (o :: rest) a w := by
  obtain ⟨i, hi, hz0, hz1, hz2⟩ := info_parts infoBatch
  have hp2 := hp
  rcases hp.2 with ⟨rfl, hn⟩ | ⟨g, cap, cur, rfl, hr⟩
  · have hl : m = cs.length := by have := hp.1; rw [bcl_length] at this; omega
    obtain rfl : cs = [] := List.eq_nil_of_length_eq_zero (by omega)
    subst hn
    exact wpList_append_own_none hgd s x 22 ho base 42 i 3 Tryd.underlying22 hi v n (bcl bs) hs hown hx (h v w (by simpa using hown) (World.grownBy.refl _ _))
  · refine wpList_append_own w hgd s x 22 ho base 42 i (.agg #[.int .i64 0, .int .i64 0, .slice none 0 0]) 3 40 Tryd.underlying22 hi hz0 hz1 hz2 rfl (by decide) v n (bcl bs) hs hown ⟨g, 0, none⟩ m cap (bcl cs) hx (by have := hp2.1; omega) (World.ownsRow.cells hp2 rfl) (bcl_one cs) (by unfold maxLen; omega) hlen hbase ?_
    intro v' w' h1 h2 _
    exact h v' w' (by rw [bcl_app]; exact h1) h2
set_option maxRecDepth 100000 in
theorem owns_grew {w w' : World} {b1 n1 b2 n2 s1 s2 : Nat} {e1 e2 : TypeId} {u v v' : Value} {xs ys : List Value} (h : w.ownsRow b1 e1 s1 u n1 xs) (h2 : w.ownsRow b2 e2 s2 v n2 ys) (hne : e1 ≠ e2) (G : Grew w v w' v') : w'.ownsRow b1 e1 s1 u n1 xs := by
  have hB : ∀ q, u.ownBlock = some q → q < w.heap.size ∧ v.ownBlock ≠ some q := fun q e => ⟨(h.lt q e).2, rows_apart h h2 hne q e⟩
  obtain ⟨g1, g2⟩ := h
  refine ⟨g1, ?_⟩
  rcases g2 with g2 | ⟨g, cap, cur, rfl, hg, hc, r⟩
  · exact .inl g2
  · obtain ⟨k1, k2⟩ := hB g rfl
    exact .inr ⟨g, cap, cur, rfl, hg, (G.grown.block g k1 (fun e => k2 e.symm)).trans hc, r⟩
end Go.Proofs.YtbmodfegcmaieaaDoor

namespace Go.Proofs.YtbmodfegcmaieaaDoor
open Go.RowKit

/-- A batch of two texts, and the block where these lie. -/
structure Bt where
  v : BV
  tb : Nat
def Bt.cs (b : Bt) : List Value := [.int .i64 b.v.au, .int .i64 b.v.nu, .slice (some ⟨b.tb, 0, none⟩) 2 2]
def btv : List Bt → List Value
  | [] => []
  | s :: r => s.cs ++ btv r
def BtOk (w : World) (b : Bt) : Prop := w.heap[b.tb]? = some (.cells #[.string b.v.s1, .string b.v.s2] 9 (0, 0))
set_option maxRecDepth 100000 in
theorem btv_snoc (ls : List Bt) (s : Bt) : btv (ls ++ [s]) = btv ls ++ s.cs := by
  induction ls with
  | nil => simp [btv]
  | cons x r ih => simp [btv, ih]
set_option maxRecDepth 100000 in
theorem btv_length (ls : List Bt) : (btv ls).length = ls.length * 3 := by
  induction ls with
  | nil => rfl
  | cons x r ih => simp [btv, ih, Bt.cs]; omega
set_option maxRecDepth 100000 in
theorem btv_get (ls : List Bt) (j i : Nat) (h : j < ls.length) (hi : i < 3) : (btv ls)[j * 3 + i]? = (ls[j]).cs[i]? := by
  induction ls generalizing j with
  | nil => cases h
  | cons x r ih =>
    cases j with
    | zero => simp only [btv, Nat.zero_mul, Nat.zero_add, List.getElem_cons_zero]; rw [List.getElem?_append_left (by simp [Bt.cs]; exact hi)]
    | succ j =>
      have h' : j < r.length := by simpa using h
      simp only [btv, List.getElem_cons_succ]
      rw [List.getElem?_append_right (by simp [Bt.cs]; omega), ← ih j h']
      congr 1
      simp [Bt.cs]; omega
set_option maxRecDepth 100000 in
theorem bt_one (c : Bt) : ∀ u ∈ c.cs, u.oneCell' = true := by
  intro u hu
  simp [Bt.cs] at hu
  rcases hu with rfl | rfl | rfl <;> rfl
set_option maxRecDepth 100000 in
/-- Texts of a block lie apart from a row of batches. -/
theorem bt_apart {w : World} {base n : Nat} {v : Value} {xs : List Value} {b : Bt} (h : w.ownsRow base 42 3 v n xs) (hb : BtOk w b) : v.ownBlock ≠ some b.tb := by
  intro e
  rcases h.2 with ⟨rfl, _⟩ | ⟨g, cap, cur, rfl, hg, hc, r⟩
  · cases e
  · have hgb : g = b.tb := by simpa [Value.ownBlock] using e
    rw [hgb, show w.heap[b.tb]? = _ from hb] at hc
    simp at hc
set_option maxRecDepth 100000 in
theorem BtOk.below {w w' : World} {b : Bt} (h : BtOk w b) (hb : Below w.heap.size w w') : BtOk w' b := (hb.block _ (lt_of_heap h)).trans h
set_option maxRecDepth 100000 in
theorem BtOk.setCell {w : World} {b : Bt} (h : BtOk w b) (q j : Nat) (x : Value) (hn : q ≠ b.tb) : BtOk (w.setCell ⟨q, j, none⟩ x) b := heap_far h hn.symm
/-- Batches of a row that the call owns. -/
structure BtsOwn (w : World) (B : Nat) (v : Value) (bl : List Bt) : Prop where
  row : w.ownsRow B 42 3 v bl.length (btv bl)
  each : ∀ b ∈ bl, BtOk w b
set_option maxRecDepth 100000 in
theorem BtsOwn.below {w w' : World} {B : Nat} {v : Value} {bl : List Bt} (h : BtsOwn w B v bl) (hb : Below w.heap.size w w') : BtsOwn w' B v bl := ⟨owns_keep h.row hb, fun b hb' => (h.each b hb').below hb⟩
/-- What is read of a slice of batches. -/
structure BtsAt (w : World) (sa : Option Addr) (bl : List Bt) : Prop where
  cells : bl = [] ∨ ∃ sb so, sa = some ⟨sb, so, none⟩ ∧ ∀ j (h : j < bl.length), w.cell? ⟨sb, so + j * 3, none⟩ = some (.int .i64 (bl[j]).v.au) ∧ w.cell? ⟨sb, so + j * 3 + 1, none⟩ = some (.int .i64 (bl[j]).v.nu) ∧ w.cell? ⟨sb, so + j * 3 + 2, none⟩ = some (.slice (some ⟨(bl[j]).tb, 0, none⟩) 2 2)
  each : ∀ b ∈ bl, BtOk w b
set_option maxRecDepth 100000 in
theorem BtsAt.below {w w' : World} {sa : Option Addr} {bl : List Bt} (h : BtsAt w sa bl) (hb : Below w.heap.size w w') : BtsAt w' sa bl := by
  refine ⟨?_, fun b hb' => (h.each b hb').below hb⟩
  rcases h.cells with h | ⟨sb, so, rfl, hc⟩
  · exact .inl h
  · refine .inr ⟨sb, so, rfl, fun j hj => ?_⟩
    obtain ⟨h0, h1, h2⟩ := hc j hj
    have hlt : sb < w.heap.size := block_lt_of_cell h0
    exact ⟨(hb.cell (p := ⟨sb, so + j * 3, none⟩) hlt).trans h0, (hb.cell (p := ⟨sb, so + j * 3 + 1, none⟩) hlt).trans h1, (hb.cell (p := ⟨sb, so + j * 3 + 2, none⟩) hlt).trans h2⟩
set_option maxRecDepth 100000 in
theorem bts_of_owns {w : World} {B : Nat} {v : Value} {bl : List Bt} (h : BtsOwn w B v bl) : ∃ sa cap, v = .slice sa bl.length cap ∧ BtsAt w sa bl ∧ (sa = none → cap = 0) ∧ (∀ sb so, sa = some ⟨sb, so, none⟩ → B ≤ sb) ∧ bl.length ≤ cap := by
  rcases h.row.2 with ⟨rfl, hn⟩ | ⟨g, cap, cur, rfl, hr⟩
  · have hb : bl = [] := List.eq_nil_of_length_eq_zero hn
    subst hb
    exact ⟨none, 0, rfl, ⟨.inl rfl, h.each⟩, fun _ => rfl, (fun _ _ e => by cases e), Nat.le_refl _⟩
  · refine ⟨some ⟨g, 0, none⟩, cap, rfl, ⟨.inr ⟨g, 0, rfl, fun j hj => ?_⟩, h.each⟩, (fun e => by cases e), (fun sb so e => by cases e; exact (h.row.lt _ rfl).1), ?_⟩
    · have e : ∀ i, i < 3 → w.cell? ⟨g, 0 + j * 3 + i, none⟩ = (bl[j]).cs[i]? := fun i hi => by rw [show 0 + j * 3 + i = j * 3 + i by omega, World.ownsRow.cellAt h.row (j * 3 + i) (by omega), btv_get bl j i hj hi]
      exact ⟨e 0 (by omega), e 1 (by omega), e 2 (by omega)⟩
    · obtain ⟨_, _, h1, _⟩ := hr
      omega
set_option maxRecDepth 100000 in
/-- A batch more. -/
theorem BtsOwn.more {w w' : World} {B : Nat} {v v' : Value} {bl : List Bt} {b : Bt} (h : BtsOwn w B v bl) (hb : BtOk w b) (ho : w'.ownsRow B 42 3 v' (bl.length + 1) (btv bl ++ b.cs)) (G : Grew w v w' v') : BtsOwn w' B v' (bl ++ [b]) := by
  refine ⟨by rw [btv_snoc, List.length_append]; exact ho, fun c hc => ?_⟩
  have hk : BtOk w c := by
    rcases List.mem_append.1 hc with hc | hc
    · exact h.each c hc
    · obtain rfl : c = b := by simpa using hc
      exact hb
  exact G.row hk (bt_apart h.row hk)
end Go.Proofs.YtbmodfegcmaieaaDoor
