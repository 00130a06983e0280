/- wire.appendRound, onto a row that the call owns. -/
import Derived.Test.YtbmodfegcmaieaaDoorGApp
import Derived.Laws.Rows
import Derived.Laws.Tables
import Derived.Maps.AppendAt
namespace Go.Proofs.YtbmodfegcmaieaaDoor
open Go.RowKit

set_option maxRecDepth 100000 in
theorem laid_cell (w : World) (cs : Array Value) (t : TypeId) (j : Nat) (v : Value) (h : cs[j]? = some v) : (w.alloc (.cells cs t)).cell? ⟨w.heap.size, j, none⟩ = some v := by
  rw [World.cell?_alloc_at _ _ _ _ rfl]
  exact h
set_option maxRecDepth 100000 in
theorem kept_cell {w w1 : World} {cs : Array Value} {t : TypeId} (hb : Below (w.alloc (.cells cs t)).heap.size (w.alloc (.cells cs t)) w1) (j : Nat) (v : Value) (h : cs[j]? = some v) : w1.cell? ⟨w.heap.size, j, none⟩ = some v :=
  (hb.cell (p := ⟨w.heap.size, j, none⟩) (by simp)).trans (laid_cell w cs t j v h)
set_option maxRecDepth 100000 in
/-- What was there ahead of a block stays. -/
theorem below_alloc {w w1 : World} {o : Obj} (hb : Below (w.alloc o).heap.size (w.alloc o) w1) : Below w.heap.size w w1 :=
  ((Below.refl _ _).alloc (Nat.le_refl _) _).trans (hb.mono (by simp))
set_option maxRecDepth 100000 in
theorem below_drew {B : Nat} {w w1 : World} (k : Below B w.drew w1) : Below B w w1 := ⟨k.os, k.tape, k.output, k.size, k.block⟩
set_option maxRecDepth 100000 in
theorem row_new {w w1 : World} {cs : Array Value} {t : TypeId} (hb : Below (w.alloc (.cells cs t)).heap.size (w.alloc (.cells cs t)) w1) : w1.heap[w.heap.size]? = some (.cells cs t (0, 0)) :=
  (hb.block _ (by simp)).trans (heap_alloc_new w _)
set_option maxRecDepth 100000 in
theorem row_old {w w1 : World} {o x : Obj} {k : Nat} (h : w.heap[k]? = some x) (hb : Below (w.alloc o).heap.size (w.alloc o) w1) : w1.heap[k]? = some x :=
  ((below_alloc hb).block k (lt_of_heap h)).trans h
set_option maxRecDepth 100000 in
theorem size_alloc (w : World) (o : Obj) : (w.alloc o).heap.size = w.heap.size + 1 := by simp
set_option maxRecDepth 100000 in
theorem cells_at {w : World} {b : Nat} {cs : Array Value} {t : TypeId} (h : w.heap[b]? = some (.cells cs t (0, 0))) (j : Nat) (v : Value) (hv : cs[j]? = some v) : w.cell? ⟨b, j, none⟩ = some v := by
  rw [cell_of_row w b j _ _ _ h]; exact hv
set_option maxRecDepth 100000 in
theorem frozen_at {w : World} {b : Nat} {cs : Array Value} {t : TypeId} (h : w.heap[b]? = some (.cells cs t (0, 0))) (j : Nat) : w.frozen? ⟨b, j, none⟩ = false := frozen_of_row w b j _ _ h
set_option maxRecDepth 100000 in
theorem laid_row (w : World) (Z C : Array Value) (t : TypeId) : Below w.heap.size w ((w.alloc (.cells Z t)).setRow w.heap.size C) :=
  (Upd.setRow (heap_alloc_new w (.cells Z t))).below ((Below.refl _ _).alloc (Nat.le_refl _) _) (by simp) (Nat.le_refl _)
set_option maxRecDepth 100000 in
theorem heap_keep {w : World} {o x : Obj} {k : Nat} (h : w.heap[k]? = some x) : (w.alloc o).heap[k]? = some x := by rw [Below.heap_alloc _ _ _ (lt_of_heap h)]; exact h
set_option maxRecDepth 100000 in
theorem heap_far {w : World} {x : Obj} {k b j : Nat} {v : Value} (h : w.heap[k]? = some x) (hne : k ≠ b) : (w.setCell ⟨b, j, none⟩ v).heap[k]? = some x := (heap_setCell_other w ⟨b, j, none⟩ k v hne).trans h
end Go.Proofs.YtbmodfegcmaieaaDoor

namespace Go.Proofs.YtbmodfegcmaieaaDoor
open Go.RowKit

structure Grew (w : World) (v : Value) (w' : World) (v' : Value) : Prop where
  grown : w.grownBy w' v.ownBlock
  fresh : ∀ q, v'.ownBlock = some q → v.ownBlock = some q ∨ w.heap.size ≤ q
set_option maxRecDepth 100000 in
theorem Grew.of {w w' : World} {v v' : Value} (h : w.grownBy w' v.ownBlock) (h2 : v'.ownBlock = v.ownBlock ∨ v'.ownBlock = some w.heap.size) : Grew w v w' v' :=
  ⟨h, fun q e => by
    rcases h2 with h2 | h2
    · exact .inl (h2.symm.trans e)
    · rw [h2] at e; cases e; exact .inr (Nat.le_refl _)⟩
set_option maxRecDepth 100000 in
theorem Grew.trans {w w1 w2 : World} {v v1 v2 : Value} (h : Grew w v w1 v1) (k : Grew w1 v1 w2 v2) : Grew w v w2 v2 := by
  refine ⟨⟨k.grown.os.trans h.grown.os, k.grown.tape.trans h.grown.tape, k.grown.output.trans h.grown.output, Nat.le_trans h.grown.size k.grown.size, fun q hq hne => ?_⟩, fun q e => ?_⟩
  · rw [k.grown.block q (Nat.lt_of_lt_of_le hq h.grown.size) (fun e => ?_)]
    · exact h.grown.block q hq hne
    · rcases h.fresh q e.symm with g | g
      · exact hne g.symm
      · omega
  · rcases k.fresh q e with g | g
    · exact h.fresh q g
    · exact .inr (Nat.le_trans h.grown.size g)
set_option maxRecDepth 100000 in
theorem Grew.alloc {w w' : World} {v v' : Value} {o : Obj} (h : Grew (w.alloc o) v w' v') : Grew w v w' v' := by
  refine ⟨⟨h.grown.os, h.grown.tape, h.grown.output, ?_, fun q hq hne => ?_⟩, fun q e => ?_⟩
  · exact Nat.le_trans (by simp) h.grown.size
  · rw [h.grown.block q (by rw [size_alloc]; omega) hne]
    exact ((Below.refl w.heap.size w).alloc (Nat.le_refl _) o).block q hq
  · rcases h.fresh q e with g | g
    · exact .inl g
    · exact .inr (Nat.le_trans (by simp) g)
set_option maxRecDepth 100000 in
theorem Grew.below {w w' : World} {v v' : Value} {base : Nat} (h : Grew w v w' v') (hB : base ≤ w.heap.size) (hv : ∀ q, v.ownBlock = some q → base ≤ q) : Below base w w' :=
  ⟨h.grown.os, h.grown.tape, h.grown.output, h.grown.size, fun k hk => h.grown.block k (by omega) (fun e => by have := hv k e.symm; omega)⟩
set_option maxRecDepth 100000 in
theorem Grew.row {w w' : World} {v v' : Value} {b : Nat} {o : Obj} (h : Grew w v w' v') (hb : w.heap[b]? = some o) (hne : v.ownBlock ≠ some b) : w'.heap[b]? = some o :=
  (h.grown.block b (lt_of_heap hb) (fun e => hne e.symm)).trans hb
set_option maxRecDepth 100000 in
theorem Grew.slice {w w' : World} {v v' : Value} {sa : Option Addr} {cap : Nat} {bs : List Int} (h : Grew w v w' v') (hs : SliceAt w sa cap bs) (hne : ∀ sb so, sa = some ⟨sb, so, none⟩ → v.ownBlock ≠ some sb) : SliceAt w' sa cap bs := by
  refine ⟨hs.le, hs.max, hs.some, hs.nil, ?_⟩
  rcases hs.bytes with hb | ⟨sb, so, rfl, hb⟩
  · exact .inl hb
  · exact .inr ⟨sb, so, rfl, fun j hj => (World.cell?_of_block (h.grown.block sb (block_lt_of_cell (hb j hj)) (fun e => hne sb so rfl e.symm))).trans (hb j hj)⟩
set_option maxRecDepth 100000 in
/-- 'append(b, p...)', and where the new slice lies. -/
theorem wpList_append_part_at {w : World} {ops : Array Oper} {rest : List Oper} {o : Oper} {a : Act} {Q : Exit → Act → World → Prop} (hgd : o.guard = none) (s x : Operand)
    (ho : o.op = .call { callee := .builtin .append, args := #[s, x], argTypes := #[46, 46] })
    (base : Nat) (v : Value) (n : Nat) (bs : List Int) (hs : a.eval s = v) (hown : w.ownsRow base 5 1 v n (ub bs))
    (sa : Option Addr) (m cap : Nat) (cs : List Int) (hx : a.eval x = .slice sa m cap) (hm : m = cs.length) (hp : SliceAt w sa cap cs)
    (hlen : n + m ≤ 140737488355328) (hbase : base ≤ w.heap.size)
    (h : ∀ v' w', w'.ownsRow base 5 1 v' (n + m) (ub (bs ++ cs)) → Grew w v w' v' → wpList Tryd.prog ops Q rest (a.put o.dst v') w') : wpList Tryd.prog ops Q (o :: rest) a w := by
  obtain ⟨i, hi, hz0, hz1, hz2⟩ := info_parts infoU8
  cases sa with
  | none =>
    obtain rfl := hp.nil rfl
    obtain rfl : cs = [] := List.eq_nil_of_length_eq_zero (by have := hp.le; omega)
    subst hm
    exact wpList_append_own_none hgd s x 46 ho base 5 i 1 Tryd.underlying46 hi v n (ub bs) hs hown hx (h v w (by simpa using hown) (Grew.of (World.grownBy.refl _ _) (.inl rfl)))
  | some ad =>
    refine wpList_append_own_at w hgd s x 46 ho base 5 i (.int .u8 0) 1 1 Tryd.underlying46 hi hz0 hz1 hz2 rfl (by decide) v n (ub bs) hs hown ad m cap (ub cs) hx (by rw [ub_length, hm]; omega) ?_ (u8_one cs) (by unfold maxLen; omega) (by omega) hbase (fun v' w' h1 h2 _ h4 => h v' w' (by rw [show ub (bs ++ cs) = ub bs ++ ub cs by simp [ub]]; exact h1) (Grew.of h2 h4))
    intro j u hu
    rcases hp.bytes with hb | ⟨sb, so, e, hb⟩
    · subst hb; simp [ub] at hu
    · cases e
      have hj : j < cs.length := by
        rcases Nat.lt_or_ge j cs.length with g | g
        · exact g
        · rw [List.getElem?_eq_none (by rw [ub_length]; exact g)] at hu; cases hu
      rw [add_off, hb j hj]
      simp [ub, hj] at hu
      simp [hj, hu]
set_option maxRecDepth 100000 in
/-- The same behind a guard that is met ('a && f(append(b, p...))'). -/
theorem wpList_append_part_w {w : World} {ops : Array Oper} {rest : List Oper} {o : Oper} {a : Act} {Q : Exit → Act → World → Prop} (hw : Region.wanted o (yielded ops a.tmps) = true) (s x : Operand)
    (ho : o.op = .call { callee := .builtin .append, args := #[s, x], argTypes := #[46, 46] })
    (base : Nat) (v : Value) (n : Nat) (bs : List Int) (hs : a.eval s = v) (hown : w.ownsRow base 5 1 v n (ub bs))
    (ad : Addr) (m cap : Nat) (cs : List Int) (hx : a.eval x = .slice (some ad) m cap) (hm : m = cs.length) (hp : SliceAt w (some ad) cap cs)
    (hlen : n + m ≤ 140737488355328) (hbase : base ≤ w.heap.size)
    (h : ∀ v' w', w'.ownsRow base 5 1 v' (n + m) (ub (bs ++ cs)) → w.grownBy w' v.ownBlock → wpList Tryd.prog ops Q rest (a.put o.dst v') w') : wpList Tryd.prog ops Q (o :: rest) a w := by
  obtain ⟨i, hi, hz0, hz1, hz2⟩ := info_parts infoU8
  refine wpList_step fun K hK => ?_
  rw [if_pos hw]
  refine wp_append_own w s x 46 ho base 5 i (.int .u8 0) 1 1 Tryd.underlying46 hi hz0 hz1 hz2 rfl (by decide) v n (ub bs) hs hown ad m cap (ub cs) hx (by rw [ub_length, hm]; omega) ?_ (u8_one cs) (by unfold maxLen; omega) (by omega) hbase (fun v' w' h1 h2 _ => hK _ _ (h v' w' (by rw [show ub (bs ++ cs) = ub bs ++ ub cs by simp [ub]]; exact h1) h2))
  intro j u hu
  rcases hp.bytes with hb | ⟨sb, so, e, hb⟩
  · subst hb; simp [ub] at hu
  · cases e
    have hj : j < cs.length := by
      rcases Nat.lt_or_ge j cs.length with g | g
      · exact g
      · rw [List.getElem?_eq_none (by rw [ub_length]; exact g)] at hu; cases hu
    rw [add_off, hb j hj]
    simp [ub, hj] at hu
    simp [hj, hu]
end Go.Proofs.YtbmodfegcmaieaaDoor

namespace Go.Proofs.YtbmodfegcmaieaaDoor
open Go.RowKit

/-- P2.6: a round, or a number: three bytes, the highest one first. -/
def rd3 (n : Int) : List Int := [n / 65536, n / 256 % 256, n % 256]
set_option maxRecDepth 100000 in
set_option maxHeartbeats 400000 in
theorem appendRound_any (base : Nat) (v : Value) (k : Nat) (bs : List Int) (n : Int) (w : World) (hn : 0 ≤ n ∧ n ≤ 1048576) (ho : w.ownsRow base 5 1 v k (ub bs)) (hB : base ≤ w.heap.size) (hk : k ≤ 100000) :
    Calls Tryd.prog 85 #[v, .int .i64 n] w fun e w' => ∃ v', e = .returned v' ∧ w'.ownsRow base 5 1 v' (k + 3) (ub (bs ++ rd3 n)) ∧ Grew w v w' v' := by
  obtain ⟨i, hi, hz0, hz1, hz2⟩ := info_parts infoU8
  obtain ⟨hn0, hn1⟩ := hn
  go_enter Tryd.func85, Tryd.ntmps85
  go_wp2_with (at_builtin; (refine wpList_append_own_at _ rfl _ _ 46 rfl base 5 i (.int .u8 0) 1 1 Tryd.underlying46 hi hz0 hz1 hz2 rfl (by decide) _ k _ rfl (World.ownsRow.alloc ho _) ⟨w.heap.size, 0, none⟩ 3 3 [.int .u8 (n / 65536), .int .u8 (n / 256 % 256), .int .u8 (n % 256)] rfl rfl (cells_new _ _ _) (u8_one [_, _, _]) (by unfold maxLen; omega) (by omega) (le_alloc hB _) ?_; intro v1 w1 ho1 hg1 _ hat))
  go_ret
  exact ⟨v1, rfl, by simpa [ub, rd3] using ho1, (Grew.of hg1 hat).alloc⟩
end Go.Proofs.YtbmodfegcmaieaaDoor
