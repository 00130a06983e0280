/- Slices of numbers. -/
import Derived.Test.YtbmodfegcmaieaaDoorGDigsC
import Derived.Test.YtbmodfegcmaieaaDoorGOwnL
import Derived.Test.YtbmodfegcmaieaaDoorGApp
namespace Go.Proofs.YtbmodfegcmaieaaDoor
open Go.RowKit

set_option maxRecDepth 100000 in
theorem Same.bsAt {ps qs : List Part} (h : Same ps qs) (k : Nat) : (partAt ps k).bs = (partAt qs k).bs := by
  have hk : (ps.map (·.bs))[k]? = (qs.map (·.bs))[k]? := by rw [h]
  simp only [List.getElem?_map] at hk
  simp only [partAt, List.getD]
  cases h1 : ps[k]? <;> cases h2 : qs[k]? <;> simp_all
set_option maxRecDepth 100000 in
theorem digTo1_same {ps qs : List Part} (h : Same ps qs) (k : Nat) : digTo1 ps k = digTo1 qs k := by
  induction k with
  | zero => rfl
  | succ k ih =>
    have e1 : digAt ps k = digAt qs k := by
      have e2 : twice ps k = twice qs k := by
        simp only [twice, h.bsAt]
      rw [digAt, digAt, e2, h.bsAt k]
    rw [digTo1, digTo1, ih, e1]
set_option maxRecDepth 100000 in
theorem digF_same {ps qs : List Part} (h : Same ps qs) : digF ps = digF qs := by
  rw [digF, digF, h.length, digTo1_same h]
end Go.Proofs.YtbmodfegcmaieaaDoor

namespace Go.Proofs.YtbmodfegcmaieaaDoor
open Go.RowKit

set_option maxRecDepth 100000 in
theorem flatB_sameH (xs ys : List Part) (h : Same xs ys) : flatB xs = flatB ys := by
  have h' : xs.map (·.bs) = ys.map (·.bs) := h
  clear h
  induction xs generalizing ys with
  | nil => cases ys with
    | nil => rfl
    | cons y ys => simp at h'
  | cons x xs ih => cases ys with
    | nil => simp at h'
    | cons y ys =>
      simp only [List.map_cons, List.cons.injEq] at h'
      rw [flatB, flatB, h'.1, ih ys h'.2]
set_option maxRecDepth 100000 in
theorem headB_sameH {au rd : Int} {xl bl yl pl : List Part} (h1 : Same xl bl) (h2 : Same yl pl) : headB au rd xl yl = headB au rd bl pl := by
  rw [headB, headB, digsB, digsB, digsB, digsB, flatB_sameH _ _ h1, flatB_sameH _ _ h2, h1.length, h2.length]
set_option maxRecDepth 100000 in
theorem headerF_sameH {au rd : Int} {xl bl yl pl : List Part} (h1 : Same xl bl) (h2 : Same yl pl) : headerF au rd xl yl = headerF au rd bl pl := by
  rw [headerF, headerF, digF_same h1, digF_same h2, h1.length, h2.length]
set_option maxRecDepth 100000 in
theorem off_of_listH {w : World} {ra : Option Addr} {rc : Nat} {qs : List Part} (h : ListAt w ra rc qs) (hne : ∀ sb so, ra = some ⟨sb, so, none⟩ → sb < w.heap.size) (h32 : ∀ p ∈ qs, p.bs.length = 32) : Off w (.slice none 0 0) ra qs :=
  ⟨fun sb so e => ⟨hne sb so e, fun h => by cases h⟩, fun p hp sb so e => ⟨by
    have hs := h.parts.each p hp
    rcases hs.bytes with hb | ⟨sb', so', e', hb⟩
    · have := h32 p hp; rw [hb] at this; simp at this
    · rw [e] at e'; cases e'; exact block_lt_of_cell (hb 0 (by rw [h32 p hp]; decide)), fun h => by cases h⟩⟩
/-- A header that is read. -/
structure HAt (w : World) (ba : Option Addr) (bc : Nat) (bl : List Part) (pa : Option Addr) (pc : Nat) (pl : List Part) : Prop where
  lb : ListAt w ba bc bl
  lp : ListAt w pa pc pl
  rb : ∀ sb so, ba = some ⟨sb, so, none⟩ → sb < w.heap.size
  rp : ∀ sb so, pa = some ⟨sb, so, none⟩ → sb < w.heap.size
set_option maxRecDepth 100000 in
theorem HAt.below {w w' : World} {ba : Option Addr} {bc : Nat} {bl : List Part} {pa : Option Addr} {pc : Nat} {pl : List Part} (h : HAt w ba bc bl pa pc pl) (hb : Below w.heap.size w w') : HAt w' ba bc bl pa pc pl :=
  ⟨h.lb.below hb, h.lp.below hb, fun sb so e => Nat.lt_of_lt_of_le (h.rb sb so e) hb.size, fun sb so e => Nat.lt_of_lt_of_le (h.rp sb so e) hb.size⟩
/-- A header's digest. -/
def hDig (au rd : Int) (bl pl : List Part) : List Int := tagD 2 (headB au rd bl pl)
set_option maxRecDepth 100000 in
theorem hDig_length (au rd : Int) (bl pl : List Part) : (hDig au rd bl pl).length = 32 := tagD_length _ _
set_option maxRecDepth 100000 in
theorem headerDigest_hat {au rd : Int} {ba : Option Addr} {bc : Nat} {bl : List Part} {pa : Option Addr} {pc : Nat} {pl : List Part} {w : World} (h : HAt w ba bc bl pa pc pl) (hF : headerF au rd bl pl = 0) (hT : Tabs w) :
    Calls Tryd.prog 45 #[.agg #[.int .i64 au, .int .i64 rd, .slice ba bl.length bc, .slice pa pl.length pc]] w fun e w' => ∃ b, e = .returned (.tuple #[.slice (some ⟨b, 0, none⟩) 32 32, .int .i64 0]) ∧ w.heap.size ≤ b ∧ Below w.heap.size w w' ∧ SliceAt w' (some ⟨b, 0, none⟩) 32 (hDig au rd bl pl) := by
  obtain ⟨z1, z2, z3, z4, z5, z6⟩ := headerF_ok hF
  exact headerDigest_ok au rd ba bl.length bc bl pa pl.length pc pl w rfl rfl h.lb h.lp (off_of_listH h.lb h.rb z5) (off_of_listH h.lp h.rp z6) hF z1 ⟨by omega, z2.2⟩ (by omega) z4 z5 z6 hT
end Go.Proofs.YtbmodfegcmaieaaDoor

namespace Go.Proofs.YtbmodfegcmaieaaDoor
open Go.RowKit

/-- A slice of numbers that is read. -/
structure IntsAt (w : World) (va : Option Addr) (vl : List Int) : Prop where
  cells : vl = [] ∨ ∃ sb so, va = some ⟨sb, so, none⟩ ∧ ∀ j, j < vl.length → w.cell? ⟨sb, so + j, none⟩ = some (.int .i64 (vl.getD j 0))
set_option maxRecDepth 100000 in
theorem IntsAt.below {w w' : World} {va : Option Addr} {vl : List Int} (h : IntsAt w va vl) (hb : Below w.heap.size w w') : IntsAt w' va vl := by
  refine ⟨?_⟩
  rcases h.cells with h | ⟨sb, so, rfl, hc⟩
  · exact .inl h
  · exact .inr ⟨sb, so, rfl, fun j hj => (hb.cell (p := ⟨sb, so + j, none⟩) (block_lt_of_cell (hc j hj))).trans (hc j hj)⟩
end Go.Proofs.YtbmodfegcmaieaaDoor
