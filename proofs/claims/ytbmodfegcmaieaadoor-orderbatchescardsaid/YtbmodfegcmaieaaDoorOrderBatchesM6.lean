/- What the reading of an argument that is a slice of texts gives the walks. -/
import Derived.Test.YtbmodfegcmaieaaDoorOrderBatchesM0
import Derived.Test.YtbmodfegcmaieaaDoorOwnL
import Derived.Test.YtbmodfegcmaieaaDoorSx
import Derived.Deep.RegionHeld
import Derived.Test.YtbmodfegcmaieaaDoorBcF
import Derived.Test.YtbmodfegcmaieaaDoorTxt
import Derived.Laws.AppendOwnNone
import Derived.Test.YtbmodfegcmaieaaDoorPK
import Derived.ProofKit
import Derived.OpenShut
import Derived.SizedLaws
import Derived.Test.YtbmodfegcmaieaaDoorStrsAt
import Derived.Deep.Strs
namespace Go.Proofs.YtbmodfegcmaieaaDoor
open Go.RowKit

/-- The blocks that a certificate's lists lie in. -/
def CtIn (c : Ct) (b : Nat) : Prop := (∃ so, c.ba = some ⟨b, so, none⟩) ∨ (∃ so, c.pa = some ⟨b, so, none⟩) ∨ (∃ p, p ∈ c.bl ++ c.pl ∧ p.bs ≠ [] ∧ ∃ so, p.sa = some ⟨b, so, none⟩) ∨ (c.vl ≠ [] ∧ ∃ so, c.va = some ⟨b, so, none⟩)
set_option maxRecDepth 100000 in
theorem slice_keep {w w' : World} {sa : Option Addr} {cap : Nat} {bs : List Int} (h : SliceAt w sa cap bs) (hk : ∀ b so, bs ≠ [] → sa = some ⟨b, so, none⟩ → w'.heap[b]? = w.heap[b]?) : SliceAt w' sa cap bs := by
  refine ⟨h.le, h.max, h.some, h.nil, ?_⟩
  rcases h.bytes with hc | ⟨sb, so, e, hc⟩
  · exact .inl hc
  · by_cases hn : bs = []
    · exact .inl hn
    · exact .inr ⟨sb, so, e, fun k hk' => (World.cell?_of_block (hk sb so hn e)).trans (hc k hk')⟩
set_option maxRecDepth 100000 in
theorem slice_block_lt {w : World} {sa : Option Addr} {cap : Nat} {bs : List Int} (h : SliceAt w sa cap bs) (hn : bs ≠ []) (b so : Nat) (e : sa = some ⟨b, so, none⟩) : b < w.heap.size := by
  rcases h.bytes with hc | ⟨sb, so', e', hc⟩
  · exact absurd hc hn
  · rw [e] at e'
    cases e'
    exact block_lt_of_cell (hc 0 (by cases bs with | nil => exact absurd rfl hn | cons a l => simp))
set_option maxRecDepth 100000 in
theorem list_keep {w w' : World} {sa : Option Addr} {cap : Nat} {ps : List Part} (h : ListAt w sa cap ps) (hr : ∀ b so, sa = some ⟨b, so, none⟩ → w'.heap[b]? = w.heap[b]?) (hp : ∀ p, p ∈ ps → ∀ b so, p.bs ≠ [] → p.sa = some ⟨b, so, none⟩ → w'.heap[b]? = w.heap[b]?) : ListAt w' sa cap ps := by
  refine ⟨h.le, h.max, h.small, h.some, ⟨?_, fun p hm => slice_keep (h.parts.each p hm) (hp p hm)⟩⟩
  rcases h.parts.cells with hc | ⟨sb, so, e, hc⟩
  · exact .inl hc
  · exact .inr ⟨sb, so, e, fun k hk => (World.cell?_of_block (hr sb so e)).trans (hc k hk)⟩
set_option maxRecDepth 100000 in
theorem ints_keep {w w' : World} {va : Option Addr} {vl : List Int} (h : IntsAt w va vl) (hr : ∀ b so, vl ≠ [] → va = some ⟨b, so, none⟩ → w'.heap[b]? = w.heap[b]?) : IntsAt w' va vl := by
  refine ⟨?_⟩
  rcases h.cells with hc | ⟨sb, so, e, hc⟩
  · exact .inl hc
  · by_cases hn : vl = []
    · exact .inl hn
    · exact .inr ⟨sb, so, e, fun k hk => (World.cell?_of_block (hr sb so hn e)).trans (hc k hk)⟩
set_option maxRecDepth 100000 in
theorem CtAt.keep {w w' : World} {c : Ct} (h : CtAt w c) (hs : w.heap.size ≤ w'.heap.size) (hk : ∀ b, CtIn c b → w'.heap[b]? = w.heap[b]?) : CtAt w' c :=
  ⟨⟨list_keep h.hat.lb (fun b so e => hk b (.inl ⟨so, e⟩)) (fun p hp b so hn e => hk b (.inr (.inr (.inl ⟨p, List.mem_append_left _ hp, hn, so, e⟩)))), list_keep h.hat.lp (fun b so e => hk b (.inr (.inl ⟨so, e⟩))) (fun p hp b so hn e => hk b (.inr (.inr (.inl ⟨p, List.mem_append_right _ hp, hn, so, e⟩)))), fun sb so e => Nat.lt_of_lt_of_le (h.hat.rb sb so e) hs, fun sb so e => Nat.lt_of_lt_of_le (h.hat.rp sb so e) hs⟩, ints_keep h.ints (fun b so hn e => hk b (.inr (.inr (.inr ⟨hn, so, e⟩)))), h.vle⟩
set_option maxRecDepth 100000 in
theorem CtAt.block_lt {w : World} {c : Ct} (h : CtAt w c) (b : Nat) (hb : CtIn c b) : b < w.heap.size := by
  rcases hb with ⟨so, e⟩ | ⟨so, e⟩ | ⟨p, hp, hn, so, e⟩ | ⟨hn, so, e⟩
  · exact h.hat.rb b so e
  · exact h.hat.rp b so e
  · rcases List.mem_append.1 hp with hp | hp
    · exact slice_block_lt (h.hat.lb.parts.each p hp) hn b so e
    · exact slice_block_lt (h.hat.lp.parts.each p hp) hn b so e
  · rcases h.ints.cells with hc | ⟨sb, so', e', hc⟩
    · exact absurd hc hn
    · rw [e] at e'
      cases e'
      exact block_lt_of_cell (hc 0 (by cases hv : c.vl with | nil => exact absurd hv hn | cons a l => simp))
/-- Certificates, each apart from the row v, their lists at B or behind it. -/
def ApartC (w : World) (B : Nat) (v : Value) (ks : List Ct) : Prop := ∀ c ∈ ks, CtAt w c ∧ ∀ b, CtIn c b → B ≤ b ∧ v.ownBlock ≠ some b
set_option maxRecDepth 100000 in
theorem ApartC.more {w w2 w3 : World} {B : Nat} {v v1 : Value} {ks : List Ct} {c : Ct} {o : Obj} {n sz : Nat} {e : TypeId} {xs : List Value} (h : ApartC w B v ks) (hB : B ≤ w.heap.size) (ho : w.ownsRow B e sz v n xs) (hb2 : Below w.heap.size w w2)
    (hc : ∀ b, CtIn c b → w.heap.size ≤ b) (hs2 : CtAt w2 c) (G : Grew (w2.alloc o) v w3 v1) : ApartC w3 B v1 (ks ++ [c]) := by
  have hA : Below w2.heap.size w2 (w2.alloc o) := (Below.refl _ _).alloc (Nat.le_refl _) _
  have hsz : w2.heap.size < (w2.alloc o).heap.size := by rw [size_alloc]; omega
  have h3 := G.grown.size
  have h2 := hb2.size
  intro d hd
  rcases List.mem_append.1 hd with hd | hd
  · obtain ⟨hs, ha⟩ := h d hd
    have hs' := (hs.below hb2).below hA
    refine ⟨hs'.keep h3 (fun b hb => G.grown.block b (hs'.block_lt b hb) (fun e => (ha b hb).2 e.symm)), fun b hb => ⟨(ha b hb).1, fun hv => ?_⟩⟩
    have := hs.block_lt b hb
    rcases G.fresh b hv with g | g
    · exact (ha b hb).2 g
    · omega
  · obtain rfl : d = c := by simpa using hd
    have hne : ∀ b, CtIn d b → v.ownBlock ≠ some b := fun b hb hv => by
      have h1 := (ho.lt b hv).2
      have h2 := hc b hb
      omega
    have hs' := hs2.below hA
    refine ⟨hs'.keep h3 (fun b hb => G.grown.block b (hs'.block_lt b hb) (fun e => hne b hb e.symm)), fun b hb => ⟨by have := hc b hb; omega, fun hv => ?_⟩⟩
    have := hs2.block_lt b hb
    rcases G.fresh b hv with g | g
    · exact hne b hb g
    · omega
set_option maxRecDepth 100000 in
theorem ApartC.setCell {w : World} {B : Nat} {v : Value} {ks : List Ct} (h : ApartC w B v ks) (b j : Nat) (x : Value) (hb : b < B) : ApartC (w.setCell ⟨b, j, none⟩ x) B v ks := fun c hc =>
  ⟨(h c hc).1.keep (by simp) (fun q hq => heap_setCell_other w ⟨b, j, none⟩ q x (by have := ((h c hc).2 q hq).1; show q ≠ b; omega)), (h c hc).2⟩
set_option maxRecDepth 100000 in
theorem infoCert : (Tryd.prog.info? 63).map (fun i => (i.zero, i.size, i.bytes)) = some (some (.agg #[.int .i64 0, .int .i64 0, .slice none 0 0, .slice none 0 0, .slice none 0 0]), 5, 88) := by kernel_rfl
def Ct.cs (c : Ct) : List Value := [.int .i64 c.au, .int .i64 c.rd, .slice c.ba c.bl.length c.bc, .slice c.pa c.pl.length c.pc, .slice c.va c.vl.length c.vc]
def ctv : List Ct → List Value
  | [] => []
  | s :: r => s.cs ++ ctv r
set_option maxRecDepth 100000 in
theorem ctv_snoc (ls : List Ct) (s : Ct) : ctv (ls ++ [s]) = ctv ls ++ s.cs := by
  induction ls with
  | nil => simp [ctv]
  | cons x r ih => simp [ctv, ih]
set_option maxRecDepth 100000 in
theorem ctv_length (ls : List Ct) : (ctv ls).length = ls.length * 5 := by
  induction ls with
  | nil => rfl
  | cons x r ih => simp [ctv, ih, Ct.cs]; omega
set_option maxRecDepth 100000 in
theorem ctv_get (ls : List Ct) (j i : Nat) (h : j < ls.length) (hi : i < 5) : (ctv ls)[j * 5 + i]? = (ls[j]).cs[i]? := by
  induction ls generalizing j with
  | nil => cases h
  | cons x r ih =>
    cases j with
    | zero => simp only [ctv, Nat.zero_mul, Nat.zero_add, List.getElem_cons_zero]; rw [List.getElem?_append_left (by simp [Ct.cs]; exact hi)]
    | succ j =>
      have h' : j < r.length := by simpa using h
      simp only [ctv, List.getElem_cons_succ]
      rw [List.getElem?_append_right (by simp [Ct.cs]; omega), ← ih j h']
      congr 1
      simp [Ct.cs]; omega
set_option maxRecDepth 100000 in
theorem dag_of_owns {w : World} {base n : Nat} {v : Value} {ls : List Ct} (h : w.ownsRow base 63 5 v n (ctv ls)) (ha : ApartC w base v ls) : ∃ ra rc, v = .slice ra n rc ∧ n = ls.length ∧ (n ≤ 3000000000000000000 → DagAt w ra rc ls) ∧ (∀ sb so, ra = some ⟨sb, so, none⟩ → base ≤ sb ∧ sb < w.heap.size) := by
  have hl : n = ls.length := by have := h.1; rw [ctv_length] at this; omega
  rcases h.2 with ⟨rfl, hn⟩ | ⟨g, cap, cur, rfl, hr⟩
  · have hb : ls = [] := List.eq_nil_of_length_eq_zero (by omega)
    subst hn hb
    exact ⟨none, 0, rfl, rfl, fun _ => ⟨Nat.le_refl _, by decide, by decide, .inl rfl, ⟨.inl rfl⟩, fun p hp => by cases hp⟩, (fun _ _ e => by cases e)⟩
  · refine ⟨some ⟨g, 0, none⟩, cap, rfl, hl, fun hm => ⟨?_, ?_, by omega, .inr ⟨g, 0, rfl⟩, ⟨.inr ⟨g, 0, rfl, fun j hj => ?_⟩⟩, fun s hs => (ha s hs).1⟩, (fun sb so e => by cases e; exact h.lt _ rfl)⟩
    · obtain ⟨_, _, h1, _⟩ := hr
      omega
    · obtain ⟨_, _, _, h2, _⟩ := hr
      exact h2
    · have e : ∀ i, i < 5 → w.cell? ⟨g, j * 5 + i, none⟩ = (ls[j]).cs[i]? := fun i hi => by rw [World.ownsRow.cellAt h (j * 5 + i) (by omega), ctv_get ls j i hj hi]
      have e0 := e 0 (by omega)
      have e1 := e 1 (by omega)
      have e2 := e 2 (by omega)
      have e3 := e 3 (by omega)
      have e4 := e 4 (by omega)
      exact ⟨by simpa [Ct.cs] using e0, by simpa [Ct.cs] using e1, by simpa [Ct.cs] using e2, by simpa [Ct.cs] using e3, by simpa [Ct.cs] using e4⟩
end Go.Proofs.YtbmodfegcmaieaaDoor

namespace Go.Proofs.YtbmodfegcmaieaaDoor
open Go.RowKit

set_option maxRecDepth 100000 in
theorem owns_shape {w : World} {base n : Nat} {e : TypeId} {s : Nat} {v : Value} {xs : List Value} (h : w.ownsRow base e s v n xs) : ∃ za zc, v = .slice za n zc := by
  rcases h.2 with ⟨rfl, hn⟩ | ⟨g, cap, cur, rfl, _⟩
  · subst hn; exact ⟨none, 0, rfl⟩
  · exact ⟨some ⟨g, 0, none⟩, cap, rfl⟩
set_option maxRecDepth 100000 in
/-- A row stays where a block below its base is rewritten. -/
theorem owns_far {w : World} {base n : Nat} {e : TypeId} {s : Nat} {v : Value} {xs : List Value} (h : w.ownsRow base e s v n xs) (b j : Nat) (x : Value) (hb : b < base) : (w.setCell ⟨b, j, none⟩ x).ownsRow base e s v n xs := by
  obtain ⟨h1, h2⟩ := h
  refine ⟨h1, ?_⟩
  rcases h2 with h2 | ⟨g, cap, cur, rfl, hg, hc, r⟩
  · exact .inl h2
  · exact .inr ⟨g, cap, cur, rfl, hg, (heap_setCell_other w ⟨b, j, none⟩ g x (by show g ≠ b; omega)).trans hc, r⟩
end Go.Proofs.YtbmodfegcmaieaaDoor

namespace Go.Proofs.YtbmodfegcmaieaaDoor
open Go.RowKit

set_option maxRecDepth 100000 in
theorem row_type {w : World} {base n : Nat} {e : TypeId} {s : Nat} {v : Value} {xs : List Value} (h : w.ownsRow base e s v n xs) (q : Nat) (hq : v.ownBlock = some q) : ∃ cur, w.heap[q]? = some (.cells cur e (0, 0)) := by
  rcases h.2 with ⟨rfl, _⟩ | ⟨g, cap, cur, rfl, _, hc, _⟩
  · cases hq
  · cases hq; exact ⟨cur, hc⟩
set_option maxRecDepth 100000 in
theorem rows_apart {w : World} {b1 n1 b2 n2 : Nat} {e1 e2 : TypeId} {s1 s2 : Nat} {v1 v2 : Value} {xs1 xs2 : List Value} (h1 : w.ownsRow b1 e1 s1 v1 n1 xs1) (h2 : w.ownsRow b2 e2 s2 v2 n2 xs2) (hne : e1 ≠ e2) (q : Nat) (hq : v1.ownBlock = some q) : v2.ownBlock ≠ some q := fun hq2 => by
  obtain ⟨c1, k1⟩ := row_type h1 q hq
  obtain ⟨c2, k2⟩ := row_type h2 q hq2
  rw [k1] at k2
  simp only [Option.some.injEq, Obj.cells.injEq] at k2
  exact hne k2.2.1
set_option maxRecDepth 100000 in
theorem row_box {w : World} {b1 n1 : Nat} {e1 t : TypeId} {s1 : Nat} {v1 : Value} {xs1 : List Value} {q : Nat} {cs : Array Value} (h1 : w.ownsRow b1 e1 s1 v1 n1 xs1) (h2 : w.heap[q]? = some (.cells cs t (0, 0))) (hne : e1 ≠ t) : v1.ownBlock ≠ some q := fun hq => by
  obtain ⟨c1, k1⟩ := row_type h1 q hq
  rw [k1] at h2
  simp only [Option.some.injEq, Obj.cells.injEq] at h2
  exact hne h2.2.1
set_option maxRecDepth 100000 in
theorem owns_same {w w' : World} {base n : Nat} {e : TypeId} {s : Nat} {v : Value} {xs : List Value} (h : w.ownsRow base e s v n xs) (hk : ∀ q, v.ownBlock = some q → w'.heap[q]? = w.heap[q]?) : w'.ownsRow base e s v n xs := by
  obtain ⟨h1, h2⟩ := h
  refine ⟨h1, ?_⟩
  rcases h2 with h2 | ⟨g, cap, cur, rfl, hg, hc, r⟩
  · exact .inl h2
  · exact .inr ⟨g, cap, cur, rfl, hg, (hk g rfl).trans hc, r⟩
set_option maxRecDepth 100000 in
theorem ApartC.same {w w' : World} {B : Nat} {v : Value} {ks : List Ct} (h : ApartC w B v ks) (hs : w.heap.size ≤ w'.heap.size) (hk : ∀ c ∈ ks, ∀ b, CtIn c b → w'.heap[b]? = w.heap[b]?) : ApartC w' B v ks := fun c hc =>
  ⟨(h c hc).1.keep hs (hk c hc), (h c hc).2⟩
set_option maxRecDepth 100000 in
theorem Apart.same {w w' : World} {B : Nat} {v : Value} {ps : List Part} (h : Apart w B v ps) (hs : w.heap.size ≤ w'.heap.size) (hk : ∀ p ∈ ps, ∀ b so, p.sa = some ⟨b, so, none⟩ → w'.heap[b]? = w.heap[b]?) : Apart w' B v ps := fun p hp =>
  ⟨slice_keep (h p hp).1 (fun b so _ e => hk p hp b so e), fun sb so e => by
    obtain ⟨a1, a2, a3⟩ := (h p hp).2 sb so e
    exact ⟨a1, Nat.lt_of_lt_of_le a2 hs, a3⟩⟩
/-- A stock's box and its rows. -/
structure Stk (w : World) (B s : Nat) (vc vd : Value) (ls : List Ct) (ds : List Part) : Prop where
  box : w.heap[s]? = some (.cells #[vc, vd] 115 (0, 0))
  le : B ≤ s
  rc : w.ownsRow B 63 5 vc ls.length (ctv ls)
  rd : w.ownsRow B 46 1 vd ds.length (pv ds)
  ac : ApartC w B vc ls
  ad : Apart w B vd ds
  sc : ∀ c ∈ ls, ∀ b, CtIn c b → b ≠ s ∧ vd.ownBlock ≠ some b
  sd : ∀ p ∈ ds, ∀ sb so, p.sa = some ⟨sb, so, none⟩ → sb ≠ s ∧ vc.ownBlock ≠ some sb
set_option maxRecDepth 100000 in
theorem Stk.keep {w w' : World} {B s : Nat} {vc vd : Value} {ls : List Ct} {ds : List Part} (h : Stk w B s vc vd ls ds) (hs : w.heap.size ≤ w'.heap.size) (hk : ∀ b, B ≤ b → b < w.heap.size → w'.heap[b]? = w.heap[b]?) : Stk w' B s vc vd ls ds :=
  ⟨(hk s h.le (lt_of_heap h.box)).trans h.box, h.le, owns_same h.rc (fun q e => hk q (h.rc.lt q e).1 (h.rc.lt q e).2), owns_same h.rd (fun q e => hk q (h.rd.lt q e).1 (h.rd.lt q e).2), h.ac.same hs (fun c hc b hb => hk b ((h.ac c hc).2 b hb).1 ((h.ac c hc).1.block_lt b hb)), h.ad.same hs (fun p hp b so e => hk b ((h.ad p hp).2 b so e).1 ((h.ad p hp).2 b so e).2.1), h.sc, h.sd⟩
set_option maxRecDepth 100000 in
theorem Stk.below {w w' : World} {B s : Nat} {vc vd : Value} {ls : List Ct} {ds : List Part} (h : Stk w B s vc vd ls ds) (hb : Below w.heap.size w w') : Stk w' B s vc vd ls ds :=
  h.keep hb.size (fun b _ hl => hb.block b hl)
set_option maxRecDepth 100000 in
theorem Stk.down {w : World} {B B' s : Nat} {vc vd : Value} {ls : List Ct} {ds : List Part} (h : Stk w B s vc vd ls ds) (hB : B' ≤ B) : Stk w B' s vc vd ls ds := by
  have hd : ∀ {e : TypeId} {sz n : Nat} {v : Value} {xs : List Value}, w.ownsRow B e sz v n xs → w.ownsRow B' e sz v n xs := fun h => by
    obtain ⟨h1, h2⟩ := h
    refine ⟨h1, ?_⟩
    rcases h2 with h2 | ⟨g, cap, cur, e, hg, hc⟩
    · exact .inl h2
    · exact .inr ⟨g, cap, cur, e, Nat.le_trans hB hg, hc⟩
  exact ⟨h.box, Nat.le_trans hB h.le, hd h.rc, hd h.rd, fun c hc => ⟨(h.ac c hc).1, fun b hb => ⟨Nat.le_trans hB ((h.ac c hc).2 b hb).1, ((h.ac c hc).2 b hb).2⟩⟩, fun p hp => ⟨(h.ad p hp).1, fun sb so e => ⟨Nat.le_trans hB ((h.ad p hp).2 sb so e).1, ((h.ad p hp).2 sb so e).2⟩⟩, h.sc, h.sd⟩
set_option maxRecDepth 100000 in
/-- One certificate more. -/
theorem Stk.moreC {w w1 w2 : World} {B s : Nat} {vc vd vc' : Value} {ls : List Ct} {ds : List Part} {x : Ct} {o : Obj} (h : Stk w B s vc vd ls ds) (hB : B ≤ w.heap.size) (hb1 : Below w.heap.size w w1) (hx : CtAt w1 x) (hin : ∀ b, CtIn x b → w.heap.size ≤ b) (G : Grew (w1.alloc o) vc w2 vc')
    (ho : w2.ownsRow B 63 5 vc' (ls.length + 1) (ctv ls ++ x.cs)) : Stk (w2.setCell ⟨s, 0, none⟩ vc') B s vc' vd (ls ++ [x]) ds ∧ Below B w (w2.setCell ⟨s, 0, none⟩ vc') ∧ (∀ b, b < w.heap.size → b ≠ s → vc.ownBlock ≠ some b → (w2.setCell ⟨s, 0, none⟩ vc').heap[b]? = w.heap[b]?) ∧ (∀ b, b < w.heap.size → vc'.ownBlock = some b → vc.ownBlock = some b) := by
  have hne1 : (63 : TypeId) ≠ 115 := by decide
  have hne2 : (46 : TypeId) ≠ 115 := by decide
  have hne3 : (63 : TypeId) ≠ 46 := by decide
  have h1 := h.below hb1
  have hA : Below w1.heap.size w1 (w1.alloc o) := (Below.refl _ _).alloc (Nat.le_refl _) _
  have hA1 := hb1.trans (hA.mono hb1.size)
  have hsz1 := hb1.size
  have hsz2 : w1.heap.size < (w1.alloc o).heap.size := by rw [size_alloc]; omega
  have hsz3 := G.grown.size
  have hs : s < w.heap.size := lt_of_heap h.box
  have hcs : vc.ownBlock ≠ some s := row_box h.rc h.box hne1
  have hcs' : vc'.ownBlock ≠ some s := fun e => by
    rcases G.fresh s e with g | g
    · exact hcs g
    · omega
  have hbox2 : w2.heap[s]? = some (.cells #[vc, vd] 115 (0, 0)) := G.row (((hA1.block s hs)).trans h.box) hcs
  have hK : ∀ b, b < w.heap.size → b ≠ s → vc.ownBlock ≠ some b → (w2.setCell ⟨s, 0, none⟩ vc').heap[b]? = w.heap[b]? := fun b hb hbs hbc =>
    (heap_setCell_other w2 ⟨s, 0, none⟩ b vc' hbs).trans ((G.grown.block b (by omega) (fun e => hbc e.symm)).trans (hA1.block b hb))
  have hsz : w.heap.size ≤ (w2.setCell ⟨s, 0, none⟩ vc').heap.size := by simp; omega
  have hap := h.ac.more (c := x) hB h.rc hb1 hin hx G
  have hfr : ∀ b, b < w.heap.size → vc'.ownBlock = some b → vc.ownBlock = some b := fun b hb e => by
    rcases G.fresh b e with g | g
    · exact g
    · omega
  refine ⟨⟨?_, h.le, ?_, ?_, ?_, ?_, ?_, ?_⟩, ?_, hK, hfr⟩
  · simpa using heap_setCell_same _ _ 0 _ _ vc' hbox2
  · rw [ctv_snoc]
    exact owns_same (by simpa using ho) (fun q e => heap_setCell_other w2 ⟨s, 0, none⟩ q vc' (fun hq => hcs' (by rw [e, show q = s from hq])))
  · exact owns_same h.rd (fun q e => hK q (h.rd.lt q e).2 (fun hq => row_box h.rd h.box hne2 (by rw [e, hq])) (fun e2 => rows_apart h.rc h.rd hne3 q e2 e))
  · refine hap.same (by simp) (fun c hc b hb => heap_setCell_other w2 ⟨s, 0, none⟩ b vc' (fun hq => ?_))
    rcases List.mem_append.1 hc with hc | hc
    · exact (h.sc c hc b hb).1 hq
    · obtain rfl : c = x := by simpa using hc
      have := hin b hb
      have h2 : b = s := hq
      omega
  · exact h.ad.same hsz (fun p hp b so e => hK b ((h.ad p hp).2 b so e).2.1 (h.sd p hp b so e).1 (h.sd p hp b so e).2)
  · intro c hc b hb
    rcases List.mem_append.1 hc with hc | hc
    · exact h.sc c hc b hb
    · obtain rfl : c = x := by simpa using hc
      have hge := hin b hb
      exact ⟨by omega, fun e => by have := (h.rd.lt b e).2; omega⟩
  · intro p hp sb so e
    obtain ⟨a1, a2⟩ := h.sd p hp sb so e
    have hl := ((h.ad p hp).2 sb so e).2.1
    refine ⟨a1, fun e2 => ?_⟩
    rcases G.fresh sb e2 with g | g
    · exact a2 g
    · omega
  · have hG : Below B (w1.alloc o) w2 := G.below (by omega) (fun q e => (h.rc.lt q e).1)
    exact (((hA1.mono hB).trans hG).setCell h.le _)
set_option maxRecDepth 100000 in
/-- One digest more. -/
theorem Stk.moreD {w w1 w2 : World} {B s : Nat} {vc vd vd' : Value} {ls : List Ct} {ds : List Part} {p : Part} {o : Obj} (h : Stk w B s vc vd ls ds) (hB : B ≤ w.heap.size) (hb1 : Below w.heap.size w w1) (hp : SliceAt w1 p.sa p.cap p.bs) (hin : ∀ sb so, p.sa = some ⟨sb, so, none⟩ → B ≤ sb ∧ sb < w1.heap.size ∧ sb ≠ s ∧ vc.ownBlock ≠ some sb ∧ vd.ownBlock ≠ some sb) (G : Grew (w1.alloc o) vd w2 vd')
    (ho : w2.ownsRow B 46 1 vd' (ds.length + 1) (pv ds ++ [p.val])) : Stk (w2.setCell ⟨s, 1, none⟩ vd') B s vc vd' ls (ds ++ [p]) ∧ Below B w (w2.setCell ⟨s, 1, none⟩ vd') := by
  have hne1 : (63 : TypeId) ≠ 115 := by decide
  have hne2 : (46 : TypeId) ≠ 115 := by decide
  have hne3 : (63 : TypeId) ≠ 46 := by decide
  have hA : Below w1.heap.size w1 (w1.alloc o) := (Below.refl _ _).alloc (Nat.le_refl _) _
  have hA1 := hb1.trans (hA.mono hb1.size)
  have hsz1 := hb1.size
  have hsz2 : w1.heap.size < (w1.alloc o).heap.size := by rw [size_alloc]; omega
  have hsz3 := G.grown.size
  have hs : s < w.heap.size := lt_of_heap h.box
  have hcs : vd.ownBlock ≠ some s := row_box h.rd h.box hne2
  have hcs' : vd'.ownBlock ≠ some s := fun e => by
    rcases G.fresh s e with g | g
    · exact hcs g
    · omega
  have hbox2 : w2.heap[s]? = some (.cells #[vc, vd] 115 (0, 0)) := G.row (((hA1.block s hs)).trans h.box) hcs
  have hK : ∀ b, b < w.heap.size → b ≠ s → vd.ownBlock ≠ some b → (w2.setCell ⟨s, 1, none⟩ vd').heap[b]? = w.heap[b]? := fun b hb hbs hbc =>
    (heap_setCell_other w2 ⟨s, 1, none⟩ b vd' hbs).trans ((G.grown.block b (by omega) (fun e => hbc e.symm)).trans (hA1.block b hb))
  have hsz : w.heap.size ≤ (w2.setCell ⟨s, 1, none⟩ vd').heap.size := by simp; omega
  have hfr : ∀ sb, vd'.ownBlock = some sb → sb < w1.heap.size → vd.ownBlock = some sb := fun sb e hl => by
    rcases G.fresh sb e with g | g
    · exact g
    · omega
  refine ⟨⟨?_, h.le, ?_, ?_, ?_, ?_, ?_, ?_⟩, ?_⟩
  · simpa using heap_setCell_same _ _ 1 _ _ vd' hbox2
  · exact owns_same h.rc (fun q e => hK q (h.rc.lt q e).2 (fun hq => row_box h.rc h.box hne1 (by rw [e, hq])) (rows_apart h.rc h.rd hne3 q e))
  · have ho' : w2.ownsRow B 46 1 vd' (ds ++ [p]).length (pv (ds ++ [p])) := by simpa [pv] using ho
    exact owns_same ho' (fun q e => heap_setCell_other w2 ⟨s, 1, none⟩ q vd' (fun hq => hcs' (by rw [e, show q = s from hq])))
  · exact h.ac.same hsz (fun c hc b hb => hK b ((h.ac c hc).1.block_lt b hb) (h.sc c hc b hb).1 (h.sc c hc b hb).2)
  · intro q hq
    rcases List.mem_append.1 hq with hq | hq
    · obtain ⟨k1, k2⟩ := h.ad q hq
      refine ⟨slice_keep k1 (fun b so _ e => hK b (k2 b so e).2.1 (h.sd q hq b so e).1 (k2 b so e).2.2), fun sb so e => ?_⟩
      obtain ⟨a1, a2, a3⟩ := k2 sb so e
      exact ⟨a1, by omega, fun e2 => a3 (hfr sb e2 (by omega))⟩
    · obtain rfl : q = p := by simpa using hq
      refine ⟨slice_keep hp (fun b so _ e => ?_), fun sb so e => ?_⟩
      · obtain ⟨a1, a2, a3, a4, a5⟩ := hin b so e
        rw [heap_setCell_other w2 ⟨s, 1, none⟩ b vd' a3, G.grown.block b (by omega) (fun e => a5 e.symm), hA.block b a2]
      · obtain ⟨a1, a2, a3, a4, a5⟩ := hin sb so e
        exact ⟨a1, by simp; omega, fun e2 => a5 (hfr sb e2 a2)⟩
  · intro c hc b hb
    obtain ⟨a1, a2⟩ := h.sc c hc b hb
    have hl := (h.ac c hc).1.block_lt b hb
    exact ⟨a1, fun e2 => a2 (hfr b e2 (by omega))⟩
  · intro q hq sb so e
    rcases List.mem_append.1 hq with hq | hq
    · exact h.sd q hq sb so e
    · obtain rfl : q = p := by simpa using hq
      obtain ⟨a1, a2, a3, a4, a5⟩ := hin sb so e
      exact ⟨a3, a4⟩
  · have hG : Below B (w1.alloc o) w2 := G.below (by omega) (fun q e => (h.rd.lt q e).1)
    exact (((hA1.mono hB).trans hG).setCell h.le _)
/-- A stock: certificates, and their digests at the same places. -/
structure StockAt (w : World) (ca : Option Addr) (cc : Nat) (ls : List Ct) (da : Option Addr) (dc : Nat) (ds : List Part) : Prop where
  certs : CertsAt w ca ls
  each : ∀ c ∈ ls, CtAt w c
  digs : ListAt w da dc ds
  same : bss ds = (cvs ls).map CV.d
  small : ls.length ≤ 400
  cle : ls.length ≤ cc
  cmax : cc ≤ 9223372036854775807
set_option maxRecDepth 100000 in
theorem StockAt.below {w w' : World} {ca : Option Addr} {cc : Nat} {ls : List Ct} {da : Option Addr} {dc : Nat} {ds : List Part} (h : StockAt w ca cc ls da dc ds) (hb : Below w.heap.size w w') : StockAt w' ca cc ls da dc ds :=
  ⟨h.certs.below hb, fun c hc => (h.each c hc).below hb, h.digs.below hb, h.same, h.small, h.cle, h.cmax⟩
set_option maxRecDepth 100000 in
theorem StockAt.len {w : World} {ca : Option Addr} {cc : Nat} {ls : List Ct} {da : Option Addr} {dc : Nat} {ds : List Part} (h : StockAt w ca cc ls da dc ds) : ds.length = ls.length := by
  rw [digs_length h.same, cvs_length]
/-- A stock that is read through its box. -/
structure StkAt (w : World) (s : Nat) (ls : List Ct) (ca : Option Addr) (cc : Nat) (da : Option Addr) (dc : Nat) (ds : List Part) : Prop where
  box : w.heap[s]? = some (.cells #[.slice ca ls.length cc, .slice da ls.length dc] 115 (0, 0))
  at' : StockAt w ca cc ls da dc ds
set_option maxRecDepth 100000 in
theorem StkAt.below {w w' : World} {s : Nat} {ls : List Ct} {ca : Option Addr} {cc : Nat} {da : Option Addr} {dc : Nat} {ds : List Part} (h : StkAt w s ls ca cc da dc ds) (hb : Below w.heap.size w w') : StkAt w' s ls ca cc da dc ds :=
  ⟨(hb.block s (lt_of_heap h.box)).trans h.box, h.at'.below hb⟩
set_option maxRecDepth 100000 in
theorem Stk.at {w : World} {B s : Nat} {vc vd : Value} {ls : List Ct} {ds : List Part} (h : Stk w B s vc vd ls ds) (hs : bss ds = (cvs ls).map CV.d) (hm : ls.length ≤ 400) : ∃ ca cc da dc, vc = .slice ca ls.length cc ∧ vd = .slice da ls.length dc ∧ StkAt w s ls ca cc da dc ds := by
  have hl : ds.length = ls.length := by rw [digs_length hs, cvs_length]
  obtain ⟨ca, cc, h1, _, h2, _⟩ := dag_of_owns h.rc h.ac
  obtain ⟨da, dc, k1, _, k2, _⟩ := listAt_of_owns h.rd h.ad
  have h2' := h2 (by omega)
  rw [hl] at k1 k2
  refine ⟨ca, cc, da, dc, h1, k1, ⟨by rw [← h1, ← k1]; exact h.box, ⟨h2'.certs, h2'.each, k2 (by omega), hs, hm, h2'.le, h2'.max⟩⟩⟩
/-- A stock that a call owns. -/
structure StkOwn (w : World) (B s : Nat) (ls : List Ct) : Prop where
  out : ∃ vc vd ds, Stk w B s vc vd ls ds ∧ bss ds = (cvs ls).map CV.d ∧ ls.length ≤ 400
set_option maxRecDepth 100000 in
theorem StkOwn.below {w w' : World} {B s : Nat} {ls : List Ct} (h : StkOwn w B s ls) (hb : Below w.heap.size w w') : StkOwn w' B s ls := by
  obtain ⟨vc, vd, ds, h1, h2, h3⟩ := h.out
  exact ⟨vc, vd, ds, h1.below hb, h2, h3⟩
end Go.Proofs.YtbmodfegcmaieaaDoor

namespace Go.Proofs.YtbmodfegcmaieaaDoor
open Go.RowKit

set_option maxRecDepth 100000 in
theorem infoBatch : (Tryd.prog.info? 42).map (fun i => (i.zero, i.size, i.bytes)) = some (some (.agg #[.int .i64 0, .int .i64 0, .slice none 0 0]), 3, 40) := by kernel_rfl
set_option maxRecDepth 100000 in
theorem own_wideO {w : World} {B B' n : Nat} {e : TypeId} {sz : Nat} {v : Value} {xs : List Value} (h : w.ownsRow B e sz v n xs) (hB : B' ≤ B) : w.ownsRow B' e sz v n xs := ⟨h.1, h.2.imp id (fun ⟨g, c, cur, e1, e2, r⟩ => ⟨g, c, cur, e1, Nat.le_trans hB e2, r⟩)⟩
set_option maxRecDepth 100000 in
theorem strs_of_owns {w : World} {B n : Nat} {v : Value} {ss : List ByteArray} (h : w.ownsRow B 9 1 v n (sv ss)) (hz : ∀ s ∈ ss, s.size ≤ maxLen) : ∃ sa cap, v = .slice sa n cap ∧ StrsAt w sa ss := by
  have hl : n = ss.length := by have := h.1; rw [sv_length] at this; omega
  rcases h.2 with ⟨rfl, hn⟩ | ⟨g, cap, cur, rfl, hr⟩
  · obtain rfl : ss = [] := List.eq_nil_of_length_eq_zero (by omega)
    subst hn
    exact ⟨none, 0, rfl, .inl rfl, hz⟩
  · refine ⟨some ⟨g, 0, none⟩, cap, rfl, .inr ⟨g, 0, rfl, fun j hj => ?_⟩, hz⟩
    rw [Nat.zero_add, World.ownsRow.cellAt h j (by omega)]
    simp [sv, hj]
def bcl (l : List Bc) : List Value := l.flatMap Bc.cs
set_option maxRecDepth 100000 in
theorem bcl_app (a b : List Bc) : bcl (a ++ b) = bcl a ++ bcl b := by simp [bcl]
set_option maxRecDepth 100000 in
theorem bcl_cons (a : Bc) (b : List Bc) : bcl (a :: b) = a.cs ++ bcl b := by simp [bcl]
set_option maxRecDepth 100000 in
theorem bcl_length (l : List Bc) : (bcl l).length = l.length * 3 := by
  induction l with
  | nil => rfl
  | cons x r ih => rw [bcl_cons, List.length_append, ih]; simp [Bc.cs]; omega
set_option maxRecDepth 100000 in
theorem bcl_get (l : List Bc) (j i : Nat) (h : j < l.length) (hi : i < 3) : (bcl l)[j * 3 + i]? = (l[j]).cs[i]? := by
  induction l generalizing j with
  | nil => cases h
  | cons x r ih =>
    cases j with
    | zero =>
      rw [bcl_cons, Nat.zero_mul, Nat.zero_add, List.getElem?_append_left (by simp [Bc.cs]; exact hi)]; rfl
    | succ j =>
      have h' : j < r.length := by simpa using h
      rw [bcl_cons, List.getElem?_append_right (by simp [Bc.cs]; omega)]
      have e : (j + 1) * 3 + i - x.cs.length = j * 3 + i := by simp [Bc.cs]; omega
      rw [e, ih j h']; rfl
set_option maxRecDepth 100000 in
theorem bc_one (b : Bc) : ∀ u ∈ b.cs, u.oneCell' = true := by
  intro u hu
  simp [Bc.cs] at hu
  rcases hu with rfl | rfl | rfl <;> rfl
set_option maxRecDepth 100000 in
theorem bcl_one (l : List Bc) : ∀ u ∈ bcl l, u.oneCell' = true := by
  intro u hu
  obtain ⟨b, _, h⟩ := List.mem_flatMap.1 hu
  exact bc_one b u h
set_option maxRecDepth 100000 in
theorem bcs_of_owns {w : World} {B n : Nat} {v : Value} {bl : List Bc} (h : w.ownsRow B 42 3 v n (bcl bl)) (he : ∀ b ∈ bl, BcAt w b) : ∃ sa cap, v = .slice sa n cap ∧ n = bl.length ∧ BcsAt w sa bl := by
  have hl : n = bl.length := by have := h.1; rw [bcl_length] at this; omega
  rcases h.2 with ⟨rfl, hn⟩ | ⟨g, cap, cur, rfl, hr⟩
  · have hb : bl = [] := List.eq_nil_of_length_eq_zero (by omega)
    subst hb hn
    exact ⟨none, 0, rfl, hl, ⟨.inl rfl, he⟩⟩
  · refine ⟨some ⟨g, 0, none⟩, cap, rfl, hl, ⟨.inr ⟨g, 0, rfl, fun j hj => ?_⟩, he⟩⟩
    have e : ∀ i, i < 3 → w.cell? ⟨g, 0 + j * 3 + i, none⟩ = (bl[j]).cs[i]? := fun i hi => by rw [show 0 + j * 3 + i = j * 3 + i by omega, World.ownsRow.cellAt h (j * 3 + i) (by omega), bcl_get bl j i hj hi]
    exact ⟨e 0 (by omega), e 1 (by omega), e 2 (by omega)⟩
set_option maxRecDepth 100000 in
theorem bcl_cells {w : World} {sb so : Nat} {bl : List Bc} (h : BcsAt w (some ⟨sb, so, none⟩) bl) : ∀ j u, (bcl bl)[j]? = some u → w.cell? ((⟨sb, so, none⟩ : Addr).add j) = some u := by
  intro j u hu
  have hj : j < bl.length * 3 := by
    rcases Nat.lt_or_ge j (bl.length * 3) with g | g
    · exact g
    · rw [List.getElem?_eq_none (by rw [bcl_length]; exact g)] at hu; cases hu
  rcases h.cells with hb | ⟨sb', so', e, hb⟩
  · subst hb; simp at hj
  · cases e
    have hq : j / 3 < bl.length := by omega
    have hg := bcl_get bl (j / 3) (j % 3) hq (by omega)
    have ej : j / 3 * 3 + j % 3 = j := by omega
    rw [ej, hu] at hg
    obtain ⟨h0, h1, h2⟩ := hb (j / 3) hq
    rw [add_off]
    have hm : j % 3 = 0 ∨ j % 3 = 1 ∨ j % 3 = 2 := by omega
    rcases hm with m | m | m
    · rw [m] at hg
      have e2 : j = j / 3 * 3 := by omega
      rw [e2, h0]; exact hg.symm
    · rw [m] at hg
      have e2 : so + j = so + j / 3 * 3 + 1 := by omega
      rw [e2, h1]; exact hg.symm
    · rw [m] at hg
      have e2 : so + j = so + j / 3 * 3 + 2 := by omega
      rw [e2, h2]; exact hg.symm
/-- The texts of a batch lie in a row of their own. -/
def TxOwn (w : World) (B : Nat) (b : Bc) : Prop := w.ownsRow B 9 1 (.slice b.ta b.v.ss.length b.tc) b.v.ss.length (sv b.v.ss) ∧ ∀ s ∈ b.v.ss, s.size ≤ maxLen
set_option maxRecDepth 100000 in
theorem TxOwn.at {w : World} {B : Nat} {b : Bc} (h : TxOwn w B b) : BcAt w b := by
  obtain ⟨h, hz⟩ := h
  obtain ⟨sa, cap, hv, hst⟩ := strs_of_owns h hz
  simp at hv
  obtain ⟨h1, h2⟩ := hv
  rw [← h1] at hst
  refine ⟨hst, ?_, ?_, ?_, ?_⟩
  · rcases h.2 with ⟨e, hn⟩ | ⟨g, cap', cur, e, hr⟩
    · simp at e; omega
    · simp at e
      obtain ⟨_, _, h3, _⟩ := hr
      omega
  · rcases h.2 with ⟨e, hn⟩ | ⟨g, cap', cur, e, hr⟩
    · simp at e; unfold maxLen; omega
    · simp at e
      obtain ⟨_, _, _, h4, _⟩ := hr
      unfold maxLen at h4 ⊢
      omega
  · intro e0
    rcases h.2 with ⟨e, hn⟩ | ⟨g, cap', cur, e, hr⟩
    · simp at e; exact e.2.2
    · simp [e0] at e
  · intro sb so e0
    exact (h.lt sb (by rw [e0]; rfl)).2
set_option maxRecDepth 100000 in
/-- 'append(l, p...)': l a row that the call owns, p whatever slice of batches. -/
theorem wpList_append_bcs {w : World} {ops : Array Oper} {rest : List Oper} {o : Oper} {a : Act} {Q : Exit → Act → World → Prop} (hgd : o.guard = none) (s x : Operand)
    (ho : o.op = .call { callee := .builtin .append, args := #[s, x], argTypes := #[22, 22] })
    (base : Nat) (v : Value) (n : Nat) (bs : List Bc) (hs : a.eval s = v) (hown : w.ownsRow base 42 3 v n (bcl bs))
    (u : Value) (m : Nat) (cs : List Bc) (b2 : Nat) (hx : a.eval x = u) (hp : w.ownsRow b2 42 3 u m (bcl cs))
    (hlen : (n + m) * 40 ≤ 140737488355328) (hbase : base ≤ w.heap.size)
    (h : ∀ v' w', w'.ownsRow base 42 3 v' (n + m) (bcl (bs ++ cs)) → w.grownBy w' v.ownBlock → wpList Tryd.prog ops Q rest (a.put o.dst v') w') : wpList Tryd.prog ops Q (o :: rest) a w := by
  obtain ⟨i, hi, hz0, hz1, hz2⟩ := info_parts infoBatch
  have hp2 := hp
  rcases hp.2 with ⟨rfl, hn⟩ | ⟨g, cap, cur, rfl, hr⟩
  · have hl : m = cs.length := by have := hp.1; rw [bcl_length] at this; omega
    obtain rfl : cs = [] := List.eq_nil_of_length_eq_zero (by omega)
    subst hn
    exact wpList_append_own_none hgd s x 22 ho base 42 i 3 Tryd.underlying22 hi v n (bcl bs) hs hown hx (h v w (by simpa using hown) (World.grownBy.refl _ _))
  · refine wpList_append_own w hgd s x 22 ho base 42 i (.agg #[.int .i64 0, .int .i64 0, .slice none 0 0]) 3 40 Tryd.underlying22 hi hz0 hz1 hz2 rfl (by decide) v n (bcl bs) hs hown ⟨g, 0, none⟩ m cap (bcl cs) hx (by have := hp2.1; omega) (World.ownsRow.cells hp2 rfl) (bcl_one cs) (by unfold maxLen; omega) hlen hbase ?_
    intro v' w' h1 h2 _
    exact h v' w' (by rw [bcl_app]; exact h1) h2
set_option maxRecDepth 100000 in
theorem owns_grew {w w' : World} {b1 n1 b2 n2 s1 s2 : Nat} {e1 e2 : TypeId} {u v v' : Value} {xs ys : List Value} (h : w.ownsRow b1 e1 s1 u n1 xs) (h2 : w.ownsRow b2 e2 s2 v n2 ys) (hne : e1 ≠ e2) (G : Grew w v w' v') : w'.ownsRow b1 e1 s1 u n1 xs := by
  have hB : ∀ q, u.ownBlock = some q → q < w.heap.size ∧ v.ownBlock ≠ some q := fun q e => ⟨(h.lt q e).2, rows_apart h h2 hne q e⟩
  obtain ⟨g1, g2⟩ := h
  refine ⟨g1, ?_⟩
  rcases g2 with g2 | ⟨g, cap, cur, rfl, hg, hc, r⟩
  · exact .inl g2
  · obtain ⟨k1, k2⟩ := hB g rfl
    exact .inr ⟨g, cap, cur, rfl, hg, (G.grown.block g k1 (fun e => k2 e.symm)).trans hc, r⟩
end Go.Proofs.YtbmodfegcmaieaaDoor

namespace Go.Proofs.YtbmodfegcmaieaaDoor
open Go.ChangeShapes Go.WideShapes Go.ChangeAt Go.RowKit

set_option maxRecDepth 100000 in
theorem cU8 : Tryd.prog.cellsOf 5 = 1 := by kernel_rfl
set_option maxRecDepth 100000 in
theorem own : ownKnob Tryd.prog.godebug = none := by kernel_rfl
set_option maxRecDepth 100000 in
theorem laidOut : laidOutB Tryd.prog = true := by kernel_rfl
/-- Each is a byte. -/
def AllU8 (bs : List Int) : Prop := ∀ x ∈ bs, 0 ≤ x ∧ x ≤ 255
set_option maxRecDepth 100000 in
theorem open_bytes_cells {H : Type} {enc : TypeId × Value → H} {W : World} {fuel : Nat} {cs : List Value} {x : DataW H × List MemPlace}
    (hf : DataW.trod enc Tryd.prog W 0 (fun _ => true) true fuel 46 cs = some x) :
    ∃ sa cap bs, cs = [.slice sa (List.length bs) cap] ∧ SliceAt W sa cap bs ∧ AllU8 bs := by
  rcases open_ints Tryd.underlying46 Tryd.underlying5 cU8 hf with ⟨rfl, _⟩ | ⟨x, len0, cap0, zs, rfl, _, hl, hm, hz, _, hcell, hwz⟩
  · exact ⟨none, 0, [], rfl, ⟨Nat.le_refl _, by decide, .inl rfl, fun _ => rfl, .inl rfl⟩, fun x hx => by cases hx⟩
  · simp only [if_true] at hz
    have hlen : (zs.take len0).length = len0 := by rw [List.length_take, hz]; omega
    refine ⟨some x, cap0, zs.take len0, by rw [hlen], ?_, fun y hy => bounds_u8 (hwz y (List.mem_of_mem_take hy))⟩
    rcases Nat.eq_zero_or_pos cap0 with h0 | h0
    · subst h0
      obtain rfl : len0 = 0 := by omega
      exact ⟨by simp, hm, .inl rfl, fun _ => rfl, .inl (by simp)⟩
    · obtain ⟨b, off, rfl, hc⟩ := ints_at hcell (by omega)
      refine ⟨by omega, hm, .inr ⟨b, off, rfl⟩, (fun e => by cases e), .inr ⟨b, off, rfl, fun j hj => ?_⟩⟩
      rw [hc j (by omega)]
      have : j < len0 := by omega
      simp [List.getD, this]
set_option maxRecDepth 100000 in
theorem open_bytes {H : Type} {enc : TypeId × Value → H} {W : World} {base : Nat} {v : Value} {d : DataW H} {p : List MemPlace}
    (hv : Value.okWide Tryd.prog W .any base 46 v) (h : DataW.Trod enc Tryd.prog W 0 (fun _ => true) true 46 v d p) :
    ∃ sa cap bs, v = .slice sa (List.length bs) cap ∧ SliceAt W sa cap bs ∧ AllU8 bs := by
  obtain ⟨a0, len0, cap0, rfl⟩ := okWide_slice Tryd.underlying46 hv
  obtain ⟨fuel, hf⟩ := h
  obtain ⟨sa, cap, bs, hcs, h1, h2⟩ := open_bytes_cells hf
  simp [Value.cells] at hcs
  obtain ⟨rfl, rfl, rfl⟩ := hcs
  exact ⟨_, _, bs, rfl, h1, h2⟩
set_option maxRecDepth 100000 in
theorem bU8 : Tryd.prog.bytesOf 5 = 1 := by kernel_rfl
set_option maxRecDepth 100000 in
/-- The form's own reach, of one argument. -/
theorem fit_each {H : Type} {ts : List TypeId} {ds : List (DataW H)} (h : (DataW.weightsEach Tryd.prog ts ds).all (· ≤ reachBytes) = true) {j : Nat} {t : TypeId} {d : DataW H} (ht : ts[j]? = some t) (hd : ds[j]? = some d) : ∀ n ∈ d.weights Tryd.prog t, n ≤ reachBytes := fun n hn => by
  simpa using List.all_eq_true.1 h n (DataW.weights_mem_each ht hd n hn)
set_option maxRecDepth 100000 in
/-- A slice of bytes has room for so many. -/
theorem bytes_fit {H : Type} {enc : TypeId × Value → H} {W : World} {fuel : Nat} {cs : List Value} {x : DataW H × List MemPlace} {sa : Option Addr} {n cap : Nat}
    (hf : DataW.trod enc Tryd.prog W 0 (fun _ => true) true fuel 46 cs = some x) (hfit : ∀ n ∈ x.1.weights Tryd.prog 46, n ≤ reachBytes) (e : cs = [.slice sa n cap]) : cap ≤ 140737488351232 := by
  rcases open_ints Tryd.underlying46 Tryd.underlying5 cU8 hf with ⟨rfl, _⟩ | ⟨a, len, cap', zs, rfl, _, hl, hm, hz, rfl, _, _⟩
  · simp at e
    omega
  · simp at e
    obtain ⟨_, rfl, rfl⟩ := e
    have := hfit (((zs.take len).length + (zs.drop len).length) * Tryd.prog.bytesOf 5) (by simp [DataW.weights, Tryd.underlying46, lits])
    rw [bU8] at this
    simp only [if_true] at hz
    simp [reachBytes] at this
    omega
end Go.Proofs.YtbmodfegcmaieaaDoor

namespace Go.Proofs.YtbmodfegcmaieaaDoor
open Go.ChangeShapes Go.WideShapes Go.ChangeAt Go.RowKit Go.Deep

/-- What is read of a slice of texts that came in. -/
structure TextsAt (w : World) (sa : Option Addr) (cap : Nat) (ss : List ByteArray) : Prop where
  le : ss.length ≤ cap
  reach : cap * 16 ≤ 140737488351232
  nil : sa = none → cap = 0
  strs : StrsAt w sa ss
set_option maxRecDepth 100000 in
theorem TextsAt.below {w w' : World} {sa : Option Addr} {cap : Nat} {ss : List ByteArray} (h : TextsAt w sa cap ss) (hb : Below w.heap.size w w') : TextsAt w' sa cap ss := ⟨h.le, h.reach, h.nil, h.strs.below hb⟩

set_option maxRecDepth 100000 in
theorem cStr : Tryd.prog.cellsOf 9 = 1 := by kernel_rfl
set_option maxRecDepth 100000 in
theorem bStr : Tryd.prog.bytesOf 9 = 16 := by kernel_rfl
set_option maxRecDepth 100000 in
theorem open_texts_cells {H : Type} {enc : TypeId × Value → H} {W : World} {fuel : Nat} {cs : List Value} {x : DataW H × List MemPlace}
    (hf : DataW.trod enc Tryd.prog W 0 (fun _ => true) true fuel 40 cs = some x) (hfit : ∀ n ∈ x.1.weights Tryd.prog 40, n ≤ reachBytes) :
    ∃ sa cap ss, cs = [.slice sa (List.length ss) cap] ∧ TextsAt W sa cap ss := by
  rcases open_strs Tryd.underlying40 Tryd.underlying9 cStr hf with ⟨rfl, _⟩ | ⟨a, len, cap, m, Sx, rfl, _, hl, hm, hmm, rfl, hc⟩
  · exact ⟨none, 0, [], rfl, ⟨Nat.le_refl _, by decide, fun _ => rfl, ⟨.inl rfl, fun s hs => by cases hs⟩⟩⟩
  · simp only [if_true] at hmm
    subst hmm
    have hw := hfit ((((List.range len).map fun i => (DataW.lit (.string (Sx i).data.toList) : DataW H)).length + ((List.range (m - len)).map fun j => (DataW.lit (.string (Sx (len + j)).data.toList) : DataW H)).length) * Tryd.prog.bytesOf 9) (by simp [DataW.weights, Tryd.underlying40])
    rw [bStr] at hw
    simp [reachBytes] at hw
    refine ⟨some a, m, (List.range len).map Sx, by simp, ⟨by simpa using hl, by omega, (fun e => by cases e), ⟨?_, ?_⟩⟩⟩
    · rcases Nat.eq_zero_or_pos len with h0 | h0
      · subst h0; exact .inl rfl
      · right
        have h9 := (hc 0 (by omega)).1
        obtain ⟨b, off, rfl⟩ : ∃ b off, a = ⟨b, off, none⟩ := by
          cases a with
          | mk b off spot =>
            cases spot with
            | none => exact ⟨b, off, rfl⟩
            | some s => simp [World.cell?, Addr.add] at h9; split at h9 <;> cases h9
        refine ⟨b, off, rfl, fun j hj => ?_⟩
        have hj' : j < len := by simpa using hj
        have := (hc j (by omega)).1
        rw [add_off] at this
        rw [this]
        simp [hj']
    · intro s hs
      simp at hs
      obtain ⟨j, hj, rfl⟩ := hs
      exact (hc j (by omega)).2
end Go.Proofs.YtbmodfegcmaieaaDoor
