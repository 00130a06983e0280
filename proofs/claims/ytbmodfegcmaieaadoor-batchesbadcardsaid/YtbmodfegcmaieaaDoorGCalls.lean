/- A call with a contract, as one step of a region that draws its order. -/
import Derived.Test.YtbmodfegcmaieaaDoorGAppR
import Derived.Deep.RegionHeld
import Derived.Test.YtbmodfegcmaieaaDoorGCtFar
import Derived.Test.YtbmodfegcmaieaaDoorGOwnL
import Derived.Shelf.Abstract
namespace Go.Proofs.YtbmodfegcmaieaaDoor
open Go.RowKit

set_option maxRecDepth 100000 in
theorem owns_shape {w : World} {base n : Nat} {e : TypeId} {s : Nat} {v : Value} {xs : List Value} (h : w.ownsRow base e s v n xs) : ∃ za zc, v = .slice za n zc := by
  rcases h.2 with ⟨rfl, hn⟩ | ⟨g, cap, cur, rfl, _⟩
  · subst hn; exact ⟨none, 0, rfl⟩
  · exact ⟨some ⟨g, 0, none⟩, cap, rfl⟩
set_option maxRecDepth 100000 in
/-- A row stays where a block below its base is rewritten. -/
theorem owns_far {w : World} {base n : Nat} {e : TypeId} {s : Nat} {v : Value} {xs : List Value} (h : w.ownsRow base e s v n xs) (b j : Nat) (x : Value) (hb : b < base) : (w.setCell ⟨b, j, none⟩ x).ownsRow base e s v n xs := by
  obtain ⟨h1, h2⟩ := h
  refine ⟨h1, ?_⟩
  rcases h2 with h2 | ⟨g, cap, cur, rfl, hg, hc, r⟩
  · exact .inl h2
  · exact .inr ⟨g, cap, cur, rfl, hg, (heap_setCell_other w ⟨b, j, none⟩ g x (by show g ≠ b; omega)).trans hc, r⟩
end Go.Proofs.YtbmodfegcmaieaaDoor

namespace Go.Proofs.YtbmodfegcmaieaaDoor
open Go.RowKit

set_option maxRecDepth 100000 in
theorem row_type {w : World} {base n : Nat} {e : TypeId} {s : Nat} {v : Value} {xs : List Value} (h : w.ownsRow base e s v n xs) (q : Nat) (hq : v.ownBlock = some q) : ∃ cur, w.heap[q]? = some (.cells cur e (0, 0)) := by
  rcases h.2 with ⟨rfl, _⟩ | ⟨g, cap, cur, rfl, _, hc, _⟩
  · cases hq
  · cases hq; exact ⟨cur, hc⟩
set_option maxRecDepth 100000 in
theorem rows_apart {w : World} {b1 n1 b2 n2 : Nat} {e1 e2 : TypeId} {s1 s2 : Nat} {v1 v2 : Value} {xs1 xs2 : List Value} (h1 : w.ownsRow b1 e1 s1 v1 n1 xs1) (h2 : w.ownsRow b2 e2 s2 v2 n2 xs2) (hne : e1 ≠ e2) (q : Nat) (hq : v1.ownBlock = some q) : v2.ownBlock ≠ some q := fun hq2 => by
  obtain ⟨c1, k1⟩ := row_type h1 q hq
  obtain ⟨c2, k2⟩ := row_type h2 q hq2
  rw [k1] at k2
  simp only [Option.some.injEq, Obj.cells.injEq] at k2
  exact hne k2.2.1
set_option maxRecDepth 100000 in
theorem row_box {w : World} {b1 n1 : Nat} {e1 t : TypeId} {s1 : Nat} {v1 : Value} {xs1 : List Value} {q : Nat} {cs : Array Value} (h1 : w.ownsRow b1 e1 s1 v1 n1 xs1) (h2 : w.heap[q]? = some (.cells cs t (0, 0))) (hne : e1 ≠ t) : v1.ownBlock ≠ some q := fun hq => by
  obtain ⟨c1, k1⟩ := row_type h1 q hq
  rw [k1] at h2
  simp only [Option.some.injEq, Obj.cells.injEq] at h2
  exact hne h2.2.1
set_option maxRecDepth 100000 in
theorem owns_same {w w' : World} {base n : Nat} {e : TypeId} {s : Nat} {v : Value} {xs : List Value} (h : w.ownsRow base e s v n xs) (hk : ∀ q, v.ownBlock = some q → w'.heap[q]? = w.heap[q]?) : w'.ownsRow base e s v n xs := by
  obtain ⟨h1, h2⟩ := h
  refine ⟨h1, ?_⟩
  rcases h2 with h2 | ⟨g, cap, cur, rfl, hg, hc, r⟩
  · exact .inl h2
  · exact .inr ⟨g, cap, cur, rfl, hg, (hk g rfl).trans hc, r⟩
set_option maxRecDepth 100000 in
theorem ApartC.same {w w' : World} {B : Nat} {v : Value} {ks : List Ct} (h : ApartC w B v ks) (hs : w.heap.size ≤ w'.heap.size) (hk : ∀ c ∈ ks, ∀ b, CtIn c b → w'.heap[b]? = w.heap[b]?) : ApartC w' B v ks := fun c hc =>
  ⟨(h c hc).1.keep hs (hk c hc), (h c hc).2⟩
set_option maxRecDepth 100000 in
theorem Apart.same {w w' : World} {B : Nat} {v : Value} {ps : List Part} (h : Apart w B v ps) (hs : w.heap.size ≤ w'.heap.size) (hk : ∀ p ∈ ps, ∀ b so, p.sa = some ⟨b, so, none⟩ → w'.heap[b]? = w.heap[b]?) : Apart w' B v ps := fun p hp =>
  ⟨slice_keep (h p hp).1 (fun b so _ e => hk p hp b so e), fun sb so e => by
    obtain ⟨a1, a2, a3⟩ := (h p hp).2 sb so e
    exact ⟨a1, Nat.lt_of_lt_of_le a2 hs, a3⟩⟩
/-- A stock's box and its rows. -/
structure Stk (w : World) (B s : Nat) (vc vd : Value) (ls : List Ct) (ds : List Part) : Prop where
  box : w.heap[s]? = some (.cells #[vc, vd] 115 (0, 0))
  le : B ≤ s
  rc : w.ownsRow B 63 5 vc ls.length (ctv ls)
  rd : w.ownsRow B 46 1 vd ds.length (pv ds)
  ac : ApartC w B vc ls
  ad : Apart w B vd ds
  sc : ∀ c ∈ ls, ∀ b, CtIn c b → b ≠ s ∧ vd.ownBlock ≠ some b
  sd : ∀ p ∈ ds, ∀ sb so, p.sa = some ⟨sb, so, none⟩ → sb ≠ s ∧ vc.ownBlock ≠ some sb
set_option maxRecDepth 100000 in
theorem Stk.keep {w w' : World} {B s : Nat} {vc vd : Value} {ls : List Ct} {ds : List Part} (h : Stk w B s vc vd ls ds) (hs : w.heap.size ≤ w'.heap.size) (hk : ∀ b, B ≤ b → b < w.heap.size → w'.heap[b]? = w.heap[b]?) : Stk w' B s vc vd ls ds :=
  ⟨(hk s h.le (lt_of_heap h.box)).trans h.box, h.le, owns_same h.rc (fun q e => hk q (h.rc.lt q e).1 (h.rc.lt q e).2), owns_same h.rd (fun q e => hk q (h.rd.lt q e).1 (h.rd.lt q e).2), h.ac.same hs (fun c hc b hb => hk b ((h.ac c hc).2 b hb).1 ((h.ac c hc).1.block_lt b hb)), h.ad.same hs (fun p hp b so e => hk b ((h.ad p hp).2 b so e).1 ((h.ad p hp).2 b so e).2.1), h.sc, h.sd⟩
set_option maxRecDepth 100000 in
theorem Stk.below {w w' : World} {B s : Nat} {vc vd : Value} {ls : List Ct} {ds : List Part} (h : Stk w B s vc vd ls ds) (hb : Below w.heap.size w w') : Stk w' B s vc vd ls ds :=
  h.keep hb.size (fun b _ hl => hb.block b hl)
set_option maxRecDepth 100000 in
theorem Stk.down {w : World} {B B' s : Nat} {vc vd : Value} {ls : List Ct} {ds : List Part} (h : Stk w B s vc vd ls ds) (hB : B' ≤ B) : Stk w B' s vc vd ls ds := by
  have hd : ∀ {e : TypeId} {sz n : Nat} {v : Value} {xs : List Value}, w.ownsRow B e sz v n xs → w.ownsRow B' e sz v n xs := fun h => by
    obtain ⟨h1, h2⟩ := h
    refine ⟨h1, ?_⟩
    rcases h2 with h2 | ⟨g, cap, cur, e, hg, hc⟩
    · exact .inl h2
    · exact .inr ⟨g, cap, cur, e, Nat.le_trans hB hg, hc⟩
  exact ⟨h.box, Nat.le_trans hB h.le, hd h.rc, hd h.rd, fun c hc => ⟨(h.ac c hc).1, fun b hb => ⟨Nat.le_trans hB ((h.ac c hc).2 b hb).1, ((h.ac c hc).2 b hb).2⟩⟩, fun p hp => ⟨(h.ad p hp).1, fun sb so e => ⟨Nat.le_trans hB ((h.ad p hp).2 sb so e).1, ((h.ad p hp).2 sb so e).2⟩⟩, h.sc, h.sd⟩
set_option maxRecDepth 100000 in
/-- One certificate more. -/
theorem Stk.moreC {w w1 w2 : World} {B s : Nat} {vc vd vc' : Value} {ls : List Ct} {ds : List Part} {x : Ct} {o : Obj} (h : Stk w B s vc vd ls ds) (hB : B ≤ w.heap.size) (hb1 : Below w.heap.size w w1) (hx : CtAt w1 x) (hin : ∀ b, CtIn x b → w.heap.size ≤ b) (G : Grew (w1.alloc o) vc w2 vc')
    (ho : w2.ownsRow B 63 5 vc' (ls.length + 1) (ctv ls ++ x.cs)) : Stk (w2.setCell ⟨s, 0, none⟩ vc') B s vc' vd (ls ++ [x]) ds ∧ Below B w (w2.setCell ⟨s, 0, none⟩ vc') ∧ (∀ b, b < w.heap.size → b ≠ s → vc.ownBlock ≠ some b → (w2.setCell ⟨s, 0, none⟩ vc').heap[b]? = w.heap[b]?) ∧ (∀ b, b < w.heap.size → vc'.ownBlock = some b → vc.ownBlock = some b) := by
  have hne1 : (63 : TypeId) ≠ 115 := by decide
  have hne2 : (46 : TypeId) ≠ 115 := by decide
  have hne3 : (63 : TypeId) ≠ 46 := by decide
  have h1 := h.below hb1
  have hA : Below w1.heap.size w1 (w1.alloc o) := (Below.refl _ _).alloc (Nat.le_refl _) _
  have hA1 := hb1.trans (hA.mono hb1.size)
  have hsz1 := hb1.size
  have hsz2 : w1.heap.size < (w1.alloc o).heap.size := by rw [size_alloc]; omega
  have hsz3 := G.grown.size
  have hs : s < w.heap.size := lt_of_heap h.box
  have hcs : vc.ownBlock ≠ some s := row_box h.rc h.box hne1
  have hcs' : vc'.ownBlock ≠ some s := fun e => by
    rcases G.fresh s e with g | g
    · exact hcs g
    · omega
  have hbox2 : w2.heap[s]? = some (.cells #[vc, vd] 115 (0, 0)) := G.row (((hA1.block s hs)).trans h.box) hcs
  have hK : ∀ b, b < w.heap.size → b ≠ s → vc.ownBlock ≠ some b → (w2.setCell ⟨s, 0, none⟩ vc').heap[b]? = w.heap[b]? := fun b hb hbs hbc =>
    (heap_setCell_other w2 ⟨s, 0, none⟩ b vc' hbs).trans ((G.grown.block b (by omega) (fun e => hbc e.symm)).trans (hA1.block b hb))
  have hsz : w.heap.size ≤ (w2.setCell ⟨s, 0, none⟩ vc').heap.size := by simp; omega
  have hap := h.ac.more (c := x) hB h.rc hb1 hin hx G
  have hfr : ∀ b, b < w.heap.size → vc'.ownBlock = some b → vc.ownBlock = some b := fun b hb e => by
    rcases G.fresh b e with g | g
    · exact g
    · omega
  refine ⟨⟨?_, h.le, ?_, ?_, ?_, ?_, ?_, ?_⟩, ?_, hK, hfr⟩
  · simpa using heap_setCell_same _ _ 0 _ _ vc' hbox2
  · rw [ctv_snoc]
    exact owns_same (by simpa using ho) (fun q e => heap_setCell_other w2 ⟨s, 0, none⟩ q vc' (fun hq => hcs' (by rw [e, show q = s from hq])))
  · exact owns_same h.rd (fun q e => hK q (h.rd.lt q e).2 (fun hq => row_box h.rd h.box hne2 (by rw [e, hq])) (fun e2 => rows_apart h.rc h.rd hne3 q e2 e))
  · refine hap.same (by simp) (fun c hc b hb => heap_setCell_other w2 ⟨s, 0, none⟩ b vc' (fun hq => ?_))
    rcases List.mem_append.1 hc with hc | hc
    · exact (h.sc c hc b hb).1 hq
    · obtain rfl : c = x := by simpa using hc
      have := hin b hb
      have h2 : b = s := hq
      omega
  · exact h.ad.same hsz (fun p hp b so e => hK b ((h.ad p hp).2 b so e).2.1 (h.sd p hp b so e).1 (h.sd p hp b so e).2)
  · intro c hc b hb
    rcases List.mem_append.1 hc with hc | hc
    · exact h.sc c hc b hb
    · obtain rfl : c = x := by simpa using hc
      have hge := hin b hb
      exact ⟨by omega, fun e => by have := (h.rd.lt b e).2; omega⟩
  · intro p hp sb so e
    obtain ⟨a1, a2⟩ := h.sd p hp sb so e
    have hl := ((h.ad p hp).2 sb so e).2.1
    refine ⟨a1, fun e2 => ?_⟩
    rcases G.fresh sb e2 with g | g
    · exact a2 g
    · omega
  · have hG : Below B (w1.alloc o) w2 := G.below (by omega) (fun q e => (h.rc.lt q e).1)
    exact (((hA1.mono hB).trans hG).setCell h.le _)
set_option maxRecDepth 100000 in
/-- One digest more. -/
theorem Stk.moreD {w w1 w2 : World} {B s : Nat} {vc vd vd' : Value} {ls : List Ct} {ds : List Part} {p : Part} {o : Obj} (h : Stk w B s vc vd ls ds) (hB : B ≤ w.heap.size) (hb1 : Below w.heap.size w w1) (hp : SliceAt w1 p.sa p.cap p.bs) (hin : ∀ sb so, p.sa = some ⟨sb, so, none⟩ → B ≤ sb ∧ sb < w1.heap.size ∧ sb ≠ s ∧ vc.ownBlock ≠ some sb ∧ vd.ownBlock ≠ some sb) (G : Grew (w1.alloc o) vd w2 vd')
    (ho : w2.ownsRow B 46 1 vd' (ds.length + 1) (pv ds ++ [p.val])) : Stk (w2.setCell ⟨s, 1, none⟩ vd') B s vc vd' ls (ds ++ [p]) ∧ Below B w (w2.setCell ⟨s, 1, none⟩ vd') := by
  have hne1 : (63 : TypeId) ≠ 115 := by decide
  have hne2 : (46 : TypeId) ≠ 115 := by decide
  have hne3 : (63 : TypeId) ≠ 46 := by decide
  have hA : Below w1.heap.size w1 (w1.alloc o) := (Below.refl _ _).alloc (Nat.le_refl _) _
  have hA1 := hb1.trans (hA.mono hb1.size)
  have hsz1 := hb1.size
  have hsz2 : w1.heap.size < (w1.alloc o).heap.size := by rw [size_alloc]; omega
  have hsz3 := G.grown.size
  have hs : s < w.heap.size := lt_of_heap h.box
  have hcs : vd.ownBlock ≠ some s := row_box h.rd h.box hne2
  have hcs' : vd'.ownBlock ≠ some s := fun e => by
    rcases G.fresh s e with g | g
    · exact hcs g
    · omega
  have hbox2 : w2.heap[s]? = some (.cells #[vc, vd] 115 (0, 0)) := G.row (((hA1.block s hs)).trans h.box) hcs
  have hK : ∀ b, b < w.heap.size → b ≠ s → vd.ownBlock ≠ some b → (w2.setCell ⟨s, 1, none⟩ vd').heap[b]? = w.heap[b]? := fun b hb hbs hbc =>
    (heap_setCell_other w2 ⟨s, 1, none⟩ b vd' hbs).trans ((G.grown.block b (by omega) (fun e => hbc e.symm)).trans (hA1.block b hb))
  have hsz : w.heap.size ≤ (w2.setCell ⟨s, 1, none⟩ vd').heap.size := by simp; omega
  have hfr : ∀ sb, vd'.ownBlock = some sb → sb < w1.heap.size → vd.ownBlock = some sb := fun sb e hl => by
    rcases G.fresh sb e with g | g
    · exact g
    · omega
  refine ⟨⟨?_, h.le, ?_, ?_, ?_, ?_, ?_, ?_⟩, ?_⟩
  · simpa using heap_setCell_same _ _ 1 _ _ vd' hbox2
  · exact owns_same h.rc (fun q e => hK q (h.rc.lt q e).2 (fun hq => row_box h.rc h.box hne1 (by rw [e, hq])) (rows_apart h.rc h.rd hne3 q e))
  · have ho' : w2.ownsRow B 46 1 vd' (ds ++ [p]).length (pv (ds ++ [p])) := by simpa [pv] using ho
    exact owns_same ho' (fun q e => heap_setCell_other w2 ⟨s, 1, none⟩ q vd' (fun hq => hcs' (by rw [e, show q = s from hq])))
  · exact h.ac.same hsz (fun c hc b hb => hK b ((h.ac c hc).1.block_lt b hb) (h.sc c hc b hb).1 (h.sc c hc b hb).2)
  · intro q hq
    rcases List.mem_append.1 hq with hq | hq
    · obtain ⟨k1, k2⟩ := h.ad q hq
      refine ⟨slice_keep k1 (fun b so _ e => hK b (k2 b so e).2.1 (h.sd q hq b so e).1 (k2 b so e).2.2), fun sb so e => ?_⟩
      obtain ⟨a1, a2, a3⟩ := k2 sb so e
      exact ⟨a1, by omega, fun e2 => a3 (hfr sb e2 (by omega))⟩
    · obtain rfl : q = p := by simpa using hq
      refine ⟨slice_keep hp (fun b so _ e => ?_), fun sb so e => ?_⟩
      · obtain ⟨a1, a2, a3, a4, a5⟩ := hin b so e
        rw [heap_setCell_other w2 ⟨s, 1, none⟩ b vd' a3, G.grown.block b (by omega) (fun e => a5 e.symm), hA.block b a2]
      · obtain ⟨a1, a2, a3, a4, a5⟩ := hin sb so e
        exact ⟨a1, by simp; omega, fun e2 => a5 (hfr sb e2 a2)⟩
  · intro c hc b hb
    obtain ⟨a1, a2⟩ := h.sc c hc b hb
    have hl := (h.ac c hc).1.block_lt b hb
    exact ⟨a1, fun e2 => a2 (hfr b e2 (by omega))⟩
  · intro q hq sb so e
    rcases List.mem_append.1 hq with hq | hq
    · exact h.sd q hq sb so e
    · obtain rfl : q = p := by simpa using hq
      obtain ⟨a1, a2, a3, a4, a5⟩ := hin sb so e
      exact ⟨a3, a4⟩
  · have hG : Below B (w1.alloc o) w2 := G.below (by omega) (fun q e => (h.rd.lt q e).1)
    exact (((hA1.mono hB).trans hG).setCell h.le _)
/-- A stock: certificates, and their digests at the same places. -/
structure StockAt (w : World) (ca : Option Addr) (cc : Nat) (ls : List Ct) (da : Option Addr) (dc : Nat) (ds : List Part) : Prop where
  certs : CertsAt w ca ls
  each : ∀ c ∈ ls, CtAt w c
  digs : ListAt w da dc ds
  same : bss ds = (cvs ls).map CV.d
  small : ls.length ≤ 400
  cle : ls.length ≤ cc
  cmax : cc ≤ 9223372036854775807
set_option maxRecDepth 100000 in
theorem StockAt.below {w w' : World} {ca : Option Addr} {cc : Nat} {ls : List Ct} {da : Option Addr} {dc : Nat} {ds : List Part} (h : StockAt w ca cc ls da dc ds) (hb : Below w.heap.size w w') : StockAt w' ca cc ls da dc ds :=
  ⟨h.certs.below hb, fun c hc => (h.each c hc).below hb, h.digs.below hb, h.same, h.small, h.cle, h.cmax⟩
set_option maxRecDepth 100000 in
theorem StockAt.len {w : World} {ca : Option Addr} {cc : Nat} {ls : List Ct} {da : Option Addr} {dc : Nat} {ds : List Part} (h : StockAt w ca cc ls da dc ds) : ds.length = ls.length := by
  rw [digs_length h.same, cvs_length]
/-- A stock that is read through its box. -/
structure StkAt (w : World) (s : Nat) (ls : List Ct) (ca : Option Addr) (cc : Nat) (da : Option Addr) (dc : Nat) (ds : List Part) : Prop where
  box : w.heap[s]? = some (.cells #[.slice ca ls.length cc, .slice da ls.length dc] 115 (0, 0))
  at' : StockAt w ca cc ls da dc ds
set_option maxRecDepth 100000 in
theorem StkAt.below {w w' : World} {s : Nat} {ls : List Ct} {ca : Option Addr} {cc : Nat} {da : Option Addr} {dc : Nat} {ds : List Part} (h : StkAt w s ls ca cc da dc ds) (hb : Below w.heap.size w w') : StkAt w' s ls ca cc da dc ds :=
  ⟨(hb.block s (lt_of_heap h.box)).trans h.box, h.at'.below hb⟩
set_option maxRecDepth 100000 in
theorem Stk.at {w : World} {B s : Nat} {vc vd : Value} {ls : List Ct} {ds : List Part} (h : Stk w B s vc vd ls ds) (hs : bss ds = (cvs ls).map CV.d) (hm : ls.length ≤ 400) : ∃ ca cc da dc, vc = .slice ca ls.length cc ∧ vd = .slice da ls.length dc ∧ StkAt w s ls ca cc da dc ds := by
  have hl : ds.length = ls.length := by rw [digs_length hs, cvs_length]
  obtain ⟨ca, cc, h1, _, h2, _⟩ := dag_of_owns h.rc h.ac
  obtain ⟨da, dc, k1, _, k2, _⟩ := listAt_of_owns h.rd h.ad
  have h2' := h2 (by omega)
  rw [hl] at k1 k2
  refine ⟨ca, cc, da, dc, h1, k1, ⟨by rw [← h1, ← k1]; exact h.box, ⟨h2'.certs, h2'.each, k2 (by omega), hs, hm, h2'.le, h2'.max⟩⟩⟩
/-- A stock that a call owns. -/
structure StkOwn (w : World) (B s : Nat) (ls : List Ct) : Prop where
  out : ∃ vc vd ds, Stk w B s vc vd ls ds ∧ bss ds = (cvs ls).map CV.d ∧ ls.length ≤ 400
set_option maxRecDepth 100000 in
theorem StkOwn.below {w w' : World} {B s : Nat} {ls : List Ct} (h : StkOwn w B s ls) (hb : Below w.heap.size w w') : StkOwn w' B s ls := by
  obtain ⟨vc, vd, ds, h1, h2, h3⟩ := h.out
  exact ⟨vc, vd, ds, h1.below hb, h2, h3⟩
end Go.Proofs.YtbmodfegcmaieaaDoor

namespace Go.Proofs.YtbmodfegcmaieaaDoor
open Go.RowKit

set_option maxRecDepth 100000 in
theorem step_calls {ops : Array Oper} {o : Oper} {a : Act} {w : World} {K : Act → World → Prop} {Q : Exit → Act → World → Prop} {E : Prop}
    (hg : o.guard = none) (f : FuncId) (xs : List Operand) (ats : Array TypeId) (ho : o.op = .call { callee := .value (.func f), args := xs.toArray, argTypes := ats })
    (vs : List Value) (hv : xs.map a.eval = vs) (hent : ∀ args w, (callFunc f args).run Tryd.prog w = .ok (.enter f args) w)
    (R : Value → World → Prop) (hc : Calls Tryd.prog f vs.toArray w fun e w' => ∃ v, e = .returned v ∧ R v w') (hK : ∀ v w', R v w' → K (a.put o.dst v) w') :
    if Region.wanted o (yielded ops a.tmps) = true then Oper.wp Tryd.prog o a w K Q else E := by
  have hw : Region.wanted o (yielded ops a.tmps) = true := by simp [Region.wanted, hg]
  rw [if_pos hw]
  obtain ⟨dst, op, ty, pos, after, guard⟩ := o
  simp only at ho
  subst ho
  unfold Oper.wp
  rw [execOp_call_go, List.map_toArray, hv, hent, Oper.upon_enter, show (#[] ++ vs.toArray ++ #[] : Array Value) = vs.toArray by simp]
  refine hc.mono ?_
  rintro e w' ⟨v, rfl, h⟩
  exact hK v w' h
set_option maxRecDepth 100000 in
/-- Take an operation first, its slot written out. -/
theorem take_dst {P : Program} {ops : Array Oper} {Q : Exit → Act → World → Prop} {md : Region.Mode} {S : World → Prop} {i d : Nat} {oi : Oper} {v : Value} {fuel : Nat} {listed : Array Bool} {a : Act} {w : World} (hi : ops[i]? = some oi) (hd : oi.dst = some d)
    (hs : Region.noSelect ops = true) (hf : Region.free md ops listed i = true) (hr : (Region.ready md ops listed).contains i = true)
    (hQ : ∀ c a w, Q (.panic c) (a.put (some d) v) w → Q (.panic c) a w) (hy : YieldsIf P ops S oi v a) (hS : S w)
    (h : wpAnyH P md ops Q S fuel (listed.setIfInBounds i true) (a.put (some d) v) w) : wpAnyH P md ops Q S (fuel + 1) listed a w :=
  wpAnyH_take hi hs hf hr (by rw [hd]; exact hQ) hy hS (by rw [hd]; exact h)
set_option maxRecDepth 100000 in
/-- A call with a contract as the one operation that comes up, its slot written out. -/
theorem step_calls_dst {ops : Array Oper} {o : Oper} {a : Act} {w : World} {K : Act → World → Prop} {Q : Exit → Act → World → Prop} {E : Prop}
    (hg : o.guard = none) (d : Nat) (hd : o.dst = some d) (f : FuncId) (xs : List Operand) (ats : Array TypeId) (ho : o.op = .call { callee := .value (.func f), args := xs.toArray, argTypes := ats })
    (vs : List Value) (hv : xs.map a.eval = vs) (hent : ∀ args w, (callFunc f args).run Tryd.prog w = .ok (.enter f args) w)
    (R : Value → World → Prop) (hc : Calls Tryd.prog f vs.toArray w fun e w' => ∃ v, e = .returned v ∧ R v w') (hK : ∀ v w', R v w' → K (a.put (some d) v) w') :
    if Region.wanted o (yielded ops a.tmps) = true then Oper.wp Tryd.prog o a w K Q else E :=
  step_calls hg f xs ats ho vs hv hent R hc (by rw [hd]; exact hK)
set_option maxRecDepth 100000 in
/-- The same for a call behind a guard that lets it by. -/
theorem step_calls_on {ops : Array Oper} {o : Oper} {a : Act} {w : World} {K : Act → World → Prop} {Q : Exit → Act → World → Prop} {E : Prop}
    (hw : Region.wanted o (yielded ops a.tmps) = true) (d : Nat) (hd : o.dst = some d) (f : FuncId) (xs : List Operand) (ats : Array TypeId) (ho : o.op = .call { callee := .value (.func f), args := xs.toArray, argTypes := ats })
    (vs : List Value) (hv : xs.map a.eval = vs) (hent : ∀ args w, (callFunc f args).run Tryd.prog w = .ok (.enter f args) w)
    (R : Value → World → Prop) (hc : Calls Tryd.prog f vs.toArray w fun e w' => ∃ v, e = .returned v ∧ R v w') (hK : ∀ v w', R v w' → K (a.put (some d) v) w') :
    if Region.wanted o (yielded ops a.tmps) = true then Oper.wp Tryd.prog o a w K Q else E := by
  rw [if_pos hw]
  obtain ⟨dst, op, ty, pos, after, guard⟩ := o
  simp only at ho hd
  subst ho hd
  unfold Oper.wp
  rw [execOp_call_go, List.map_toArray, hv, hent, Oper.upon_enter, show (#[] ++ vs.toArray ++ #[] : Array Value) = vs.toArray by simp]
  refine hc.mono ?_
  rintro e w' ⟨v, rfl, h⟩
  exact hK v w' h
set_option maxRecDepth 100000 in
/-- An operation that is no call, and that turns the world, as the one that comes up. -/
theorem step_run {ops : Array Oper} {o : Oper} {a : Act} {w : World} {K : Act → World → Prop} {Q : Exit → Act → World → Prop} {E : Prop}
    (hg : o.guard = none) (d : Nat) (hd : o.dst = some d) (v : Value) (w' : World) (hr : (execOp a.eval o).run Tryd.prog w = .ok (.value v) w') (hK : K (a.put (some d) v) w') :
    if Region.wanted o (yielded ops a.tmps) = true then Oper.wp Tryd.prog o a w K Q else E := by
  have hw : Region.wanted o (yielded ops a.tmps) = true := by simp [Region.wanted, hg]
  rw [if_pos hw]
  unfold Oper.wp
  rw [hr, Oper.upon_value, hd]
  exact hK
set_option maxRecDepth 100000 in
/-- An append onto a row that the call owns, as one step of such a region, and where the new slice lies. -/
theorem step_append_at {ops : Array Oper} {o : Oper} {a : Act} {w : World} {K : Act → World → Prop} {Q : Exit → Act → World → Prop} {E : Prop}
    (hg : o.guard = none) (s x : Operand) (t : TypeId) (ho : o.op = .call { callee := .builtin .append, args := #[s, x], argTypes := #[t, t] })
    (base : Nat) (e : TypeId) (i : TypeInfo) (z : Value) (size bytes : Nat) (ht : Tryd.prog.underlying t = some (.slice e)) (hi : Tryd.prog.info? e = some i) (hz : i.zero = some z)
    (hsize : i.size = size) (hby : i.bytes = bytes) (hzs : z.cells.size = size) (hsz : 0 < size)
    (v : Value) (n : Nat) (xs : List Value) (hs : a.eval s = v) (hown : w.ownsRow base e size v n xs)
    (ad : Addr) (m c : Nat) (news : List Value) (hx : a.eval x = .slice (some ad) m c) (hl : news.length = m * size) (hnews : ∀ j u, news[j]? = some u → w.cell? (ad.add j) = some u) (h1 : ∀ u ∈ news, u.oneCell' = true)
    (h63 : n + m ≤ maxLen) (hbytes : (n + m) * bytes ≤ 140737488355328) (hbase : base ≤ w.heap.size)
    (hK : ∀ v' w', w'.ownsRow base e size v' (n + m) (xs ++ news) → Grew w v w' v' → K (a.put o.dst v') w') :
    if Region.wanted o (yielded ops a.tmps) = true then Oper.wp Tryd.prog o a w K Q else E := by
  have hw : Region.wanted o (yielded ops a.tmps) = true := by simp [Region.wanted, hg]
  rw [if_pos hw]
  obtain ⟨v', w', hr, h2, h3, _, h5⟩ := run_append_own_at (P := Tryd.prog) w base t o.type e i z size bytes ht hi hz hsize hby hzs hsz v n xs hown ad m c news hl hnews h1 h63 hbytes hbase
  unfold Oper.wp execOp
  simp only [ho, resolve, invoke, builtin, Sem.run_bind, Sem.run_pure, Result.andThen_ok, List.map_toArray, List.map_cons, List.map_nil, hs, hx, hr]
  exact hK v' w' h2 (Grew.of h3 h5)
end Go.Proofs.YtbmodfegcmaieaaDoor
