/- bytes.Clone: new memory with the same bytes. -/
import Derived.Test.YtgbomdikhidkoaaDoorSx
import Derived.Deep.RegionHeld
import Derived.Test.YtgbomdikhidkoaaDoorDagA
import Derived.Test.YtgbomdikhidkoaaDoorCtFar
import Derived.Test.YtgbomdikhidkoaaDoorOwnL
import Derived.Test.YtgbomdikhidkoaaDoorGrew
import Derived.Shelf.Abstract
import Derived.Test.YtgbomdikhidkoaaDoorEqual
import Derived.Deep.RegionHeld3
import Derived.Test.YtgbomdikhidkoaaDoorApp
namespace Go.Proofs.YtgbomdikhidkoaaDoor
open Go.RowKit

set_option maxRecDepth 100000 in
theorem owns_shape {w : World} {base n : Nat} {e : TypeId} {s : Nat} {v : Value} {xs : List Value} (h : w.ownsRow base e s v n xs) : ∃ za zc, v = .slice za n zc := by
  rcases h.2 with ⟨rfl, hn⟩ | ⟨g, cap, cur, rfl, _⟩
  · subst hn; exact ⟨none, 0, rfl⟩
  · exact ⟨some ⟨g, 0, none⟩, cap, rfl⟩
set_option maxRecDepth 100000 in
/-- A row stays where a block below its base is rewritten. -/
theorem owns_far {w : World} {base n : Nat} {e : TypeId} {s : Nat} {v : Value} {xs : List Value} (h : w.ownsRow base e s v n xs) (b j : Nat) (x : Value) (hb : b < base) : (w.setCell ⟨b, j, none⟩ x).ownsRow base e s v n xs := by
  obtain ⟨h1, h2⟩ := h
  refine ⟨h1, ?_⟩
  rcases h2 with h2 | ⟨g, cap, cur, rfl, hg, hc, r⟩
  · exact .inl h2
  · exact .inr ⟨g, cap, cur, rfl, hg, (heap_setCell_other w ⟨b, j, none⟩ g x (by show g ≠ b; omega)).trans hc, r⟩
end Go.Proofs.YtgbomdikhidkoaaDoor

namespace Go.Proofs.YtgbomdikhidkoaaDoor
open Go.RowKit

set_option maxRecDepth 100000 in
theorem row_type {w : World} {base n : Nat} {e : TypeId} {s : Nat} {v : Value} {xs : List Value} (h : w.ownsRow base e s v n xs) (q : Nat) (hq : v.ownBlock = some q) : ∃ cur, w.heap[q]? = some (.cells cur e (0, 0)) := by
  rcases h.2 with ⟨rfl, _⟩ | ⟨g, cap, cur, rfl, _, hc, _⟩
  · cases hq
  · cases hq; exact ⟨cur, hc⟩
set_option maxRecDepth 100000 in
theorem rows_apart {w : World} {b1 n1 b2 n2 : Nat} {e1 e2 : TypeId} {s1 s2 : Nat} {v1 v2 : Value} {xs1 xs2 : List Value} (h1 : w.ownsRow b1 e1 s1 v1 n1 xs1) (h2 : w.ownsRow b2 e2 s2 v2 n2 xs2) (hne : e1 ≠ e2) (q : Nat) (hq : v1.ownBlock = some q) : v2.ownBlock ≠ some q := fun hq2 => by
  obtain ⟨c1, k1⟩ := row_type h1 q hq
  obtain ⟨c2, k2⟩ := row_type h2 q hq2
  rw [k1] at k2
  simp only [Option.some.injEq, Obj.cells.injEq] at k2
  exact hne k2.2.1
set_option maxRecDepth 100000 in
theorem row_box {w : World} {b1 n1 : Nat} {e1 t : TypeId} {s1 : Nat} {v1 : Value} {xs1 : List Value} {q : Nat} {cs : Array Value} (h1 : w.ownsRow b1 e1 s1 v1 n1 xs1) (h2 : w.heap[q]? = some (.cells cs t (0, 0))) (hne : e1 ≠ t) : v1.ownBlock ≠ some q := fun hq => by
  obtain ⟨c1, k1⟩ := row_type h1 q hq
  rw [k1] at h2
  simp only [Option.some.injEq, Obj.cells.injEq] at h2
  exact hne h2.2.1
set_option maxRecDepth 100000 in
theorem owns_same {w w' : World} {base n : Nat} {e : TypeId} {s : Nat} {v : Value} {xs : List Value} (h : w.ownsRow base e s v n xs) (hk : ∀ q, v.ownBlock = some q → w'.heap[q]? = w.heap[q]?) : w'.ownsRow base e s v n xs := by
  obtain ⟨h1, h2⟩ := h
  refine ⟨h1, ?_⟩
  rcases h2 with h2 | ⟨g, cap, cur, rfl, hg, hc, r⟩
  · exact .inl h2
  · exact .inr ⟨g, cap, cur, rfl, hg, (hk g rfl).trans hc, r⟩
set_option maxRecDepth 100000 in
theorem ApartC.same {w w' : World} {B : Nat} {v : Value} {ks : List Ct} (h : ApartC w B v ks) (hs : w.heap.size ≤ w'.heap.size) (hk : ∀ c ∈ ks, ∀ b, CtIn c b → w'.heap[b]? = w.heap[b]?) : ApartC w' B v ks := fun c hc =>
  ⟨(h c hc).1.keep hs (hk c hc), (h c hc).2⟩
set_option maxRecDepth 100000 in
theorem Apart.same {w w' : World} {B : Nat} {v : Value} {ps : List Part} (h : Apart w B v ps) (hs : w.heap.size ≤ w'.heap.size) (hk : ∀ p ∈ ps, ∀ b so, p.sa = some ⟨b, so, none⟩ → w'.heap[b]? = w.heap[b]?) : Apart w' B v ps := fun p hp =>
  ⟨slice_keep (h p hp).1 (fun b so _ e => hk p hp b so e), fun sb so e => by
    obtain ⟨a1, a2, a3⟩ := (h p hp).2 sb so e
    exact ⟨a1, Nat.lt_of_lt_of_le a2 hs, a3⟩⟩
/-- A stock's box and its rows. -/
structure Stk (w : World) (B s : Nat) (vc vd : Value) (ls : List Ct) (ds : List Part) : Prop where
  box : w.heap[s]? = some (.cells #[vc, vd] 76 (0, 0))
  le : B ≤ s
  rc : w.ownsRow B 35 5 vc ls.length (ctv ls)
  rd : w.ownsRow B 29 1 vd ds.length (pv ds)
  ac : ApartC w B vc ls
  ad : Apart w B vd ds
  sc : ∀ c ∈ ls, ∀ b, CtIn c b → b ≠ s ∧ vd.ownBlock ≠ some b
  sd : ∀ p ∈ ds, ∀ sb so, p.sa = some ⟨sb, so, none⟩ → sb ≠ s ∧ vc.ownBlock ≠ some sb
set_option maxRecDepth 100000 in
theorem Stk.keep {w w' : World} {B s : Nat} {vc vd : Value} {ls : List Ct} {ds : List Part} (h : Stk w B s vc vd ls ds) (hs : w.heap.size ≤ w'.heap.size) (hk : ∀ b, B ≤ b → b < w.heap.size → w'.heap[b]? = w.heap[b]?) : Stk w' B s vc vd ls ds :=
  ⟨(hk s h.le (lt_of_heap h.box)).trans h.box, h.le, owns_same h.rc (fun q e => hk q (h.rc.lt q e).1 (h.rc.lt q e).2), owns_same h.rd (fun q e => hk q (h.rd.lt q e).1 (h.rd.lt q e).2), h.ac.same hs (fun c hc b hb => hk b ((h.ac c hc).2 b hb).1 ((h.ac c hc).1.block_lt b hb)), h.ad.same hs (fun p hp b so e => hk b ((h.ad p hp).2 b so e).1 ((h.ad p hp).2 b so e).2.1), h.sc, h.sd⟩
set_option maxRecDepth 100000 in
theorem Stk.below {w w' : World} {B s : Nat} {vc vd : Value} {ls : List Ct} {ds : List Part} (h : Stk w B s vc vd ls ds) (hb : Below w.heap.size w w') : Stk w' B s vc vd ls ds :=
  h.keep hb.size (fun b _ hl => hb.block b hl)
set_option maxRecDepth 100000 in
theorem Stk.down {w : World} {B B' s : Nat} {vc vd : Value} {ls : List Ct} {ds : List Part} (h : Stk w B s vc vd ls ds) (hB : B' ≤ B) : Stk w B' s vc vd ls ds := by
  have hd : ∀ {e : TypeId} {sz n : Nat} {v : Value} {xs : List Value}, w.ownsRow B e sz v n xs → w.ownsRow B' e sz v n xs := fun h => by
    obtain ⟨h1, h2⟩ := h
    refine ⟨h1, ?_⟩
    rcases h2 with h2 | ⟨g, cap, cur, e, hg, hc⟩
    · exact .inl h2
    · exact .inr ⟨g, cap, cur, e, Nat.le_trans hB hg, hc⟩
  exact ⟨h.box, Nat.le_trans hB h.le, hd h.rc, hd h.rd, fun c hc => ⟨(h.ac c hc).1, fun b hb => ⟨Nat.le_trans hB ((h.ac c hc).2 b hb).1, ((h.ac c hc).2 b hb).2⟩⟩, fun p hp => ⟨(h.ad p hp).1, fun sb so e => ⟨Nat.le_trans hB ((h.ad p hp).2 sb so e).1, ((h.ad p hp).2 sb so e).2⟩⟩, h.sc, h.sd⟩
set_option maxRecDepth 100000 in
/-- One certificate more. -/
theorem Stk.moreC {w w1 w2 : World} {B s : Nat} {vc vd vc' : Value} {ls : List Ct} {ds : List Part} {x : Ct} {o : Obj} (h : Stk w B s vc vd ls ds) (hB : B ≤ w.heap.size) (hb1 : Below w.heap.size w w1) (hx : CtAt w1 x) (hin : ∀ b, CtIn x b → w.heap.size ≤ b) (G : Grew (w1.alloc o) vc w2 vc')
    (ho : w2.ownsRow B 35 5 vc' (ls.length + 1) (ctv ls ++ x.cs)) : Stk (w2.setCell ⟨s, 0, none⟩ vc') B s vc' vd (ls ++ [x]) ds ∧ Below B w (w2.setCell ⟨s, 0, none⟩ vc') ∧ (∀ b, b < w.heap.size → b ≠ s → vc.ownBlock ≠ some b → (w2.setCell ⟨s, 0, none⟩ vc').heap[b]? = w.heap[b]?) ∧ (∀ b, b < w.heap.size → vc'.ownBlock = some b → vc.ownBlock = some b) := by
  have hne1 : (35 : TypeId) ≠ 76 := by decide
  have hne2 : (29 : TypeId) ≠ 76 := by decide
  have hne3 : (35 : TypeId) ≠ 29 := by decide
  have h1 := h.below hb1
  have hA : Below w1.heap.size w1 (w1.alloc o) := (Below.refl _ _).alloc (Nat.le_refl _) _
  have hA1 := hb1.trans (hA.mono hb1.size)
  have hsz1 := hb1.size
  have hsz2 : w1.heap.size < (w1.alloc o).heap.size := by rw [size_alloc]; omega
  have hsz3 := G.grown.size
  have hs : s < w.heap.size := lt_of_heap h.box
  have hcs : vc.ownBlock ≠ some s := row_box h.rc h.box hne1
  have hcs' : vc'.ownBlock ≠ some s := fun e => by
    rcases G.fresh s e with g | g
    · exact hcs g
    · omega
  have hbox2 : w2.heap[s]? = some (.cells #[vc, vd] 76 (0, 0)) := G.row (((hA1.block s hs)).trans h.box) hcs
  have hK : ∀ b, b < w.heap.size → b ≠ s → vc.ownBlock ≠ some b → (w2.setCell ⟨s, 0, none⟩ vc').heap[b]? = w.heap[b]? := fun b hb hbs hbc =>
    (heap_setCell_other w2 ⟨s, 0, none⟩ b vc' hbs).trans ((G.grown.block b (by omega) (fun e => hbc e.symm)).trans (hA1.block b hb))
  have hsz : w.heap.size ≤ (w2.setCell ⟨s, 0, none⟩ vc').heap.size := by simp; omega
  have hap := h.ac.more (c := x) hB h.rc hb1 hin hx G
  have hfr : ∀ b, b < w.heap.size → vc'.ownBlock = some b → vc.ownBlock = some b := fun b hb e => by
    rcases G.fresh b e with g | g
    · exact g
    · omega
  refine ⟨⟨?_, h.le, ?_, ?_, ?_, ?_, ?_, ?_⟩, ?_, hK, hfr⟩
  · simpa using heap_setCell_same _ _ 0 _ _ vc' hbox2
  · rw [ctv_snoc]
    exact owns_same (by simpa using ho) (fun q e => heap_setCell_other w2 ⟨s, 0, none⟩ q vc' (fun hq => hcs' (by rw [e, show q = s from hq])))
  · exact owns_same h.rd (fun q e => hK q (h.rd.lt q e).2 (fun hq => row_box h.rd h.box hne2 (by rw [e, hq])) (fun e2 => rows_apart h.rc h.rd hne3 q e2 e))
  · refine hap.same (by simp) (fun c hc b hb => heap_setCell_other w2 ⟨s, 0, none⟩ b vc' (fun hq => ?_))
    rcases List.mem_append.1 hc with hc | hc
    · exact (h.sc c hc b hb).1 hq
    · obtain rfl : c = x := by simpa using hc
      have := hin b hb
      have h2 : b = s := hq
      omega
  · exact h.ad.same hsz (fun p hp b so e => hK b ((h.ad p hp).2 b so e).2.1 (h.sd p hp b so e).1 (h.sd p hp b so e).2)
  · intro c hc b hb
    rcases List.mem_append.1 hc with hc | hc
    · exact h.sc c hc b hb
    · obtain rfl : c = x := by simpa using hc
      have hge := hin b hb
      exact ⟨by omega, fun e => by have := (h.rd.lt b e).2; omega⟩
  · intro p hp sb so e
    obtain ⟨a1, a2⟩ := h.sd p hp sb so e
    have hl := ((h.ad p hp).2 sb so e).2.1
    refine ⟨a1, fun e2 => ?_⟩
    rcases G.fresh sb e2 with g | g
    · exact a2 g
    · omega
  · have hG : Below B (w1.alloc o) w2 := G.below (by omega) (fun q e => (h.rc.lt q e).1)
    exact (((hA1.mono hB).trans hG).setCell h.le _)
set_option maxRecDepth 100000 in
/-- One digest more. -/
theorem Stk.moreD {w w1 w2 : World} {B s : Nat} {vc vd vd' : Value} {ls : List Ct} {ds : List Part} {p : Part} {o : Obj} (h : Stk w B s vc vd ls ds) (hB : B ≤ w.heap.size) (hb1 : Below w.heap.size w w1) (hp : SliceAt w1 p.sa p.cap p.bs) (hin : ∀ sb so, p.sa = some ⟨sb, so, none⟩ → B ≤ sb ∧ sb < w1.heap.size ∧ sb ≠ s ∧ vc.ownBlock ≠ some sb ∧ vd.ownBlock ≠ some sb) (G : Grew (w1.alloc o) vd w2 vd')
    (ho : w2.ownsRow B 29 1 vd' (ds.length + 1) (pv ds ++ [p.val])) : Stk (w2.setCell ⟨s, 1, none⟩ vd') B s vc vd' ls (ds ++ [p]) ∧ Below B w (w2.setCell ⟨s, 1, none⟩ vd') := by
  have hne1 : (35 : TypeId) ≠ 76 := by decide
  have hne2 : (29 : TypeId) ≠ 76 := by decide
  have hne3 : (35 : TypeId) ≠ 29 := by decide
  have hA : Below w1.heap.size w1 (w1.alloc o) := (Below.refl _ _).alloc (Nat.le_refl _) _
  have hA1 := hb1.trans (hA.mono hb1.size)
  have hsz1 := hb1.size
  have hsz2 : w1.heap.size < (w1.alloc o).heap.size := by rw [size_alloc]; omega
  have hsz3 := G.grown.size
  have hs : s < w.heap.size := lt_of_heap h.box
  have hcs : vd.ownBlock ≠ some s := row_box h.rd h.box hne2
  have hcs' : vd'.ownBlock ≠ some s := fun e => by
    rcases G.fresh s e with g | g
    · exact hcs g
    · omega
  have hbox2 : w2.heap[s]? = some (.cells #[vc, vd] 76 (0, 0)) := G.row (((hA1.block s hs)).trans h.box) hcs
  have hK : ∀ b, b < w.heap.size → b ≠ s → vd.ownBlock ≠ some b → (w2.setCell ⟨s, 1, none⟩ vd').heap[b]? = w.heap[b]? := fun b hb hbs hbc =>
    (heap_setCell_other w2 ⟨s, 1, none⟩ b vd' hbs).trans ((G.grown.block b (by omega) (fun e => hbc e.symm)).trans (hA1.block b hb))
  have hsz : w.heap.size ≤ (w2.setCell ⟨s, 1, none⟩ vd').heap.size := by simp; omega
  have hfr : ∀ sb, vd'.ownBlock = some sb → sb < w1.heap.size → vd.ownBlock = some sb := fun sb e hl => by
    rcases G.fresh sb e with g | g
    · exact g
    · omega
  refine ⟨⟨?_, h.le, ?_, ?_, ?_, ?_, ?_, ?_⟩, ?_⟩
  · simpa using heap_setCell_same _ _ 1 _ _ vd' hbox2
  · exact owns_same h.rc (fun q e => hK q (h.rc.lt q e).2 (fun hq => row_box h.rc h.box hne1 (by rw [e, hq])) (rows_apart h.rc h.rd hne3 q e))
  · have ho' : w2.ownsRow B 29 1 vd' (ds ++ [p]).length (pv (ds ++ [p])) := by simpa [pv] using ho
    exact owns_same ho' (fun q e => heap_setCell_other w2 ⟨s, 1, none⟩ q vd' (fun hq => hcs' (by rw [e, show q = s from hq])))
  · exact h.ac.same hsz (fun c hc b hb => hK b ((h.ac c hc).1.block_lt b hb) (h.sc c hc b hb).1 (h.sc c hc b hb).2)
  · intro q hq
    rcases List.mem_append.1 hq with hq | hq
    · obtain ⟨k1, k2⟩ := h.ad q hq
      refine ⟨slice_keep k1 (fun b so _ e => hK b (k2 b so e).2.1 (h.sd q hq b so e).1 (k2 b so e).2.2), fun sb so e => ?_⟩
      obtain ⟨a1, a2, a3⟩ := k2 sb so e
      exact ⟨a1, by omega, fun e2 => a3 (hfr sb e2 (by omega))⟩
    · obtain rfl : q = p := by simpa using hq
      refine ⟨slice_keep hp (fun b so _ e => ?_), fun sb so e => ?_⟩
      · obtain ⟨a1, a2, a3, a4, a5⟩ := hin b so e
        rw [heap_setCell_other w2 ⟨s, 1, none⟩ b vd' a3, G.grown.block b (by omega) (fun e => a5 e.symm), hA.block b a2]
      · obtain ⟨a1, a2, a3, a4, a5⟩ := hin sb so e
        exact ⟨a1, by simp; omega, fun e2 => a5 (hfr sb e2 a2)⟩
  · intro c hc b hb
    obtain ⟨a1, a2⟩ := h.sc c hc b hb
    have hl := (h.ac c hc).1.block_lt b hb
    exact ⟨a1, fun e2 => a2 (hfr b e2 (by omega))⟩
  · intro q hq sb so e
    rcases List.mem_append.1 hq with hq | hq
    · exact h.sd q hq sb so e
    · obtain rfl : q = p := by simpa using hq
      obtain ⟨a1, a2, a3, a4, a5⟩ := hin sb so e
      exact ⟨a3, a4⟩
  · have hG : Below B (w1.alloc o) w2 := G.below (by omega) (fun q e => (h.rd.lt q e).1)
    exact (((hA1.mono hB).trans hG).setCell h.le _)
/-- A stock: certificates, and their digests at the same places. -/
structure StockAt (w : World) (ca : Option Addr) (cc : Nat) (ls : List Ct) (da : Option Addr) (dc : Nat) (ds : List Part) : Prop where
  certs : CertsAt w ca ls
  each : ∀ c ∈ ls, CtAt w c
  digs : ListAt w da dc ds
  same : bss ds = (cvs ls).map CV.d
  small : ls.length ≤ 400
  cle : ls.length ≤ cc
  cmax : cc ≤ 9223372036854775807
set_option maxRecDepth 100000 in
theorem StockAt.below {w w' : World} {ca : Option Addr} {cc : Nat} {ls : List Ct} {da : Option Addr} {dc : Nat} {ds : List Part} (h : StockAt w ca cc ls da dc ds) (hb : Below w.heap.size w w') : StockAt w' ca cc ls da dc ds :=
  ⟨h.certs.below hb, fun c hc => (h.each c hc).below hb, h.digs.below hb, h.same, h.small, h.cle, h.cmax⟩
set_option maxRecDepth 100000 in
theorem StockAt.len {w : World} {ca : Option Addr} {cc : Nat} {ls : List Ct} {da : Option Addr} {dc : Nat} {ds : List Part} (h : StockAt w ca cc ls da dc ds) : ds.length = ls.length := by
  rw [digs_length h.same, cvs_length]
/-- A stock that is read through its box. -/
structure StkAt (w : World) (s : Nat) (ls : List Ct) (ca : Option Addr) (cc : Nat) (da : Option Addr) (dc : Nat) (ds : List Part) : Prop where
  box : w.heap[s]? = some (.cells #[.slice ca ls.length cc, .slice da ls.length dc] 76 (0, 0))
  at' : StockAt w ca cc ls da dc ds
set_option maxRecDepth 100000 in
theorem StkAt.below {w w' : World} {s : Nat} {ls : List Ct} {ca : Option Addr} {cc : Nat} {da : Option Addr} {dc : Nat} {ds : List Part} (h : StkAt w s ls ca cc da dc ds) (hb : Below w.heap.size w w') : StkAt w' s ls ca cc da dc ds :=
  ⟨(hb.block s (lt_of_heap h.box)).trans h.box, h.at'.below hb⟩
set_option maxRecDepth 100000 in
theorem Stk.at {w : World} {B s : Nat} {vc vd : Value} {ls : List Ct} {ds : List Part} (h : Stk w B s vc vd ls ds) (hs : bss ds = (cvs ls).map CV.d) (hm : ls.length ≤ 400) : ∃ ca cc da dc, vc = .slice ca ls.length cc ∧ vd = .slice da ls.length dc ∧ StkAt w s ls ca cc da dc ds := by
  have hl : ds.length = ls.length := by rw [digs_length hs, cvs_length]
  obtain ⟨ca, cc, h1, _, h2, _⟩ := dag_of_owns h.rc h.ac
  obtain ⟨da, dc, k1, _, k2, _⟩ := listAt_of_owns h.rd h.ad
  have h2' := h2 (by omega)
  rw [hl] at k1 k2
  refine ⟨ca, cc, da, dc, h1, k1, ⟨by rw [← h1, ← k1]; exact h.box, ⟨h2'.certs, h2'.each, k2 (by omega), hs, hm, h2'.le, h2'.max⟩⟩⟩
/-- A stock that a call owns. -/
structure StkOwn (w : World) (B s : Nat) (ls : List Ct) : Prop where
  out : ∃ vc vd ds, Stk w B s vc vd ls ds ∧ bss ds = (cvs ls).map CV.d ∧ ls.length ≤ 400
set_option maxRecDepth 100000 in
theorem StkOwn.below {w w' : World} {B s : Nat} {ls : List Ct} (h : StkOwn w B s ls) (hb : Below w.heap.size w w') : StkOwn w' B s ls := by
  obtain ⟨vc, vd, ds, h1, h2, h3⟩ := h.out
  exact ⟨vc, vd, ds, h1.below hb, h2, h3⟩
end Go.Proofs.YtgbomdikhidkoaaDoor

namespace Go.Proofs.YtgbomdikhidkoaaDoor
open Go.RowKit

set_option maxRecDepth 100000 in
theorem step_calls {ops : Array Oper} {o : Oper} {a : Act} {w : World} {K : Act → World → Prop} {Q : Exit → Act → World → Prop} {E : Prop}
    (hg : o.guard = none) (f : FuncId) (xs : List Operand) (ats : Array TypeId) (ho : o.op = .call { callee := .value (.func f), args := xs.toArray, argTypes := ats })
    (vs : List Value) (hv : xs.map a.eval = vs) (hent : ∀ args w, (callFunc f args).run Tryd.prog w = .ok (.enter f args) w)
    (R : Value → World → Prop) (hc : Calls Tryd.prog f vs.toArray w fun e w' => ∃ v, e = .returned v ∧ R v w') (hK : ∀ v w', R v w' → K (a.put o.dst v) w') :
    if Region.wanted o (yielded ops a.tmps) = true then Oper.wp Tryd.prog o a w K Q else E := by
  have hw : Region.wanted o (yielded ops a.tmps) = true := by simp [Region.wanted, hg]
  rw [if_pos hw]
  obtain ⟨dst, op, ty, pos, after, guard⟩ := o
  simp only at ho
  subst ho
  unfold Oper.wp
  rw [execOp_call_go, List.map_toArray, hv, hent, Oper.upon_enter, show (#[] ++ vs.toArray ++ #[] : Array Value) = vs.toArray by simp]
  refine hc.mono ?_
  rintro e w' ⟨v, rfl, h⟩
  exact hK v w' h
set_option maxRecDepth 100000 in
/-- Take an operation first, its slot written out. -/
theorem take_dst {P : Program} {ops : Array Oper} {Q : Exit → Act → World → Prop} {md : Region.Mode} {S : World → Prop} {i d : Nat} {oi : Oper} {v : Value} {fuel : Nat} {listed : Array Bool} {a : Act} {w : World} (hi : ops[i]? = some oi) (hd : oi.dst = some d)
    (hs : Region.noSelect ops = true) (hf : Region.free md ops listed i = true) (hr : (Region.ready md ops listed).contains i = true)
    (hQ : ∀ c a w, Q (.panic c) (a.put (some d) v) w → Q (.panic c) a w) (hy : YieldsIf P ops S oi v a) (hS : S w)
    (h : wpAnyH P md ops Q S fuel (listed.setIfInBounds i true) (a.put (some d) v) w) : wpAnyH P md ops Q S (fuel + 1) listed a w :=
  wpAnyH_take hi hs hf hr (by rw [hd]; exact hQ) hy hS (by rw [hd]; exact h)
set_option maxRecDepth 100000 in
/-- A call with a contract as the one operation that comes up, its slot written out. -/
theorem step_calls_dst {ops : Array Oper} {o : Oper} {a : Act} {w : World} {K : Act → World → Prop} {Q : Exit → Act → World → Prop} {E : Prop}
    (hg : o.guard = none) (d : Nat) (hd : o.dst = some d) (f : FuncId) (xs : List Operand) (ats : Array TypeId) (ho : o.op = .call { callee := .value (.func f), args := xs.toArray, argTypes := ats })
    (vs : List Value) (hv : xs.map a.eval = vs) (hent : ∀ args w, (callFunc f args).run Tryd.prog w = .ok (.enter f args) w)
    (R : Value → World → Prop) (hc : Calls Tryd.prog f vs.toArray w fun e w' => ∃ v, e = .returned v ∧ R v w') (hK : ∀ v w', R v w' → K (a.put (some d) v) w') :
    if Region.wanted o (yielded ops a.tmps) = true then Oper.wp Tryd.prog o a w K Q else E :=
  step_calls hg f xs ats ho vs hv hent R hc (by rw [hd]; exact hK)
set_option maxRecDepth 100000 in
/-- The same for a call behind a guard that lets it by. -/
theorem step_calls_on {ops : Array Oper} {o : Oper} {a : Act} {w : World} {K : Act → World → Prop} {Q : Exit → Act → World → Prop} {E : Prop}
    (hw : Region.wanted o (yielded ops a.tmps) = true) (d : Nat) (hd : o.dst = some d) (f : FuncId) (xs : List Operand) (ats : Array TypeId) (ho : o.op = .call { callee := .value (.func f), args := xs.toArray, argTypes := ats })
    (vs : List Value) (hv : xs.map a.eval = vs) (hent : ∀ args w, (callFunc f args).run Tryd.prog w = .ok (.enter f args) w)
    (R : Value → World → Prop) (hc : Calls Tryd.prog f vs.toArray w fun e w' => ∃ v, e = .returned v ∧ R v w') (hK : ∀ v w', R v w' → K (a.put (some d) v) w') :
    if Region.wanted o (yielded ops a.tmps) = true then Oper.wp Tryd.prog o a w K Q else E := by
  rw [if_pos hw]
  obtain ⟨dst, op, ty, pos, after, guard⟩ := o
  simp only at ho hd
  subst ho hd
  unfold Oper.wp
  rw [execOp_call_go, List.map_toArray, hv, hent, Oper.upon_enter, show (#[] ++ vs.toArray ++ #[] : Array Value) = vs.toArray by simp]
  refine hc.mono ?_
  rintro e w' ⟨v, rfl, h⟩
  exact hK v w' h
set_option maxRecDepth 100000 in
/-- An operation that is no call, and that turns the world, as the one that comes up. -/
theorem step_run {ops : Array Oper} {o : Oper} {a : Act} {w : World} {K : Act → World → Prop} {Q : Exit → Act → World → Prop} {E : Prop}
    (hg : o.guard = none) (d : Nat) (hd : o.dst = some d) (v : Value) (w' : World) (hr : (execOp a.eval o).run Tryd.prog w = .ok (.value v) w') (hK : K (a.put (some d) v) w') :
    if Region.wanted o (yielded ops a.tmps) = true then Oper.wp Tryd.prog o a w K Q else E := by
  have hw : Region.wanted o (yielded ops a.tmps) = true := by simp [Region.wanted, hg]
  rw [if_pos hw]
  unfold Oper.wp
  rw [hr, Oper.upon_value, hd]
  exact hK
set_option maxRecDepth 100000 in
/-- An append onto a row that the call owns, as one step of such a region, and where the new slice lies. -/
theorem step_append_at {ops : Array Oper} {o : Oper} {a : Act} {w : World} {K : Act → World → Prop} {Q : Exit → Act → World → Prop} {E : Prop}
    (hg : o.guard = none) (s x : Operand) (t : TypeId) (ho : o.op = .call { callee := .builtin .append, args := #[s, x], argTypes := #[t, t] })
    (base : Nat) (e : TypeId) (i : TypeInfo) (z : Value) (size bytes : Nat) (ht : Tryd.prog.underlying t = some (.slice e)) (hi : Tryd.prog.info? e = some i) (hz : i.zero = some z)
    (hsize : i.size = size) (hby : i.bytes = bytes) (hzs : z.cells.size = size) (hsz : 0 < size)
    (v : Value) (n : Nat) (xs : List Value) (hs : a.eval s = v) (hown : w.ownsRow base e size v n xs)
    (ad : Addr) (m c : Nat) (news : List Value) (hx : a.eval x = .slice (some ad) m c) (hl : news.length = m * size) (hnews : ∀ j u, news[j]? = some u → w.cell? (ad.add j) = some u) (h1 : ∀ u ∈ news, u.oneCell' = true)
    (h63 : n + m ≤ maxLen) (hbytes : (n + m) * bytes ≤ 140737488355328) (hbase : base ≤ w.heap.size)
    (hK : ∀ v' w', w'.ownsRow base e size v' (n + m) (xs ++ news) → Grew w v w' v' → K (a.put o.dst v') w') :
    if Region.wanted o (yielded ops a.tmps) = true then Oper.wp Tryd.prog o a w K Q else E := by
  have hw : Region.wanted o (yielded ops a.tmps) = true := by simp [Region.wanted, hg]
  rw [if_pos hw]
  obtain ⟨v', w', hr, h2, h3, _, h5⟩ := run_append_own_at (P := Tryd.prog) w base t o.type e i z size bytes ht hi hz hsize hby hzs hsz v n xs hown ad m c news hl hnews h1 h63 hbytes hbase
  unfold Oper.wp execOp
  simp only [ho, resolve, invoke, builtin, Sem.run_bind, Sem.run_pure, Result.andThen_ok, List.map_toArray, List.map_cons, List.map_nil, hs, hx, hr]
  exact hK v' w' h2 (Grew.of h3 h5)
end Go.Proofs.YtgbomdikhidkoaaDoor

namespace Go.Proofs.YtgbomdikhidkoaaDoor
open Go.RowKit

set_option maxRecDepth 100000 in
set_option maxHeartbeats 400000 in
theorem of1_any (s : Ct) (au rd : Int) (ga gr : Nat) (w : World) (ha : w.cell? ⟨ga, 0, none⟩ = some (.int .i64 au)) (hr : w.cell? ⟨gr, 0, none⟩ = some (.int .i64 rd)) :
    Calls Tryd.prog 75 #[.agg #[.int .i64 s.au, .int .i64 s.rd, .slice s.ba s.bl.length s.bc, .slice s.pa s.pl.length s.pc, .slice s.va s.vl.length s.vc], .pointer (some ⟨ga, 0, none⟩), .pointer (some ⟨gr, 0, none⟩)] w fun e w' => e = .returned (.bool (decide (s.au = au ∧ s.rd = rd))) ∧ Below w.heap.size w w' := by
  have la := block_lt_of_cell ha
  have lr := block_lt_of_cell hr
  have na : ga ≠ w.heap.size := by simp at la; omega
  have nr : gr ≠ w.heap.size := by simp at lr; omega
  go_enter Tryd.func75, Tryd.ntmps75
  go_wp2_with fail
  all_goals (go_ret; exact ⟨by first | (simp_all; done) | (simp_all; rfl), (Below.refl _ _).alloc (Nat.le_refl _) _⟩)

set_option maxRecDepth 100000 in
set_option maxHeartbeats 1000000 in
theorem indexCert_any (ls : List Ct) (sa : Option Addr) (n cap : Nat) (au rd : Int) (ga gr : Nat) (w : World) (hn : n = ls.length) (hk2 : n ≤ 3000000000000000000) (hp : CertsAt w sa ls) (ha : w.cell? ⟨ga, 0, none⟩ = some (.int .i64 au)) (hr : w.cell? ⟨gr, 0, none⟩ = some (.int .i64 rd)) :
    Calls Tryd.prog 76 #[.slice sa n cap, .func (.func 75) #[] #[.pointer (some ⟨ga, 0, none⟩), .pointer (some ⟨gr, 0, none⟩)]] w fun e w' => e = .returned (.int .i64 (cOf (cvs ls) au rd)) ∧ Below w.heap.size w w' := by
  subst hn
  go_enter Tryd.func76, Tryd.ntmps76
  go_wp2_with fail
  go_loopw [8] (fun i wr => ∃ m : Nat, m ≤ ls.length ∧ i = .int .i64 m ∧ fidx (cHit (cvs ls) au rd) m = -1 ∧ Below w.heap.size w wr) (fun i _ => ls.length - (intOf i).toNat)
  case atStart => exact ⟨0, Nat.zero_le _, rfl, rfl, Below.refl _ _⟩
  case round =>
    obtain ⟨m, hm, rfl, hno, hb⟩ := hrel
    by_cases hlt : m < ls.length
    · obtain ⟨sb, so, rfl, c0, c1, c2, c3, c4⟩ := (hp.below hb).at m hlt
      have hg := cHit_get ls au rd m hlt
      have haw := (hb.cell (p := ⟨ga, 0, none⟩) (block_lt_of_cell ha)).trans ha
      have hrw := (hb.cell (p := ⟨gr, 0, none⟩) (block_lt_of_cell hr)).trans hr
      have hltI : (m : Int) < ls.length := by omega
      have hF : Hid (decide ((ls[m]).au = au ∧ (ls[m]).rd = rd) = true → cOf (cvs ls) au rd = m) := by
        show _ → _
        intro h
        exact fidx_hit _ m _ hno (by rw [hg]; exact h) (by rw [cvs_length]; exact hlt)
      have hN : Hid (decide ((ls[m]).au = au ∧ (ls[m]).rd = rd) = false → fidx (cHit (cvs ls) au rd) (m + 1) = -1) := by
        show _ → _
        intro h
        exact fidx_step _ m hno (by rw [hg]; exact h)
      clear hno hg
      generalize ls[m] = s at *
      go_wp2_with fail
      refine (of1_any s au rd ga gr wr haw hrw).mono ?_
      rintro e w1 ⟨he, hb1⟩
      subst he
      dsimp only
      have hB1 := hb.trans (hb1.mono hb.size)
      generalize decide (s.au = au ∧ s.rd = rd) = x at *
      cases x
      · have hn : Hid _ := hN.out rfl
        clear hF hN
        go_wp2_with fail
        go_roundw
        case rel => exact ⟨m + 1, by omega, by go_num, hn.out, hB1⟩
        case measure => simp [intOf]; omega
      · have hn : Hid _ := hF.out rfl
        clear hF hN
        go_wp2_with fail
        go_ret
        exact ⟨ret_int hn.out.symm, hB1⟩
    · obtain rfl : m = ls.length := by omega
      have hF : Hid (cOf (cvs ls) au rd = -1) := by
        show fidx _ _ = -1
        rw [cvs_length]; exact hno
      clear hno
      go_wp2_with fail
      go_ret
      exact ⟨ret_int hF.out.symm, hb⟩
set_option maxRecDepth 100000 in
set_option maxHeartbeats 400000 in
theorem of_any (ls : List Ct) (s : Nat) (ca : Option Addr) (cc : Nat) (da : Option Addr) (dc : Nat) (ds : List Part) (au rd : Int) (w : World) (hs : StkAt w s ls ca cc da dc ds) :
    Calls Tryd.prog 61 #[.pointer (some ⟨s, 0, none⟩), .int .i64 au, .int .i64 rd] w fun e w' => e = .returned (.int .i64 (cOf (cvs ls) au rd)) ∧ Below w.heap.size w w' := by
  have hmf : ∀ (fn : Fn) (first cap : Array Value) (w : World), (Instr.makeFunc fn first cap).run Tryd.prog w = .ok (.func fn first cap) w := fun _ _ _ _ => rfl
  have hsm := hs.at'.small
  have hc := hs.at'.certs
  have hbx := hs.box
  clear hs
  have hR : Below w.heap.size w ((w.alloc (.cells #[.int .i64 au] 3)).alloc (.cells #[.int .i64 rd] 3)) := ((Below.refl _ _).alloc (Nat.le_refl _) _).alloc (by rw [size_alloc]; omega) _
  have k1 : ((w.alloc (.cells #[.int .i64 au] 3)).alloc (.cells #[.int .i64 rd] 3)).cell? ⟨w.heap.size, 0, none⟩ = some (.int .i64 au) := cells_at (heap_keep (heap_alloc_new w _)) 0 _ rfl
  have k2 : ((w.alloc (.cells #[.int .i64 au] 3)).alloc (.cells #[.int .i64 rd] 3)).cell? ⟨w.heap.size + 1, 0, none⟩ = some (.int .i64 rd) := by
    have := laid_cell (w.alloc (.cells #[.int .i64 au] 3)) #[.int .i64 rd] 3 0 _ rfl
    rw [size_alloc] at this
    exact this
  have k3 := cells_at (heap_keep (o := .cells #[.int .i64 rd] 3) (heap_keep (o := .cells #[.int .i64 au] 3) hbx)) 0 _ rfl
  go_enter Tryd.func61, Tryd.ntmps61
  go_wp2_with fail
  generalize (w.alloc (.cells #[.int .i64 au] 3)).alloc (.cells #[.int .i64 rd] 3) = W0 at hR k1 k2 k3 ⊢
  refine (indexCert_any ls ca ls.length cc au rd _ _ W0 rfl (by omega) (hc.below hR) k1 k2).mono ?_
  rintro e w1 ⟨he, hb1⟩
  subst he
  dsimp only
  go_wp2_with fail
  go_ret
  exact ⟨rfl, hR.trans (hb1.mono hR.size)⟩
set_option maxRecDepth 100000 in
theorem with_closure (xs ys : List Int) (sa sb : Option Addr) (n m c d g : Nat) (w : World) (hn : n = xs.length) (hm : m = ys.length) (ha : SliceAt w sa c xs) (hb : SliceAt w sb d ys) (hg : w.cell? ⟨g, 0, none⟩ = some (.slice sb m d)) :
    Calls Tryd.prog 64 #[.slice sa n c, .pointer (some ⟨g, 0, none⟩)] w fun e w' => e = .returned (.bool (decide (txL xs = txL ys))) ∧ w = w' := by
  go_enter Tryd.func64, Tryd.ntmps64
  go_wp2_with fail
  refine (equal_any xs ys _ _ _ _ _ _ w (by first | exact hn | rfl) (by first | exact hm | rfl) ha hb).mono ?_
  rintro e w1 ⟨he, rfl⟩
  subst he
  dsimp only
  go_wp2_with fail
  go_ret
  exact ⟨rfl, rfl⟩
set_option maxRecDepth 100000 in
set_option maxHeartbeats 1000000 in
theorem indexDig_any (l : List CV) (ds : List Part) (da : Option Addr) (n cap : Nat) (bs : List Int) (ka : Option Addr) (kn kc g : Nat) (w : World) (hn : n = ds.length) (hS : bss ds = l.map CV.d) (hk2 : n ≤ 3000000000000000000) (hd : PartsAt w da ds) (hkn : kn = bs.length) (hk : SliceAt w ka kc bs) (hg : w.cell? ⟨g, 0, none⟩ = some (.slice ka kn kc)) :
    Calls Tryd.prog 66 #[.slice da n cap, .func (.func 64) #[] #[.pointer (some ⟨g, 0, none⟩)]] w fun e w' => e = .returned (.int .i64 (pOf l bs)) ∧ w = w' := by
  subst hn hkn
  have HL : Hid (ds.length = l.length) := digs_length hS
  have HS : Hid (bss ds = l.map CV.d) := hS
  clear hS
  go_enter Tryd.func66, Tryd.ntmps66
  go_wp2_with fail
  go_loop [8] (fun i => ∃ m : Nat, m ≤ ds.length ∧ i = .int .i64 m ∧ fidx (dHit l bs) m = -1) (fun i => ds.length - (intOf i).toNat)
  case atStart => exact ⟨0, Nat.zero_le _, rfl, rfl⟩
  case round =>
    obtain ⟨m, hm, rfl, hno⟩ := hrel
    by_cases hlt : m < ds.length
    · rcases hd.cells with hc | ⟨sb, so, rfl, hc⟩
      · subst hc; simp at hlt
      have ck := hc m hlt
      have hx := hd.each (ds[m]) (List.getElem_mem hlt)
      have hltI : (m : Int) < ds.length := by omega
      have hgt := digs_get HS.out m hlt
      have Hf : Hid (txL (ds[m]).bs = txL bs → pOf l bs = m) := by
        show _ → _
        intro h
        exact fidx_hit _ m _ hno (by rw [dHit, hgt]; simpa using h) (by rw [← HL.out]; exact hlt)
      have Hn : Hid (¬ txL (ds[m]).bs = txL bs → fidx (dHit l bs) (m + 1) = -1) := by
        show _ → _
        intro h
        exact fidx_step _ m hno (by rw [dHit, hgt]; simpa using h)
      clear hno hgt hc
      generalize ds[m] = p at *
      go_wp2_with fail
      refine (with_closure p.bs bs p.sa ka _ _ p.cap kc g w rfl rfl hx hk hg).mono ?_
      rintro e w1 ⟨he, rfl⟩
      subst he
      dsimp only
      by_cases h : txL p.bs = txL bs
      · have He : Hid (pOf l bs = m) := Hf.out h
        rw [decide_eq_true h]
        clear Hf Hn h
        go_wp2_with fail
        go_ret
        exact ⟨ret_int He.out.symm, rfl⟩
      · have He : Hid (fidx (dHit l bs) (m + 1) = -1) := Hn.out h
        rw [decide_eq_false h]
        clear Hf Hn h
        go_wp2_with fail
        go_round
        case rel => exact ⟨m + 1, by omega, by go_num, He.out⟩
        case measure => simp [intOf]; omega
    · obtain rfl : m = ds.length := by omega
      have He : Hid (pOf l bs = -1) := by
        show fidx _ _ = -1
        rw [← HL.out]; exact hno
      clear hno
      go_wp2_with fail
      go_ret
      exact ⟨ret_int He.out.symm, rfl⟩
set_option maxRecDepth 100000 in
set_option maxHeartbeats 400000 in
theorem withDigest_any (ls : List Ct) (s : Nat) (ca : Option Addr) (cc : Nat) (da : Option Addr) (dc : Nat) (ds : List Part) (bs : List Int) (ka : Option Addr) (kn kc : Nat) (w : World) (hs : StkAt w s ls ca cc da dc ds) (hkn : kn = bs.length) (hk : SliceAt w ka kc bs) :
    Calls Tryd.prog 50 #[.pointer (some ⟨s, 0, none⟩), .slice ka kn kc] w fun e w' => e = .returned (.int .i64 (pOf (cvs ls) bs)) ∧ Below w.heap.size w w' := by
  have hmf : ∀ (fn : Fn) (first cap : Array Value) (w : World), (Instr.makeFunc fn first cap).run Tryd.prog w = .ok (.func fn first cap) w := fun _ _ _ _ => rfl
  have hsm := hs.at'.small
  subst hkn
  have hdl : Hid (ls.length = ds.length) := by
    show _ = _
    rw [hs.at'.len]
  have hd := hs.at'.digs.parts
  have HS : Hid (bss ds = (cvs ls).map CV.d) := hs.at'.same
  have hbx := hs.box
  clear hs
  have hR : Below w.heap.size w (w.alloc (.cells #[.slice ka bs.length kc] 29)) := (Below.refl _ _).alloc (Nat.le_refl _) _
  have k1 : (w.alloc (.cells #[.slice ka bs.length kc] 29)).cell? ⟨w.heap.size, 0, none⟩ = some (.slice ka bs.length kc) := by simp
  have k3 := cells_at (heap_keep (o := .cells #[.slice ka bs.length kc] 29) hbx) 1 _ rfl
  go_enter Tryd.func50, Tryd.ntmps50
  go_wp2_with fail
  generalize w.alloc (.cells #[.slice ka bs.length kc] 29) = W0 at hR k1 k3 ⊢
  refine (indexDig_any (cvs ls) ds da ls.length dc bs ka bs.length kc _ W0 hdl.out HS.out (by omega) (hd.below hR) rfl (hk.below hR) k1).mono ?_
  rintro e w1 ⟨he, rfl⟩
  subst he
  dsimp only
  go_wp2_with fail
  go_ret
  exact ⟨rfl, hR⟩
set_option maxRecDepth 100000 in
set_option maxHeartbeats 400000 in
theorem has_stk (ls : List Ct) (s : Nat) (ca : Option Addr) (cc : Nat) (da : Option Addr) (dc : Nat) (ds : List Part) (au rd : Int) (w : World) (hs : StkAt w s ls ca cc da dc ds) :
    Calls Tryd.prog 72 #[.pointer (some ⟨s, 0, none⟩), .int .i64 au, .int .i64 rd] w fun e w' => e = .returned (.bool (decide (0 ≤ cOf (cvs ls) au rd))) ∧ Below w.heap.size w w' := by
  go_enter Tryd.func72, Tryd.ntmps72
  go_wp2_with fail
  refine (of_any ls s ca cc da dc ds au rd w hs).mono ?_
  rintro e w1 ⟨he, hb1⟩
  subst he
  dsimp only
  go_wp2_with fail
  go_ret
  exact ⟨rfl, hb1⟩
end Go.Proofs.YtgbomdikhidkoaaDoor

namespace Go.Proofs.YtgbomdikhidkoaaDoor
open Go.RowKit

set_option maxRecDepth 100000 in
theorem cOf_snoc (l : List CV) (c : CV) (au rd : Int) : cOf (l ++ [c]) au rd = if 0 ≤ cOf l au rd then cOf l au rd else if c.au = au ∧ c.rd = rd then (l.length : Int) else -1 := by
  have e1 : fidx (cHit (l ++ [c]) au rd) l.length = fidx (cHit l au rd) l.length := fidx_congr _ _ _ (fun j hj => by
    have e : cvAt (l ++ [c]) j = cvAt l j := by simp [cvAt, List.getD, List.getElem?_append_left hj]
    rw [cHit, cHit, e])
  have e2 : cHit (l ++ [c]) au rd l.length = decide (c.au = au ∧ c.rd = rd) := by
    have e : cvAt (l ++ [c]) l.length = c := by simp [cvAt]
    rw [cHit, e]
  rw [cOf, show (l ++ [c]).length = l.length + 1 by simp, fidx, e1, e2]
  show (if 0 ≤ cOf l au rd then cOf l au rd else _) = _
  simp only [decide_eq_true_eq]
set_option maxRecDepth 100000 in
theorem dgF_len (l : List CV) (r : Int) : (dgF l r).length = (if 0 ≤ cOf l 0 r then 1 else 0) + (if 0 ≤ cOf l 1 r then 1 else 0) + (if 0 ≤ cOf l 2 r then 1 else 0) + (if 0 ≤ cOf l 3 r then 1 else 0) := by
  have h : ∀ n : Nat, (dgTo l r (n + 1)).length = (dgTo l r n).length + (if 0 ≤ cOf l (n : Int) r then 1 else 0) := fun n => by
    rw [dgTo]
    split <;> simp
  rw [dgF, h 3, h 2, h 1, h 0]
  simp [dgTo]
/-- How many are of that round. -/
def cntR (l : List CV) (r : Int) : Nat := (l.filter fun c => decide (c.rd = r)).length
set_option maxRecDepth 100000 in
theorem cntR_snoc (l : List CV) (c : CV) (r : Int) : cntR (l ++ [c]) r = cntR l r + (if c.rd = r then 1 else 0) := by
  simp only [cntR, List.filter_append, List.length_append]
  by_cases h : c.rd = r <;> simp [h]
set_option maxRecDepth 100000 in
theorem dg_snoc (l : List CV) (c : CV) (r : Int) (h : cOf l c.au c.rd < 0) (h4 : 0 ≤ c.au ∧ c.au < 4) : (dgF (l ++ [c]) r).length = (dgF l r).length + (if c.rd = r then 1 else 0) := by
  have key : ∀ a : Int, (if 0 ≤ cOf (l ++ [c]) a r then 1 else 0 : Nat) = (if 0 ≤ cOf l a r then 1 else 0) + (if c.au = a ∧ c.rd = r then 1 else 0) := fun a => by
    rw [cOf_snoc]
    by_cases h1 : 0 ≤ cOf l a r
    · have h2 : ¬ (c.au = a ∧ c.rd = r) := fun ⟨e1, e2⟩ => by rw [e1, e2] at h; omega
      simp [h1, h2]
    · by_cases h2 : c.au = a ∧ c.rd = r
      · rw [if_neg h1, if_pos h2, if_neg h1, if_pos h2, if_pos (by omega)]
      · rw [if_neg h1, if_neg h2, if_neg h1, if_neg h2, if_neg (by decide)]
  rw [dgF_len, dgF_len, key, key, key, key]
  by_cases hr : c.rd = r
  · have hc : c.au = 0 ∨ c.au = 1 ∨ c.au = 2 ∨ c.au = 3 := by omega
    rcases hc with e | e | e | e <;> simp [e, hr] <;> omega
  · simp [hr]
set_option maxRecDepth 100000 in
theorem f_author {c : CV} (h : c.f = 0) : 0 ≤ c.au ∧ c.au < 4 := (headerF_ok (certF_head (vl := c.vl) h)).1
set_option maxRecDepth 100000 in
theorem takF_cOf {l : List CV} {au rd : Int} {pl : List (List Int)} (h : takF l au rd pl = 0) : cOf l au rd < 0 := by
  rw [takF] at h
  split at h
  · cases h
  · omega
set_option maxRecDepth 100000 in
theorem dgF_cnt_take {l : List CV} (h : dagF l = 0) (r : Int) (k : Nat) (hk : k ≤ l.length) : (dgF (l.take k) r).length = cntR (l.take k) r := by
  induction k with
  | zero => rw [List.take_zero, dgF_len]; rfl
  | succ k ih =>
    have hlt : k < l.length := by omega
    have hb := (dagF_zero h).2 k hlt
    simp only [badC, Bool.or_eq_false_iff, decide_eq_false_iff_not, ne_eq, Decidable.not_not] at hb
    have e : l.take (k + 1) = l.take k ++ [cvAt l k] := by
      rw [List.take_succ_eq_append_getElem hlt]
      simp [cvAt, hlt]
    rw [e, dg_snoc _ _ _ (takF_cOf hb.2) (f_author hb.1), cntR_snoc, ih (by omega)]
set_option maxRecDepth 100000 in
theorem dgF_cnt {l : List CV} (h : dagF l = 0) (r : Int) : (dgF l r).length = cntR l r := by
  have := dgF_cnt_take h r l.length (Nat.le_refl _)
  rwa [List.take_length] at this
/-- What a stock tells of a certificate that is to be inserted. -/
def stkE (l : List CV) (c : CV) : Int := if c.f ≠ 0 then c.f else if takF l c.au c.rd c.pl ≠ 0 then takF l c.au c.rd c.pl else if 400 ≤ l.length then 6 else 0
set_option maxRecDepth 100000 in
theorem stkE_ok {l : List CV} {c : CV} (h : stkE l c = 0) : c.f = 0 ∧ takF l c.au c.rd c.pl = 0 ∧ l.length < 400 := by
  rw [stkE] at h
  by_cases h1 : c.f = 0
  · rw [if_neg (fun g => g h1)] at h
    by_cases h2 : takF l c.au c.rd c.pl = 0
    · rw [if_neg (fun g => g h2)] at h
      by_cases h3 : 400 ≤ l.length
      · rw [if_pos h3] at h; cases h
      · exact ⟨h1, h2, by omega⟩
    · rw [if_pos h2] at h; exact absurd h h2
  · rw [if_pos h1] at h; exact absurd h h1
set_option maxRecDepth 100000 in
theorem stkE_bad {l : List CV} {k : Nat} (hk : k < l.length) (h : stkE (l.take k) (cvAt l k) ≠ 0) : dagF l = 12 := by
  by_cases hl : 400 < l.length
  · exact dagF_long l hl
  · refine dagF_bad l k hk ?_
    simp only [badC, Bool.or_eq_true, decide_eq_true_eq]
    by_cases h1 : (cvAt l k).f = 0
    · right
      intro h2
      apply h
      rw [stkE, if_neg (fun g => g h1), if_neg (fun g => g h2), if_neg (by simp; omega)]
    · exact .inl h1
set_option maxRecDepth 100000 in
theorem stkE_all {l : List CV} (h : ∀ k, k < l.length → stkE (l.take k) (cvAt l k) = 0) : dagF l = 0 := by
  have hb : ∀ k, k < l.length → badC l k = false := fun k hk => by
    obtain ⟨h1, h2, _⟩ := stkE_ok (h k hk)
    simp [badC, h1, h2]
  refine dagF_ok l ?_ hb
  rcases Nat.lt_or_ge 400 l.length with g | g
  · obtain ⟨_, _, h3⟩ := stkE_ok (h 400 g)
    rw [List.length_take] at h3
    omega
  · exact g
/-- P5.4: what is told. -/
def insE (l : List CV) (c : CV) : Int := if dagF l ≠ 0 then dagF l else if c.f ≠ 0 then c.f else if takF l c.au c.rd c.pl ≠ 0 then takF l c.au c.rd c.pl else if 400 ≤ l.length then 6 else 0
set_option maxRecDepth 100000 in
theorem insE_stk {l : List CV} (c : CV) (h : dagF l = 0) : insE l c = stkE l c := by rw [insE, if_neg (fun g => g h), stkE]
end Go.Proofs.YtgbomdikhidkoaaDoor

namespace Go.Proofs.YtgbomdikhidkoaaDoor
open Go.RowKit

set_option maxRecDepth 100000 in
set_option maxHeartbeats 400000 in
theorem clone_any (bs : List Int) (sa : Option Addr) (n cap : Nat) (w : World) (hn : n = bs.length) (hs : SliceAt w sa cap bs) (hl : bs.length ≤ 140737488355328) :
    Calls Tryd.prog 57 #[.slice sa n cap] w fun e w' => ∃ ra rc, e = .returned (.slice ra bs.length rc) ∧ SliceAt w' ra rc bs ∧ (∀ sb so, ra = some ⟨sb, so, none⟩ → w.heap.size ≤ sb ∧ sb < w'.heap.size) ∧ Below w.heap.size w w' := by
  subst hn
  have hle := hs.le
  cases sa with
  | none =>
    have hc := hs.nil rfl
    have hb : bs = [] := List.eq_nil_of_length_eq_zero (by omega)
    subst hc hb
    have he : ∀ w : World, (binOp .eql 29 (.slice none 0 0) (.slice none 0 0)).run Tryd.prog w = .ok (.bool true) w := fun _ => rfl
    go_enter Tryd.func57, Tryd.ntmps57
    go_wp2_with fail
    go_ret
    exact ⟨none, 0, rfl, hs, (fun _ _ e => by cases e), Below.refl _ _⟩
  | some ad =>
    have he : ∀ w : World, (binOp .eql 29 (.slice (some ad) bs.length cap) (.slice none 0 0)).run Tryd.prog w = .ok (.bool false) w := fun _ => rfl
    have hA : Below w.heap.size w (w.alloc (.cells #[] 5)) := (Below.refl _ _).alloc (Nat.le_refl _) _
    go_enter Tryd.func57, Tryd.ntmps57
    go_wp2_with (at_builtin; refine wpList_append_part rfl _ _ rfl w.heap.size _ 0 [] rfl (World.ownsRow_made _ _ 0 (Nat.le_refl _) (by decide) rfl) (some ad) _ cap bs rfl rfl (hs.below hA) (by omega) hA.size ?_; intro v1 w1 ho1 hg1)
    obtain ⟨ra, rc, hv, hl, hsl⟩ := owns_form ho1
    have hlt := ho1.lt
    subst hv
    go_ret
    refine ⟨ra, rc, ?_, by simpa using hsl, (fun sb so e => hlt sb (by rw [e]; rfl)), ?_⟩
    · simp
    · exact Below.grown hA hg1 hA.size (fun q e => (World.ownsRow.lt (World.ownsRow_made (e := 5) (size := 1) w #[] 0 (Nat.le_refl _) (by decide) rfl) q e).1)
end Go.Proofs.YtgbomdikhidkoaaDoor
