/- stock: of, withDigest. -/
import Derived.Test.YtgbomdikhidkoaaDoorCerts
import Derived.Test.YtgbomdikhidkoaaDoorDgs
import Derived.Test.YtgbomdikhidkoaaDoorOwnL
import Derived.Test.YtgbomdikhidkoaaDoorSx
import Derived.Deep.RegionHeld
import Derived.Test.YtgbomdikhidkoaaDoorGrew
import Derived.Shelf.Abstract
import Derived.Test.YtgbomdikhidkoaaDoorEqual
import Derived.Deep.RegionHeld3
namespace Go.Proofs.YtgbomdikhidkoaaDoor
open Go.RowKit

set_option maxRecDepth 100000 in
theorem digs_get {l : List CV} {ds : List Part} (hS : bss ds = l.map CV.d) (k : Nat) (h : k < ds.length) : (cvAt l k).d = (ds[k]).bs := by
  have hl := congrArg List.length hS
  simp only [bss, List.length_map] at hl
  have h' : k < l.length := by omega
  have e : (bss ds)[k]? = (l.map CV.d)[k]? := by rw [hS]
  simp only [bss, List.getElem?_map, List.getElem?_eq_getElem h, List.getElem?_eq_getElem h', Option.map_some, Option.some.injEq] at e
  rw [e]
  simp [cvAt, h']
set_option maxRecDepth 100000 in
theorem digs_length {l : List CV} {ds : List Part} (hS : bss ds = l.map CV.d) : ds.length = l.length := by
  have hl := congrArg List.length hS
  simpa [bss] using hl
set_option maxRecDepth 100000 in
theorem badC_first (l : List CV) (k : Nat) (h : (cvAt l k).f ≠ 0) : badC l k = true := by simp [badC, h]
set_option maxRecDepth 100000 in
theorem badC_eq (ls : List Ct) (k : Nat) (hk : k < ls.length) (h : (ls[k]).v.f = 0) : badC (cvs ls) k = decide (takF (cvs (ls.take k)) (ls[k]).au (ls[k]).rd (bss (ls[k]).pl) ≠ 0) := by
  rw [badC, cvAt_get ls k hk, h, cvs_take]
  rfl
set_option maxRecDepth 100000 in
theorem all_f {ls : List Ct} (h : dagF (cvs ls) = 0) : ∀ c ∈ ls, c.v.f = 0 := by
  intro c hc
  obtain ⟨j, hj, rfl⟩ := List.getElem_of_mem hc
  rw [← cvAt_get ls j hj]
  exact dagF_f h j (by rw [cvs_length]; exact hj)
set_option maxRecDepth 100000 in
theorem dag_le {ls : List Ct} (h : dagF (cvs ls) = 0) : ls.length ≤ 400 := by
  have := (dagF_zero h).1
  rw [cvs_length] at this
  exact this
set_option maxRecDepth 100000 in
theorem f_small {c : CV} (h : c.f = 0) : c.bl.length ≤ 3 ∧ c.pl.length ≤ 4 ∧ c.vl.length ≤ 4 ∧ (∀ b ∈ c.bl, b.length = 32) ∧ (∀ b ∈ c.pl, b.length = 32) := by
  obtain ⟨_, _, y3, y4, y5, y6⟩ := headerF_ok (certF_head (vl := c.vl) h)
  refine ⟨by simpa [pz] using y3, by simpa [pz] using y4, ?_, fun b hb => ?_, fun b hb => ?_⟩
  · rw [CV.f, certF] at h
    split at h
    · rename_i g; exact absurd h g
    · split at h
      · cases h
      · omega
  · exact y5 ⟨none, 0, b⟩ (by simp [pz, hb])
  · exact y6 ⟨none, 0, b⟩ (by simp [pz, hb])
set_option maxRecDepth 100000 in
theorem ct_small {c : Ct} (h : c.v.f = 0) : c.bl.length ≤ 1000 ∧ c.pl.length ≤ 1000 ∧ c.vl.length ≤ 4 ∧ (∀ p ∈ c.bl, p.bs.length ≤ 140737488355328) ∧ (∀ p ∈ c.pl, p.bs.length ≤ 140737488355328) := by
  obtain ⟨a1, a2, a3, a4, a5⟩ := f_small h
  simp only [Ct.v, bss_length] at a1 a2 a3
  refine ⟨by omega, by omega, a3, fun p hp => ?_, fun p hp => ?_⟩
  · rw [a4 p.bs (List.mem_map.2 ⟨p, hp, rfl⟩)]; decide
  · rw [a5 p.bs (List.mem_map.2 ⟨p, hp, rfl⟩)]; decide
end Go.Proofs.YtgbomdikhidkoaaDoor

namespace Go.Proofs.YtgbomdikhidkoaaDoor
open Go.RowKit

/-- The blocks that a certificate's lists lie in. -/
def CtIn (c : Ct) (b : Nat) : Prop := (∃ so, c.ba = some ⟨b, so, none⟩) ∨ (∃ so, c.pa = some ⟨b, so, none⟩) ∨ (∃ p, p ∈ c.bl ++ c.pl ∧ p.bs ≠ [] ∧ ∃ so, p.sa = some ⟨b, so, none⟩) ∨ (c.vl ≠ [] ∧ ∃ so, c.va = some ⟨b, so, none⟩)
set_option maxRecDepth 100000 in
theorem slice_keep {w w' : World} {sa : Option Addr} {cap : Nat} {bs : List Int} (h : SliceAt w sa cap bs) (hk : ∀ b so, bs ≠ [] → sa = some ⟨b, so, none⟩ → w'.heap[b]? = w.heap[b]?) : SliceAt w' sa cap bs := by
  refine ⟨h.le, h.max, h.some, h.nil, ?_⟩
  rcases h.bytes with hc | ⟨sb, so, e, hc⟩
  · exact .inl hc
  · by_cases hn : bs = []
    · exact .inl hn
    · exact .inr ⟨sb, so, e, fun k hk' => (World.cell?_of_block (hk sb so hn e)).trans (hc k hk')⟩
set_option maxRecDepth 100000 in
theorem slice_block_lt {w : World} {sa : Option Addr} {cap : Nat} {bs : List Int} (h : SliceAt w sa cap bs) (hn : bs ≠ []) (b so : Nat) (e : sa = some ⟨b, so, none⟩) : b < w.heap.size := by
  rcases h.bytes with hc | ⟨sb, so', e', hc⟩
  · exact absurd hc hn
  · rw [e] at e'
    cases e'
    exact block_lt_of_cell (hc 0 (by cases bs with | nil => exact absurd rfl hn | cons a l => simp))
set_option maxRecDepth 100000 in
theorem list_keep {w w' : World} {sa : Option Addr} {cap : Nat} {ps : List Part} (h : ListAt w sa cap ps) (hr : ∀ b so, sa = some ⟨b, so, none⟩ → w'.heap[b]? = w.heap[b]?) (hp : ∀ p, p ∈ ps → ∀ b so, p.bs ≠ [] → p.sa = some ⟨b, so, none⟩ → w'.heap[b]? = w.heap[b]?) : ListAt w' sa cap ps := by
  refine ⟨h.le, h.max, h.small, h.some, ⟨?_, fun p hm => slice_keep (h.parts.each p hm) (hp p hm)⟩⟩
  rcases h.parts.cells with hc | ⟨sb, so, e, hc⟩
  · exact .inl hc
  · exact .inr ⟨sb, so, e, fun k hk => (World.cell?_of_block (hr sb so e)).trans (hc k hk)⟩
set_option maxRecDepth 100000 in
theorem ints_keep {w w' : World} {va : Option Addr} {vl : List Int} (h : IntsAt w va vl) (hr : ∀ b so, vl ≠ [] → va = some ⟨b, so, none⟩ → w'.heap[b]? = w.heap[b]?) : IntsAt w' va vl := by
  refine ⟨?_⟩
  rcases h.cells with hc | ⟨sb, so, e, hc⟩
  · exact .inl hc
  · by_cases hn : vl = []
    · exact .inl hn
    · exact .inr ⟨sb, so, e, fun k hk => (World.cell?_of_block (hr sb so hn e)).trans (hc k hk)⟩
set_option maxRecDepth 100000 in
theorem CtAt.keep {w w' : World} {c : Ct} (h : CtAt w c) (hs : w.heap.size ≤ w'.heap.size) (hk : ∀ b, CtIn c b → w'.heap[b]? = w.heap[b]?) : CtAt w' c :=
  ⟨⟨list_keep h.hat.lb (fun b so e => hk b (.inl ⟨so, e⟩)) (fun p hp b so hn e => hk b (.inr (.inr (.inl ⟨p, List.mem_append_left _ hp, hn, so, e⟩)))), list_keep h.hat.lp (fun b so e => hk b (.inr (.inl ⟨so, e⟩))) (fun p hp b so hn e => hk b (.inr (.inr (.inl ⟨p, List.mem_append_right _ hp, hn, so, e⟩)))), fun sb so e => Nat.lt_of_lt_of_le (h.hat.rb sb so e) hs, fun sb so e => Nat.lt_of_lt_of_le (h.hat.rp sb so e) hs⟩, ints_keep h.ints (fun b so hn e => hk b (.inr (.inr (.inr ⟨hn, so, e⟩)))), h.vle⟩
set_option maxRecDepth 100000 in
theorem CtAt.block_lt {w : World} {c : Ct} (h : CtAt w c) (b : Nat) (hb : CtIn c b) : b < w.heap.size := by
  rcases hb with ⟨so, e⟩ | ⟨so, e⟩ | ⟨p, hp, hn, so, e⟩ | ⟨hn, so, e⟩
  · exact h.hat.rb b so e
  · exact h.hat.rp b so e
  · rcases List.mem_append.1 hp with hp | hp
    · exact slice_block_lt (h.hat.lb.parts.each p hp) hn b so e
    · exact slice_block_lt (h.hat.lp.parts.each p hp) hn b so e
  · rcases h.ints.cells with hc | ⟨sb, so', e', hc⟩
    · exact absurd hc hn
    · rw [e] at e'
      cases e'
      exact block_lt_of_cell (hc 0 (by cases hv : c.vl with | nil => exact absurd hv hn | cons a l => simp))
/-- Certificates, each apart from the row v, their lists at B or behind it. -/
def ApartC (w : World) (B : Nat) (v : Value) (ks : List Ct) : Prop := ∀ c ∈ ks, CtAt w c ∧ ∀ b, CtIn c b → B ≤ b ∧ v.ownBlock ≠ some b
set_option maxRecDepth 100000 in
theorem ApartC.more {w w2 w3 : World} {B : Nat} {v v1 : Value} {ks : List Ct} {c : Ct} {o : Obj} {n sz : Nat} {e : TypeId} {xs : List Value} (h : ApartC w B v ks) (hB : B ≤ w.heap.size) (ho : w.ownsRow B e sz v n xs) (hb2 : Below w.heap.size w w2)
    (hc : ∀ b, CtIn c b → w.heap.size ≤ b) (hs2 : CtAt w2 c) (G : Grew (w2.alloc o) v w3 v1) : ApartC w3 B v1 (ks ++ [c]) := by
  have hA : Below w2.heap.size w2 (w2.alloc o) := (Below.refl _ _).alloc (Nat.le_refl _) _
  have hsz : w2.heap.size < (w2.alloc o).heap.size := by rw [size_alloc]; omega
  have h3 := G.grown.size
  have h2 := hb2.size
  intro d hd
  rcases List.mem_append.1 hd with hd | hd
  · obtain ⟨hs, ha⟩ := h d hd
    have hs' := (hs.below hb2).below hA
    refine ⟨hs'.keep h3 (fun b hb => G.grown.block b (hs'.block_lt b hb) (fun e => (ha b hb).2 e.symm)), fun b hb => ⟨(ha b hb).1, fun hv => ?_⟩⟩
    have := hs.block_lt b hb
    rcases G.fresh b hv with g | g
    · exact (ha b hb).2 g
    · omega
  · obtain rfl : d = c := by simpa using hd
    have hne : ∀ b, CtIn d b → v.ownBlock ≠ some b := fun b hb hv => by
      have h1 := (ho.lt b hv).2
      have h2 := hc b hb
      omega
    have hs' := hs2.below hA
    refine ⟨hs'.keep h3 (fun b hb => G.grown.block b (hs'.block_lt b hb) (fun e => hne b hb e.symm)), fun b hb => ⟨by have := hc b hb; omega, fun hv => ?_⟩⟩
    have := hs2.block_lt b hb
    rcases G.fresh b hv with g | g
    · exact hne b hb g
    · omega
set_option maxRecDepth 100000 in
theorem ApartC.setCell {w : World} {B : Nat} {v : Value} {ks : List Ct} (h : ApartC w B v ks) (b j : Nat) (x : Value) (hb : b < B) : ApartC (w.setCell ⟨b, j, none⟩ x) B v ks := fun c hc =>
  ⟨(h c hc).1.keep (by simp) (fun q hq => heap_setCell_other w ⟨b, j, none⟩ q x (by have := ((h c hc).2 q hq).1; show q ≠ b; omega)), (h c hc).2⟩
set_option maxRecDepth 100000 in
theorem infoCert : (Tryd.prog.info? 35).map (fun i => (i.zero, i.size, i.bytes)) = some (some (.agg #[.int .i64 0, .int .i64 0, .slice none 0 0, .slice none 0 0, .slice none 0 0]), 5, 88) := by kernel_rfl
def Ct.cs (c : Ct) : List Value := [.int .i64 c.au, .int .i64 c.rd, .slice c.ba c.bl.length c.bc, .slice c.pa c.pl.length c.pc, .slice c.va c.vl.length c.vc]
def ctv : List Ct → List Value
  | [] => []
  | s :: r => s.cs ++ ctv r
set_option maxRecDepth 100000 in
theorem ctv_snoc (ls : List Ct) (s : Ct) : ctv (ls ++ [s]) = ctv ls ++ s.cs := by
  induction ls with
  | nil => simp [ctv]
  | cons x r ih => simp [ctv, ih]
set_option maxRecDepth 100000 in
theorem ctv_length (ls : List Ct) : (ctv ls).length = ls.length * 5 := by
  induction ls with
  | nil => rfl
  | cons x r ih => simp [ctv, ih, Ct.cs]; omega
set_option maxRecDepth 100000 in
theorem ctv_get (ls : List Ct) (j i : Nat) (h : j < ls.length) (hi : i < 5) : (ctv ls)[j * 5 + i]? = (ls[j]).cs[i]? := by
  induction ls generalizing j with
  | nil => cases h
  | cons x r ih =>
    cases j with
    | zero => simp only [ctv, Nat.zero_mul, Nat.zero_add, List.getElem_cons_zero]; rw [List.getElem?_append_left (by simp [Ct.cs]; exact hi)]
    | succ j =>
      have h' : j < r.length := by simpa using h
      simp only [ctv, List.getElem_cons_succ]
      rw [List.getElem?_append_right (by simp [Ct.cs]; omega), ← ih j h']
      congr 1
      simp [Ct.cs]; omega
set_option maxRecDepth 100000 in
theorem dag_of_owns {w : World} {base n : Nat} {v : Value} {ls : List Ct} (h : w.ownsRow base 35 5 v n (ctv ls)) (ha : ApartC w base v ls) : ∃ ra rc, v = .slice ra n rc ∧ n = ls.length ∧ (n ≤ 3000000000000000000 → DagAt w ra rc ls) ∧ (∀ sb so, ra = some ⟨sb, so, none⟩ → base ≤ sb ∧ sb < w.heap.size) := by
  have hl : n = ls.length := by have := h.1; rw [ctv_length] at this; omega
  rcases h.2 with ⟨rfl, hn⟩ | ⟨g, cap, cur, rfl, hr⟩
  · have hb : ls = [] := List.eq_nil_of_length_eq_zero (by omega)
    subst hn hb
    exact ⟨none, 0, rfl, rfl, fun _ => ⟨Nat.le_refl _, by decide, by decide, .inl rfl, ⟨.inl rfl⟩, fun p hp => by cases hp⟩, (fun _ _ e => by cases e)⟩
  · refine ⟨some ⟨g, 0, none⟩, cap, rfl, hl, fun hm => ⟨?_, ?_, by omega, .inr ⟨g, 0, rfl⟩, ⟨.inr ⟨g, 0, rfl, fun j hj => ?_⟩⟩, fun s hs => (ha s hs).1⟩, (fun sb so e => by cases e; exact h.lt _ rfl)⟩
    · obtain ⟨_, _, h1, _⟩ := hr
      omega
    · obtain ⟨_, _, _, h2, _⟩ := hr
      exact h2
    · have e : ∀ i, i < 5 → w.cell? ⟨g, j * 5 + i, none⟩ = (ls[j]).cs[i]? := fun i hi => by rw [World.ownsRow.cellAt h (j * 5 + i) (by omega), ctv_get ls j i hj hi]
      have e0 := e 0 (by omega)
      have e1 := e 1 (by omega)
      have e2 := e 2 (by omega)
      have e3 := e 3 (by omega)
      have e4 := e 4 (by omega)
      exact ⟨by simpa [Ct.cs] using e0, by simpa [Ct.cs] using e1, by simpa [Ct.cs] using e2, by simpa [Ct.cs] using e3, by simpa [Ct.cs] using e4⟩
end Go.Proofs.YtgbomdikhidkoaaDoor

namespace Go.Proofs.YtgbomdikhidkoaaDoor
open Go.RowKit

set_option maxRecDepth 100000 in
theorem owns_shape {w : World} {base n : Nat} {e : TypeId} {s : Nat} {v : Value} {xs : List Value} (h : w.ownsRow base e s v n xs) : ∃ za zc, v = .slice za n zc := by
  rcases h.2 with ⟨rfl, hn⟩ | ⟨g, cap, cur, rfl, _⟩
  · subst hn; exact ⟨none, 0, rfl⟩
  · exact ⟨some ⟨g, 0, none⟩, cap, rfl⟩
set_option maxRecDepth 100000 in
/-- A row stays where a block below its base is rewritten. -/
theorem owns_far {w : World} {base n : Nat} {e : TypeId} {s : Nat} {v : Value} {xs : List Value} (h : w.ownsRow base e s v n xs) (b j : Nat) (x : Value) (hb : b < base) : (w.setCell ⟨b, j, none⟩ x).ownsRow base e s v n xs := by
  obtain ⟨h1, h2⟩ := h
  refine ⟨h1, ?_⟩
  rcases h2 with h2 | ⟨g, cap, cur, rfl, hg, hc, r⟩
  · exact .inl h2
  · exact .inr ⟨g, cap, cur, rfl, hg, (heap_setCell_other w ⟨b, j, none⟩ g x (by show g ≠ b; omega)).trans hc, r⟩
end Go.Proofs.YtgbomdikhidkoaaDoor

namespace Go.Proofs.YtgbomdikhidkoaaDoor
open Go.RowKit

set_option maxRecDepth 100000 in
theorem row_type {w : World} {base n : Nat} {e : TypeId} {s : Nat} {v : Value} {xs : List Value} (h : w.ownsRow base e s v n xs) (q : Nat) (hq : v.ownBlock = some q) : ∃ cur, w.heap[q]? = some (.cells cur e (0, 0)) := by
  rcases h.2 with ⟨rfl, _⟩ | ⟨g, cap, cur, rfl, _, hc, _⟩
  · cases hq
  · cases hq; exact ⟨cur, hc⟩
set_option maxRecDepth 100000 in
theorem rows_apart {w : World} {b1 n1 b2 n2 : Nat} {e1 e2 : TypeId} {s1 s2 : Nat} {v1 v2 : Value} {xs1 xs2 : List Value} (h1 : w.ownsRow b1 e1 s1 v1 n1 xs1) (h2 : w.ownsRow b2 e2 s2 v2 n2 xs2) (hne : e1 ≠ e2) (q : Nat) (hq : v1.ownBlock = some q) : v2.ownBlock ≠ some q := fun hq2 => by
  obtain ⟨c1, k1⟩ := row_type h1 q hq
  obtain ⟨c2, k2⟩ := row_type h2 q hq2
  rw [k1] at k2
  simp only [Option.some.injEq, Obj.cells.injEq] at k2
  exact hne k2.2.1
set_option maxRecDepth 100000 in
theorem row_box {w : World} {b1 n1 : Nat} {e1 t : TypeId} {s1 : Nat} {v1 : Value} {xs1 : List Value} {q : Nat} {cs : Array Value} (h1 : w.ownsRow b1 e1 s1 v1 n1 xs1) (h2 : w.heap[q]? = some (.cells cs t (0, 0))) (hne : e1 ≠ t) : v1.ownBlock ≠ some q := fun hq => by
  obtain ⟨c1, k1⟩ := row_type h1 q hq
  rw [k1] at h2
  simp only [Option.some.injEq, Obj.cells.injEq] at h2
  exact hne h2.2.1
set_option maxRecDepth 100000 in
theorem owns_same {w w' : World} {base n : Nat} {e : TypeId} {s : Nat} {v : Value} {xs : List Value} (h : w.ownsRow base e s v n xs) (hk : ∀ q, v.ownBlock = some q → w'.heap[q]? = w.heap[q]?) : w'.ownsRow base e s v n xs := by
  obtain ⟨h1, h2⟩ := h
  refine ⟨h1, ?_⟩
  rcases h2 with h2 | ⟨g, cap, cur, rfl, hg, hc, r⟩
  · exact .inl h2
  · exact .inr ⟨g, cap, cur, rfl, hg, (hk g rfl).trans hc, r⟩
set_option maxRecDepth 100000 in
theorem ApartC.same {w w' : World} {B : Nat} {v : Value} {ks : List Ct} (h : ApartC w B v ks) (hs : w.heap.size ≤ w'.heap.size) (hk : ∀ c ∈ ks, ∀ b, CtIn c b → w'.heap[b]? = w.heap[b]?) : ApartC w' B v ks := fun c hc =>
  ⟨(h c hc).1.keep hs (hk c hc), (h c hc).2⟩
set_option maxRecDepth 100000 in
theorem Apart.same {w w' : World} {B : Nat} {v : Value} {ps : List Part} (h : Apart w B v ps) (hs : w.heap.size ≤ w'.heap.size) (hk : ∀ p ∈ ps, ∀ b so, p.sa = some ⟨b, so, none⟩ → w'.heap[b]? = w.heap[b]?) : Apart w' B v ps := fun p hp =>
  ⟨slice_keep (h p hp).1 (fun b so _ e => hk p hp b so e), fun sb so e => by
    obtain ⟨a1, a2, a3⟩ := (h p hp).2 sb so e
    exact ⟨a1, Nat.lt_of_lt_of_le a2 hs, a3⟩⟩
/-- A stock's box and its rows. -/
structure Stk (w : World) (B s : Nat) (vc vd : Value) (ls : List Ct) (ds : List Part) : Prop where
  box : w.heap[s]? = some (.cells #[vc, vd] 76 (0, 0))
  le : B ≤ s
  rc : w.ownsRow B 35 5 vc ls.length (ctv ls)
  rd : w.ownsRow B 29 1 vd ds.length (pv ds)
  ac : ApartC w B vc ls
  ad : Apart w B vd ds
  sc : ∀ c ∈ ls, ∀ b, CtIn c b → b ≠ s ∧ vd.ownBlock ≠ some b
  sd : ∀ p ∈ ds, ∀ sb so, p.sa = some ⟨sb, so, none⟩ → sb ≠ s ∧ vc.ownBlock ≠ some sb
set_option maxRecDepth 100000 in
theorem Stk.keep {w w' : World} {B s : Nat} {vc vd : Value} {ls : List Ct} {ds : List Part} (h : Stk w B s vc vd ls ds) (hs : w.heap.size ≤ w'.heap.size) (hk : ∀ b, B ≤ b → b < w.heap.size → w'.heap[b]? = w.heap[b]?) : Stk w' B s vc vd ls ds :=
  ⟨(hk s h.le (lt_of_heap h.box)).trans h.box, h.le, owns_same h.rc (fun q e => hk q (h.rc.lt q e).1 (h.rc.lt q e).2), owns_same h.rd (fun q e => hk q (h.rd.lt q e).1 (h.rd.lt q e).2), h.ac.same hs (fun c hc b hb => hk b ((h.ac c hc).2 b hb).1 ((h.ac c hc).1.block_lt b hb)), h.ad.same hs (fun p hp b so e => hk b ((h.ad p hp).2 b so e).1 ((h.ad p hp).2 b so e).2.1), h.sc, h.sd⟩
set_option maxRecDepth 100000 in
theorem Stk.below {w w' : World} {B s : Nat} {vc vd : Value} {ls : List Ct} {ds : List Part} (h : Stk w B s vc vd ls ds) (hb : Below w.heap.size w w') : Stk w' B s vc vd ls ds :=
  h.keep hb.size (fun b _ hl => hb.block b hl)
set_option maxRecDepth 100000 in
theorem Stk.down {w : World} {B B' s : Nat} {vc vd : Value} {ls : List Ct} {ds : List Part} (h : Stk w B s vc vd ls ds) (hB : B' ≤ B) : Stk w B' s vc vd ls ds := by
  have hd : ∀ {e : TypeId} {sz n : Nat} {v : Value} {xs : List Value}, w.ownsRow B e sz v n xs → w.ownsRow B' e sz v n xs := fun h => by
    obtain ⟨h1, h2⟩ := h
    refine ⟨h1, ?_⟩
    rcases h2 with h2 | ⟨g, cap, cur, e, hg, hc⟩
    · exact .inl h2
    · exact .inr ⟨g, cap, cur, e, Nat.le_trans hB hg, hc⟩
  exact ⟨h.box, Nat.le_trans hB h.le, hd h.rc, hd h.rd, fun c hc => ⟨(h.ac c hc).1, fun b hb => ⟨Nat.le_trans hB ((h.ac c hc).2 b hb).1, ((h.ac c hc).2 b hb).2⟩⟩, fun p hp => ⟨(h.ad p hp).1, fun sb so e => ⟨Nat.le_trans hB ((h.ad p hp).2 sb so e).1, ((h.ad p hp).2 sb so e).2⟩⟩, h.sc, h.sd⟩
set_option maxRecDepth 100000 in
/-- One certificate more. -/
theorem Stk.moreC {w w1 w2 : World} {B s : Nat} {vc vd vc' : Value} {ls : List Ct} {ds : List Part} {x : Ct} {o : Obj} (h : Stk w B s vc vd ls ds) (hB : B ≤ w.heap.size) (hb1 : Below w.heap.size w w1) (hx : CtAt w1 x) (hin : ∀ b, CtIn x b → w.heap.size ≤ b) (G : Grew (w1.alloc o) vc w2 vc')
    (ho : w2.ownsRow B 35 5 vc' (ls.length + 1) (ctv ls ++ x.cs)) : Stk (w2.setCell ⟨s, 0, none⟩ vc') B s vc' vd (ls ++ [x]) ds ∧ Below B w (w2.setCell ⟨s, 0, none⟩ vc') ∧ (∀ b, b < w.heap.size → b ≠ s → vc.ownBlock ≠ some b → (w2.setCell ⟨s, 0, none⟩ vc').heap[b]? = w.heap[b]?) ∧ (∀ b, b < w.heap.size → vc'.ownBlock = some b → vc.ownBlock = some b) := by
  have hne1 : (35 : TypeId) ≠ 76 := by decide
  have hne2 : (29 : TypeId) ≠ 76 := by decide
  have hne3 : (35 : TypeId) ≠ 29 := by decide
  have h1 := h.below hb1
  have hA : Below w1.heap.size w1 (w1.alloc o) := (Below.refl _ _).alloc (Nat.le_refl _) _
  have hA1 := hb1.trans (hA.mono hb1.size)
  have hsz1 := hb1.size
  have hsz2 : w1.heap.size < (w1.alloc o).heap.size := by rw [size_alloc]; omega
  have hsz3 := G.grown.size
  have hs : s < w.heap.size := lt_of_heap h.box
  have hcs : vc.ownBlock ≠ some s := row_box h.rc h.box hne1
  have hcs' : vc'.ownBlock ≠ some s := fun e => by
    rcases G.fresh s e with g | g
    · exact hcs g
    · omega
  have hbox2 : w2.heap[s]? = some (.cells #[vc, vd] 76 (0, 0)) := G.row (((hA1.block s hs)).trans h.box) hcs
  have hK : ∀ b, b < w.heap.size → b ≠ s → vc.ownBlock ≠ some b → (w2.setCell ⟨s, 0, none⟩ vc').heap[b]? = w.heap[b]? := fun b hb hbs hbc =>
    (heap_setCell_other w2 ⟨s, 0, none⟩ b vc' hbs).trans ((G.grown.block b (by omega) (fun e => hbc e.symm)).trans (hA1.block b hb))
  have hsz : w.heap.size ≤ (w2.setCell ⟨s, 0, none⟩ vc').heap.size := by simp; omega
  have hap := h.ac.more (c := x) hB h.rc hb1 hin hx G
  have hfr : ∀ b, b < w.heap.size → vc'.ownBlock = some b → vc.ownBlock = some b := fun b hb e => by
    rcases G.fresh b e with g | g
    · exact g
    · omega
  refine ⟨⟨?_, h.le, ?_, ?_, ?_, ?_, ?_, ?_⟩, ?_, hK, hfr⟩
  · simpa using heap_setCell_same _ _ 0 _ _ vc' hbox2
  · rw [ctv_snoc]
    exact owns_same (by simpa using ho) (fun q e => heap_setCell_other w2 ⟨s, 0, none⟩ q vc' (fun hq => hcs' (by rw [e, show q = s from hq])))
  · exact owns_same h.rd (fun q e => hK q (h.rd.lt q e).2 (fun hq => row_box h.rd h.box hne2 (by rw [e, hq])) (fun e2 => rows_apart h.rc h.rd hne3 q e2 e))
  · refine hap.same (by simp) (fun c hc b hb => heap_setCell_other w2 ⟨s, 0, none⟩ b vc' (fun hq => ?_))
    rcases List.mem_append.1 hc with hc | hc
    · exact (h.sc c hc b hb).1 hq
    · obtain rfl : c = x := by simpa using hc
      have := hin b hb
      have h2 : b = s := hq
      omega
  · exact h.ad.same hsz (fun p hp b so e => hK b ((h.ad p hp).2 b so e).2.1 (h.sd p hp b so e).1 (h.sd p hp b so e).2)
  · intro c hc b hb
    rcases List.mem_append.1 hc with hc | hc
    · exact h.sc c hc b hb
    · obtain rfl : c = x := by simpa using hc
      have hge := hin b hb
      exact ⟨by omega, fun e => by have := (h.rd.lt b e).2; omega⟩
  · intro p hp sb so e
    obtain ⟨a1, a2⟩ := h.sd p hp sb so e
    have hl := ((h.ad p hp).2 sb so e).2.1
    refine ⟨a1, fun e2 => ?_⟩
    rcases G.fresh sb e2 with g | g
    · exact a2 g
    · omega
  · have hG : Below B (w1.alloc o) w2 := G.below (by omega) (fun q e => (h.rc.lt q e).1)
    exact (((hA1.mono hB).trans hG).setCell h.le _)
set_option maxRecDepth 100000 in
/-- One digest more. -/
theorem Stk.moreD {w w1 w2 : World} {B s : Nat} {vc vd vd' : Value} {ls : List Ct} {ds : List Part} {p : Part} {o : Obj} (h : Stk w B s vc vd ls ds) (hB : B ≤ w.heap.size) (hb1 : Below w.heap.size w w1) (hp : SliceAt w1 p.sa p.cap p.bs) (hin : ∀ sb so, p.sa = some ⟨sb, so, none⟩ → B ≤ sb ∧ sb < w1.heap.size ∧ sb ≠ s ∧ vc.ownBlock ≠ some sb ∧ vd.ownBlock ≠ some sb) (G : Grew (w1.alloc o) vd w2 vd')
    (ho : w2.ownsRow B 29 1 vd' (ds.length + 1) (pv ds ++ [p.val])) : Stk (w2.setCell ⟨s, 1, none⟩ vd') B s vc vd' ls (ds ++ [p]) ∧ Below B w (w2.setCell ⟨s, 1, none⟩ vd') := by
  have hne1 : (35 : TypeId) ≠ 76 := by decide
  have hne2 : (29 : TypeId) ≠ 76 := by decide
  have hne3 : (35 : TypeId) ≠ 29 := by decide
  have hA : Below w1.heap.size w1 (w1.alloc o) := (Below.refl _ _).alloc (Nat.le_refl _) _
  have hA1 := hb1.trans (hA.mono hb1.size)
  have hsz1 := hb1.size
  have hsz2 : w1.heap.size < (w1.alloc o).heap.size := by rw [size_alloc]; omega
  have hsz3 := G.grown.size
  have hs : s < w.heap.size := lt_of_heap h.box
  have hcs : vd.ownBlock ≠ some s := row_box h.rd h.box hne2
  have hcs' : vd'.ownBlock ≠ some s := fun e => by
    rcases G.fresh s e with g | g
    · exact hcs g
    · omega
  have hbox2 : w2.heap[s]? = some (.cells #[vc, vd] 76 (0, 0)) := G.row (((hA1.block s hs)).trans h.box) hcs
  have hK : ∀ b, b < w.heap.size → b ≠ s → vd.ownBlock ≠ some b → (w2.setCell ⟨s, 1, none⟩ vd').heap[b]? = w.heap[b]? := fun b hb hbs hbc =>
    (heap_setCell_other w2 ⟨s, 1, none⟩ b vd' hbs).trans ((G.grown.block b (by omega) (fun e => hbc e.symm)).trans (hA1.block b hb))
  have hsz : w.heap.size ≤ (w2.setCell ⟨s, 1, none⟩ vd').heap.size := by simp; omega
  have hfr : ∀ sb, vd'.ownBlock = some sb → sb < w1.heap.size → vd.ownBlock = some sb := fun sb e hl => by
    rcases G.fresh sb e with g | g
    · exact g
    · omega
  refine ⟨⟨?_, h.le, ?_, ?_, ?_, ?_, ?_, ?_⟩, ?_⟩
  · simpa using heap_setCell_same _ _ 1 _ _ vd' hbox2
  · exact owns_same h.rc (fun q e => hK q (h.rc.lt q e).2 (fun hq => row_box h.rc h.box hne1 (by rw [e, hq])) (rows_apart h.rc h.rd hne3 q e))
  · have ho' : w2.ownsRow B 29 1 vd' (ds ++ [p]).length (pv (ds ++ [p])) := by simpa [pv] using ho
    exact owns_same ho' (fun q e => heap_setCell_other w2 ⟨s, 1, none⟩ q vd' (fun hq => hcs' (by rw [e, show q = s from hq])))
  · exact h.ac.same hsz (fun c hc b hb => hK b ((h.ac c hc).1.block_lt b hb) (h.sc c hc b hb).1 (h.sc c hc b hb).2)
  · intro q hq
    rcases List.mem_append.1 hq with hq | hq
    · obtain ⟨k1, k2⟩ := h.ad q hq
      refine ⟨slice_keep k1 (fun b so _ e => hK b (k2 b so e).2.1 (h.sd q hq b so e).1 (k2 b so e).2.2), fun sb so e => ?_⟩
      obtain ⟨a1, a2, a3⟩ := k2 sb so e
      exact ⟨a1, by omega, fun e2 => a3 (hfr sb e2 (by omega))⟩
    · obtain rfl : q = p := by simpa using hq
      refine ⟨slice_keep hp (fun b so _ e => ?_), fun sb so e => ?_⟩
      · obtain ⟨a1, a2, a3, a4, a5⟩ := hin b so e
        rw [heap_setCell_other w2 ⟨s, 1, none⟩ b vd' a3, G.grown.block b (by omega) (fun e => a5 e.symm), hA.block b a2]
      · obtain ⟨a1, a2, a3, a4, a5⟩ := hin sb so e
        exact ⟨a1, by simp; omega, fun e2 => a5 (hfr sb e2 a2)⟩
  · intro c hc b hb
    obtain ⟨a1, a2⟩ := h.sc c hc b hb
    have hl := (h.ac c hc).1.block_lt b hb
    exact ⟨a1, fun e2 => a2 (hfr b e2 (by omega))⟩
  · intro q hq sb so e
    rcases List.mem_append.1 hq with hq | hq
    · exact h.sd q hq sb so e
    · obtain rfl : q = p := by simpa using hq
      obtain ⟨a1, a2, a3, a4, a5⟩ := hin sb so e
      exact ⟨a3, a4⟩
  · have hG : Below B (w1.alloc o) w2 := G.below (by omega) (fun q e => (h.rd.lt q e).1)
    exact (((hA1.mono hB).trans hG).setCell h.le _)
/-- A stock: certificates, and their digests at the same places. -/
structure StockAt (w : World) (ca : Option Addr) (cc : Nat) (ls : List Ct) (da : Option Addr) (dc : Nat) (ds : List Part) : Prop where
  certs : CertsAt w ca ls
  each : ∀ c ∈ ls, CtAt w c
  digs : ListAt w da dc ds
  same : bss ds = (cvs ls).map CV.d
  small : ls.length ≤ 400
  cle : ls.length ≤ cc
  cmax : cc ≤ 9223372036854775807
set_option maxRecDepth 100000 in
theorem StockAt.below {w w' : World} {ca : Option Addr} {cc : Nat} {ls : List Ct} {da : Option Addr} {dc : Nat} {ds : List Part} (h : StockAt w ca cc ls da dc ds) (hb : Below w.heap.size w w') : StockAt w' ca cc ls da dc ds :=
  ⟨h.certs.below hb, fun c hc => (h.each c hc).below hb, h.digs.below hb, h.same, h.small, h.cle, h.cmax⟩
set_option maxRecDepth 100000 in
theorem StockAt.len {w : World} {ca : Option Addr} {cc : Nat} {ls : List Ct} {da : Option Addr} {dc : Nat} {ds : List Part} (h : StockAt w ca cc ls da dc ds) : ds.length = ls.length := by
  rw [digs_length h.same, cvs_length]
/-- A stock that is read through its box. -/
structure StkAt (w : World) (s : Nat) (ls : List Ct) (ca : Option Addr) (cc : Nat) (da : Option Addr) (dc : Nat) (ds : List Part) : Prop where
  box : w.heap[s]? = some (.cells #[.slice ca ls.length cc, .slice da ls.length dc] 76 (0, 0))
  at' : StockAt w ca cc ls da dc ds
set_option maxRecDepth 100000 in
theorem StkAt.below {w w' : World} {s : Nat} {ls : List Ct} {ca : Option Addr} {cc : Nat} {da : Option Addr} {dc : Nat} {ds : List Part} (h : StkAt w s ls ca cc da dc ds) (hb : Below w.heap.size w w') : StkAt w' s ls ca cc da dc ds :=
  ⟨(hb.block s (lt_of_heap h.box)).trans h.box, h.at'.below hb⟩
set_option maxRecDepth 100000 in
theorem Stk.at {w : World} {B s : Nat} {vc vd : Value} {ls : List Ct} {ds : List Part} (h : Stk w B s vc vd ls ds) (hs : bss ds = (cvs ls).map CV.d) (hm : ls.length ≤ 400) : ∃ ca cc da dc, vc = .slice ca ls.length cc ∧ vd = .slice da ls.length dc ∧ StkAt w s ls ca cc da dc ds := by
  have hl : ds.length = ls.length := by rw [digs_length hs, cvs_length]
  obtain ⟨ca, cc, h1, _, h2, _⟩ := dag_of_owns h.rc h.ac
  obtain ⟨da, dc, k1, _, k2, _⟩ := listAt_of_owns h.rd h.ad
  have h2' := h2 (by omega)
  rw [hl] at k1 k2
  refine ⟨ca, cc, da, dc, h1, k1, ⟨by rw [← h1, ← k1]; exact h.box, ⟨h2'.certs, h2'.each, k2 (by omega), hs, hm, h2'.le, h2'.max⟩⟩⟩
/-- A stock that a call owns. -/
structure StkOwn (w : World) (B s : Nat) (ls : List Ct) : Prop where
  out : ∃ vc vd ds, Stk w B s vc vd ls ds ∧ bss ds = (cvs ls).map CV.d ∧ ls.length ≤ 400
set_option maxRecDepth 100000 in
theorem StkOwn.below {w w' : World} {B s : Nat} {ls : List Ct} (h : StkOwn w B s ls) (hb : Below w.heap.size w w') : StkOwn w' B s ls := by
  obtain ⟨vc, vd, ds, h1, h2, h3⟩ := h.out
  exact ⟨vc, vd, ds, h1.below hb, h2, h3⟩
end Go.Proofs.YtgbomdikhidkoaaDoor

namespace Go.Proofs.YtgbomdikhidkoaaDoor
open Go.RowKit

set_option maxRecDepth 100000 in
theorem step_calls {ops : Array Oper} {o : Oper} {a : Act} {w : World} {K : Act → World → Prop} {Q : Exit → Act → World → Prop} {E : Prop}
    (hg : o.guard = none) (f : FuncId) (xs : List Operand) (ats : Array TypeId) (ho : o.op = .call { callee := .value (.func f), args := xs.toArray, argTypes := ats })
    (vs : List Value) (hv : xs.map a.eval = vs) (hent : ∀ args w, (callFunc f args).run Tryd.prog w = .ok (.enter f args) w)
    (R : Value → World → Prop) (hc : Calls Tryd.prog f vs.toArray w fun e w' => ∃ v, e = .returned v ∧ R v w') (hK : ∀ v w', R v w' → K (a.put o.dst v) w') :
    if Region.wanted o (yielded ops a.tmps) = true then Oper.wp Tryd.prog o a w K Q else E := by
  have hw : Region.wanted o (yielded ops a.tmps) = true := by simp [Region.wanted, hg]
  rw [if_pos hw]
  obtain ⟨dst, op, ty, pos, after, guard⟩ := o
  simp only at ho
  subst ho
  unfold Oper.wp
  rw [execOp_call_go, List.map_toArray, hv, hent, Oper.upon_enter, show (#[] ++ vs.toArray ++ #[] : Array Value) = vs.toArray by simp]
  refine hc.mono ?_
  rintro e w' ⟨v, rfl, h⟩
  exact hK v w' h
set_option maxRecDepth 100000 in
/-- Take an operation first, its slot written out. -/
theorem take_dst {P : Program} {ops : Array Oper} {Q : Exit → Act → World → Prop} {md : Region.Mode} {S : World → Prop} {i d : Nat} {oi : Oper} {v : Value} {fuel : Nat} {listed : Array Bool} {a : Act} {w : World} (hi : ops[i]? = some oi) (hd : oi.dst = some d)
    (hs : Region.noSelect ops = true) (hf : Region.free md ops listed i = true) (hr : (Region.ready md ops listed).contains i = true)
    (hQ : ∀ c a w, Q (.panic c) (a.put (some d) v) w → Q (.panic c) a w) (hy : YieldsIf P ops S oi v a) (hS : S w)
    (h : wpAnyH P md ops Q S fuel (listed.setIfInBounds i true) (a.put (some d) v) w) : wpAnyH P md ops Q S (fuel + 1) listed a w :=
  wpAnyH_take hi hs hf hr (by rw [hd]; exact hQ) hy hS (by rw [hd]; exact h)
set_option maxRecDepth 100000 in
/-- A call with a contract as the one operation that comes up, its slot written out. -/
theorem step_calls_dst {ops : Array Oper} {o : Oper} {a : Act} {w : World} {K : Act → World → Prop} {Q : Exit → Act → World → Prop} {E : Prop}
    (hg : o.guard = none) (d : Nat) (hd : o.dst = some d) (f : FuncId) (xs : List Operand) (ats : Array TypeId) (ho : o.op = .call { callee := .value (.func f), args := xs.toArray, argTypes := ats })
    (vs : List Value) (hv : xs.map a.eval = vs) (hent : ∀ args w, (callFunc f args).run Tryd.prog w = .ok (.enter f args) w)
    (R : Value → World → Prop) (hc : Calls Tryd.prog f vs.toArray w fun e w' => ∃ v, e = .returned v ∧ R v w') (hK : ∀ v w', R v w' → K (a.put (some d) v) w') :
    if Region.wanted o (yielded ops a.tmps) = true then Oper.wp Tryd.prog o a w K Q else E :=
  step_calls hg f xs ats ho vs hv hent R hc (by rw [hd]; exact hK)
set_option maxRecDepth 100000 in
/-- The same for a call behind a guard that lets it by. -/
theorem step_calls_on {ops : Array Oper} {o : Oper} {a : Act} {w : World} {K : Act → World → Prop} {Q : Exit → Act → World → Prop} {E : Prop}
    (hw : Region.wanted o (yielded ops a.tmps) = true) (d : Nat) (hd : o.dst = some d) (f : FuncId) (xs : List Operand) (ats : Array TypeId) (ho : o.op = .call { callee := .value (.func f), args := xs.toArray, argTypes := ats })
    (vs : List Value) (hv : xs.map a.eval = vs) (hent : ∀ args w, (callFunc f args).run Tryd.prog w = .ok (.enter f args) w)
    (R : Value → World → Prop) (hc : Calls Tryd.prog f vs.toArray w fun e w' => ∃ v, e = .returned v ∧ R v w') (hK : ∀ v w', R v w' → K (a.put (some d) v) w') :
    if Region.wanted o (yielded ops a.tmps) = true then Oper.wp Tryd.prog o a w K Q else E := by
  rw [if_pos hw]
  obtain ⟨dst, op, ty, pos, after, guard⟩ := o
  simp only at ho hd
  subst ho hd
  unfold Oper.wp
  rw [execOp_call_go, List.map_toArray, hv, hent, Oper.upon_enter, show (#[] ++ vs.toArray ++ #[] : Array Value) = vs.toArray by simp]
  refine hc.mono ?_
  rintro e w' ⟨v, rfl, h⟩
  exact hK v w' h
set_option maxRecDepth 100000 in
/-- An operation that is no call, and that turns the world, as the one that comes up. -/
theorem step_run {ops : Array Oper} {o : Oper} {a : Act} {w : World} {K : Act → World → Prop} {Q : Exit → Act → World → Prop} {E : Prop}
    (hg : o.guard = none) (d : Nat) (hd : o.dst = some d) (v : Value) (w' : World) (hr : (execOp a.eval o).run Tryd.prog w = .ok (.value v) w') (hK : K (a.put (some d) v) w') :
    if Region.wanted o (yielded ops a.tmps) = true then Oper.wp Tryd.prog o a w K Q else E := by
  have hw : Region.wanted o (yielded ops a.tmps) = true := by simp [Region.wanted, hg]
  rw [if_pos hw]
  unfold Oper.wp
  rw [hr, Oper.upon_value, hd]
  exact hK
set_option maxRecDepth 100000 in
/-- An append onto a row that the call owns, as one step of such a region, and where the new slice lies. -/
theorem step_append_at {ops : Array Oper} {o : Oper} {a : Act} {w : World} {K : Act → World → Prop} {Q : Exit → Act → World → Prop} {E : Prop}
    (hg : o.guard = none) (s x : Operand) (t : TypeId) (ho : o.op = .call { callee := .builtin .append, args := #[s, x], argTypes := #[t, t] })
    (base : Nat) (e : TypeId) (i : TypeInfo) (z : Value) (size bytes : Nat) (ht : Tryd.prog.underlying t = some (.slice e)) (hi : Tryd.prog.info? e = some i) (hz : i.zero = some z)
    (hsize : i.size = size) (hby : i.bytes = bytes) (hzs : z.cells.size = size) (hsz : 0 < size)
    (v : Value) (n : Nat) (xs : List Value) (hs : a.eval s = v) (hown : w.ownsRow base e size v n xs)
    (ad : Addr) (m c : Nat) (news : List Value) (hx : a.eval x = .slice (some ad) m c) (hl : news.length = m * size) (hnews : ∀ j u, news[j]? = some u → w.cell? (ad.add j) = some u) (h1 : ∀ u ∈ news, u.oneCell' = true)
    (h63 : n + m ≤ maxLen) (hbytes : (n + m) * bytes ≤ 140737488355328) (hbase : base ≤ w.heap.size)
    (hK : ∀ v' w', w'.ownsRow base e size v' (n + m) (xs ++ news) → Grew w v w' v' → K (a.put o.dst v') w') :
    if Region.wanted o (yielded ops a.tmps) = true then Oper.wp Tryd.prog o a w K Q else E := by
  have hw : Region.wanted o (yielded ops a.tmps) = true := by simp [Region.wanted, hg]
  rw [if_pos hw]
  obtain ⟨v', w', hr, h2, h3, _, h5⟩ := run_append_own_at (P := Tryd.prog) w base t o.type e i z size bytes ht hi hz hsize hby hzs hsz v n xs hown ad m c news hl hnews h1 h63 hbytes hbase
  unfold Oper.wp execOp
  simp only [ho, resolve, invoke, builtin, Sem.run_bind, Sem.run_pure, Result.andThen_ok, List.map_toArray, List.map_cons, List.map_nil, hs, hx, hr]
  exact hK v' w' h2 (Grew.of h3 h5)
end Go.Proofs.YtgbomdikhidkoaaDoor

namespace Go.Proofs.YtgbomdikhidkoaaDoor
open Go.RowKit

set_option maxRecDepth 100000 in
set_option maxHeartbeats 400000 in
theorem of1_any (s : Ct) (au rd : Int) (ga gr : Nat) (w : World) (ha : w.cell? ⟨ga, 0, none⟩ = some (.int .i64 au)) (hr : w.cell? ⟨gr, 0, none⟩ = some (.int .i64 rd)) :
    Calls Tryd.prog 75 #[.agg #[.int .i64 s.au, .int .i64 s.rd, .slice s.ba s.bl.length s.bc, .slice s.pa s.pl.length s.pc, .slice s.va s.vl.length s.vc], .pointer (some ⟨ga, 0, none⟩), .pointer (some ⟨gr, 0, none⟩)] w fun e w' => e = .returned (.bool (decide (s.au = au ∧ s.rd = rd))) ∧ Below w.heap.size w w' := by
  have la := block_lt_of_cell ha
  have lr := block_lt_of_cell hr
  have na : ga ≠ w.heap.size := by simp at la; omega
  have nr : gr ≠ w.heap.size := by simp at lr; omega
  go_enter Tryd.func75, Tryd.ntmps75
  go_wp2_with fail
  all_goals (go_ret; exact ⟨by first | (simp_all; done) | (simp_all; rfl), (Below.refl _ _).alloc (Nat.le_refl _) _⟩)

set_option maxRecDepth 100000 in
set_option maxHeartbeats 1000000 in
theorem indexCert_any (ls : List Ct) (sa : Option Addr) (n cap : Nat) (au rd : Int) (ga gr : Nat) (w : World) (hn : n = ls.length) (hk2 : n ≤ 3000000000000000000) (hp : CertsAt w sa ls) (ha : w.cell? ⟨ga, 0, none⟩ = some (.int .i64 au)) (hr : w.cell? ⟨gr, 0, none⟩ = some (.int .i64 rd)) :
    Calls Tryd.prog 76 #[.slice sa n cap, .func (.func 75) #[] #[.pointer (some ⟨ga, 0, none⟩), .pointer (some ⟨gr, 0, none⟩)]] w fun e w' => e = .returned (.int .i64 (cOf (cvs ls) au rd)) ∧ Below w.heap.size w w' := by
  subst hn
  go_enter Tryd.func76, Tryd.ntmps76
  go_wp2_with fail
  go_loopw [8] (fun i wr => ∃ m : Nat, m ≤ ls.length ∧ i = .int .i64 m ∧ fidx (cHit (cvs ls) au rd) m = -1 ∧ Below w.heap.size w wr) (fun i _ => ls.length - (intOf i).toNat)
  case atStart => exact ⟨0, Nat.zero_le _, rfl, rfl, Below.refl _ _⟩
  case round =>
    obtain ⟨m, hm, rfl, hno, hb⟩ := hrel
    by_cases hlt : m < ls.length
    · obtain ⟨sb, so, rfl, c0, c1, c2, c3, c4⟩ := (hp.below hb).at m hlt
      have hg := cHit_get ls au rd m hlt
      have haw := (hb.cell (p := ⟨ga, 0, none⟩) (block_lt_of_cell ha)).trans ha
      have hrw := (hb.cell (p := ⟨gr, 0, none⟩) (block_lt_of_cell hr)).trans hr
      have hltI : (m : Int) < ls.length := by omega
      have hF : Hid (decide ((ls[m]).au = au ∧ (ls[m]).rd = rd) = true → cOf (cvs ls) au rd = m) := by
        show _ → _
        intro h
        exact fidx_hit _ m _ hno (by rw [hg]; exact h) (by rw [cvs_length]; exact hlt)
      have hN : Hid (decide ((ls[m]).au = au ∧ (ls[m]).rd = rd) = false → fidx (cHit (cvs ls) au rd) (m + 1) = -1) := by
        show _ → _
        intro h
        exact fidx_step _ m hno (by rw [hg]; exact h)
      clear hno hg
      generalize ls[m] = s at *
      go_wp2_with fail
      refine (of1_any s au rd ga gr wr haw hrw).mono ?_
      rintro e w1 ⟨he, hb1⟩
      subst he
      dsimp only
      have hB1 := hb.trans (hb1.mono hb.size)
      generalize decide (s.au = au ∧ s.rd = rd) = x at *
      cases x
      · have hn : Hid _ := hN.out rfl
        clear hF hN
        go_wp2_with fail
        go_roundw
        case rel => exact ⟨m + 1, by omega, by go_num, hn.out, hB1⟩
        case measure => simp [intOf]; omega
      · have hn : Hid _ := hF.out rfl
        clear hF hN
        go_wp2_with fail
        go_ret
        exact ⟨ret_int hn.out.symm, hB1⟩
    · obtain rfl : m = ls.length := by omega
      have hF : Hid (cOf (cvs ls) au rd = -1) := by
        show fidx _ _ = -1
        rw [cvs_length]; exact hno
      clear hno
      go_wp2_with fail
      go_ret
      exact ⟨ret_int hF.out.symm, hb⟩
set_option maxRecDepth 100000 in
set_option maxHeartbeats 400000 in
theorem of_any (ls : List Ct) (s : Nat) (ca : Option Addr) (cc : Nat) (da : Option Addr) (dc : Nat) (ds : List Part) (au rd : Int) (w : World) (hs : StkAt w s ls ca cc da dc ds) :
    Calls Tryd.prog 61 #[.pointer (some ⟨s, 0, none⟩), .int .i64 au, .int .i64 rd] w fun e w' => e = .returned (.int .i64 (cOf (cvs ls) au rd)) ∧ Below w.heap.size w w' := by
  have hmf : ∀ (fn : Fn) (first cap : Array Value) (w : World), (Instr.makeFunc fn first cap).run Tryd.prog w = .ok (.func fn first cap) w := fun _ _ _ _ => rfl
  have hsm := hs.at'.small
  have hc := hs.at'.certs
  have hbx := hs.box
  clear hs
  have hR : Below w.heap.size w ((w.alloc (.cells #[.int .i64 au] 3)).alloc (.cells #[.int .i64 rd] 3)) := ((Below.refl _ _).alloc (Nat.le_refl _) _).alloc (by rw [size_alloc]; omega) _
  have k1 : ((w.alloc (.cells #[.int .i64 au] 3)).alloc (.cells #[.int .i64 rd] 3)).cell? ⟨w.heap.size, 0, none⟩ = some (.int .i64 au) := cells_at (heap_keep (heap_alloc_new w _)) 0 _ rfl
  have k2 : ((w.alloc (.cells #[.int .i64 au] 3)).alloc (.cells #[.int .i64 rd] 3)).cell? ⟨w.heap.size + 1, 0, none⟩ = some (.int .i64 rd) := by
    have := laid_cell (w.alloc (.cells #[.int .i64 au] 3)) #[.int .i64 rd] 3 0 _ rfl
    rw [size_alloc] at this
    exact this
  have k3 := cells_at (heap_keep (o := .cells #[.int .i64 rd] 3) (heap_keep (o := .cells #[.int .i64 au] 3) hbx)) 0 _ rfl
  go_enter Tryd.func61, Tryd.ntmps61
  go_wp2_with fail
  generalize (w.alloc (.cells #[.int .i64 au] 3)).alloc (.cells #[.int .i64 rd] 3) = W0 at hR k1 k2 k3 ⊢
  refine (indexCert_any ls ca ls.length cc au rd _ _ W0 rfl (by omega) (hc.below hR) k1 k2).mono ?_
  rintro e w1 ⟨he, hb1⟩
  subst he
  dsimp only
  go_wp2_with fail
  go_ret
  exact ⟨rfl, hR.trans (hb1.mono hR.size)⟩
set_option maxRecDepth 100000 in
theorem with_closure (xs ys : List Int) (sa sb : Option Addr) (n m c d g : Nat) (w : World) (hn : n = xs.length) (hm : m = ys.length) (ha : SliceAt w sa c xs) (hb : SliceAt w sb d ys) (hg : w.cell? ⟨g, 0, none⟩ = some (.slice sb m d)) :
    Calls Tryd.prog 64 #[.slice sa n c, .pointer (some ⟨g, 0, none⟩)] w fun e w' => e = .returned (.bool (decide (txL xs = txL ys))) ∧ w = w' := by
  go_enter Tryd.func64, Tryd.ntmps64
  go_wp2_with fail
  refine (equal_any xs ys _ _ _ _ _ _ w (by first | exact hn | rfl) (by first | exact hm | rfl) ha hb).mono ?_
  rintro e w1 ⟨he, rfl⟩
  subst he
  dsimp only
  go_wp2_with fail
  go_ret
  exact ⟨rfl, rfl⟩
set_option maxRecDepth 100000 in
set_option maxHeartbeats 1000000 in
theorem indexDig_any (l : List CV) (ds : List Part) (da : Option Addr) (n cap : Nat) (bs : List Int) (ka : Option Addr) (kn kc g : Nat) (w : World) (hn : n = ds.length) (hS : bss ds = l.map CV.d) (hk2 : n ≤ 3000000000000000000) (hd : PartsAt w da ds) (hkn : kn = bs.length) (hk : SliceAt w ka kc bs) (hg : w.cell? ⟨g, 0, none⟩ = some (.slice ka kn kc)) :
    Calls Tryd.prog 66 #[.slice da n cap, .func (.func 64) #[] #[.pointer (some ⟨g, 0, none⟩)]] w fun e w' => e = .returned (.int .i64 (pOf l bs)) ∧ w = w' := by
  subst hn hkn
  have HL : Hid (ds.length = l.length) := digs_length hS
  have HS : Hid (bss ds = l.map CV.d) := hS
  clear hS
  go_enter Tryd.func66, Tryd.ntmps66
  go_wp2_with fail
  go_loop [8] (fun i => ∃ m : Nat, m ≤ ds.length ∧ i = .int .i64 m ∧ fidx (dHit l bs) m = -1) (fun i => ds.length - (intOf i).toNat)
  case atStart => exact ⟨0, Nat.zero_le _, rfl, rfl⟩
  case round =>
    obtain ⟨m, hm, rfl, hno⟩ := hrel
    by_cases hlt : m < ds.length
    · rcases hd.cells with hc | ⟨sb, so, rfl, hc⟩
      · subst hc; simp at hlt
      have ck := hc m hlt
      have hx := hd.each (ds[m]) (List.getElem_mem hlt)
      have hltI : (m : Int) < ds.length := by omega
      have hgt := digs_get HS.out m hlt
      have Hf : Hid (txL (ds[m]).bs = txL bs → pOf l bs = m) := by
        show _ → _
        intro h
        exact fidx_hit _ m _ hno (by rw [dHit, hgt]; simpa using h) (by rw [← HL.out]; exact hlt)
      have Hn : Hid (¬ txL (ds[m]).bs = txL bs → fidx (dHit l bs) (m + 1) = -1) := by
        show _ → _
        intro h
        exact fidx_step _ m hno (by rw [dHit, hgt]; simpa using h)
      clear hno hgt hc
      generalize ds[m] = p at *
      go_wp2_with fail
      refine (with_closure p.bs bs p.sa ka _ _ p.cap kc g w rfl rfl hx hk hg).mono ?_
      rintro e w1 ⟨he, rfl⟩
      subst he
      dsimp only
      by_cases h : txL p.bs = txL bs
      · have He : Hid (pOf l bs = m) := Hf.out h
        rw [decide_eq_true h]
        clear Hf Hn h
        go_wp2_with fail
        go_ret
        exact ⟨ret_int He.out.symm, rfl⟩
      · have He : Hid (fidx (dHit l bs) (m + 1) = -1) := Hn.out h
        rw [decide_eq_false h]
        clear Hf Hn h
        go_wp2_with fail
        go_round
        case rel => exact ⟨m + 1, by omega, by go_num, He.out⟩
        case measure => simp [intOf]; omega
    · obtain rfl : m = ds.length := by omega
      have He : Hid (pOf l bs = -1) := by
        show fidx _ _ = -1
        rw [← HL.out]; exact hno
      clear hno
      go_wp2_with fail
      go_ret
      exact ⟨ret_int He.out.symm, rfl⟩
set_option maxRecDepth 100000 in
set_option maxHeartbeats 400000 in
theorem withDigest_any (ls : List Ct) (s : Nat) (ca : Option Addr) (cc : Nat) (da : Option Addr) (dc : Nat) (ds : List Part) (bs : List Int) (ka : Option Addr) (kn kc : Nat) (w : World) (hs : StkAt w s ls ca cc da dc ds) (hkn : kn = bs.length) (hk : SliceAt w ka kc bs) :
    Calls Tryd.prog 50 #[.pointer (some ⟨s, 0, none⟩), .slice ka kn kc] w fun e w' => e = .returned (.int .i64 (pOf (cvs ls) bs)) ∧ Below w.heap.size w w' := by
  have hmf : ∀ (fn : Fn) (first cap : Array Value) (w : World), (Instr.makeFunc fn first cap).run Tryd.prog w = .ok (.func fn first cap) w := fun _ _ _ _ => rfl
  have hsm := hs.at'.small
  subst hkn
  have hdl : Hid (ls.length = ds.length) := by
    show _ = _
    rw [hs.at'.len]
  have hd := hs.at'.digs.parts
  have HS : Hid (bss ds = (cvs ls).map CV.d) := hs.at'.same
  have hbx := hs.box
  clear hs
  have hR : Below w.heap.size w (w.alloc (.cells #[.slice ka bs.length kc] 29)) := (Below.refl _ _).alloc (Nat.le_refl _) _
  have k1 : (w.alloc (.cells #[.slice ka bs.length kc] 29)).cell? ⟨w.heap.size, 0, none⟩ = some (.slice ka bs.length kc) := by simp
  have k3 := cells_at (heap_keep (o := .cells #[.slice ka bs.length kc] 29) hbx) 1 _ rfl
  go_enter Tryd.func50, Tryd.ntmps50
  go_wp2_with fail
  generalize w.alloc (.cells #[.slice ka bs.length kc] 29) = W0 at hR k1 k3 ⊢
  refine (indexDig_any (cvs ls) ds da ls.length dc bs ka bs.length kc _ W0 hdl.out HS.out (by omega) (hd.below hR) rfl (hk.below hR) k1).mono ?_
  rintro e w1 ⟨he, rfl⟩
  subst he
  dsimp only
  go_wp2_with fail
  go_ret
  exact ⟨rfl, hR⟩
set_option maxRecDepth 100000 in
set_option maxHeartbeats 400000 in
theorem has_stk (ls : List Ct) (s : Nat) (ca : Option Addr) (cc : Nat) (da : Option Addr) (dc : Nat) (ds : List Part) (au rd : Int) (w : World) (hs : StkAt w s ls ca cc da dc ds) :
    Calls Tryd.prog 72 #[.pointer (some ⟨s, 0, none⟩), .int .i64 au, .int .i64 rd] w fun e w' => e = .returned (.bool (decide (0 ≤ cOf (cvs ls) au rd))) ∧ Below w.heap.size w w' := by
  go_enter Tryd.func72, Tryd.ntmps72
  go_wp2_with fail
  refine (of_any ls s ca cc da dc ds au rd w hs).mono ?_
  rintro e w1 ⟨he, hb1⟩
  subst he
  dsimp only
  go_wp2_with fail
  go_ret
  exact ⟨rfl, hb1⟩
end Go.Proofs.YtgbomdikhidkoaaDoor
