/- Certificates that lie apart from a row that grows. -/
import Derived.Test.YtbmodfegcmaieaaDoorGCerts
import Derived.Test.YtbmodfegcmaieaaDoorGOwnL
namespace Go.Proofs.YtbmodfegcmaieaaDoor
open Go.RowKit

/-- The digests of a round, of the first authors. -/
def dgTo (l : List CV) (rd : Int) : Nat → List (List Int)
  | 0 => []
  | n + 1 => if 0 ≤ cOf l n rd then dgTo l rd n ++ [(cvAt l (cOf l n rd).toNat).d] else dgTo l rd n
/-- P5.6 -/
def dgF (l : List CV) (rd : Int) : List (List Int) := dgTo l rd 4
set_option maxRecDepth 100000 in
theorem dgTo_length (l : List CV) (rd : Int) (n : Nat) : (dgTo l rd n).length ≤ n := by
  induction n with
  | zero => simp [dgTo]
  | succ n ih =>
    rw [dgTo]
    split
    · simp; omega
    · omega
set_option maxRecDepth 100000 in
theorem dgTo_some (l : List CV) (rd : Int) (n : Nat) (h : 0 < (dgTo l rd n).length) : ∃ j, j < l.length ∧ (cvAt l j).rd = rd := by
  induction n with
  | zero => simp [dgTo] at h
  | succ n ih =>
    by_cases g : 0 ≤ cOf l n rd
    · have hy := fidx_yes (cHit l n rd) l.length g
      have hb := cOf_bounds l n rd
      refine ⟨(cOf l n rd).toNat, by omega, ?_⟩
      simp only [cHit, decide_eq_true_eq] at hy
      exact hy.2
    · rw [dgTo, if_neg g] at h
      exact ih h
/-- How many are of that round or behind it. -/
def cnt (l : List CV) (r : Int) : Nat := (l.filter fun c => decide (r ≤ c.rd)).length
set_option maxRecDepth 100000 in
theorem cnt_le (l : List CV) (r : Int) : cnt l (r + 1) ≤ cnt l r := by
  induction l with
  | nil => simp [cnt]
  | cons c l ih =>
    simp only [cnt, List.filter_cons] at ih ⊢
    by_cases h1 : r + 1 ≤ c.rd
    · have h2 : r ≤ c.rd := by omega
      simp [h1, h2]; exact ih
    · by_cases h2 : r ≤ c.rd
      · simp [h1, h2]; omega
      · simp [h1, h2]; exact ih
set_option maxRecDepth 100000 in
theorem cnt_lt (l : List CV) (r : Int) (h : ∃ j, j < l.length ∧ (cvAt l j).rd = r) : cnt l (r + 1) < cnt l r := by
  induction l with
  | nil => obtain ⟨j, hj, _⟩ := h; simp at hj
  | cons c l ih =>
    by_cases hc : c.rd = r
    · have := cnt_le l r
      have h1 : ¬ r + 1 ≤ c.rd := by omega
      have h2 : r ≤ c.rd := by omega
      simp only [cnt, List.filter_cons] at this ⊢
      simp [h1, h2]; omega
    · obtain ⟨j, hj, e⟩ := h
      have hi : cnt l (r + 1) < cnt l r := by
        apply ih
        cases j with
        | zero => exact absurd (by simpa [cvAt] using e) hc
        | succ j => exact ⟨j, by simpa using hj, by simpa [cvAt] using e⟩
      simp only [cnt, List.filter_cons] at hi ⊢
      by_cases h1 : r + 1 ≤ c.rd
      · have h2 : r ≤ c.rd := by omega
        simp [h1, h2]; exact hi
      · by_cases h2 : r ≤ c.rd
        · omega
        · simp [h1, h2]; exact hi
/-- P5.5 -/
def NextR (l : List CV) (r : Int) : Prop := 1 ≤ r ∧ (∀ k : Int, 1 ≤ k → k < r → 3 ≤ (dgF l k).length) ∧ (dgF l r).length < 3
set_option maxRecDepth 100000 in
theorem NextR.one {l : List CV} {r s : Int} (h : NextR l r) (g : NextR l s) : r = s := by
  obtain ⟨h1, h2, h3⟩ := h
  obtain ⟨g1, g2, g3⟩ := g
  rcases Int.lt_trichotomy r s with q | q | q
  · have := g2 r h1 q; omega
  · exact q
  · have := h2 s g1 q; omega
set_option maxRecDepth 100000 in
theorem f_round {c : CV} (h : c.f = 0) : 1 ≤ c.rd ∧ c.rd ≤ 1048576 := (headerF_ok (certF_head (vl := c.vl) h)).2.1
set_option maxRecDepth 100000 in
theorem dagF_f {l : List CV} (h : dagF l = 0) (j : Nat) (hj : j < l.length) : (cvAt l j).f = 0 := badC_f l j ((dagF_zero h).2 j hj)
end Go.Proofs.YtbmodfegcmaieaaDoor

namespace Go.Proofs.YtbmodfegcmaieaaDoor
open Go.RowKit

set_option maxRecDepth 100000 in
theorem digs_get {l : List CV} {ds : List Part} (hS : bss ds = l.map CV.d) (k : Nat) (h : k < ds.length) : (cvAt l k).d = (ds[k]).bs := by
  have hl := congrArg List.length hS
  simp only [bss, List.length_map] at hl
  have h' : k < l.length := by omega
  have e : (bss ds)[k]? = (l.map CV.d)[k]? := by rw [hS]
  simp only [bss, List.getElem?_map, List.getElem?_eq_getElem h, List.getElem?_eq_getElem h', Option.map_some, Option.some.injEq] at e
  rw [e]
  simp [cvAt, h']
set_option maxRecDepth 100000 in
theorem digs_length {l : List CV} {ds : List Part} (hS : bss ds = l.map CV.d) : ds.length = l.length := by
  have hl := congrArg List.length hS
  simpa [bss] using hl
set_option maxRecDepth 100000 in
theorem badC_first (l : List CV) (k : Nat) (h : (cvAt l k).f ≠ 0) : badC l k = true := by simp [badC, h]
set_option maxRecDepth 100000 in
theorem badC_eq (ls : List Ct) (k : Nat) (hk : k < ls.length) (h : (ls[k]).v.f = 0) : badC (cvs ls) k = decide (takF (cvs (ls.take k)) (ls[k]).au (ls[k]).rd (bss (ls[k]).pl) ≠ 0) := by
  rw [badC, cvAt_get ls k hk, h, cvs_take]
  rfl
set_option maxRecDepth 100000 in
theorem all_f {ls : List Ct} (h : dagF (cvs ls) = 0) : ∀ c ∈ ls, c.v.f = 0 := by
  intro c hc
  obtain ⟨j, hj, rfl⟩ := List.getElem_of_mem hc
  rw [← cvAt_get ls j hj]
  exact dagF_f h j (by rw [cvs_length]; exact hj)
set_option maxRecDepth 100000 in
theorem dag_le {ls : List Ct} (h : dagF (cvs ls) = 0) : ls.length ≤ 400 := by
  have := (dagF_zero h).1
  rw [cvs_length] at this
  exact this
set_option maxRecDepth 100000 in
theorem f_small {c : CV} (h : c.f = 0) : c.bl.length ≤ 3 ∧ c.pl.length ≤ 4 ∧ c.vl.length ≤ 4 ∧ (∀ b ∈ c.bl, b.length = 32) ∧ (∀ b ∈ c.pl, b.length = 32) := by
  obtain ⟨_, _, y3, y4, y5, y6⟩ := headerF_ok (certF_head (vl := c.vl) h)
  refine ⟨by simpa [pz] using y3, by simpa [pz] using y4, ?_, fun b hb => ?_, fun b hb => ?_⟩
  · rw [CV.f, certF] at h
    split at h
    · rename_i g; exact absurd h g
    · split at h
      · cases h
      · omega
  · exact y5 ⟨none, 0, b⟩ (by simp [pz, hb])
  · exact y6 ⟨none, 0, b⟩ (by simp [pz, hb])
set_option maxRecDepth 100000 in
theorem ct_small {c : Ct} (h : c.v.f = 0) : c.bl.length ≤ 1000 ∧ c.pl.length ≤ 1000 ∧ c.vl.length ≤ 4 ∧ (∀ p ∈ c.bl, p.bs.length ≤ 140737488355328) ∧ (∀ p ∈ c.pl, p.bs.length ≤ 140737488355328) := by
  obtain ⟨a1, a2, a3, a4, a5⟩ := f_small h
  simp only [Ct.v, bss_length] at a1 a2 a3
  refine ⟨by omega, by omega, a3, fun p hp => ?_, fun p hp => ?_⟩
  · rw [a4 p.bs (List.mem_map.2 ⟨p, hp, rfl⟩)]; decide
  · rw [a5 p.bs (List.mem_map.2 ⟨p, hp, rfl⟩)]; decide
end Go.Proofs.YtbmodfegcmaieaaDoor

namespace Go.Proofs.YtbmodfegcmaieaaDoor
open Go.RowKit

/-- The blocks that a certificate's lists lie in. -/
def CtIn (c : Ct) (b : Nat) : Prop := (∃ so, c.ba = some ⟨b, so, none⟩) ∨ (∃ so, c.pa = some ⟨b, so, none⟩) ∨ (∃ p, p ∈ c.bl ++ c.pl ∧ p.bs ≠ [] ∧ ∃ so, p.sa = some ⟨b, so, none⟩) ∨ (c.vl ≠ [] ∧ ∃ so, c.va = some ⟨b, so, none⟩)
set_option maxRecDepth 100000 in
theorem slice_keep {w w' : World} {sa : Option Addr} {cap : Nat} {bs : List Int} (h : SliceAt w sa cap bs) (hk : ∀ b so, bs ≠ [] → sa = some ⟨b, so, none⟩ → w'.heap[b]? = w.heap[b]?) : SliceAt w' sa cap bs := by
  refine ⟨h.le, h.max, h.some, h.nil, ?_⟩
  rcases h.bytes with hc | ⟨sb, so, e, hc⟩
  · exact .inl hc
  · by_cases hn : bs = []
    · exact .inl hn
    · exact .inr ⟨sb, so, e, fun k hk' => (World.cell?_of_block (hk sb so hn e)).trans (hc k hk')⟩
set_option maxRecDepth 100000 in
theorem slice_block_lt {w : World} {sa : Option Addr} {cap : Nat} {bs : List Int} (h : SliceAt w sa cap bs) (hn : bs ≠ []) (b so : Nat) (e : sa = some ⟨b, so, none⟩) : b < w.heap.size := by
  rcases h.bytes with hc | ⟨sb, so', e', hc⟩
  · exact absurd hc hn
  · rw [e] at e'
    cases e'
    exact block_lt_of_cell (hc 0 (by cases bs with | nil => exact absurd rfl hn | cons a l => simp))
set_option maxRecDepth 100000 in
theorem list_keep {w w' : World} {sa : Option Addr} {cap : Nat} {ps : List Part} (h : ListAt w sa cap ps) (hr : ∀ b so, sa = some ⟨b, so, none⟩ → w'.heap[b]? = w.heap[b]?) (hp : ∀ p, p ∈ ps → ∀ b so, p.bs ≠ [] → p.sa = some ⟨b, so, none⟩ → w'.heap[b]? = w.heap[b]?) : ListAt w' sa cap ps := by
  refine ⟨h.le, h.max, h.small, h.some, ⟨?_, fun p hm => slice_keep (h.parts.each p hm) (hp p hm)⟩⟩
  rcases h.parts.cells with hc | ⟨sb, so, e, hc⟩
  · exact .inl hc
  · exact .inr ⟨sb, so, e, fun k hk => (World.cell?_of_block (hr sb so e)).trans (hc k hk)⟩
set_option maxRecDepth 100000 in
theorem ints_keep {w w' : World} {va : Option Addr} {vl : List Int} (h : IntsAt w va vl) (hr : ∀ b so, vl ≠ [] → va = some ⟨b, so, none⟩ → w'.heap[b]? = w.heap[b]?) : IntsAt w' va vl := by
  refine ⟨?_⟩
  rcases h.cells with hc | ⟨sb, so, e, hc⟩
  · exact .inl hc
  · by_cases hn : vl = []
    · exact .inl hn
    · exact .inr ⟨sb, so, e, fun k hk => (World.cell?_of_block (hr sb so hn e)).trans (hc k hk)⟩
set_option maxRecDepth 100000 in
theorem CtAt.keep {w w' : World} {c : Ct} (h : CtAt w c) (hs : w.heap.size ≤ w'.heap.size) (hk : ∀ b, CtIn c b → w'.heap[b]? = w.heap[b]?) : CtAt w' c :=
  ⟨⟨list_keep h.hat.lb (fun b so e => hk b (.inl ⟨so, e⟩)) (fun p hp b so hn e => hk b (.inr (.inr (.inl ⟨p, List.mem_append_left _ hp, hn, so, e⟩)))), list_keep h.hat.lp (fun b so e => hk b (.inr (.inl ⟨so, e⟩))) (fun p hp b so hn e => hk b (.inr (.inr (.inl ⟨p, List.mem_append_right _ hp, hn, so, e⟩)))), fun sb so e => Nat.lt_of_lt_of_le (h.hat.rb sb so e) hs, fun sb so e => Nat.lt_of_lt_of_le (h.hat.rp sb so e) hs⟩, ints_keep h.ints (fun b so hn e => hk b (.inr (.inr (.inr ⟨hn, so, e⟩)))), h.vle⟩
set_option maxRecDepth 100000 in
theorem CtAt.block_lt {w : World} {c : Ct} (h : CtAt w c) (b : Nat) (hb : CtIn c b) : b < w.heap.size := by
  rcases hb with ⟨so, e⟩ | ⟨so, e⟩ | ⟨p, hp, hn, so, e⟩ | ⟨hn, so, e⟩
  · exact h.hat.rb b so e
  · exact h.hat.rp b so e
  · rcases List.mem_append.1 hp with hp | hp
    · exact slice_block_lt (h.hat.lb.parts.each p hp) hn b so e
    · exact slice_block_lt (h.hat.lp.parts.each p hp) hn b so e
  · rcases h.ints.cells with hc | ⟨sb, so', e', hc⟩
    · exact absurd hc hn
    · rw [e] at e'
      cases e'
      exact block_lt_of_cell (hc 0 (by cases hv : c.vl with | nil => exact absurd hv hn | cons a l => simp))
/-- Certificates, each apart from the row v, their lists at B or behind it. -/
def ApartC (w : World) (B : Nat) (v : Value) (ks : List Ct) : Prop := ∀ c ∈ ks, CtAt w c ∧ ∀ b, CtIn c b → B ≤ b ∧ v.ownBlock ≠ some b
set_option maxRecDepth 100000 in
theorem ApartC.more {w w2 w3 : World} {B : Nat} {v v1 : Value} {ks : List Ct} {c : Ct} {o : Obj} {n sz : Nat} {e : TypeId} {xs : List Value} (h : ApartC w B v ks) (hB : B ≤ w.heap.size) (ho : w.ownsRow B e sz v n xs) (hb2 : Below w.heap.size w w2)
    (hc : ∀ b, CtIn c b → w.heap.size ≤ b) (hs2 : CtAt w2 c) (G : Grew (w2.alloc o) v w3 v1) : ApartC w3 B v1 (ks ++ [c]) := by
  have hA : Below w2.heap.size w2 (w2.alloc o) := (Below.refl _ _).alloc (Nat.le_refl _) _
  have hsz : w2.heap.size < (w2.alloc o).heap.size := by rw [size_alloc]; omega
  have h3 := G.grown.size
  have h2 := hb2.size
  intro d hd
  rcases List.mem_append.1 hd with hd | hd
  · obtain ⟨hs, ha⟩ := h d hd
    have hs' := (hs.below hb2).below hA
    refine ⟨hs'.keep h3 (fun b hb => G.grown.block b (hs'.block_lt b hb) (fun e => (ha b hb).2 e.symm)), fun b hb => ⟨(ha b hb).1, fun hv => ?_⟩⟩
    have := hs.block_lt b hb
    rcases G.fresh b hv with g | g
    · exact (ha b hb).2 g
    · omega
  · obtain rfl : d = c := by simpa using hd
    have hne : ∀ b, CtIn d b → v.ownBlock ≠ some b := fun b hb hv => by
      have h1 := (ho.lt b hv).2
      have h2 := hc b hb
      omega
    have hs' := hs2.below hA
    refine ⟨hs'.keep h3 (fun b hb => G.grown.block b (hs'.block_lt b hb) (fun e => hne b hb e.symm)), fun b hb => ⟨by have := hc b hb; omega, fun hv => ?_⟩⟩
    have := hs2.block_lt b hb
    rcases G.fresh b hv with g | g
    · exact hne b hb g
    · omega
set_option maxRecDepth 100000 in
theorem ApartC.setCell {w : World} {B : Nat} {v : Value} {ks : List Ct} (h : ApartC w B v ks) (b j : Nat) (x : Value) (hb : b < B) : ApartC (w.setCell ⟨b, j, none⟩ x) B v ks := fun c hc =>
  ⟨(h c hc).1.keep (by simp) (fun q hq => heap_setCell_other w ⟨b, j, none⟩ q x (by have := ((h c hc).2 q hq).1; show q ≠ b; omega)), (h c hc).2⟩
set_option maxRecDepth 100000 in
theorem infoCert : (Tryd.prog.info? 63).map (fun i => (i.zero, i.size, i.bytes)) = some (some (.agg #[.int .i64 0, .int .i64 0, .slice none 0 0, .slice none 0 0, .slice none 0 0]), 5, 88) := by kernel_rfl
def Ct.cs (c : Ct) : List Value := [.int .i64 c.au, .int .i64 c.rd, .slice c.ba c.bl.length c.bc, .slice c.pa c.pl.length c.pc, .slice c.va c.vl.length c.vc]
def ctv : List Ct → List Value
  | [] => []
  | s :: r => s.cs ++ ctv r
set_option maxRecDepth 100000 in
theorem ctv_snoc (ls : List Ct) (s : Ct) : ctv (ls ++ [s]) = ctv ls ++ s.cs := by
  induction ls with
  | nil => simp [ctv]
  | cons x r ih => simp [ctv, ih]
set_option maxRecDepth 100000 in
theorem ctv_length (ls : List Ct) : (ctv ls).length = ls.length * 5 := by
  induction ls with
  | nil => rfl
  | cons x r ih => simp [ctv, ih, Ct.cs]; omega
set_option maxRecDepth 100000 in
theorem ctv_get (ls : List Ct) (j i : Nat) (h : j < ls.length) (hi : i < 5) : (ctv ls)[j * 5 + i]? = (ls[j]).cs[i]? := by
  induction ls generalizing j with
  | nil => cases h
  | cons x r ih =>
    cases j with
    | zero => simp only [ctv, Nat.zero_mul, Nat.zero_add, List.getElem_cons_zero]; rw [List.getElem?_append_left (by simp [Ct.cs]; exact hi)]
    | succ j =>
      have h' : j < r.length := by simpa using h
      simp only [ctv, List.getElem_cons_succ]
      rw [List.getElem?_append_right (by simp [Ct.cs]; omega), ← ih j h']
      congr 1
      simp [Ct.cs]; omega
set_option maxRecDepth 100000 in
theorem dag_of_owns {w : World} {base n : Nat} {v : Value} {ls : List Ct} (h : w.ownsRow base 63 5 v n (ctv ls)) (ha : ApartC w base v ls) : ∃ ra rc, v = .slice ra n rc ∧ n = ls.length ∧ (n ≤ 3000000000000000000 → DagAt w ra rc ls) ∧ (∀ sb so, ra = some ⟨sb, so, none⟩ → base ≤ sb ∧ sb < w.heap.size) := by
  have hl : n = ls.length := by have := h.1; rw [ctv_length] at this; omega
  rcases h.2 with ⟨rfl, hn⟩ | ⟨g, cap, cur, rfl, hr⟩
  · have hb : ls = [] := List.eq_nil_of_length_eq_zero (by omega)
    subst hn hb
    exact ⟨none, 0, rfl, rfl, fun _ => ⟨Nat.le_refl _, by decide, by decide, .inl rfl, ⟨.inl rfl⟩, fun p hp => by cases hp⟩, (fun _ _ e => by cases e)⟩
  · refine ⟨some ⟨g, 0, none⟩, cap, rfl, hl, fun hm => ⟨?_, ?_, by omega, .inr ⟨g, 0, rfl⟩, ⟨.inr ⟨g, 0, rfl, fun j hj => ?_⟩⟩, fun s hs => (ha s hs).1⟩, (fun sb so e => by cases e; exact h.lt _ rfl)⟩
    · obtain ⟨_, _, h1, _⟩ := hr
      omega
    · obtain ⟨_, _, _, h2, _⟩ := hr
      exact h2
    · have e : ∀ i, i < 5 → w.cell? ⟨g, j * 5 + i, none⟩ = (ls[j]).cs[i]? := fun i hi => by rw [World.ownsRow.cellAt h (j * 5 + i) (by omega), ctv_get ls j i hj hi]
      have e0 := e 0 (by omega)
      have e1 := e 1 (by omega)
      have e2 := e 2 (by omega)
      have e3 := e 3 (by omega)
      have e4 := e 4 (by omega)
      exact ⟨by simpa [Ct.cs] using e0, by simpa [Ct.cs] using e1, by simpa [Ct.cs] using e2, by simpa [Ct.cs] using e3, by simpa [Ct.cs] using e4⟩
end Go.Proofs.YtbmodfegcmaieaaDoor
