/- Headers that lie apart from a row of headers that grows. -/
import Derived.Test.YtbmodfegcmaieaaDoorQOneSum
import Derived.Test.YtbmodfegcmaieaaDoorGAppR
import Derived.Test.YtbmodfegcmaieaaDoorGOwnL
namespace Go.Proofs.YtbmodfegcmaieaaDoor
open Go.RowKit

/-- The blocks that a header's lists lie in. -/
def HdIn (c : Hd) (b : Nat) : Prop := (∃ so, c.ba = some ⟨b, so, none⟩) ∨ (∃ so, c.pa = some ⟨b, so, none⟩) ∨ (∃ p, p ∈ c.bl ++ c.pl ∧ p.bs ≠ [] ∧ ∃ so, p.sa = some ⟨b, so, none⟩)
set_option maxRecDepth 100000 in
theorem slice_keepH {w w' : World} {sa : Option Addr} {cap : Nat} {bs : List Int} (h : SliceAt w sa cap bs) (hk : ∀ b so, bs ≠ [] → sa = some ⟨b, so, none⟩ → w'.heap[b]? = w.heap[b]?) : SliceAt w' sa cap bs := by
  refine ⟨h.le, h.max, h.some, h.nil, ?_⟩
  rcases h.bytes with hc | ⟨sb, so, e, hc⟩
  · exact .inl hc
  · by_cases hn : bs = []
    · exact .inl hn
    · exact .inr ⟨sb, so, e, fun k hk' => (World.cell?_of_block (hk sb so hn e)).trans (hc k hk')⟩
set_option maxRecDepth 100000 in
theorem slice_ltH {w : World} {sa : Option Addr} {cap : Nat} {bs : List Int} (h : SliceAt w sa cap bs) (hn : bs ≠ []) (b so : Nat) (e : sa = some ⟨b, so, none⟩) : b < w.heap.size := by
  rcases h.bytes with hc | ⟨sb, so', e', hc⟩
  · exact absurd hc hn
  · rw [e] at e'
    cases e'
    exact block_lt_of_cell (hc 0 (by cases bs with | nil => exact absurd rfl hn | cons a l => simp))
set_option maxRecDepth 100000 in
theorem list_keepH {w w' : World} {sa : Option Addr} {cap : Nat} {ps : List Part} (h : ListAt w sa cap ps) (hr : ∀ b so, sa = some ⟨b, so, none⟩ → w'.heap[b]? = w.heap[b]?) (hp : ∀ p, p ∈ ps → ∀ b so, p.bs ≠ [] → p.sa = some ⟨b, so, none⟩ → w'.heap[b]? = w.heap[b]?) : ListAt w' sa cap ps := by
  refine ⟨h.le, h.max, h.small, h.some, ⟨?_, fun p hm => slice_keepH (h.parts.each p hm) (hp p hm)⟩⟩
  rcases h.parts.cells with hc | ⟨sb, so, e, hc⟩
  · exact .inl hc
  · exact .inr ⟨sb, so, e, fun k hk => (World.cell?_of_block (hr sb so e)).trans (hc k hk)⟩
set_option maxRecDepth 100000 in
theorem HdAt.keep {w w' : World} {c : Hd} (h : HdAt w c) (hs : w.heap.size ≤ w'.heap.size) (hk : ∀ b, HdIn c b → w'.heap[b]? = w.heap[b]?) : HdAt w' c :=
  ⟨⟨list_keepH h.hat.lb (fun b so e => hk b (.inl ⟨so, e⟩)) (fun p hp b so hn e => hk b (.inr (.inr ⟨p, List.mem_append_left _ hp, hn, so, e⟩))), list_keepH h.hat.lp (fun b so e => hk b (.inr (.inl ⟨so, e⟩))) (fun p hp b so hn e => hk b (.inr (.inr ⟨p, List.mem_append_right _ hp, hn, so, e⟩))), fun sb so e => Nat.lt_of_lt_of_le (h.hat.rb sb so e) hs, fun sb so e => Nat.lt_of_lt_of_le (h.hat.rp sb so e) hs⟩, h.ok, h.bu, h.pu⟩
set_option maxRecDepth 100000 in
theorem HdAt.block_lt {w : World} {c : Hd} (h : HdAt w c) (b : Nat) (hb : HdIn c b) : b < w.heap.size := by
  rcases hb with ⟨so, e⟩ | ⟨so, e⟩ | ⟨p, hp, hn, so, e⟩
  · exact h.hat.rb b so e
  · exact h.hat.rp b so e
  · rcases List.mem_append.1 hp with hp | hp
    · exact slice_ltH (h.hat.lb.parts.each p hp) hn b so e
    · exact slice_ltH (h.hat.lp.parts.each p hp) hn b so e
/-- Headers, each apart from the row v. -/
def ApartH (w : World) (v : Value) (ks : List Hd) : Prop := ∀ c ∈ ks, HdAt w c ∧ ∀ b, HdIn c b → v.ownBlock ≠ some b
set_option maxRecDepth 100000 in
theorem ApartH.more {w w2 w3 : World} {B : Nat} {v v1 : Value} {ks : List Hd} {c : Hd} {o : Obj} {n sz : Nat} {e : TypeId} {xs : List Value} (h : ApartH w v ks) (ho : w.ownsRow B e sz v n xs) (hb2 : Below w.heap.size w w2)
    (hc : ∀ b, HdIn c b → w.heap.size ≤ b) (hs2 : HdAt w2 c) (G : Grew (w2.alloc o) v w3 v1) : ApartH w3 v1 (ks ++ [c]) := by
  have hA : Below w2.heap.size w2 (w2.alloc o) := (Below.refl _ _).alloc (Nat.le_refl _) _
  have hsz : w2.heap.size < (w2.alloc o).heap.size := by rw [size_alloc]; omega
  have h3 := G.grown.size
  have h2 := hb2.size
  intro d hd
  rcases List.mem_append.1 hd with hd | hd
  · obtain ⟨hs, ha⟩ := h d hd
    have hs' := (hs.below hb2).below hA
    refine ⟨hs'.keep h3 (fun b hb => G.grown.block b (hs'.block_lt b hb) (fun e => ha b hb e.symm)), fun b hb hv => ?_⟩
    have := hs.block_lt b hb
    rcases G.fresh b hv with g | g
    · exact ha b hb g
    · omega
  · obtain rfl : d = c := by simpa using hd
    have hne : ∀ b, HdIn d b → v.ownBlock ≠ some b := fun b hb hv => by
      have h1 := (ho.lt b hv).2
      have h2 := hc b hb
      omega
    have hs' := hs2.below hA
    refine ⟨hs'.keep h3 (fun b hb => G.grown.block b (hs'.block_lt b hb) (fun e => hne b hb e.symm)), fun b hb hv => ?_⟩
    have := hs2.block_lt b hb
    rcases G.fresh b hv with g | g
    · exact hne b hb g
    · omega
set_option maxRecDepth 100000 in
theorem infoHd : (Tryd.prog.info? 60).map (fun i => (i.zero, i.size, i.bytes)) = some (some (.agg #[.int .i64 0, .int .i64 0, .slice none 0 0, .slice none 0 0]), 4, 64) := by kernel_rfl
def Hd.cs (c : Hd) : List Value := [.int .i64 c.au, .int .i64 c.rd, .slice c.ba c.bl.length c.bc, .slice c.pa c.pl.length c.pc]
def hdv : List Hd → List Value
  | [] => []
  | s :: r => s.cs ++ hdv r
set_option maxRecDepth 100000 in
theorem hdv_snoc (ls : List Hd) (s : Hd) : hdv (ls ++ [s]) = hdv ls ++ s.cs := by
  induction ls with
  | nil => simp [hdv]
  | cons x r ih => simp [hdv, ih]
set_option maxRecDepth 100000 in
theorem hdv_length (ls : List Hd) : (hdv ls).length = ls.length * 4 := by
  induction ls with
  | nil => rfl
  | cons x r ih => simp [hdv, ih, Hd.cs]; omega
set_option maxRecDepth 100000 in
theorem hdv_get (ls : List Hd) (j i : Nat) (h : j < ls.length) (hi : i < 4) : (hdv ls)[j * 4 + i]? = (ls[j]).cs[i]? := by
  induction ls generalizing j with
  | nil => cases h
  | cons x r ih =>
    cases j with
    | zero => simp only [hdv, Nat.zero_mul, Nat.zero_add, List.getElem_cons_zero]; rw [List.getElem?_append_left (by simp [Hd.cs]; exact hi)]
    | succ j =>
      have h' : j < r.length := by simpa using h
      simp only [hdv, List.getElem_cons_succ]
      rw [List.getElem?_append_right (by simp [Hd.cs]; omega), ← ih j h']
      congr 1
      simp [Hd.cs]; omega
set_option maxRecDepth 100000 in
theorem hs_of_owns {w : World} {base n : Nat} {v : Value} {ls : List Hd} (h : w.ownsRow base 60 4 v n (hdv ls)) (ha : ApartH w v ls) : ∃ ra rc, v = .slice ra n rc ∧ n = ls.length ∧ HsAt w ra ls := by
  have hl : n = ls.length := by have := h.1; rw [hdv_length] at this; omega
  rcases h.2 with ⟨rfl, hn⟩ | ⟨g, cap, cur, rfl, hr⟩
  · have hb : ls = [] := List.eq_nil_of_length_eq_zero (by omega)
    subst hn hb
    exact ⟨none, 0, rfl, rfl, ⟨.inl rfl, fun p hp => by cases hp⟩⟩
  · refine ⟨some ⟨g, 0, none⟩, cap, rfl, hl, ⟨.inr ⟨g, 0, rfl, fun j hj => ?_⟩, fun s hs => (ha s hs).1⟩⟩
    have e : ∀ i, i < 4 → w.cell? ⟨g, 0 + j * 4 + i, none⟩ = (hdAt ls j).cs[i]? := fun i hi => by
      rw [show 0 + j * 4 + i = j * 4 + i by omega, World.ownsRow.cellAt h (j * 4 + i) (by omega), hdv_get ls j i hj hi, hdAt_get ls j hj]
    exact ⟨e 0 (by omega), e 1 (by omega), e 2 (by omega), e 3 (by omega)⟩
set_option maxRecDepth 100000 in
theorem hd_one (c : Hd) : ∀ u ∈ c.cs, u.oneCell' = true := by
  intro u hu
  simp [Hd.cs] at hu
  rcases hu with rfl | rfl | rfl | rfl <;> rfl
end Go.Proofs.YtbmodfegcmaieaaDoor
