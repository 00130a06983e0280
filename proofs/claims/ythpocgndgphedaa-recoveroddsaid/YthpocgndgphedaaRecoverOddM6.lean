/- wire.appendDigests and wire.appendHeader, onto a row that the call owns. -/
import Derived.Test.YthpocgndgphedaaRecoverOddM0
import Derived.Test.YthpocgndgphedaaHeadF
import Derived.Test.YthpocgndgphedaaApp
import Derived.Test.YthpocgndgphedaaPicked
import Derived.Test.YthpocgndgphedaaLAt
import Derived.Test.YthpocgndgphedaaGrew
import Derived.Deep.RegionHeld
import Derived.Test.YthpocgndgphedaaSx
namespace Go.Proofs.Ythpocgndgphedaa
open Go.RowKit

set_option maxRecDepth 100000 in
theorem bTxs_ok (ss : List ByteArray) : (1 ≤ (bTxs ss).length ∧ (bTxs ss).length ≤ 4) ∧ ∀ s ∈ bTxs ss, 1 ≤ s.size ∧ s.size ≤ 20 := by
  unfold bTxs
  by_cases h : ss = []
  · rw [if_pos h]
    exact ⟨by simp, fun s hs => by simp at hs; subst hs; decide⟩
  · rw [if_neg h]
    have : 0 < ss.length := List.length_pos_iff.2 h
    refine ⟨by simp; omega, fun s hs => ?_⟩
    simp only [List.mem_map] at hs
    obtain ⟨x, _, rfl⟩ := hs
    exact txS_size x
set_option maxRecDepth 100000 in
theorem batchF_raw (ra rb : Int) (ss : List ByteArray) : batchF (pk ra 4) (1 + pk rb 9) (bTxs ss) = 0 := by
  obtain ⟨pa0, pa1⟩ := pk_bounds ra 4 (by decide)
  obtain ⟨pb0, pb1⟩ := pk_bounds rb 9 (by decide)
  obtain ⟨⟨h1, h2⟩, h3⟩ := bTxs_ok ss
  rw [batchF, if_neg (by omega), if_neg (by omega), if_pos]
  rw [List.all_eq_true]
  exact fun s hs => by simpa [txOk] using h3 s hs
end Go.Proofs.Ythpocgndgphedaa

namespace Go.Proofs.Ythpocgndgphedaa
open Go.RowKit

set_option maxRecDepth 100000 in
theorem digTo1_zero (ps : List Part) (k : Nat) (h : digTo1 ps k = 0) : ∀ j, j < k → digAt ps j = 0 := by
  induction k with
  | zero => intro j hj; omega
  | succ k ih =>
    rw [digTo1] at h
    split at h
    · rename_i h1; exact absurd h h1
    · rename_i h1
      intro j hj
      rcases Nat.lt_or_ge j k with g | g
      · exact ih (by simpa using h1) j g
      · obtain rfl : j = k := by omega
        exact h
set_option maxRecDepth 100000 in
theorem digF_len {ps : List Part} (h : digF ps = 0) : ∀ p ∈ ps, p.bs.length = 32 := by
  intro p hp
  obtain ⟨j, hj, rfl⟩ := List.getElem_of_mem hp
  have h1 := digTo1_zero ps ps.length h j hj
  rw [digAt, partAt_get ps j hj] at h1
  split at h1
  · cases h1
  · rename_i h2; simpa using h2
set_option maxRecDepth 100000 in
theorem headerF_ok {au rd : Int} {bl pl : List Part} (h : headerF au rd bl pl = 0) : (0 ≤ au ∧ au < 4) ∧ (1 ≤ rd ∧ rd ≤ 1048576) ∧ bl.length ≤ 3 ∧ pl.length ≤ 4 ∧ (∀ p ∈ bl, p.bs.length = 32) ∧ (∀ p ∈ pl, p.bs.length = 32) := by
  unfold headerF at h
  split at h
  · cases h
  · split at h
    · cases h
    · split at h
      · rename_i h1; exact absurd h h1
      · split at h
        · rename_i h1; exact absurd h h1
        · rename_i h1 h2 h3 h4
          exact ⟨by omega, by omega, by omega, by omega, digF_len (by simpa using h3), digF_len (by simpa using h4)⟩
end Go.Proofs.Ythpocgndgphedaa

namespace Go.Proofs.Ythpocgndgphedaa
open Go.RowKit

def someL (n m : Int) : List Int := (((List.replicate 32 0).set 0 (pk n 256)).set 1 (m % 256)).set 31 1
set_option maxRecDepth 100000 in
theorem someL_length (n m : Int) : (someL n m).length = 32 := by simp [someL]
set_option maxRecDepth 100000 in
theorem makeSome (w : World) : (Instr.makeSlice 26 (.int .i64 32) (.int .i64 32)).run Try.prog w = .ok (.slice (some ⟨w.heap.size, 0, none⟩) 32 32) (w.alloc (.cells (ub (List.replicate 32 0)).toArray 5)) := by kernel_rfl
set_option maxRecDepth 100000 in
theorem ub_set (l : List Int) (i : Nat) (x : Int) : (ub l).set i (.int .u8 x) = ub (l.set i x) := by simp [ub, List.map_set]

set_option maxRecDepth 100000 in
set_option maxHeartbeats 1000000 in
theorem some_any (n m : Int) (w : World) (hn : I64 n) :
    Calls Try.prog 35 #[.int .i64 n, .int .i64 m] w fun e w' => e = .returned (.slice (some ⟨w.heap.size, 0, none⟩) 32 32) ∧ w'.ownsRow w.heap.size 5 1 (.slice (some ⟨w.heap.size, 0, none⟩) 32 32) 32 (ub (someL n m)) ∧ Below w.heap.size w w' := by
  have hmk := fun w => makeSome w
  have ho := World.ownsRow_lit (base := w.heap.size) (e := 5) (size := 1) w (ub (List.replicate 32 0)).toArray 32 (Nat.le_refl _) (by decide) rfl
  have c0 := (World.ownsRow.cellAt ho 0 (by omega))
  have c1 := (World.ownsRow.cellAt ho 1 (by omega))
  have c31 := (World.ownsRow.cellAt ho 31 (by omega))
  have f0 := World.ownsRow.frozenAt ho 0
  have f1 := World.ownsRow.frozenAt ho 1
  have f31 := World.ownsRow.frozenAt ho 31
  obtain ⟨hp0, hp1⟩ := pk_bounds n 256 (by decide)
  have hO := World.ownsRow_lit (base := w.heap.size) (e := 5) (size := 1) w (ub (someL n m)).toArray 32 (Nat.le_refl _) (by decide) (by simp [ub, someL])
  go_enter Try.func35, Try.ntmps35
  go_wp2_with (go_at_call 10; refine (picked_any n 256 _ hn.1 hn.2 (by decide) (by decide)).mono ?_; rintro e w' ⟨rfl, rfl⟩)
  go_ret
  refine ⟨rfl, ?_, (Below.refl _ _).alloc (Nat.le_refl _) _⟩
  rw [ub_set, ub_set, ub_set]
  exact hO
end Go.Proofs.Ythpocgndgphedaa

namespace Go.Proofs.Ythpocgndgphedaa
open Go.RowKit

set_option maxRecDepth 100000 in
theorem infoBs : (Try.prog.info? 26).map (fun i => (i.zero, i.size, i.bytes)) = some (some (.slice none 0 0), 1, 24) := by kernel_rfl
def pv (ps : List Part) : List Value := ps.map Part.val
set_option maxRecDepth 100000 in
theorem pv_length (ps : List Part) : (pv ps).length = ps.length := by simp [pv]
/-- The same bytes, one by one. -/
def Same (ps qs : List Part) : Prop := ps.map (·.bs) = qs.map (·.bs)
set_option maxRecDepth 100000 in
theorem Same.length {ps qs : List Part} (h : Same ps qs) : ps.length = qs.length := by simpa using congrArg List.length h
/-- The lists that lie apart from a row. -/
def Apart (w : World) (B : Nat) (v : Value) (ps : List Part) : Prop := ∀ p ∈ ps, SliceAt w p.sa p.cap p.bs ∧ ∀ sb so, p.sa = some ⟨sb, so, none⟩ → B ≤ sb ∧ sb < w.heap.size ∧ v.ownBlock ≠ some sb
/-- All of it is new. -/
structure Fresh (B : Nat) (ra : Option Addr) (qs : List Part) : Prop where
  row : ∀ sb so, ra = some ⟨sb, so, none⟩ → B ≤ sb
  each : ∀ p ∈ qs, ∀ sb so, p.sa = some ⟨sb, so, none⟩ → B ≤ sb
set_option maxRecDepth 100000 in
theorem ListAt.setCell {w : World} {ra : Option Addr} {rc B : Nat} {qs : List Part} (h : ListAt w ra rc qs) (hf : Fresh B ra qs) (b j : Nat) (v : Value) (hb : b < B) : ListAt (w.setCell ⟨b, j, Option.none⟩ v) ra rc qs := by
  refine ⟨h.le, h.max, h.small, h.some, ⟨?_, fun p hp => ?_⟩⟩
  · rcases h.parts.cells with hc | ⟨sb, so, rfl, hc⟩
    · exact .inl hc
    · exact .inr ⟨sb, so, rfl, fun k hk => (World.cell?_setCell_far _ _ _ _ (by have := hf.row sb so rfl; show b ≠ sb; omega)).trans (hc k hk)⟩
  · have hs := h.parts.each p hp
    refine ⟨hs.le, hs.max, hs.some, hs.nil, ?_⟩
    rcases hs.bytes with hc | ⟨sb, so, e, hc⟩
    · exact .inl hc
    · exact .inr ⟨sb, so, e, fun k hk => (World.cell?_setCell_far _ _ _ _ (by have := hf.each p hp sb so e; show b ≠ sb; omega)).trans (hc k hk)⟩
set_option maxRecDepth 100000 in
theorem listAt_of_owns {w : World} {base n : Nat} {v : Value} {ps : List Part} (h : w.ownsRow base 26 1 v n (pv ps)) (ha : Apart w base v ps) : ∃ ra rc, v = .slice ra n rc ∧ n = ps.length ∧ (n ≤ 9000000000000000000 → ListAt w ra rc ps) ∧ Fresh base ra ps := by
  have hl : n = ps.length := by have := h.1; rw [pv_length] at this; omega
  rcases h.2 with ⟨rfl, hn⟩ | ⟨g, cap, cur, rfl, hr⟩
  · have hb : ps = [] := List.eq_nil_of_length_eq_zero (by omega)
    subst hn hb
    exact ⟨none, 0, rfl, rfl, fun _ => ⟨Nat.le_refl _, by decide, by decide, .inl rfl, ⟨.inl rfl, fun p hp => by cases hp⟩⟩, ⟨(fun _ _ e => by cases e), (fun p hp => by cases hp)⟩⟩
  · refine ⟨some ⟨g, 0, none⟩, cap, rfl, hl, fun hm => ⟨?_, ?_, by omega, .inr ⟨g, 0, rfl⟩, ⟨.inr ⟨g, 0, rfl, fun j hj => ?_⟩, fun p hp => (ha p hp).1⟩⟩, ⟨(fun sb so e => by cases e; exact (h.lt _ rfl).1), (fun p hp sb so e => ((ha p hp).2 sb so e).1)⟩⟩
    · obtain ⟨_, _, h1, _⟩ := hr
      omega
    · obtain ⟨_, _, _, h2, _⟩ := hr
      exact h2
    · rw [Nat.zero_add, World.ownsRow.cellAt h j (by omega)]
      simp [pv, Part.val, hj]

set_option maxRecDepth 100000 in
theorem owns_keep {w w' : World} {base n : Nat} {e : TypeId} {s : Nat} {v : Value} {xs : List Value} (h : w.ownsRow base e s v n xs) (hb : Below w.heap.size w w') : w'.ownsRow base e s v n xs := by
  have hB : ∀ q, v.ownBlock = some q → q < w.heap.size := fun q e => (h.lt q e).2
  obtain ⟨h1, h2⟩ := h
  refine ⟨h1, ?_⟩
  rcases h2 with h2 | ⟨g, cap, cur, rfl, hg, hc, r⟩
  · exact .inl h2
  · exact .inr ⟨g, cap, cur, rfl, hg, (hb.block g (hB g rfl)).trans hc, r⟩
set_option maxRecDepth 100000 in
theorem nilSlice (w : World) : SliceAt w none 0 [] := ⟨Nat.le_refl _, by decide, .inl rfl, fun _ => rfl, .inl rfl⟩
set_option maxRecDepth 100000 in
/-- One list more: it lies apart, too. -/
theorem Apart.more_at {w w2 w3 : World} {B : Nat} {v v1 : Value} {qs : List Part} {q : Part} {o : Obj} {n sz : Nat} {e : TypeId} {xs : List Value} (h : Apart w B v qs) (hB : B ≤ w.heap.size) (ho : w.ownsRow B e sz v n xs) (hb2 : Below w.heap.size w w2)
    (hq : ∀ sb so, q.sa = some ⟨sb, so, none⟩ → w.heap.size ≤ sb ∧ sb < w2.heap.size) (hs2 : SliceAt w2 q.sa q.cap q.bs) (G : Grew (w2.alloc o) v w3 v1) : Apart w3 B v1 (qs ++ [q]) := by
  have hA : Below w2.heap.size w2 (w2.alloc o) := (Below.refl _ _).alloc (Nat.le_refl _) _
  have hsz : w2.heap.size < (w2.alloc o).heap.size := by rw [size_alloc]; omega
  have h3 := G.grown.size
  have h2 := hb2.size
  intro p hp
  rcases List.mem_append.1 hp with hp | hp
  · obtain ⟨hs, ha⟩ := h p hp
    refine ⟨G.slice ((hs.below hb2).below hA) (fun sb so e => (ha sb so e).2.2), fun sb so e => ?_⟩
    obtain ⟨a1, a2, a3⟩ := ha sb so e
    refine ⟨a1, by omega, fun hv => ?_⟩
    rcases G.fresh sb hv with g | g
    · exact a3 g
    · omega
  · obtain rfl : p = q := by simpa using hp
    have hne : ∀ sb so, p.sa = some ⟨sb, so, none⟩ → w.heap.size ≤ sb ∧ sb < w2.heap.size ∧ v.ownBlock ≠ some sb := fun sb so e => by
      have hl := hq sb so e
      exact ⟨hl.1, hl.2, fun hv => by have := (ho.lt sb hv).2; omega⟩
    refine ⟨G.slice (hs2.below hA) (fun sb so e => (hne sb so e).2.2), fun sb so e => ?_⟩
    obtain ⟨a1, a2, a3⟩ := hne sb so e
    refine ⟨by omega, by omega, fun hv => ?_⟩
    rcases G.fresh sb hv with g | g
    · exact a3 g
    · omega
set_option maxRecDepth 100000 in
theorem Apart.more {w w2 w3 : World} {B : Nat} {v v1 : Value} {qs : List Part} {q : Part} {o : Obj} {k n : Nat} {e : TypeId} {xs : List Value} (h : Apart w B v qs) (hB : B ≤ w.heap.size) (ho : w.ownsRow B e 1 v n xs) (hb2 : Below w.heap.size w w2)
    (ho2 : w2.ownsRow w.heap.size 5 1 (.slice q.sa k q.cap) k (ub q.bs)) (hs2 : SliceAt w2 q.sa q.cap q.bs) (G : Grew (w2.alloc o) v w3 v1) : Apart w3 B v1 (qs ++ [q]) :=
  h.more_at hB ho hb2 (fun sb so e => ho2.lt sb (by rw [e]; rfl)) hs2 G
end Go.Proofs.Ythpocgndgphedaa

namespace Go.Proofs.Ythpocgndgphedaa
open Go.RowKit

/-- P2.6: a round, or a number: three bytes, the highest one first. -/
def rd3 (n : Int) : List Int := [n / 65536, n / 256 % 256, n % 256]
set_option maxRecDepth 100000 in
set_option maxHeartbeats 400000 in
theorem appendRound_any (base : Nat) (v : Value) (k : Nat) (bs : List Int) (n : Int) (w : World) (hn : 0 ≤ n ∧ n ≤ 1048576) (ho : w.ownsRow base 5 1 v k (ub bs)) (hB : base ≤ w.heap.size) (hk : k ≤ 100000) :
    Calls Try.prog 45 #[v, .int .i64 n] w fun e w' => ∃ v', e = .returned v' ∧ w'.ownsRow base 5 1 v' (k + 3) (ub (bs ++ rd3 n)) ∧ Grew w v w' v' := by
  obtain ⟨i, hi, hz0, hz1, hz2⟩ := info_parts infoU8
  obtain ⟨hn0, hn1⟩ := hn
  go_enter Try.func45, Try.ntmps45
  go_wp2_with (at_builtin; (refine wpList_append_own_at _ rfl _ _ 26 rfl base 5 i (.int .u8 0) 1 1 Try.underlying26 hi hz0 hz1 hz2 rfl (by decide) _ k _ rfl (World.ownsRow.alloc ho _) ⟨w.heap.size, 0, none⟩ 3 3 [.int .u8 (n / 65536), .int .u8 (n / 256 % 256), .int .u8 (n % 256)] rfl rfl (cells_new _ _ _) (u8_one [_, _, _]) (by unfold maxLen; omega) (by omega) (le_alloc hB _) ?_; intro v1 w1 ho1 hg1 _ hat))
  go_ret
  exact ⟨v1, rfl, by simpa [ub, rd3] using ho1, (Grew.of hg1 hat).alloc⟩
end Go.Proofs.Ythpocgndgphedaa

namespace Go.Proofs.Ythpocgndgphedaa
open Go.RowKit

/-- The lists lie apart from a row. -/
structure Off (w : World) (v : Value) (ra : Option Addr) (qs : List Part) : Prop where
  row : ∀ sb so, ra = some ⟨sb, so, none⟩ → sb < w.heap.size ∧ v.ownBlock ≠ some sb
  each : ∀ p ∈ qs, ∀ sb so, p.sa = some ⟨sb, so, none⟩ → sb < w.heap.size ∧ v.ownBlock ≠ some sb
set_option maxRecDepth 100000 in
theorem Grew.off {w w' : World} {v v' : Value} {ra : Option Addr} {qs : List Part} (h : Grew w v w' v') (hO : Off w v ra qs) : Off w' v' ra qs := by
  have one : ∀ sb, sb < w.heap.size ∧ v.ownBlock ≠ some sb → sb < w'.heap.size ∧ v'.ownBlock ≠ some sb := fun sb ⟨h1, h2⟩ =>
    ⟨Nat.lt_of_lt_of_le h1 h.grown.size, fun e => by
      rcases h.fresh sb e with g | g
      · exact h2 g
      · omega⟩
  exact ⟨fun sb so e => one sb (hO.row sb so e), fun p hp sb so e => one sb (hO.each p hp sb so e)⟩
set_option maxRecDepth 100000 in
theorem Grew.list {w w' : World} {v v' : Value} {ra : Option Addr} {rc : Nat} {qs : List Part} (h : Grew w v w' v') (hL : ListAt w ra rc qs) (hO : Off w v ra qs) : ListAt w' ra rc qs := by
  refine ⟨hL.le, hL.max, hL.small, hL.some, ⟨?_, fun p hp => h.slice (hL.parts.each p hp) (fun sb so e => (hO.each p hp sb so e).2)⟩⟩
  rcases hL.parts.cells with hc | ⟨sb, so, rfl, hc⟩
  · exact .inl hc
  · exact .inr ⟨sb, so, rfl, fun j hj => (World.cell?_of_block (h.grown.block sb (block_lt_of_cell (hc j hj)) (fun e => (hO.row sb so rfl).2 e.symm))).trans (hc j hj)⟩
set_option maxRecDepth 100000 in
theorem Off.alloc {w : World} {v : Value} {ra : Option Addr} {qs : List Part} (h : Off w v ra qs) (o : Obj) : Off (w.alloc o) v ra qs :=
  ⟨fun sb so e => ⟨by have := (h.row sb so e).1; rw [size_alloc]; omega, (h.row sb so e).2⟩, fun p hp sb so e => ⟨by have := (h.each p hp sb so e).1; rw [size_alloc]; omega, (h.each p hp sb so e).2⟩⟩
/-- The same, of what is not empty alone: nothing else is read. -/
structure OffW (w : World) (v : Value) (ra : Option Addr) (qs : List Part) : Prop where
  row : ∀ sb so, ra = some ⟨sb, so, none⟩ → qs ≠ [] → sb < w.heap.size ∧ v.ownBlock ≠ some sb
  each : ∀ p ∈ qs, ∀ sb so, p.sa = some ⟨sb, so, none⟩ → p.bs ≠ [] → sb < w.heap.size ∧ v.ownBlock ≠ some sb
set_option maxRecDepth 100000 in
theorem Off.weak {w : World} {v : Value} {ra : Option Addr} {qs : List Part} (h : Off w v ra qs) : OffW w v ra qs := ⟨fun sb so e _ => h.row sb so e, fun p hp sb so e _ => h.each p hp sb so e⟩
set_option maxRecDepth 100000 in
theorem Grew.offW {w w' : World} {v v' : Value} {ra : Option Addr} {qs : List Part} (h : Grew w v w' v') (hO : OffW w v ra qs) : OffW w' v' ra qs := by
  have one : ∀ sb, sb < w.heap.size ∧ v.ownBlock ≠ some sb → sb < w'.heap.size ∧ v'.ownBlock ≠ some sb := fun sb ⟨h1, h2⟩ =>
    ⟨Nat.lt_of_lt_of_le h1 h.grown.size, fun e => by
      rcases h.fresh sb e with g | g
      · exact h2 g
      · omega⟩
  exact ⟨fun sb so e n => one sb (hO.row sb so e n), fun p hp sb so e n => one sb (hO.each p hp sb so e n)⟩
set_option maxRecDepth 100000 in
theorem Grew.listW {w w' : World} {v v' : Value} {ra : Option Addr} {rc : Nat} {qs : List Part} (h : Grew w v w' v') (hL : ListAt w ra rc qs) (hO : OffW w v ra qs) : ListAt w' ra rc qs := by
  refine ⟨hL.le, hL.max, hL.small, hL.some, ⟨?_, fun p hp => ?_⟩⟩
  · rcases hL.parts.cells with hc | ⟨sb, so, rfl, hc⟩
    · exact .inl hc
    · exact .inr ⟨sb, so, rfl, fun j hj => (World.cell?_of_block (h.grown.block sb (block_lt_of_cell (hc j hj)) (fun e => (hO.row sb so rfl (fun h0 => by rw [h0] at hj; simp at hj)).2 e.symm))).trans (hc j hj)⟩
  · have hs := hL.parts.each p hp
    by_cases hz : p.bs = []
    · exact ⟨hs.le, hs.max, hs.some, hs.nil, .inl hz⟩
    · exact h.slice hs (fun sb so e => (hO.each p hp sb so e hz).2)
set_option maxRecDepth 100000 in
theorem OffW.alloc {w : World} {v : Value} {ra : Option Addr} {qs : List Part} (h : OffW w v ra qs) (o : Obj) : OffW (w.alloc o) v ra qs :=
  ⟨fun sb so e n => ⟨by have := (h.row sb so e n).1; rw [size_alloc]; omega, (h.row sb so e n).2⟩, fun p hp sb so e n => ⟨by have := (h.each p hp sb so e n).1; rw [size_alloc]; omega, (h.each p hp sb so e n).2⟩⟩
set_option maxRecDepth 100000 in
/-- A list that lies somewhere lies apart from all that is new. -/
theorem offW_of_list {w w' : World} {v : Value} {ra : Option Addr} {rc : Nat} {qs : List Part} (h : ListAt w ra rc qs) (hs : w.heap.size ≤ w'.heap.size) (hv : ∀ sb, sb < w.heap.size → v.ownBlock ≠ some sb) : OffW w' v ra qs := by
  refine ⟨fun sb so e n => ?_, fun p hp sb so e n => ?_⟩
  · rcases h.parts.cells with hc | ⟨sb', so', e', hc⟩
    · exact absurd hc n
    · obtain rfl : sb' = sb := by rw [e] at e'; simp at e'; exact e'.1.symm
      have hl := block_lt_of_cell (hc 0 (by cases qs with | nil => exact absurd rfl n | cons _ _ => simp))
      exact ⟨Nat.lt_of_lt_of_le hl hs, hv _ hl⟩
  · rcases (h.parts.each p hp).bytes with hc | ⟨sb', so', e', hc⟩
    · exact absurd hc n
    · obtain rfl : sb' = sb := by rw [e] at e'; simp at e'; exact e'.1.symm
      have hl := block_lt_of_cell (hc 0 (by cases hb : p.bs with | nil => exact absurd hb n | cons _ _ => simp))
      exact ⟨Nat.lt_of_lt_of_le hl hs, hv _ hl⟩
/-- The bytes of lists, one behind the other. -/
def flatB : List Part → List Int
  | [] => []
  | p :: l => p.bs ++ flatB l
set_option maxRecDepth 100000 in
theorem flatB_snoc (l : List Part) (p : Part) : flatB (l ++ [p]) = flatB l ++ p.bs := by
  induction l with
  | nil => simp [flatB]
  | cons x l ih => simp [flatB, ih]
set_option maxRecDepth 100000 in
theorem flatB_length (l : List Part) (h : ∀ p ∈ l, p.bs.length = 32) : (flatB l).length = 32 * l.length := by
  induction l with
  | nil => simp [flatB]
  | cons x l ih =>
    have h1 := h x (by simp)
    have h2 := ih (fun s hs => h s (by simp [hs]))
    simp [flatB, h1, h2]; omega
/-- P2.6: how many there are, and these. -/
def digsB (l : List Part) : List Int := (l.length : Int) :: flatB l
set_option maxRecDepth 100000 in
set_option maxHeartbeats 1000000 in
theorem appendDigests_w (base : Nat) (v : Value) (k : Nat) (bs : List Int) (sa : Option Addr) (n cap : Nat) (qs : List Part) (w : World) (hn : n = qs.length) (hl : qs.length ≤ 4) (h32 : ∀ p ∈ qs, p.bs.length = 32) (hL : ListAt w sa cap qs) (hO : OffW w v sa qs)
    (ho : w.ownsRow base 5 1 v k (ub bs)) (hB : base ≤ w.heap.size) (hk : k ≤ 90000) :
    Calls Try.prog 52 #[v, .slice sa n cap] w fun e w' => ∃ v', e = .returned v' ∧ w'.ownsRow base 5 1 v' (k + (digsB qs).length) (ub (bs ++ digsB qs)) ∧ Grew w v w' v' := by
  subst hn
  obtain ⟨i, hi, hz0, hz1, hz2⟩ := info_parts infoU8
  go_enter Try.func52, Try.ntmps52
  go_wp2_with (at_builtin; refine wpList_append_own_at _ rfl _ _ 26 rfl base 5 i (.int .u8 0) 1 1 Try.underlying26 hi hz0 hz1 hz2 rfl (by decide) _ k _ rfl (World.ownsRow.alloc ho _) ⟨w.heap.size, 0, none⟩ 1 1 [.int .u8 (qs.length : Int)] rfl rfl (cells_new _ _ _) (u8_one [_]) (by unfold maxLen; omega) (by omega) (le_alloc hB _) ?_; intro v1 w1 ho1 hg1 _ hat; have G1 := (Grew.of hg1 hat).alloc)
  have ho1' : w1.ownsRow base 5 1 v1 (k + 1) (ub (bs ++ [(qs.length : Int)])) := by simpa [ub] using ho1
  clear ho1 hg1 hat
  go_loopw [15, 0] (fun j t wr => ∃ (m : Nat) (tv : Value), m ≤ qs.length ∧ j = .int .i64 m ∧ tv = t ∧ wr.ownsRow base 5 1 tv (k + 1 + (flatB (qs.take m)).length) (ub (bs ++ [(qs.length : Int)] ++ flatB (qs.take m))) ∧ Grew w v wr tv) (fun j _ _ => qs.length - (intOf j).toNat)
  case atStart => exact ⟨0, _, Nat.zero_le _, rfl, rfl, by simpa [flatB] using ho1', G1⟩
  case round =>
    clear ho1' G1
    obtain ⟨m, tv, hm, rfl, rfl, ho, G⟩ := hrel
    by_cases hlt : m < qs.length
    · have hLr := G.listW hL hO
      obtain ⟨sb, so, rfl, hc⟩ : ∃ sb so, sa = some ⟨sb, so, none⟩ ∧ ∀ j (h : j < qs.length), wr.cell? ⟨sb, so + j, none⟩ = some (.slice (qs[j]).sa (qs[j]).bs.length (qs[j]).cap) := by
        rcases hLr.parts.cells with h | h
        · subst h; simp at hlt
        · exact h
      have ck := hc m hlt
      have hp := hLr.parts.each qs[m] (List.getElem_mem hlt)
      have hp32 := h32 qs[m] (List.getElem_mem hlt)
      have hst : Hid (flatB (qs.take (m + 1)) = flatB (qs.take m) ++ (qs[m]).bs) := by
        show _ = _
        rw [List.take_succ_eq_append_getElem hlt, flatB_snoc]
      have hLe : (flatB (qs.take m)).length ≤ 128 := by
        rw [flatB_length _ (fun p h => h32 p (List.mem_of_mem_take h)), List.length_take]; omega
      have hltI : (m : Int) < qs.length := by omega
      clear hc hLr
      generalize qs[m] = p at *
      generalize flatB (qs.take m) = T at ho hst hLe
      have hBr : base ≤ wr.heap.size := Nat.le_trans hB G.grown.size
      have H32 : Hid (p.bs.length = 32) := hp32
      have hle : p.bs.length ≤ 32 := by omega
      clear hp32
      go_wp2_with (at_builtin; refine wpList_append_part_at rfl _ _ rfl base tv (k + 1 + T.length) _ rfl ho p.sa p.bs.length p.cap p.bs rfl rfl hp (by omega) hBr ?_; intro v5 w5 ho5 G5)
      go_roundw
      case rel =>
        have hR : ∃ (m' : Nat) (tv' : Value), m' ≤ qs.length ∧ (Value.int .i64 ((m : Int) + 1)) = .int .i64 m' ∧ tv' = v5 ∧ w5.ownsRow base 5 1 tv' (k + 1 + (flatB (qs.take m')).length) (ub (bs ++ [(qs.length : Int)] ++ flatB (qs.take m'))) ∧ Grew w v w5 tv' :=
          ⟨m + 1, v5, by omega, by go_num, rfl, by rw [hst.out, List.length_append, ← Nat.add_assoc]; simpa using ho5, G.trans G5⟩
        first | exact hR | ((repeat apply Exists.intro); exact ⟨hR, rfl⟩)
      case measure => simp [intOf]; omega
    · obtain rfl : m = qs.length := by omega
      rw [List.take_of_length_le (Nat.le_refl _)] at ho
      have hltI : ¬ (qs.length : Int) < qs.length := by omega
      go_wp2_with fail
      go_ret
      refine ⟨_, rfl, ?_, G⟩
      rw [show k + (digsB qs).length = k + 1 + (flatB qs).length by simp [digsB]; omega, show bs ++ digsB qs = bs ++ [(qs.length : Int)] ++ flatB qs by simp [digsB]]
      exact ho
set_option maxRecDepth 100000 in
theorem appendDigests_any (base : Nat) (v : Value) (k : Nat) (bs : List Int) (sa : Option Addr) (n cap : Nat) (qs : List Part) (w : World) (hn : n = qs.length) (hl : qs.length ≤ 4) (h32 : ∀ p ∈ qs, p.bs.length = 32) (hL : ListAt w sa cap qs) (hO : Off w v sa qs)
    (ho : w.ownsRow base 5 1 v k (ub bs)) (hB : base ≤ w.heap.size) (hk : k ≤ 90000) :
    Calls Try.prog 52 #[v, .slice sa n cap] w fun e w' => ∃ v', e = .returned v' ∧ w'.ownsRow base 5 1 v' (k + (digsB qs).length) (ub (bs ++ digsB qs)) ∧ Grew w v w' v' :=
  appendDigests_w base v k bs sa n cap qs w hn hl h32 hL hO.weak ho hB hk
end Go.Proofs.Ythpocgndgphedaa
