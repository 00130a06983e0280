/- wire.appendDigests and wire.appendHeader, onto a row that the call owns. -/
import Derived.Test.YtbmodfegcmaieaaDoorGApp
import Derived.Test.YtbmodfegcmaieaaDoorGAppR
namespace Go.Proofs.YtbmodfegcmaieaaDoor
open Go.RowKit

/-- A part: a slice of bytes. -/
structure Part where
  sa : Option Addr
  cap : Nat
  bs : List Int
def Part.val (p : Part) : Value := .slice p.sa p.bs.length p.cap
/-- The parts of a slice of slices. -/
structure PartsAt (w : World) (sa : Option Addr) (ps : List Part) : Prop where
  cells : ps = [] ∨ ∃ sb so, sa = some ⟨sb, so, none⟩ ∧ ∀ j (h : j < ps.length), w.cell? ⟨sb, so + j, none⟩ = some (.slice (ps[j]).sa (ps[j]).bs.length (ps[j]).cap)
  each : ∀ p ∈ ps, SliceAt w p.sa p.cap p.bs
set_option maxRecDepth 100000 in
theorem PartsAt.below {w w' : World} {sa : Option Addr} {ps : List Part} (h : PartsAt w sa ps) (hb : Below w.heap.size w w') : PartsAt w' sa ps := by
  refine ⟨?_, fun p hp => (h.each p hp).below hb⟩
  rcases h.cells with h | ⟨sb, so, rfl, hc⟩
  · exact .inl h
  · exact .inr ⟨sb, so, rfl, fun j hj => (hb.cell (p := ⟨sb, so + j, none⟩) (block_lt_of_cell (hc j hj))).trans (hc j hj)⟩
end Go.Proofs.YtbmodfegcmaieaaDoor

namespace Go.Proofs.YtbmodfegcmaieaaDoor
open Go.RowKit

/-- A slice of slices that is read. -/
structure ListAt (w : World) (sa : Option Addr) (cap : Nat) (ps : List Part) : Prop where
  le : ps.length ≤ cap
  max : cap ≤ 9223372036854775807
  small : ps.length ≤ 9000000000000000000
  some : cap = 0 ∨ ∃ sb so, sa = some ⟨sb, so, none⟩
  parts : PartsAt w sa ps
set_option maxRecDepth 100000 in
theorem ListAt.below {w w' : World} {sa : Option Addr} {cap : Nat} {ps : List Part} (h : ListAt w sa cap ps) (hb : Below w.heap.size w w') : ListAt w' sa cap ps := ⟨h.le, h.max, h.small, h.some, h.parts.below hb⟩
/-- What is read of a list of lists that came in. -/
structure ReadAt (w : World) (sa : Option Addr) (cap : Nat) (ps : List Part) : Prop where
  list : ListAt w sa cap ps
  reach : ps.length * 24 ≤ 140737488355328
  each : ∀ p ∈ ps, p.bs.length ≤ 140737488355328
set_option maxRecDepth 100000 in
theorem ReadAt.below {w w' : World} {sa : Option Addr} {cap : Nat} {ps : List Part} (h : ReadAt w sa cap ps) (hb : Below w.heap.size w w') : ReadAt w' sa cap ps := ⟨h.list.below hb, h.reach, h.each⟩
end Go.Proofs.YtbmodfegcmaieaaDoor

namespace Go.Proofs.YtbmodfegcmaieaaDoor
open Go.RowKit

/-- The lists lie apart from a row. -/
structure Off (w : World) (v : Value) (ra : Option Addr) (qs : List Part) : Prop where
  row : ∀ sb so, ra = some ⟨sb, so, none⟩ → sb < w.heap.size ∧ v.ownBlock ≠ some sb
  each : ∀ p ∈ qs, ∀ sb so, p.sa = some ⟨sb, so, none⟩ → sb < w.heap.size ∧ v.ownBlock ≠ some sb
set_option maxRecDepth 100000 in
theorem Grew.off {w w' : World} {v v' : Value} {ra : Option Addr} {qs : List Part} (h : Grew w v w' v') (hO : Off w v ra qs) : Off w' v' ra qs := by
  have one : ∀ sb, sb < w.heap.size ∧ v.ownBlock ≠ some sb → sb < w'.heap.size ∧ v'.ownBlock ≠ some sb := fun sb ⟨h1, h2⟩ =>
    ⟨Nat.lt_of_lt_of_le h1 h.grown.size, fun e => by
      rcases h.fresh sb e with g | g
      · exact h2 g
      · omega⟩
  exact ⟨fun sb so e => one sb (hO.row sb so e), fun p hp sb so e => one sb (hO.each p hp sb so e)⟩
set_option maxRecDepth 100000 in
theorem Grew.list {w w' : World} {v v' : Value} {ra : Option Addr} {rc : Nat} {qs : List Part} (h : Grew w v w' v') (hL : ListAt w ra rc qs) (hO : Off w v ra qs) : ListAt w' ra rc qs := by
  refine ⟨hL.le, hL.max, hL.small, hL.some, ⟨?_, fun p hp => h.slice (hL.parts.each p hp) (fun sb so e => (hO.each p hp sb so e).2)⟩⟩
  rcases hL.parts.cells with hc | ⟨sb, so, rfl, hc⟩
  · exact .inl hc
  · exact .inr ⟨sb, so, rfl, fun j hj => (World.cell?_of_block (h.grown.block sb (block_lt_of_cell (hc j hj)) (fun e => (hO.row sb so rfl).2 e.symm))).trans (hc j hj)⟩
set_option maxRecDepth 100000 in
theorem Off.alloc {w : World} {v : Value} {ra : Option Addr} {qs : List Part} (h : Off w v ra qs) (o : Obj) : Off (w.alloc o) v ra qs :=
  ⟨fun sb so e => ⟨by have := (h.row sb so e).1; rw [size_alloc]; omega, (h.row sb so e).2⟩, fun p hp sb so e => ⟨by have := (h.each p hp sb so e).1; rw [size_alloc]; omega, (h.each p hp sb so e).2⟩⟩
/-- The same, of what is not empty alone: nothing else is read. -/
structure OffW (w : World) (v : Value) (ra : Option Addr) (qs : List Part) : Prop where
  row : ∀ sb so, ra = some ⟨sb, so, none⟩ → qs ≠ [] → sb < w.heap.size ∧ v.ownBlock ≠ some sb
  each : ∀ p ∈ qs, ∀ sb so, p.sa = some ⟨sb, so, none⟩ → p.bs ≠ [] → sb < w.heap.size ∧ v.ownBlock ≠ some sb
set_option maxRecDepth 100000 in
theorem Off.weak {w : World} {v : Value} {ra : Option Addr} {qs : List Part} (h : Off w v ra qs) : OffW w v ra qs := ⟨fun sb so e _ => h.row sb so e, fun p hp sb so e _ => h.each p hp sb so e⟩
set_option maxRecDepth 100000 in
theorem Grew.offW {w w' : World} {v v' : Value} {ra : Option Addr} {qs : List Part} (h : Grew w v w' v') (hO : OffW w v ra qs) : OffW w' v' ra qs := by
  have one : ∀ sb, sb < w.heap.size ∧ v.ownBlock ≠ some sb → sb < w'.heap.size ∧ v'.ownBlock ≠ some sb := fun sb ⟨h1, h2⟩ =>
    ⟨Nat.lt_of_lt_of_le h1 h.grown.size, fun e => by
      rcases h.fresh sb e with g | g
      · exact h2 g
      · omega⟩
  exact ⟨fun sb so e n => one sb (hO.row sb so e n), fun p hp sb so e n => one sb (hO.each p hp sb so e n)⟩
set_option maxRecDepth 100000 in
theorem Grew.listW {w w' : World} {v v' : Value} {ra : Option Addr} {rc : Nat} {qs : List Part} (h : Grew w v w' v') (hL : ListAt w ra rc qs) (hO : OffW w v ra qs) : ListAt w' ra rc qs := by
  refine ⟨hL.le, hL.max, hL.small, hL.some, ⟨?_, fun p hp => ?_⟩⟩
  · rcases hL.parts.cells with hc | ⟨sb, so, rfl, hc⟩
    · exact .inl hc
    · exact .inr ⟨sb, so, rfl, fun j hj => (World.cell?_of_block (h.grown.block sb (block_lt_of_cell (hc j hj)) (fun e => (hO.row sb so rfl (fun h0 => by rw [h0] at hj; simp at hj)).2 e.symm))).trans (hc j hj)⟩
  · have hs := hL.parts.each p hp
    by_cases hz : p.bs = []
    · exact ⟨hs.le, hs.max, hs.some, hs.nil, .inl hz⟩
    · exact h.slice hs (fun sb so e => (hO.each p hp sb so e hz).2)
set_option maxRecDepth 100000 in
theorem OffW.alloc {w : World} {v : Value} {ra : Option Addr} {qs : List Part} (h : OffW w v ra qs) (o : Obj) : OffW (w.alloc o) v ra qs :=
  ⟨fun sb so e n => ⟨by have := (h.row sb so e n).1; rw [size_alloc]; omega, (h.row sb so e n).2⟩, fun p hp sb so e n => ⟨by have := (h.each p hp sb so e n).1; rw [size_alloc]; omega, (h.each p hp sb so e n).2⟩⟩
set_option maxRecDepth 100000 in
/-- A list that lies somewhere lies apart from all that is new. -/
theorem offW_of_list {w w' : World} {v : Value} {ra : Option Addr} {rc : Nat} {qs : List Part} (h : ListAt w ra rc qs) (hs : w.heap.size ≤ w'.heap.size) (hv : ∀ sb, sb < w.heap.size → v.ownBlock ≠ some sb) : OffW w' v ra qs := by
  refine ⟨fun sb so e n => ?_, fun p hp sb so e n => ?_⟩
  · rcases h.parts.cells with hc | ⟨sb', so', e', hc⟩
    · exact absurd hc n
    · obtain rfl : sb' = sb := by rw [e] at e'; simp at e'; exact e'.1.symm
      have hl := block_lt_of_cell (hc 0 (by cases qs with | nil => exact absurd rfl n | cons _ _ => simp))
      exact ⟨Nat.lt_of_lt_of_le hl hs, hv _ hl⟩
  · rcases (h.parts.each p hp).bytes with hc | ⟨sb', so', e', hc⟩
    · exact absurd hc n
    · obtain rfl : sb' = sb := by rw [e] at e'; simp at e'; exact e'.1.symm
      have hl := block_lt_of_cell (hc 0 (by cases hb : p.bs with | nil => exact absurd hb n | cons _ _ => simp))
      exact ⟨Nat.lt_of_lt_of_le hl hs, hv _ hl⟩
/-- The bytes of lists, one behind the other. -/
def flatB : List Part → List Int
  | [] => []
  | p :: l => p.bs ++ flatB l
set_option maxRecDepth 100000 in
theorem flatB_snoc (l : List Part) (p : Part) : flatB (l ++ [p]) = flatB l ++ p.bs := by
  induction l with
  | nil => simp [flatB]
  | cons x l ih => simp [flatB, ih]
set_option maxRecDepth 100000 in
theorem flatB_length (l : List Part) (h : ∀ p ∈ l, p.bs.length = 32) : (flatB l).length = 32 * l.length := by
  induction l with
  | nil => simp [flatB]
  | cons x l ih =>
    have h1 := h x (by simp)
    have h2 := ih (fun s hs => h s (by simp [hs]))
    simp [flatB, h1, h2]; omega
/-- P2.6: how many there are, and these. -/
def digsB (l : List Part) : List Int := (l.length : Int) :: flatB l
set_option maxRecDepth 100000 in
set_option maxHeartbeats 1000000 in
theorem appendDigests_w (base : Nat) (v : Value) (k : Nat) (bs : List Int) (sa : Option Addr) (n cap : Nat) (qs : List Part) (w : World) (hn : n = qs.length) (hl : qs.length ≤ 4) (h32 : ∀ p ∈ qs, p.bs.length = 32) (hL : ListAt w sa cap qs) (hO : OffW w v sa qs)
    (ho : w.ownsRow base 5 1 v k (ub bs)) (hB : base ≤ w.heap.size) (hk : k ≤ 90000) :
    Calls Tryd.prog 90 #[v, .slice sa n cap] w fun e w' => ∃ v', e = .returned v' ∧ w'.ownsRow base 5 1 v' (k + (digsB qs).length) (ub (bs ++ digsB qs)) ∧ Grew w v w' v' := by
  subst hn
  obtain ⟨i, hi, hz0, hz1, hz2⟩ := info_parts infoU8
  go_enter Tryd.func90, Tryd.ntmps90
  go_wp2_with (at_builtin; refine wpList_append_own_at _ rfl _ _ 46 rfl base 5 i (.int .u8 0) 1 1 Tryd.underlying46 hi hz0 hz1 hz2 rfl (by decide) _ k _ rfl (World.ownsRow.alloc ho _) ⟨w.heap.size, 0, none⟩ 1 1 [.int .u8 (qs.length : Int)] rfl rfl (cells_new _ _ _) (u8_one [_]) (by unfold maxLen; omega) (by omega) (le_alloc hB _) ?_; intro v1 w1 ho1 hg1 _ hat; have G1 := (Grew.of hg1 hat).alloc)
  have ho1' : w1.ownsRow base 5 1 v1 (k + 1) (ub (bs ++ [(qs.length : Int)])) := by simpa [ub] using ho1
  clear ho1 hg1 hat
  go_loopw [15, 0] (fun j t wr => ∃ (m : Nat) (tv : Value), m ≤ qs.length ∧ j = .int .i64 m ∧ tv = t ∧ wr.ownsRow base 5 1 tv (k + 1 + (flatB (qs.take m)).length) (ub (bs ++ [(qs.length : Int)] ++ flatB (qs.take m))) ∧ Grew w v wr tv) (fun j _ _ => qs.length - (intOf j).toNat)
  case atStart => exact ⟨0, _, Nat.zero_le _, rfl, rfl, by simpa [flatB] using ho1', G1⟩
  case round =>
    clear ho1' G1
    obtain ⟨m, tv, hm, rfl, rfl, ho, G⟩ := hrel
    by_cases hlt : m < qs.length
    · have hLr := G.listW hL hO
      obtain ⟨sb, so, rfl, hc⟩ : ∃ sb so, sa = some ⟨sb, so, none⟩ ∧ ∀ j (h : j < qs.length), wr.cell? ⟨sb, so + j, none⟩ = some (.slice (qs[j]).sa (qs[j]).bs.length (qs[j]).cap) := by
        rcases hLr.parts.cells with h | h
        · subst h; simp at hlt
        · exact h
      have ck := hc m hlt
      have hp := hLr.parts.each qs[m] (List.getElem_mem hlt)
      have hp32 := h32 qs[m] (List.getElem_mem hlt)
      have hst : Hid (flatB (qs.take (m + 1)) = flatB (qs.take m) ++ (qs[m]).bs) := by
        show _ = _
        rw [List.take_succ_eq_append_getElem hlt, flatB_snoc]
      have hLe : (flatB (qs.take m)).length ≤ 128 := by
        rw [flatB_length _ (fun p h => h32 p (List.mem_of_mem_take h)), List.length_take]; omega
      have hltI : (m : Int) < qs.length := by omega
      clear hc hLr
      generalize qs[m] = p at *
      generalize flatB (qs.take m) = T at ho hst hLe
      have hBr : base ≤ wr.heap.size := Nat.le_trans hB G.grown.size
      have H32 : Hid (p.bs.length = 32) := hp32
      have hle : p.bs.length ≤ 32 := by omega
      clear hp32
      go_wp2_with (at_builtin; refine wpList_append_part_at rfl _ _ rfl base tv (k + 1 + T.length) _ rfl ho p.sa p.bs.length p.cap p.bs rfl rfl hp (by omega) hBr ?_; intro v5 w5 ho5 G5)
      go_roundw
      case rel =>
        have hR : ∃ (m' : Nat) (tv' : Value), m' ≤ qs.length ∧ (Value.int .i64 ((m : Int) + 1)) = .int .i64 m' ∧ tv' = v5 ∧ w5.ownsRow base 5 1 tv' (k + 1 + (flatB (qs.take m')).length) (ub (bs ++ [(qs.length : Int)] ++ flatB (qs.take m'))) ∧ Grew w v w5 tv' :=
          ⟨m + 1, v5, by omega, by go_num, rfl, by rw [hst.out, List.length_append, ← Nat.add_assoc]; simpa using ho5, G.trans G5⟩
        first | exact hR | ((repeat apply Exists.intro); exact ⟨hR, rfl⟩)
      case measure => simp [intOf]; omega
    · obtain rfl : m = qs.length := by omega
      rw [List.take_of_length_le (Nat.le_refl _)] at ho
      have hltI : ¬ (qs.length : Int) < qs.length := by omega
      go_wp2_with fail
      go_ret
      refine ⟨_, rfl, ?_, G⟩
      rw [show k + (digsB qs).length = k + 1 + (flatB qs).length by simp [digsB]; omega, show bs ++ digsB qs = bs ++ [(qs.length : Int)] ++ flatB qs by simp [digsB]]
      exact ho
set_option maxRecDepth 100000 in
theorem appendDigests_any (base : Nat) (v : Value) (k : Nat) (bs : List Int) (sa : Option Addr) (n cap : Nat) (qs : List Part) (w : World) (hn : n = qs.length) (hl : qs.length ≤ 4) (h32 : ∀ p ∈ qs, p.bs.length = 32) (hL : ListAt w sa cap qs) (hO : Off w v sa qs)
    (ho : w.ownsRow base 5 1 v k (ub bs)) (hB : base ≤ w.heap.size) (hk : k ≤ 90000) :
    Calls Tryd.prog 90 #[v, .slice sa n cap] w fun e w' => ∃ v', e = .returned v' ∧ w'.ownsRow base 5 1 v' (k + (digsB qs).length) (ub (bs ++ digsB qs)) ∧ Grew w v w' v' :=
  appendDigests_w base v k bs sa n cap qs w hn hl h32 hL hO.weak ho hB hk
end Go.Proofs.YtbmodfegcmaieaaDoor
