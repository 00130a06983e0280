/- What a header that may be is. -/
import Derived.Test.YtldlknmpkoebbaaTapeRecoversM6
import Derived.Test.YtldlknmpkoebbaaStrsAt
import Derived.Test.YtldlknmpkoebbaaLAt
import Derived.Test.YtldlknmpkoebbaaSx
import Derived.Test.YtldlknmpkoebbaaCertF
import Derived.Test.YtldlknmpkoebbaaHeadF
namespace Go.Proofs.Ytldlknmpkoebbaa
open Go.RowKit

/-- P2.6: the texts of a batch, each behind its length. -/
def txsB : List ByteArray → List Int
  | [] => []
  | s :: l => (s.size : Int) :: (tb s ++ txsB l)
set_option maxRecDepth 100000 in
theorem txsB_snoc (l : List ByteArray) (s : ByteArray) : txsB (l ++ [s]) = txsB l ++ ((s.size : Int) :: tb s) := by
  induction l with
  | nil => simp [txsB]
  | cons x l ih => simp [txsB, ih]
set_option maxRecDepth 100000 in
theorem txsB_le (l : List ByteArray) (h : ∀ s ∈ l, s.size ≤ 20) : (txsB l).length ≤ 21 * l.length := by
  induction l with
  | nil => simp [txsB]
  | cons x l ih =>
    have h1 := h x (by simp)
    have h2 := ih (fun s hs => h s (by simp [hs]))
    simp [txsB, tb_length]; omega
/-- P2.6: the bytes of a batch. -/
def batchB (au nu : Int) (ss : List ByteArray) : List Int := [au] ++ rd3 nu ++ [(ss.length : Int)] ++ txsB ss
set_option maxRecDepth 100000 in
set_option maxHeartbeats 1000000 in
theorem appendBatch_any (base : Nat) (v : Value) (k : Nat) (bs : List Int) (au nu : Int) (sa : Option Addr) (n cap : Nat) (ss : List ByteArray) (w : World) (ha : 0 ≤ au ∧ au < 4) (hr : 0 ≤ nu ∧ nu ≤ 1048576) (hn : n = ss.length) (hl : ss.length ≤ 4) (hz : ∀ s ∈ ss, s.size ≤ 20) (hs : StrsAt w sa ss) (hne : ∀ sb so, sa = some ⟨sb, so, none⟩ → sb < w.heap.size ∧ v.ownBlock ≠ some sb)
    (ho : w.ownsRow base 5 1 v k (ub bs)) (hB : base ≤ w.heap.size) (hk : k ≤ 90000) :
    Calls Try.prog 63 #[v, .agg #[.int .i64 au, .int .i64 nu, .slice sa n cap]] w fun e w' => ∃ v', e = .returned v' ∧ w'.ownsRow base 5 1 v' (k + (batchB au nu ss).length) (ub (bs ++ batchB au nu ss)) ∧ Grew w v w' v' := by
  subst hn
  obtain ⟨i, hi, hz0, hz1, hz2⟩ := info_parts infoU8
  obtain ⟨ha0, ha1⟩ := ha
  have hvne : v.ownBlock ≠ some w.heap.size := fun e => by have := (ho.lt _ e).2; omega
  go_enter Try.func63, Try.ntmps63
  go_wp2_with (at_builtin; refine wpList_append_own_at _ rfl _ _ 22 rfl base 5 i (.int .u8 0) 1 1 Try.underlying22 hi hz0 hz1 hz2 rfl (by decide) _ k _ rfl (World.ownsRow.alloc (World.ownsRow.alloc ho _) _) ⟨w.heap.size + 1, 0, none⟩ 1 1 [.int .u8 au] rfl rfl (by have := cells_new (w.alloc (.cells #[.int .i64 au, .int .i64 nu, .slice sa ss.length cap] 43)) [.int .u8 au] 5; rw [size_alloc] at this; exact this) (u8_one [_]) (by unfold maxLen; omega) (by omega) (le_alloc (le_alloc hB _) _) ?_; intro v1 w1 ho1 hg1 _ hat; have G1 := Grew.of hg1 hat; have r1 := G1.row (heap_alloc2_old w _ _) hvne; have c1 : w1.cell? ⟨w.heap.size, 1, none⟩ = some (.int .i64 nu) := cells_at r1 1 _ rfl)
  have ho1' : w1.ownsRow base 5 1 v1 (k + 1) (ub (bs ++ [au])) := by simpa [ub] using ho1
  have hv1ne : v1.ownBlock ≠ some w.heap.size := fun e => by
    rcases G1.fresh _ e with g | g
    · exact hvne g
    · rw [size_alloc, size_alloc] at g; omega
  have G0 := G1.alloc.alloc
  clear ho1 hg1 hat G1
  refine (appendRound_any base v1 (k + 1) _ nu _ hr ho1' (Nat.le_trans hB G0.grown.size) (by omega)).mono ?_
  rintro e w2 ⟨v2, rfl, ho2, G2⟩
  have r2 := G2.row r1 hv1ne
  have c2 : w2.cell? ⟨w.heap.size, 2, none⟩ = some (.slice sa ss.length cap) := cells_at r2 2 _ rfl
  have hv2ne : v2.ownBlock ≠ some w.heap.size := fun e => by
    rcases G2.fresh _ e with g | g
    · exact hv1ne g
    · have := lt_of_heap r1; omega
  have G02 := G0.trans G2
  clear r1 c1
  go_wp2_with (at_builtin; refine wpList_append_own_at _ rfl _ _ 22 rfl base 5 i (.int .u8 0) 1 1 Try.underlying22 hi hz0 hz1 hz2 rfl (by decide) _ (k + 1 + 3) _ rfl (World.ownsRow.alloc ho2 _) ⟨w2.heap.size, 0, none⟩ 1 1 [.int .u8 (ss.length : Int)] rfl rfl (cells_new _ _ _) (u8_one [_]) (by unfold maxLen; omega) (by omega) (le_alloc (Nat.le_trans hB G02.grown.size) _) ?_; intro v3 w3 ho3 hg3 _ hat3; have G3 := (Grew.of hg3 hat3).alloc; have r3 := G3.row r2 hv2ne; have c3 : w3.cell? ⟨w.heap.size, 2, none⟩ = some (.slice sa ss.length cap) := cells_at r3 2 _ rfl)
  have ho3' : w3.ownsRow base 5 1 v3 (k + 1 + 3 + 1) (ub (bs ++ [au] ++ rd3 nu ++ [(ss.length : Int)])) := by simpa [ub] using ho3
  have G03 := G02.trans G3
  have hv3ne : v3.ownBlock ≠ some w.heap.size := fun e => by
    rcases G3.fresh _ e with g | g
    · exact hv2ne g
    · have := lt_of_heap r2; omega
  clear r2 c2 ho3 hg3 hat3 G3 ho2 G2 G0 G02 hv2ne hv1ne
  go_loopw [27, 0] (fun j t wr => ∃ m : Nat, m ≤ ss.length ∧ j = .int .i64 m ∧ wr.ownsRow base 5 1 t (k + 1 + 3 + 1 + (txsB (ss.take m)).length) (ub (bs ++ [au] ++ rd3 nu ++ [(ss.length : Int)] ++ txsB (ss.take m))) ∧ Grew w v wr t) (fun j _ _ => ss.length - (intOf j).toNat)
  case atStart => exact ⟨0, Nat.zero_le _, rfl, by simpa [txsB] using ho3', G03⟩
  case round =>
    clear ho3' G03 r3 c3 hv3ne
    obtain ⟨m, hm, rfl, ho, G⟩ := hrel
    by_cases hlt : m < ss.length
    · obtain ⟨sb, so, rfl, hc⟩ : ∃ sb so, sa = some ⟨sb, so, none⟩ ∧ ∀ j, j < ss.length → w.cell? ⟨sb, so + j, none⟩ = some (.string (ss.getD j ByteArray.empty)) := by
        rcases hs.cells with h | h
        · rw [h] at hlt; simp at hlt
        · exact h
      have ck0 := hc m hlt
      have ck : wr.cell? ⟨sb, so + m, none⟩ = some (.string (ss.getD m ByteArray.empty)) := (World.cell?_of_block (G.grown.block sb (block_lt_of_cell ck0) (fun e => (hne sb so rfl).2 e.symm))).trans ck0
      have hsz : (ss.getD m ByteArray.empty).size ≤ 20 := hz _ (by simp [List.getD, hlt])
      have hst : Hid (txsB (ss.take (m + 1)) = txsB (ss.take m) ++ (((ss.getD m ByteArray.empty).size : Int) :: tb (ss.getD m ByteArray.empty))) := by
        show _ = _
        rw [List.take_succ_eq_append_getElem hlt, txsB_snoc]
        simp only [List.getD, List.getElem?_eq_getElem hlt, Option.getD_some]
      have hLe : (txsB (ss.take m)).length ≤ 84 := by
        have h1 := txsB_le (ss.take m) (fun s h => hz s (List.mem_of_mem_take h))
        have h2 : (ss.take m).length ≤ 4 := by rw [List.length_take]; omega
        omega
      have hltI : (m : Int) < ss.length := by omega
      clear hc ck0
      generalize ss.getD m ByteArray.empty = x at ck hst hsz
      generalize txsB (ss.take m) = T at ho hst hLe
      have hBr : base ≤ wr.heap.size := Nat.le_trans hB G.grown.size
      go_wp2_with (at_builtin; first | (refine wpList_append_own_at _ rfl _ _ 22 rfl base 5 i (.int .u8 0) 1 1 Try.underlying22 hi hz0 hz1 hz2 rfl (by decide) _ (k + 1 + 3 + 1 + T.length) _ rfl (World.ownsRow.alloc ho _) ⟨wr.heap.size, 0, none⟩ 1 1 [.int .u8 (x.size : Int)] rfl rfl (cells_new _ _ _) (u8_one [_]) (by unfold maxLen; omega) (by omega) (le_alloc hBr _) ?_; intro v4 w4 ho4 hg4 _ hat4; have G4 := G.trans (Grew.of hg4 hat4).alloc; have ho4' : w4.ownsRow base 5 1 v4 (k + 1 + 3 + 1 + T.length + 1) (ub (bs ++ [au] ++ rd3 nu ++ [(ss.length : Int)] ++ T ++ [(x.size : Int)])) := (by simpa [ub] using ho4); clear ho4 hg4 hat4) | (refine wpList_append_str rfl _ _ rfl base _ (k + 1 + 3 + 1 + T.length + 1) _ rfl ho4' x rfl (by omega) (Nat.le_trans hB G4.grown.size) ?_; intro v5 w5 ho5 G5))
      go_roundw
      case rel =>
        have hR : ∃ m' : Nat, m' ≤ ss.length ∧ (Value.int .i64 ((m : Int) + 1)) = .int .i64 m' ∧ w5.ownsRow base 5 1 v5 (k + 1 + 3 + 1 + (txsB (ss.take m')).length) (ub (bs ++ [au] ++ rd3 nu ++ [(ss.length : Int)] ++ txsB (ss.take m'))) ∧ Grew w v w5 v5 :=
          ⟨m + 1, by omega, by go_num, by rw [hst.out]; simp only [List.length_append, List.length_cons, tb_length]; rw [show k + 1 + 3 + 1 + (T.length + (x.size + 1)) = k + 1 + 3 + 1 + T.length + 1 + x.size by omega]; simpa using ho5, G4.trans G5⟩
        first | exact hR | ((repeat apply Exists.intro); exact ⟨hR, rfl⟩)
      case measure => simp [intOf]; omega
    · obtain rfl : m = ss.length := by omega
      rw [List.take_of_length_le (Nat.le_refl _)] at ho
      have hltI : ¬ (ss.length : Int) < ss.length := by omega
      go_wp2_with fail
      go_ret
      refine ⟨_, rfl, ?_, G⟩
      have e : k + (batchB au nu ss).length = k + 1 + 3 + 1 + (txsB ss).length := by simp [batchB, rd3]; omega
      rw [e, show bs ++ batchB au nu ss = bs ++ [au] ++ rd3 nu ++ [(ss.length : Int)] ++ txsB ss by simp [batchB]]
      exact ho
end Go.Proofs.Ytldlknmpkoebbaa

namespace Go.Proofs.Ytldlknmpkoebbaa
open Go.RowKit

/-- The lists lie apart from a row. -/
structure Off (w : World) (v : Value) (ra : Option Addr) (qs : List Part) : Prop where
  row : ∀ sb so, ra = some ⟨sb, so, none⟩ → sb < w.heap.size ∧ v.ownBlock ≠ some sb
  each : ∀ p ∈ qs, ∀ sb so, p.sa = some ⟨sb, so, none⟩ → sb < w.heap.size ∧ v.ownBlock ≠ some sb
set_option maxRecDepth 100000 in
theorem Grew.off {w w' : World} {v v' : Value} {ra : Option Addr} {qs : List Part} (h : Grew w v w' v') (hO : Off w v ra qs) : Off w' v' ra qs := by
  have one : ∀ sb, sb < w.heap.size ∧ v.ownBlock ≠ some sb → sb < w'.heap.size ∧ v'.ownBlock ≠ some sb := fun sb ⟨h1, h2⟩ =>
    ⟨Nat.lt_of_lt_of_le h1 h.grown.size, fun e => by
      rcases h.fresh sb e with g | g
      · exact h2 g
      · omega⟩
  exact ⟨fun sb so e => one sb (hO.row sb so e), fun p hp sb so e => one sb (hO.each p hp sb so e)⟩
set_option maxRecDepth 100000 in
theorem Grew.list {w w' : World} {v v' : Value} {ra : Option Addr} {rc : Nat} {qs : List Part} (h : Grew w v w' v') (hL : ListAt w ra rc qs) (hO : Off w v ra qs) : ListAt w' ra rc qs := by
  refine ⟨hL.le, hL.max, hL.small, hL.some, ⟨?_, fun p hp => h.slice (hL.parts.each p hp) (fun sb so e => (hO.each p hp sb so e).2)⟩⟩
  rcases hL.parts.cells with hc | ⟨sb, so, rfl, hc⟩
  · exact .inl hc
  · exact .inr ⟨sb, so, rfl, fun j hj => (World.cell?_of_block (h.grown.block sb (block_lt_of_cell (hc j hj)) (fun e => (hO.row sb so rfl).2 e.symm))).trans (hc j hj)⟩
set_option maxRecDepth 100000 in
theorem Off.alloc {w : World} {v : Value} {ra : Option Addr} {qs : List Part} (h : Off w v ra qs) (o : Obj) : Off (w.alloc o) v ra qs :=
  ⟨fun sb so e => ⟨by have := (h.row sb so e).1; rw [size_alloc]; omega, (h.row sb so e).2⟩, fun p hp sb so e => ⟨by have := (h.each p hp sb so e).1; rw [size_alloc]; omega, (h.each p hp sb so e).2⟩⟩
/-- The same, of what is not empty alone: nothing else is read. -/
structure OffW (w : World) (v : Value) (ra : Option Addr) (qs : List Part) : Prop where
  row : ∀ sb so, ra = some ⟨sb, so, none⟩ → qs ≠ [] → sb < w.heap.size ∧ v.ownBlock ≠ some sb
  each : ∀ p ∈ qs, ∀ sb so, p.sa = some ⟨sb, so, none⟩ → p.bs ≠ [] → sb < w.heap.size ∧ v.ownBlock ≠ some sb
set_option maxRecDepth 100000 in
theorem Off.weak {w : World} {v : Value} {ra : Option Addr} {qs : List Part} (h : Off w v ra qs) : OffW w v ra qs := ⟨fun sb so e _ => h.row sb so e, fun p hp sb so e _ => h.each p hp sb so e⟩
set_option maxRecDepth 100000 in
theorem Grew.offW {w w' : World} {v v' : Value} {ra : Option Addr} {qs : List Part} (h : Grew w v w' v') (hO : OffW w v ra qs) : OffW w' v' ra qs := by
  have one : ∀ sb, sb < w.heap.size ∧ v.ownBlock ≠ some sb → sb < w'.heap.size ∧ v'.ownBlock ≠ some sb := fun sb ⟨h1, h2⟩ =>
    ⟨Nat.lt_of_lt_of_le h1 h.grown.size, fun e => by
      rcases h.fresh sb e with g | g
      · exact h2 g
      · omega⟩
  exact ⟨fun sb so e n => one sb (hO.row sb so e n), fun p hp sb so e n => one sb (hO.each p hp sb so e n)⟩
set_option maxRecDepth 100000 in
theorem Grew.listW {w w' : World} {v v' : Value} {ra : Option Addr} {rc : Nat} {qs : List Part} (h : Grew w v w' v') (hL : ListAt w ra rc qs) (hO : OffW w v ra qs) : ListAt w' ra rc qs := by
  refine ⟨hL.le, hL.max, hL.small, hL.some, ⟨?_, fun p hp => ?_⟩⟩
  · rcases hL.parts.cells with hc | ⟨sb, so, rfl, hc⟩
    · exact .inl hc
    · exact .inr ⟨sb, so, rfl, fun j hj => (World.cell?_of_block (h.grown.block sb (block_lt_of_cell (hc j hj)) (fun e => (hO.row sb so rfl (fun h0 => by rw [h0] at hj; simp at hj)).2 e.symm))).trans (hc j hj)⟩
  · have hs := hL.parts.each p hp
    by_cases hz : p.bs = []
    · exact ⟨hs.le, hs.max, hs.some, hs.nil, .inl hz⟩
    · exact h.slice hs (fun sb so e => (hO.each p hp sb so e hz).2)
set_option maxRecDepth 100000 in
theorem OffW.alloc {w : World} {v : Value} {ra : Option Addr} {qs : List Part} (h : OffW w v ra qs) (o : Obj) : OffW (w.alloc o) v ra qs :=
  ⟨fun sb so e n => ⟨by have := (h.row sb so e n).1; rw [size_alloc]; omega, (h.row sb so e n).2⟩, fun p hp sb so e n => ⟨by have := (h.each p hp sb so e n).1; rw [size_alloc]; omega, (h.each p hp sb so e n).2⟩⟩
set_option maxRecDepth 100000 in
/-- A list that lies somewhere lies apart from all that is new. -/
theorem offW_of_list {w w' : World} {v : Value} {ra : Option Addr} {rc : Nat} {qs : List Part} (h : ListAt w ra rc qs) (hs : w.heap.size ≤ w'.heap.size) (hv : ∀ sb, sb < w.heap.size → v.ownBlock ≠ some sb) : OffW w' v ra qs := by
  refine ⟨fun sb so e n => ?_, fun p hp sb so e n => ?_⟩
  · rcases h.parts.cells with hc | ⟨sb', so', e', hc⟩
    · exact absurd hc n
    · obtain rfl : sb' = sb := by rw [e] at e'; simp at e'; exact e'.1.symm
      have hl := block_lt_of_cell (hc 0 (by cases qs with | nil => exact absurd rfl n | cons _ _ => simp))
      exact ⟨Nat.lt_of_lt_of_le hl hs, hv _ hl⟩
  · rcases (h.parts.each p hp).bytes with hc | ⟨sb', so', e', hc⟩
    · exact absurd hc n
    · obtain rfl : sb' = sb := by rw [e] at e'; simp at e'; exact e'.1.symm
      have hl := block_lt_of_cell (hc 0 (by cases hb : p.bs with | nil => exact absurd hb n | cons _ _ => simp))
      exact ⟨Nat.lt_of_lt_of_le hl hs, hv _ hl⟩
/-- The bytes of lists, one behind the other. -/
def flatB : List Part → List Int
  | [] => []
  | p :: l => p.bs ++ flatB l
set_option maxRecDepth 100000 in
theorem flatB_snoc (l : List Part) (p : Part) : flatB (l ++ [p]) = flatB l ++ p.bs := by
  induction l with
  | nil => simp [flatB]
  | cons x l ih => simp [flatB, ih]
set_option maxRecDepth 100000 in
theorem flatB_length (l : List Part) (h : ∀ p ∈ l, p.bs.length = 32) : (flatB l).length = 32 * l.length := by
  induction l with
  | nil => simp [flatB]
  | cons x l ih =>
    have h1 := h x (by simp)
    have h2 := ih (fun s hs => h s (by simp [hs]))
    simp [flatB, h1, h2]; omega
/-- P2.6: how many there are, and these. -/
def digsB (l : List Part) : List Int := (l.length : Int) :: flatB l
set_option maxRecDepth 100000 in
set_option maxHeartbeats 1000000 in
theorem appendDigests_w (base : Nat) (v : Value) (k : Nat) (bs : List Int) (sa : Option Addr) (n cap : Nat) (qs : List Part) (w : World) (hn : n = qs.length) (hl : qs.length ≤ 4) (h32 : ∀ p ∈ qs, p.bs.length = 32) (hL : ListAt w sa cap qs) (hO : OffW w v sa qs)
    (ho : w.ownsRow base 5 1 v k (ub bs)) (hB : base ≤ w.heap.size) (hk : k ≤ 90000) :
    Calls Try.prog 80 #[v, .slice sa n cap] w fun e w' => ∃ v', e = .returned v' ∧ w'.ownsRow base 5 1 v' (k + (digsB qs).length) (ub (bs ++ digsB qs)) ∧ Grew w v w' v' := by
  subst hn
  obtain ⟨i, hi, hz0, hz1, hz2⟩ := info_parts infoU8
  go_enter Try.func80, Try.ntmps80
  go_wp2_with (at_builtin; refine wpList_append_own_at _ rfl _ _ 22 rfl base 5 i (.int .u8 0) 1 1 Try.underlying22 hi hz0 hz1 hz2 rfl (by decide) _ k _ rfl (World.ownsRow.alloc ho _) ⟨w.heap.size, 0, none⟩ 1 1 [.int .u8 (qs.length : Int)] rfl rfl (cells_new _ _ _) (u8_one [_]) (by unfold maxLen; omega) (by omega) (le_alloc hB _) ?_; intro v1 w1 ho1 hg1 _ hat; have G1 := (Grew.of hg1 hat).alloc)
  have ho1' : w1.ownsRow base 5 1 v1 (k + 1) (ub (bs ++ [(qs.length : Int)])) := by simpa [ub] using ho1
  clear ho1 hg1 hat
  go_loopw [15, 0] (fun j t wr => ∃ (m : Nat) (tv : Value), m ≤ qs.length ∧ j = .int .i64 m ∧ tv = t ∧ wr.ownsRow base 5 1 tv (k + 1 + (flatB (qs.take m)).length) (ub (bs ++ [(qs.length : Int)] ++ flatB (qs.take m))) ∧ Grew w v wr tv) (fun j _ _ => qs.length - (intOf j).toNat)
  case atStart => exact ⟨0, _, Nat.zero_le _, rfl, rfl, by simpa [flatB] using ho1', G1⟩
  case round =>
    clear ho1' G1
    obtain ⟨m, tv, hm, rfl, rfl, ho, G⟩ := hrel
    by_cases hlt : m < qs.length
    · have hLr := G.listW hL hO
      obtain ⟨sb, so, rfl, hc⟩ : ∃ sb so, sa = some ⟨sb, so, none⟩ ∧ ∀ j (h : j < qs.length), wr.cell? ⟨sb, so + j, none⟩ = some (.slice (qs[j]).sa (qs[j]).bs.length (qs[j]).cap) := by
        rcases hLr.parts.cells with h | h
        · subst h; simp at hlt
        · exact h
      have ck := hc m hlt
      have hp := hLr.parts.each qs[m] (List.getElem_mem hlt)
      have hp32 := h32 qs[m] (List.getElem_mem hlt)
      have hst : Hid (flatB (qs.take (m + 1)) = flatB (qs.take m) ++ (qs[m]).bs) := by
        show _ = _
        rw [List.take_succ_eq_append_getElem hlt, flatB_snoc]
      have hLe : (flatB (qs.take m)).length ≤ 128 := by
        rw [flatB_length _ (fun p h => h32 p (List.mem_of_mem_take h)), List.length_take]; omega
      have hltI : (m : Int) < qs.length := by omega
      clear hc hLr
      generalize qs[m] = p at *
      generalize flatB (qs.take m) = T at ho hst hLe
      have hBr : base ≤ wr.heap.size := Nat.le_trans hB G.grown.size
      have H32 : Hid (p.bs.length = 32) := hp32
      have hle : p.bs.length ≤ 32 := by omega
      clear hp32
      go_wp2_with (at_builtin; refine wpList_append_part_at rfl _ _ rfl base tv (k + 1 + T.length) _ rfl ho p.sa p.bs.length p.cap p.bs rfl rfl hp (by omega) hBr ?_; intro v5 w5 ho5 G5)
      go_roundw
      case rel =>
        have hR : ∃ (m' : Nat) (tv' : Value), m' ≤ qs.length ∧ (Value.int .i64 ((m : Int) + 1)) = .int .i64 m' ∧ tv' = v5 ∧ w5.ownsRow base 5 1 tv' (k + 1 + (flatB (qs.take m')).length) (ub (bs ++ [(qs.length : Int)] ++ flatB (qs.take m'))) ∧ Grew w v w5 tv' :=
          ⟨m + 1, v5, by omega, by go_num, rfl, by rw [hst.out, List.length_append, ← Nat.add_assoc]; simpa using ho5, G.trans G5⟩
        first | exact hR | ((repeat apply Exists.intro); exact ⟨hR, rfl⟩)
      case measure => simp [intOf]; omega
    · obtain rfl : m = qs.length := by omega
      rw [List.take_of_length_le (Nat.le_refl _)] at ho
      have hltI : ¬ (qs.length : Int) < qs.length := by omega
      go_wp2_with fail
      go_ret
      refine ⟨_, rfl, ?_, G⟩
      rw [show k + (digsB qs).length = k + 1 + (flatB qs).length by simp [digsB]; omega, show bs ++ digsB qs = bs ++ [(qs.length : Int)] ++ flatB qs by simp [digsB]]
      exact ho
set_option maxRecDepth 100000 in
theorem appendDigests_any (base : Nat) (v : Value) (k : Nat) (bs : List Int) (sa : Option Addr) (n cap : Nat) (qs : List Part) (w : World) (hn : n = qs.length) (hl : qs.length ≤ 4) (h32 : ∀ p ∈ qs, p.bs.length = 32) (hL : ListAt w sa cap qs) (hO : Off w v sa qs)
    (ho : w.ownsRow base 5 1 v k (ub bs)) (hB : base ≤ w.heap.size) (hk : k ≤ 90000) :
    Calls Try.prog 80 #[v, .slice sa n cap] w fun e w' => ∃ v', e = .returned v' ∧ w'.ownsRow base 5 1 v' (k + (digsB qs).length) (ub (bs ++ digsB qs)) ∧ Grew w v w' v' :=
  appendDigests_w base v k bs sa n cap qs w hn hl h32 hL hO.weak ho hB hk
end Go.Proofs.Ytldlknmpkoebbaa

namespace Go.Proofs.Ytldlknmpkoebbaa
open Go.RowKit

/-- P2.6: the bytes of a header. -/
def headB (au rd : Int) (bl pl : List Part) : List Int := [au] ++ rd3 rd ++ digsB bl ++ digsB pl
set_option maxRecDepth 100000 in
set_option maxHeartbeats 1000000 in
theorem appendHeader_w (base : Nat) (v : Value) (k : Nat) (bs : List Int) (au rd : Int) (ba : Option Addr) (bn bc : Nat) (bl : List Part) (pa : Option Addr) (pn pc : Nat) (pl : List Part) (w : World) (ha : 0 ≤ au ∧ au < 4) (hr : 0 ≤ rd ∧ rd ≤ 1048576) (hbn : bn = bl.length) (hpn : pn = pl.length) (hbl : bl.length ≤ 4) (hpl : pl.length ≤ 4) (hb32 : ∀ p ∈ bl, p.bs.length = 32) (hp32 : ∀ p ∈ pl, p.bs.length = 32)
    (hLb : ListAt w ba bc bl) (hOb : OffW w v ba bl) (hLp : ListAt w pa pc pl) (hOp : OffW w v pa pl)
    (ho : w.ownsRow base 5 1 v k (ub bs)) (hB : base ≤ w.heap.size) (hk : k ≤ 80000) :
    Calls Try.prog 64 #[v, .agg #[.int .i64 au, .int .i64 rd, .slice ba bn bc, .slice pa pn pc]] w fun e w' => ∃ v', e = .returned v' ∧ w'.ownsRow base 5 1 v' (k + (headB au rd bl pl).length) (ub (bs ++ headB au rd bl pl)) ∧ Grew w v w' v' := by
  subst hbn hpn
  obtain ⟨i, hi, hz0, hz1, hz2⟩ := info_parts infoU8
  obtain ⟨ha0, ha1⟩ := ha
  have hvne : v.ownBlock ≠ some w.heap.size := fun e => by have := (ho.lt _ e).2; omega
  go_enter Try.func64, Try.ntmps64
  go_wp2_with (at_builtin; refine wpList_append_own_at _ rfl _ _ 22 rfl base 5 i (.int .u8 0) 1 1 Try.underlying22 hi hz0 hz1 hz2 rfl (by decide) _ k _ rfl (World.ownsRow.alloc (World.ownsRow.alloc ho _) _) ⟨w.heap.size + 1, 0, none⟩ 1 1 [.int .u8 au] rfl rfl (by have := cells_new (w.alloc (.cells #[.int .i64 au, .int .i64 rd, .slice ba bl.length bc, .slice pa pl.length pc] 46)) [.int .u8 au] 5; rw [size_alloc] at this; exact this) (u8_one [_]) (by unfold maxLen; omega) (by omega) (le_alloc (le_alloc hB _) _) ?_; intro v1 w1 ho1 hg1 _ hat; have G1 := Grew.of hg1 hat; have r1 := G1.row (heap_alloc2_old w _ _) hvne; have c1 : w1.cell? ⟨w.heap.size, 1, none⟩ = some (.int .i64 rd) := cells_at r1 1 _ rfl)
  have ho1' : w1.ownsRow base 5 1 v1 (k + 1) (ub (bs ++ [au])) := by simpa [ub] using ho1
  have hv1ne : v1.ownBlock ≠ some w.heap.size := fun e => by
    rcases G1.fresh _ e with g | g
    · exact hvne g
    · rw [size_alloc, size_alloc] at g; omega
  have G0 := G1.alloc.alloc
  clear ho1 hg1 hat G1
  refine (appendRound_any base v1 (k + 1) _ rd _ hr ho1' (Nat.le_trans hB G0.grown.size) (by omega)).mono ?_
  rintro e w2 ⟨v2, rfl, ho2, G2⟩
  have r2 := G2.row r1 hv1ne
  have c2 : w2.cell? ⟨w.heap.size, 2, none⟩ = some (.slice ba bl.length bc) := cells_at r2 2 _ rfl
  have hv2ne : v2.ownBlock ≠ some w.heap.size := fun e => by
    rcases G2.fresh _ e with g | g
    · exact hv1ne g
    · have := lt_of_heap r1; omega
  have G02 := G0.trans G2
  have hD1 := appendDigests_w base v2 (k + 1 + 3) _ ba _ bc bl w2 rfl hbl hb32 (G02.listW hLb hOb) (G02.offW hOb) ho2 (Nat.le_trans hB G02.grown.size) (by omega)
  clear r1 c1
  go_wp2_with fail
  refine hD1.mono ?_
  rintro e w3 ⟨v3, rfl, ho3, G3⟩
  have r3 := G3.row r2 hv2ne
  have c3 : w3.cell? ⟨w.heap.size, 3, none⟩ = some (.slice pa pl.length pc) := cells_at r3 3 _ rfl
  have G03 := G02.trans G3
  have hlb := flatB_length bl hb32
  have hD2 := appendDigests_w base v3 (k + 1 + 3 + (digsB bl).length) _ pa _ pc pl w3 rfl hpl hp32 (G03.listW hLp hOp) (G03.offW hOp) ho3 (Nat.le_trans hB G03.grown.size) (by simp [digsB]; omega)
  clear r2 c2 hD1 hlb
  go_wp2_with fail
  refine hD2.mono ?_
  rintro e w4 ⟨v4, rfl, ho4, G4⟩
  go_wp2_with fail
  go_ret
  refine ⟨v4, rfl, ?_, G03.trans G4⟩
  rw [show k + (headB au rd bl pl).length = k + 1 + 3 + (digsB bl).length + (digsB pl).length by simp [headB, rd3]; omega, show bs ++ headB au rd bl pl = bs ++ [au] ++ rd3 rd ++ digsB bl ++ digsB pl by simp [headB]]
  exact ho4
set_option maxRecDepth 100000 in
theorem appendHeader_any (base : Nat) (v : Value) (k : Nat) (bs : List Int) (au rd : Int) (ba : Option Addr) (bn bc : Nat) (bl : List Part) (pa : Option Addr) (pn pc : Nat) (pl : List Part) (w : World) (ha : 0 ≤ au ∧ au < 4) (hr : 0 ≤ rd ∧ rd ≤ 1048576) (hbn : bn = bl.length) (hpn : pn = pl.length) (hbl : bl.length ≤ 4) (hpl : pl.length ≤ 4) (hb32 : ∀ p ∈ bl, p.bs.length = 32) (hp32 : ∀ p ∈ pl, p.bs.length = 32)
    (hLb : ListAt w ba bc bl) (hOb : Off w v ba bl) (hLp : ListAt w pa pc pl) (hOp : Off w v pa pl)
    (ho : w.ownsRow base 5 1 v k (ub bs)) (hB : base ≤ w.heap.size) (hk : k ≤ 80000) :
    Calls Try.prog 64 #[v, .agg #[.int .i64 au, .int .i64 rd, .slice ba bn bc, .slice pa pn pc]] w fun e w' => ∃ v', e = .returned v' ∧ w'.ownsRow base 5 1 v' (k + (headB au rd bl pl).length) (ub (bs ++ headB au rd bl pl)) ∧ Grew w v w' v' :=
  appendHeader_w base v k bs au rd ba bn bc bl pa pn pc pl w ha hr hbn hpn hbl hpl hb32 hp32 hLb hOb.weak hLp hOp.weak ho hB hk
end Go.Proofs.Ytldlknmpkoebbaa

namespace Go.Proofs.Ytldlknmpkoebbaa
open Go.RowKit

set_option maxRecDepth 100000 in
theorem headB_le (au rd : Int) (bl pl : List Part) (hbl : bl.length ≤ 4) (hpl : pl.length ≤ 4) (hb32 : ∀ p ∈ bl, p.bs.length = 32) (hp32 : ∀ p ∈ pl, p.bs.length = 32) : (headB au rd bl pl).length ≤ 300 := by
  have h1 := flatB_length bl hb32
  have h2 := flatB_length pl hp32
  simp [headB, rd3, digsB]; omega
end Go.Proofs.Ytldlknmpkoebbaa

namespace Go.Proofs.Ytldlknmpkoebbaa
open Go.RowKit

/-- P2.9: the bytes of a certificate. -/
def certB (au rd : Int) (bl pl : List Part) (vl : List Int) : List Int := headB au rd bl pl ++ [(vl.length : Int)] ++ vl
set_option maxRecDepth 100000 in
set_option maxHeartbeats 1000000 in
theorem appendCert_w (base : Nat) (v : Value) (k : Nat) (bs : List Int) (au rd : Int) (ba : Option Addr) (bn bc : Nat) (bl : List Part) (pa : Option Addr) (pn pc : Nat) (pl : List Part) (va : Option Addr) (vn vc : Nat) (vl : List Int) (w : World) (ha : 0 ≤ au ∧ au < 4) (hr : 0 ≤ rd ∧ rd ≤ 1048576) (hbn : bn = bl.length) (hpn : pn = pl.length) (hvn : vn = vl.length) (hbl : bl.length ≤ 4) (hpl : pl.length ≤ 4) (hvl : vl.length ≤ 4) (hb32 : ∀ p ∈ bl, p.bs.length = 32) (hp32 : ∀ p ∈ pl, p.bs.length = 32) (hv4 : ∀ x ∈ vl, 0 ≤ x ∧ x < 4)
    (hLb : ListAt w ba bc bl) (hOb : OffW w v ba bl) (hLp : ListAt w pa pc pl) (hOp : OffW w v pa pl) (hI : IntsAt w va vl) (hne : ∀ sb so, va = some ⟨sb, so, none⟩ → sb < w.heap.size ∧ v.ownBlock ≠ some sb)
    (ho : w.ownsRow base 5 1 v k (ub bs)) (hB : base ≤ w.heap.size) (hk : k ≤ 80000) :
    Calls Try.prog 66 #[v, .agg #[.int .i64 au, .int .i64 rd, .slice ba bn bc, .slice pa pn pc, .slice va vn vc]] w fun e w' => ∃ v', e = .returned v' ∧ w'.ownsRow base 5 1 v' (k + (certB au rd bl pl vl).length) (ub (bs ++ certB au rd bl pl vl)) ∧ Grew w v w' v' := by
  subst hvn
  obtain ⟨i, hi, hz0, hz1, hz2⟩ := info_parts infoU8
  have hvne : v.ownBlock ≠ some w.heap.size := fun e => by have := (ho.lt _ e).2; omega
  have hA : Below w.heap.size w (w.alloc (.cells #[.int .i64 au, .int .i64 rd, .slice ba bn bc, .slice pa pn pc, .slice va vl.length vc] 51)) := (Below.refl _ _).alloc (Nat.le_refl _) _
  have hH := appendHeader_w base v k bs au rd ba bn bc bl pa pn pc pl _ ha hr hbn hpn hbl hpl hb32 hp32 (hLb.below hA) (hOb.alloc (.cells #[.int .i64 au, .int .i64 rd, .slice ba bn bc, .slice pa pn pc, .slice va vl.length vc] 51)) (hLp.below hA) (hOp.alloc _) (World.ownsRow.alloc ho _) (le_alloc hB _) hk
  have hle := headB_le au rd bl pl hbl hpl hb32 hp32
  clear hbn hpn
  go_enter Try.func66, Try.ntmps66
  go_wp2_with fail
  refine hH.mono ?_
  rintro e w1 ⟨v1, rfl, ho1, G1⟩
  have r1 := G1.row (heap_alloc_new w _) hvne
  have c4 : w1.cell? ⟨w.heap.size, 4, none⟩ = some (.slice va vl.length vc) := cells_at r1 4 _ rfl
  have hv1ne : v1.ownBlock ≠ some w.heap.size := fun e => by
    rcases G1.fresh _ e with g | g
    · exact hvne g
    · rw [size_alloc] at g; omega
  have G0 := G1.alloc
  clear hH G1
  have hC : certB au rd bl pl vl = headB au rd bl pl ++ [(vl.length : Int)] ++ vl := rfl
  generalize headB au rd bl pl = HB at *
  have HC : Hid (certB au rd bl pl vl = HB ++ [(vl.length : Int)] ++ vl) := hC
  clear hC
  go_wp2_with (at_builtin; refine wpList_append_own_at _ rfl _ _ 22 rfl base 5 i (.int .u8 0) 1 1 Try.underlying22 hi hz0 hz1 hz2 rfl (by decide) _ (k + HB.length) _ rfl (World.ownsRow.alloc ho1 _) ⟨w1.heap.size, 0, none⟩ 1 1 [.int .u8 (vl.length : Int)] rfl rfl (cells_new _ _ _) (u8_one [_]) (by unfold maxLen; omega) (by omega) (le_alloc (Nat.le_trans hB G0.grown.size) _) ?_; intro v2 w2 ho2 hg2 _ hat; have G2 := (Grew.of hg2 hat).alloc; have r2 := G2.row r1 hv1ne; have d4 : w2.cell? ⟨w.heap.size, 4, none⟩ = some (.slice va vl.length vc) := cells_at r2 4 _ rfl)
  have ho2' : w2.ownsRow base 5 1 v2 (k + HB.length + 1) (ub (bs ++ HB ++ [(vl.length : Int)])) := by simpa [ub] using ho2
  have G02 := G0.trans G2
  clear ho2 hg2 hat c4 r1
  go_loopw [21, 0] (fun j t wr => ∃ (m : Nat) (tv : Value), m ≤ vl.length ∧ j = .int .i64 m ∧ tv = t ∧ wr.ownsRow base 5 1 tv (k + HB.length + 1 + m) (ub (bs ++ HB ++ [(vl.length : Int)] ++ vl.take m)) ∧ Grew w v wr tv) (fun j _ _ => vl.length - (intOf j).toNat)
  case atStart => exact ⟨0, _, Nat.zero_le _, rfl, rfl, by simpa using ho2', G02⟩
  case round =>
    clear ho2' G02 r2 d4
    obtain ⟨m, tv, hm, rfl, rfl, ho, G⟩ := hrel
    by_cases hlt : m < vl.length
    · obtain ⟨sb, so, rfl, hc⟩ : ∃ sb so, va = some ⟨sb, so, none⟩ ∧ ∀ j, j < vl.length → w.cell? ⟨sb, so + j, none⟩ = some (.int .i64 (vl.getD j 0)) := by
        rcases hI.cells with h | h
        · rw [h] at hlt; simp at hlt
        · exact h
      have ck0 := hc m hlt
      have ck : wr.cell? ⟨sb, so + m, none⟩ = some (.int .i64 (vl.getD m 0)) := (World.cell?_of_block (G.grown.block sb (block_lt_of_cell ck0) (fun e => (hne sb so rfl).2 e.symm))).trans ck0
      obtain ⟨hx0, hx1⟩ := hv4 (vl.getD m 0) (by simp [List.getD, hlt])
      have hst : Hid (vl.take (m + 1) = vl.take m ++ [vl.getD m 0]) := by
        show _ = _
        rw [List.take_succ_eq_append_getElem hlt]
        simp only [List.getD, List.getElem?_eq_getElem hlt, Option.getD_some]
      have hltI : (m : Int) < vl.length := by omega
      clear hc ck0
      generalize vl.getD m 0 = x at ck hst hx0 hx1
      have hBr : base ≤ wr.heap.size := Nat.le_trans hB G.grown.size
      go_wp2_with (at_builtin; refine wpList_append_own_at _ rfl _ _ 22 rfl base 5 i (.int .u8 0) 1 1 Try.underlying22 hi hz0 hz1 hz2 rfl (by decide) _ (k + HB.length + 1 + m) _ rfl (World.ownsRow.alloc ho _) ⟨wr.heap.size, 0, none⟩ 1 1 [.int .u8 x] rfl rfl (cells_new _ _ _) (u8_one [_]) (by unfold maxLen; omega) (by omega) (le_alloc hBr _) ?_; intro v5 w5 ho5 hg5 _ hat5)
      go_roundw
      case rel =>
        have hR : ∃ (m' : Nat) (tv' : Value), m' ≤ vl.length ∧ (Value.int .i64 ((m : Int) + 1)) = .int .i64 m' ∧ tv' = v5 ∧ w5.ownsRow base 5 1 tv' (k + HB.length + 1 + m') (ub (bs ++ HB ++ [(vl.length : Int)] ++ vl.take m')) ∧ Grew w v w5 tv' :=
          ⟨m + 1, v5, by omega, by go_num, rfl, by rw [hst.out, ← List.append_assoc]; exact owns_snoc ho5, G.trans (Grew.of hg5 hat5).alloc⟩
        first | exact hR | ((repeat apply Exists.intro); exact ⟨hR, rfl⟩)
      case measure => simp [intOf]; omega
    · obtain rfl : m = vl.length := by omega
      rw [List.take_of_length_le (Nat.le_refl _)] at ho
      have hltI : ¬ (vl.length : Int) < vl.length := by omega
      go_wp2_with fail
      go_ret
      refine ⟨_, rfl, ?_, G⟩
      rw [HC.out, show k + (HB ++ [(vl.length : Int)] ++ vl).length = k + HB.length + 1 + vl.length by simp; omega, show bs ++ (HB ++ [(vl.length : Int)] ++ vl) = bs ++ HB ++ [(vl.length : Int)] ++ vl by simp]
      exact ho
set_option maxRecDepth 100000 in
theorem appendCert_any (base : Nat) (v : Value) (k : Nat) (bs : List Int) (au rd : Int) (ba : Option Addr) (bn bc : Nat) (bl : List Part) (pa : Option Addr) (pn pc : Nat) (pl : List Part) (va : Option Addr) (vn vc : Nat) (vl : List Int) (w : World) (ha : 0 ≤ au ∧ au < 4) (hr : 0 ≤ rd ∧ rd ≤ 1048576) (hbn : bn = bl.length) (hpn : pn = pl.length) (hvn : vn = vl.length) (hbl : bl.length ≤ 4) (hpl : pl.length ≤ 4) (hvl : vl.length ≤ 4) (hb32 : ∀ p ∈ bl, p.bs.length = 32) (hp32 : ∀ p ∈ pl, p.bs.length = 32) (hv4 : ∀ x ∈ vl, 0 ≤ x ∧ x < 4)
    (hLb : ListAt w ba bc bl) (hOb : Off w v ba bl) (hLp : ListAt w pa pc pl) (hOp : Off w v pa pl) (hI : IntsAt w va vl) (hne : ∀ sb so, va = some ⟨sb, so, none⟩ → sb < w.heap.size ∧ v.ownBlock ≠ some sb)
    (ho : w.ownsRow base 5 1 v k (ub bs)) (hB : base ≤ w.heap.size) (hk : k ≤ 80000) :
    Calls Try.prog 66 #[v, .agg #[.int .i64 au, .int .i64 rd, .slice ba bn bc, .slice pa pn pc, .slice va vn vc]] w fun e w' => ∃ v', e = .returned v' ∧ w'.ownsRow base 5 1 v' (k + (certB au rd bl pl vl).length) (ub (bs ++ certB au rd bl pl vl)) ∧ Grew w v w' v' :=
  appendCert_w base v k bs au rd ba bn bc bl pa pn pc pl va vn vc vl w ha hr hbn hpn hvn hbl hpl hvl hb32 hp32 hv4 hLb hOb.weak hLp hOp.weak hI hne ho hB hk
end Go.Proofs.Ytldlknmpkoebbaa

namespace Go.Proofs.Ytldlknmpkoebbaa
open Go.RowKit

set_option maxRecDepth 100000 in
theorem digTo1_zero (ps : List Part) (k : Nat) (h : digTo1 ps k = 0) : ∀ j, j < k → digAt ps j = 0 := by
  induction k with
  | zero => intro j hj; omega
  | succ k ih =>
    rw [digTo1] at h
    split at h
    · rename_i h1; exact absurd h h1
    · rename_i h1
      intro j hj
      rcases Nat.lt_or_ge j k with g | g
      · exact ih (by simpa using h1) j g
      · obtain rfl : j = k := by omega
        exact h
set_option maxRecDepth 100000 in
theorem digF_len {ps : List Part} (h : digF ps = 0) : ∀ p ∈ ps, p.bs.length = 32 := by
  intro p hp
  obtain ⟨j, hj, rfl⟩ := List.getElem_of_mem hp
  have h1 := digTo1_zero ps ps.length h j hj
  rw [digAt, partAt_get ps j hj] at h1
  split at h1
  · cases h1
  · rename_i h2; simpa using h2
set_option maxRecDepth 100000 in
theorem headerF_ok {au rd : Int} {bl pl : List Part} (h : headerF au rd bl pl = 0) : (0 ≤ au ∧ au < 4) ∧ (1 ≤ rd ∧ rd ≤ 1048576) ∧ bl.length ≤ 3 ∧ pl.length ≤ 4 ∧ (∀ p ∈ bl, p.bs.length = 32) ∧ (∀ p ∈ pl, p.bs.length = 32) := by
  unfold headerF at h
  split at h
  · cases h
  · split at h
    · cases h
    · split at h
      · rename_i h1; exact absurd h h1
      · split at h
        · rename_i h1; exact absurd h h1
        · rename_i h1 h2 h3 h4
          exact ⟨by omega, by omega, by omega, by omega, digF_len (by simpa using h3), digF_len (by simpa using h4)⟩
end Go.Proofs.Ytldlknmpkoebbaa
