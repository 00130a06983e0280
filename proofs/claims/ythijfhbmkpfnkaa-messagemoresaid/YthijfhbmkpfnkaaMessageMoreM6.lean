/- The voters of raw numbers. -/
import Derived.Test.YthijfhbmkpfnkaaGrew
import Derived.Test.YthijfhbmkpfnkaaLAt
import Derived.Test.YthijfhbmkpfnkaaSx
import Derived.Test.YthijfhbmkpfnkaaMessageMoreM0
import Derived.Test.YthijfhbmkpfnkaaOwnL
import Derived.Test.YthijfhbmkpfnkaaCalls
import Derived.Test.YthijfhbmkpfnkaaRawU
import Derived.Deep.RegionHeld3
import Derived.Deep.CutRange
import Derived.Deep.DeepCutAuto
import Derived.Test.YthijfhbmkpfnkaaBstr
import Derived.Test.YthijfhbmkpfnkaaIv
import Derived.Test.YthijfhbmkpfnkaaPicked
namespace Go.Proofs.Ythijfhbmkpfnkaa
open Go.RowKit

/-- P2.6: a round, or a number: three bytes, the highest one first. -/
def rd3 (n : Int) : List Int := [n / 65536, n / 256 % 256, n % 256]
set_option maxRecDepth 100000 in
set_option maxHeartbeats 400000 in
theorem appendRound_any (base : Nat) (v : Value) (k : Nat) (bs : List Int) (n : Int) (w : World) (hn : 0 ≤ n ∧ n ≤ 1048576) (ho : w.ownsRow base 5 1 v k (ub bs)) (hB : base ≤ w.heap.size) (hk : k ≤ 100000) :
    Calls Try.prog 23 #[v, .int .i64 n] w fun e w' => ∃ v', e = .returned v' ∧ w'.ownsRow base 5 1 v' (k + 3) (ub (bs ++ rd3 n)) ∧ Grew w v w' v' := by
  obtain ⟨i, hi, hz0, hz1, hz2⟩ := info_parts infoU8
  obtain ⟨hn0, hn1⟩ := hn
  go_enter Try.func23, Try.ntmps23
  go_wp2_with (at_builtin; (refine wpList_append_own_at _ rfl _ _ 30 rfl base 5 i (.int .u8 0) 1 1 Try.underlying30 hi hz0 hz1 hz2 rfl (by decide) _ k _ rfl (World.ownsRow.alloc ho _) ⟨w.heap.size, 0, none⟩ 3 3 [.int .u8 (n / 65536), .int .u8 (n / 256 % 256), .int .u8 (n % 256)] rfl rfl (cells_new _ _ _) (u8_one [_, _, _]) (by unfold maxLen; omega) (by omega) (le_alloc hB _) ?_; intro v1 w1 ho1 hg1 _ hat))
  go_ret
  exact ⟨v1, rfl, by simpa [ub, rd3] using ho1, (Grew.of hg1 hat).alloc⟩
end Go.Proofs.Ythijfhbmkpfnkaa

namespace Go.Proofs.Ythijfhbmkpfnkaa
open Go.RowKit

/-- The lists lie apart from a row. -/
structure Off (w : World) (v : Value) (ra : Option Addr) (qs : List Part) : Prop where
  row : ∀ sb so, ra = some ⟨sb, so, none⟩ → sb < w.heap.size ∧ v.ownBlock ≠ some sb
  each : ∀ p ∈ qs, ∀ sb so, p.sa = some ⟨sb, so, none⟩ → sb < w.heap.size ∧ v.ownBlock ≠ some sb
set_option maxRecDepth 100000 in
theorem Grew.off {w w' : World} {v v' : Value} {ra : Option Addr} {qs : List Part} (h : Grew w v w' v') (hO : Off w v ra qs) : Off w' v' ra qs := by
  have one : ∀ sb, sb < w.heap.size ∧ v.ownBlock ≠ some sb → sb < w'.heap.size ∧ v'.ownBlock ≠ some sb := fun sb ⟨h1, h2⟩ =>
    ⟨Nat.lt_of_lt_of_le h1 h.grown.size, fun e => by
      rcases h.fresh sb e with g | g
      · exact h2 g
      · omega⟩
  exact ⟨fun sb so e => one sb (hO.row sb so e), fun p hp sb so e => one sb (hO.each p hp sb so e)⟩
set_option maxRecDepth 100000 in
theorem Grew.list {w w' : World} {v v' : Value} {ra : Option Addr} {rc : Nat} {qs : List Part} (h : Grew w v w' v') (hL : ListAt w ra rc qs) (hO : Off w v ra qs) : ListAt w' ra rc qs := by
  refine ⟨hL.le, hL.max, hL.small, hL.some, ⟨?_, fun p hp => h.slice (hL.parts.each p hp) (fun sb so e => (hO.each p hp sb so e).2)⟩⟩
  rcases hL.parts.cells with hc | ⟨sb, so, rfl, hc⟩
  · exact .inl hc
  · exact .inr ⟨sb, so, rfl, fun j hj => (World.cell?_of_block (h.grown.block sb (block_lt_of_cell (hc j hj)) (fun e => (hO.row sb so rfl).2 e.symm))).trans (hc j hj)⟩
set_option maxRecDepth 100000 in
theorem Off.alloc {w : World} {v : Value} {ra : Option Addr} {qs : List Part} (h : Off w v ra qs) (o : Obj) : Off (w.alloc o) v ra qs :=
  ⟨fun sb so e => ⟨by have := (h.row sb so e).1; rw [size_alloc]; omega, (h.row sb so e).2⟩, fun p hp sb so e => ⟨by have := (h.each p hp sb so e).1; rw [size_alloc]; omega, (h.each p hp sb so e).2⟩⟩
/-- The same, of what is not empty alone: nothing else is read. -/
structure OffW (w : World) (v : Value) (ra : Option Addr) (qs : List Part) : Prop where
  row : ∀ sb so, ra = some ⟨sb, so, none⟩ → qs ≠ [] → sb < w.heap.size ∧ v.ownBlock ≠ some sb
  each : ∀ p ∈ qs, ∀ sb so, p.sa = some ⟨sb, so, none⟩ → p.bs ≠ [] → sb < w.heap.size ∧ v.ownBlock ≠ some sb
set_option maxRecDepth 100000 in
theorem Off.weak {w : World} {v : Value} {ra : Option Addr} {qs : List Part} (h : Off w v ra qs) : OffW w v ra qs := ⟨fun sb so e _ => h.row sb so e, fun p hp sb so e _ => h.each p hp sb so e⟩
set_option maxRecDepth 100000 in
theorem Grew.offW {w w' : World} {v v' : Value} {ra : Option Addr} {qs : List Part} (h : Grew w v w' v') (hO : OffW w v ra qs) : OffW w' v' ra qs := by
  have one : ∀ sb, sb < w.heap.size ∧ v.ownBlock ≠ some sb → sb < w'.heap.size ∧ v'.ownBlock ≠ some sb := fun sb ⟨h1, h2⟩ =>
    ⟨Nat.lt_of_lt_of_le h1 h.grown.size, fun e => by
      rcases h.fresh sb e with g | g
      · exact h2 g
      · omega⟩
  exact ⟨fun sb so e n => one sb (hO.row sb so e n), fun p hp sb so e n => one sb (hO.each p hp sb so e n)⟩
set_option maxRecDepth 100000 in
theorem Grew.listW {w w' : World} {v v' : Value} {ra : Option Addr} {rc : Nat} {qs : List Part} (h : Grew w v w' v') (hL : ListAt w ra rc qs) (hO : OffW w v ra qs) : ListAt w' ra rc qs := by
  refine ⟨hL.le, hL.max, hL.small, hL.some, ⟨?_, fun p hp => ?_⟩⟩
  · rcases hL.parts.cells with hc | ⟨sb, so, rfl, hc⟩
    · exact .inl hc
    · exact .inr ⟨sb, so, rfl, fun j hj => (World.cell?_of_block (h.grown.block sb (block_lt_of_cell (hc j hj)) (fun e => (hO.row sb so rfl (fun h0 => by rw [h0] at hj; simp at hj)).2 e.symm))).trans (hc j hj)⟩
  · have hs := hL.parts.each p hp
    by_cases hz : p.bs = []
    · exact ⟨hs.le, hs.max, hs.some, hs.nil, .inl hz⟩
    · exact h.slice hs (fun sb so e => (hO.each p hp sb so e hz).2)
set_option maxRecDepth 100000 in
theorem OffW.alloc {w : World} {v : Value} {ra : Option Addr} {qs : List Part} (h : OffW w v ra qs) (o : Obj) : OffW (w.alloc o) v ra qs :=
  ⟨fun sb so e n => ⟨by have := (h.row sb so e n).1; rw [size_alloc]; omega, (h.row sb so e n).2⟩, fun p hp sb so e n => ⟨by have := (h.each p hp sb so e n).1; rw [size_alloc]; omega, (h.each p hp sb so e n).2⟩⟩
set_option maxRecDepth 100000 in
/-- A list that lies somewhere lies apart from all that is new. -/
theorem offW_of_list {w w' : World} {v : Value} {ra : Option Addr} {rc : Nat} {qs : List Part} (h : ListAt w ra rc qs) (hs : w.heap.size ≤ w'.heap.size) (hv : ∀ sb, sb < w.heap.size → v.ownBlock ≠ some sb) : OffW w' v ra qs := by
  refine ⟨fun sb so e n => ?_, fun p hp sb so e n => ?_⟩
  · rcases h.parts.cells with hc | ⟨sb', so', e', hc⟩
    · exact absurd hc n
    · obtain rfl : sb' = sb := by rw [e] at e'; simp at e'; exact e'.1.symm
      have hl := block_lt_of_cell (hc 0 (by cases qs with | nil => exact absurd rfl n | cons _ _ => simp))
      exact ⟨Nat.lt_of_lt_of_le hl hs, hv _ hl⟩
  · rcases (h.parts.each p hp).bytes with hc | ⟨sb', so', e', hc⟩
    · exact absurd hc n
    · obtain rfl : sb' = sb := by rw [e] at e'; simp at e'; exact e'.1.symm
      have hl := block_lt_of_cell (hc 0 (by cases hb : p.bs with | nil => exact absurd hb n | cons _ _ => simp))
      exact ⟨Nat.lt_of_lt_of_le hl hs, hv _ hl⟩
/-- The bytes of lists, one behind the other. -/
def flatB : List Part → List Int
  | [] => []
  | p :: l => p.bs ++ flatB l
set_option maxRecDepth 100000 in
theorem flatB_snoc (l : List Part) (p : Part) : flatB (l ++ [p]) = flatB l ++ p.bs := by
  induction l with
  | nil => simp [flatB]
  | cons x l ih => simp [flatB, ih]
set_option maxRecDepth 100000 in
theorem flatB_length (l : List Part) (h : ∀ p ∈ l, p.bs.length = 32) : (flatB l).length = 32 * l.length := by
  induction l with
  | nil => simp [flatB]
  | cons x l ih =>
    have h1 := h x (by simp)
    have h2 := ih (fun s hs => h s (by simp [hs]))
    simp [flatB, h1, h2]; omega
/-- P2.6: how many there are, and these. -/
def digsB (l : List Part) : List Int := (l.length : Int) :: flatB l
set_option maxRecDepth 100000 in
set_option maxHeartbeats 1000000 in
theorem appendDigests_w (base : Nat) (v : Value) (k : Nat) (bs : List Int) (sa : Option Addr) (n cap : Nat) (qs : List Part) (w : World) (hn : n = qs.length) (hl : qs.length ≤ 4) (h32 : ∀ p ∈ qs, p.bs.length = 32) (hL : ListAt w sa cap qs) (hO : OffW w v sa qs)
    (ho : w.ownsRow base 5 1 v k (ub bs)) (hB : base ≤ w.heap.size) (hk : k ≤ 90000) :
    Calls Try.prog 34 #[v, .slice sa n cap] w fun e w' => ∃ v', e = .returned v' ∧ w'.ownsRow base 5 1 v' (k + (digsB qs).length) (ub (bs ++ digsB qs)) ∧ Grew w v w' v' := by
  subst hn
  obtain ⟨i, hi, hz0, hz1, hz2⟩ := info_parts infoU8
  go_enter Try.func34, Try.ntmps34
  go_wp2_with (at_builtin; refine wpList_append_own_at _ rfl _ _ 30 rfl base 5 i (.int .u8 0) 1 1 Try.underlying30 hi hz0 hz1 hz2 rfl (by decide) _ k _ rfl (World.ownsRow.alloc ho _) ⟨w.heap.size, 0, none⟩ 1 1 [.int .u8 (qs.length : Int)] rfl rfl (cells_new _ _ _) (u8_one [_]) (by unfold maxLen; omega) (by omega) (le_alloc hB _) ?_; intro v1 w1 ho1 hg1 _ hat; have G1 := (Grew.of hg1 hat).alloc)
  have ho1' : w1.ownsRow base 5 1 v1 (k + 1) (ub (bs ++ [(qs.length : Int)])) := by simpa [ub] using ho1
  clear ho1 hg1 hat
  go_loopw [15, 0] (fun j t wr => ∃ (m : Nat) (tv : Value), m ≤ qs.length ∧ j = .int .i64 m ∧ tv = t ∧ wr.ownsRow base 5 1 tv (k + 1 + (flatB (qs.take m)).length) (ub (bs ++ [(qs.length : Int)] ++ flatB (qs.take m))) ∧ Grew w v wr tv) (fun j _ _ => qs.length - (intOf j).toNat)
  case atStart => exact ⟨0, _, Nat.zero_le _, rfl, rfl, by simpa [flatB] using ho1', G1⟩
  case round =>
    clear ho1' G1
    obtain ⟨m, tv, hm, rfl, rfl, ho, G⟩ := hrel
    by_cases hlt : m < qs.length
    · have hLr := G.listW hL hO
      obtain ⟨sb, so, rfl, hc⟩ : ∃ sb so, sa = some ⟨sb, so, none⟩ ∧ ∀ j (h : j < qs.length), wr.cell? ⟨sb, so + j, none⟩ = some (.slice (qs[j]).sa (qs[j]).bs.length (qs[j]).cap) := by
        rcases hLr.parts.cells with h | h
        · subst h; simp at hlt
        · exact h
      have ck := hc m hlt
      have hp := hLr.parts.each qs[m] (List.getElem_mem hlt)
      have hp32 := h32 qs[m] (List.getElem_mem hlt)
      have hst : Hid (flatB (qs.take (m + 1)) = flatB (qs.take m) ++ (qs[m]).bs) := by
        show _ = _
        rw [List.take_succ_eq_append_getElem hlt, flatB_snoc]
      have hLe : (flatB (qs.take m)).length ≤ 128 := by
        rw [flatB_length _ (fun p h => h32 p (List.mem_of_mem_take h)), List.length_take]; omega
      have hltI : (m : Int) < qs.length := by omega
      clear hc hLr
      generalize qs[m] = p at *
      generalize flatB (qs.take m) = T at ho hst hLe
      have hBr : base ≤ wr.heap.size := Nat.le_trans hB G.grown.size
      have H32 : Hid (p.bs.length = 32) := hp32
      have hle : p.bs.length ≤ 32 := by omega
      clear hp32
      go_wp2_with (at_builtin; refine wpList_append_part_at rfl _ _ rfl base tv (k + 1 + T.length) _ rfl ho p.sa p.bs.length p.cap p.bs rfl rfl hp (by omega) hBr ?_; intro v5 w5 ho5 G5)
      go_roundw
      case rel =>
        have hR : ∃ (m' : Nat) (tv' : Value), m' ≤ qs.length ∧ (Value.int .i64 ((m : Int) + 1)) = .int .i64 m' ∧ tv' = v5 ∧ w5.ownsRow base 5 1 tv' (k + 1 + (flatB (qs.take m')).length) (ub (bs ++ [(qs.length : Int)] ++ flatB (qs.take m'))) ∧ Grew w v w5 tv' :=
          ⟨m + 1, v5, by omega, by go_num, rfl, by rw [hst.out, List.length_append, ← Nat.add_assoc]; simpa using ho5, G.trans G5⟩
        first | exact hR | ((repeat apply Exists.intro); exact ⟨hR, rfl⟩)
      case measure => simp [intOf]; omega
    · obtain rfl : m = qs.length := by omega
      rw [List.take_of_length_le (Nat.le_refl _)] at ho
      have hltI : ¬ (qs.length : Int) < qs.length := by omega
      go_wp2_with fail
      go_ret
      refine ⟨_, rfl, ?_, G⟩
      rw [show k + (digsB qs).length = k + 1 + (flatB qs).length by simp [digsB]; omega, show bs ++ digsB qs = bs ++ [(qs.length : Int)] ++ flatB qs by simp [digsB]]
      exact ho
set_option maxRecDepth 100000 in
theorem appendDigests_any (base : Nat) (v : Value) (k : Nat) (bs : List Int) (sa : Option Addr) (n cap : Nat) (qs : List Part) (w : World) (hn : n = qs.length) (hl : qs.length ≤ 4) (h32 : ∀ p ∈ qs, p.bs.length = 32) (hL : ListAt w sa cap qs) (hO : Off w v sa qs)
    (ho : w.ownsRow base 5 1 v k (ub bs)) (hB : base ≤ w.heap.size) (hk : k ≤ 90000) :
    Calls Try.prog 34 #[v, .slice sa n cap] w fun e w' => ∃ v', e = .returned v' ∧ w'.ownsRow base 5 1 v' (k + (digsB qs).length) (ub (bs ++ digsB qs)) ∧ Grew w v w' v' :=
  appendDigests_w base v k bs sa n cap qs w hn hl h32 hL hO.weak ho hB hk
end Go.Proofs.Ythijfhbmkpfnkaa

namespace Go.Proofs.Ythijfhbmkpfnkaa
open Go.RowKit

/-- The batches of a raw header. -/
def hBats (rc : Int) : List (List Int) := (List.range (pk rc 4).toNat).map fun (i : Nat) => someL rc i
/-- The parents of a raw header. -/
def hPars (ra rb rc : Int) : List (List Int) := if pk rb 9 = 0 then [] else (List.range (3 + pk rc 2).toNat).map fun (i : Nat) => someL ra (10 + i)
set_option maxRecDepth 100000 in
theorem Apart.far {w : World} {B : Nat} {v : Value} {qs : List Part} (h : Apart w B v qs) (b j : Nat) (x : Value) (hb : b < B) : Apart (w.setCell ⟨b, j, none⟩ x) B v qs := fun p hp => by
  obtain ⟨h1, h2⟩ := h p hp
  refine ⟨⟨h1.le, h1.max, h1.some, h1.nil, ?_⟩, fun sb so e => ?_⟩
  · rcases h1.bytes with hc | ⟨sb, so, e, hc⟩
    · exact .inl hc
    · exact .inr ⟨sb, so, e, fun k hk => (World.cell?_setCell_far _ _ _ _ (by have := (h2 sb so e).1; show b ≠ sb; omega)).trans (hc k hk)⟩
  · obtain ⟨a1, a2, a3⟩ := h2 sb so e
    exact ⟨a1, by simpa using a2, a3⟩
set_option maxRecDepth 100000 in
theorem Off.far {w : World} {v : Value} {ra : Option Addr} {qs : List Part} (h : Off w v ra qs) (b j : Nat) (x : Value) : Off (w.setCell ⟨b, j, none⟩ x) v ra qs :=
  ⟨fun sb so e => ⟨by simpa using (h.row sb so e).1, (h.row sb so e).2⟩, fun p hp sb so e => ⟨by simpa using (h.each p hp sb so e).1, (h.each p hp sb so e).2⟩⟩
set_option maxRecDepth 100000 in
theorem Off.below {w w' : World} {v : Value} {ra : Option Addr} {qs : List Part} (h : Off w v ra qs) (hb : Below w.heap.size w w') : Off w' v ra qs :=
  ⟨fun sb so e => ⟨Nat.lt_of_lt_of_le (h.row sb so e).1 hb.size, (h.row sb so e).2⟩, fun p hp sb so e => ⟨Nat.lt_of_lt_of_le (h.each p hp sb so e).1 hb.size, (h.each p hp sb so e).2⟩⟩
set_option maxRecDepth 100000 in
theorem off_of_owns {w : World} {base m : Nat} {e : TypeId} {xs : List Value} {ra : Option Addr} {rc : Nat} {qs : List Part} (h : w.ownsRow base e 1 (.slice ra m rc) m xs) (ha : Apart w base (.slice ra m rc) qs) : Off w (.slice none 0 0) ra qs :=
  ⟨fun sb so e => ⟨by subst e; exact (h.lt sb rfl).2, fun e => by cases e⟩, fun p hp sb so e => ⟨((ha p hp).2 sb so e).2.1, fun e => by cases e⟩⟩
set_option maxRecDepth 100000 in
theorem apart_nil (w : World) (B : Nat) (v : Value) : Apart w B v [] := fun p hp => by cases hp
set_option maxRecDepth 100000 in
set_option maxHeartbeats 2000000 in
theorem header_raw2 (ki ra rb rc : Int) (sa : Option Addr) (n cap : Nat) (w : World) (h2 : I64 ra) (h3 : I64 rb) (h4 : I64 rc) :
    Calls Try.prog 16 #[.agg #[.int .i64 ki, .int .i64 ra, .int .i64 rb, .int .i64 rc, .slice sa n cap]] w fun e w' => ∃ ba bc bl pa pc pl, e = .returned (.agg #[.int .i64 (pk ra 4), .int .i64 (1 + pk rb 9), .slice ba (List.length bl) bc, .slice pa (List.length pl) pc]) ∧ ListAt w' ba bc bl ∧ ListAt w' pa pc pl ∧ Off w' (.slice none 0 0) ba bl ∧ Off w' (.slice none 0 0) pa pl ∧ bl.map (·.bs) = hBats rc ∧ pl.map (·.bs) = hPars ra rb rc ∧ Below w.heap.size w w' ∧ Fresh w.heap.size ba bl ∧ Fresh w.heap.size pa pl := by
  obtain ⟨pa0, pa1⟩ := pk_bounds ra 4 (by decide)
  obtain ⟨pb0, pb1⟩ := pk_bounds rb 9 (by decide)
  obtain ⟨pc0, pc1⟩ := pk_bounds rc 4 (by decide)
  obtain ⟨pd0, pd1⟩ := pk_bounds rc 2 (by decide)
  have q0 := heap_alloc2_old w (.cells #[.int .i64 ki, .int .i64 ra, .int .i64 rb, .int .i64 rc, .slice sa n cap] 24) (.cells #[.int .i64 0, .int .i64 0, .slice none 0 0, .slice none 0 0] 29)
  have k1 := cells_at q0 1 _ rfl
  have k2 := cells_at q0 2 _ rfl
  have hw : IntKind.i64.wrap (1 + pk rb 9) = 1 + pk rb 9 := by rw [IntKind.wrap_i64]; omega
  go_enter Try.func16, Try.ntmps16
  go_upto_region 1 with (fail)
  go_cut [3] (fun v wx => v = .pointer (some ⟨w.heap.size + 2, 0, none⟩) ∧ Below w.heap.size w wx ∧ wx.heap[w.heap.size]? = some (.cells #[.int .i64 ki, .int .i64 ra, .int .i64 rb, .int .i64 rc, .slice sa n cap] 24 (0, 0)) ∧ wx.heap[w.heap.size + 1]? = some (.cells #[.int .i64 0, .int .i64 0, .slice none 0 0, .slice none 0 0] 29 (0, 0)) ∧ wx.heap[w.heap.size + 2]? = some (.cells #[.int .i64 (pk ra 4), .int .i64 (1 + pk rb 9), .slice none 0 0, .slice none 0 0] 29 (0, 0)))
  case first =>
    go_region_held3 (fun w' => w'.cell? ⟨w.heap.size, 1, none⟩ = some (.int .i64 ra) ∧ w'.cell? ⟨w.heap.size, 2, none⟩ = some (.int .i64 rb)) (go_keep) (first | (go_at_call 14; refine (picked_any _ _ _ (by first | exact h2.1 | exact h3.1) (by first | exact h2.2 | exact h3.2) (by omega) (by omega)).mono ?_; rintro e w9 ⟨rfl, rfl⟩))
    all_goals
      go_wp2_with fail
      go_meet
      case rel =>
        refine ⟨rfl, ((((Below.refl _ _).alloc (Nat.le_refl _) _).alloc (by simp) _).alloc (by simp; omega) _).drew, ?_, ?_, ?_⟩
        · exact heap_keep (heap_keep (heap_alloc_new w _))
        · exact heap_keep (heap_new_at _ _ _ (by simp))
        · exact heap_new_at _ _ _ (by simp)
  case rest =>
    obtain ⟨rfl, hW, r0, r1, r2⟩ := hcut
    clear k1 k2 q0 hw
    obtain ⟨i, hi, hz0, hz1, hz2⟩ := info_parts infoBs
    have hent := enters_of Try.func17 (by kernel_rfl) rfl
    have Hent : Hid _ := hent
    clear hent
    go_wp2_with fail
    go_loopw [4] (fun j wr => ∃ (k : Nat) (v : Value) (qs : List Part), (k : Int) ≤ pk rc 4 ∧ j = .int .i64 k ∧ Below w.heap.size w wr ∧ wr.heap[w.heap.size]? = some (.cells #[.int .i64 ki, .int .i64 ra, .int .i64 rb, .int .i64 rc, .slice sa n cap] 24 (0, 0)) ∧ wr.heap[w.heap.size + 1]? = some (.cells #[.int .i64 0, .int .i64 0, .slice none 0 0, .slice none 0 0] 29 (0, 0)) ∧ wr.heap[w.heap.size + 2]? = some (.cells #[.int .i64 (pk ra 4), .int .i64 (1 + pk rb 9), v, .slice none 0 0] 29 (0, 0)) ∧ wr.ownsRow (w.heap.size + 3) 30 1 v k (pv qs) ∧ Apart wr (w.heap.size + 3) v qs ∧ Hid (qs.map (·.bs) = (List.range k).map fun (i : Nat) => someL rc i)) (fun j _ => (pk rc 4 - intOf j).toNat)
    case atStart => exact ⟨0, _, [], by omega, rfl, hW, r0, r1, r2, World.ownsRow_nil _ _ _ _, apart_nil _ _ _, by show _ = _; simp⟩
    case round =>
      clear hW r0 r1 r2
      obtain ⟨k, v, qs, hk, rfl, hW, r0, r1, r2, ho, hap, hst⟩ := hrel
      have c3 : wr.cell? ⟨w.heap.size, 3, none⟩ = some (.int .i64 rc) := cells_at r0 3 _ rfl
      have o2 : wr.cell? ⟨w.heap.size + 2, 2, none⟩ = some v := cells_at r2 2 _ rfl
      have of2 := frozen_at r2 2
      have hN : w.heap.size + 2 < wr.heap.size := lt_of_heap r2
      by_cases hlt : (k : Int) < pk rc 4
      · have hvb : v.ownBlock ≠ some (w.heap.size + 2) := fun e => by have := (ho.lt _ e).1; omega
        have hv0 : v.ownBlock ≠ some w.heap.size := fun e => by have := (ho.lt _ e).1; omega
        have hv1 : v.ownBlock ≠ some (w.heap.size + 1) := fun e => by have := (ho.lt _ e).1; omega
        go_wp2_with (go_at_call 14; refine (picked_any rc 4 _ h4.1 h4.2 (by omega) (by omega)).mono ?_; rintro e w9 ⟨rfl, rfl⟩)
        go_region_law (first | (refine step_calls rfl 17 _ _ rfl [.int .i64 rc, .int .i64 k] rfl Hent.out (fun u w9 => u = .slice (some ⟨wr.heap.size, 0, none⟩) 32 32 ∧ w9.ownsRow wr.heap.size 5 1 u 32 (ub (someL rc k)) ∧ Below wr.heap.size wr w9) ((some_any rc k _ h4).mono (fun e w9 ⟨he, ho9, hb9⟩ => ⟨_, he, rfl, ho9, below_drew hb9⟩)) ?_; rintro u w9 ⟨rfl, ho9, hb9⟩; have s0 := (hb9.block _ (lt_of_heap r0)).trans r0; have s1 := (hb9.block _ (lt_of_heap r1)).trans r1; have s2 := (hb9.block _ (lt_of_heap r2)).trans r2; have p2 : w9.cell? ⟨w.heap.size + 2, 2, none⟩ = some v := cells_at s2 2 _ rfl; have p3 : w9.cell? ⟨w.heap.size, 3, none⟩ = some (.int .i64 rc) := cells_at s0 3 _ rfl; have pf2 := frozen_at s2 2; have hN9 : w.heap.size + 2 < w9.heap.size := lt_of_heap s2; have ho9' := owns_keep ho hb9) | (refine step_append_at rfl _ _ 27 rfl (w.heap.size + 3) 30 i (.slice none 0 0) 1 24 Try.underlying27 hi hz0 hz1 hz2 rfl (by decide) _ k _ rfl (World.ownsRow.alloc ho9' _) ⟨w9.heap.size, 0, none⟩ 1 1 [.slice (some ⟨wr.heap.size, 0, none⟩) 32 32] rfl rfl (cells_new _ _ _) (by intro u hu; simp at hu; subst hu; rfl) (by unfold maxLen; omega) (by omega) (le_alloc hN9 _) ?_; intro v1 w3 ho3 G3; have t0 := G3.row (heap_keep s0) hv0; have t1 := G3.row (heap_keep s1) hv1; have t2 := G3.row (heap_keep s2) hvb; have g2 : w3.cell? ⟨w.heap.size + 2, 2, none⟩ = some v := cells_at t2 2 _ rfl; have gf2 := frozen_at t2 2; obtain ⟨qa, qc, hq⟩ := owns_shape ho3; subst hq))
        all_goals
          go_wp2_with fail
          go_roundw
          case rel =>
            have hb3 : Below w.heap.size w w3 := (hW.trans (hb9.mono hW.size)).trans (G3.alloc.below (Nat.le_trans hW.size hb9.size) (fun q e => by have := (ho9'.lt q e).1; omega))
            have hs9 := (sliceAt_of_owns ho9).2
            have hap3 := hap.more (q := ⟨some ⟨wr.heap.size, 0, none⟩, 32, someL rc k⟩) (by omega) ho hb9 ho9 hs9 G3
            have hR : ∃ (k' : Nat) (v' : Value) (qs' : List Part), (k' : Int) ≤ pk rc 4 ∧ (Value.int .i64 ((k : Int) + 1)) = .int .i64 k' ∧ Below w.heap.size w (w3.setCell ⟨w.heap.size + 2, 2, none⟩ (.slice qa (k + 1) qc)) ∧ (w3.setCell ⟨w.heap.size + 2, 2, none⟩ (.slice qa (k + 1) qc)).heap[w.heap.size]? = some (.cells #[.int .i64 ki, .int .i64 ra, .int .i64 rb, .int .i64 rc, .slice sa n cap] 24 (0, 0)) ∧ (w3.setCell ⟨w.heap.size + 2, 2, none⟩ (.slice qa (k + 1) qc)).heap[w.heap.size + 1]? = some (.cells #[.int .i64 0, .int .i64 0, .slice none 0 0, .slice none 0 0] 29 (0, 0)) ∧ (w3.setCell ⟨w.heap.size + 2, 2, none⟩ (.slice qa (k + 1) qc)).heap[w.heap.size + 2]? = some (.cells #[.int .i64 (pk ra 4), .int .i64 (1 + pk rb 9), v', .slice none 0 0] 29 (0, 0)) ∧ (w3.setCell ⟨w.heap.size + 2, 2, none⟩ (.slice qa (k + 1) qc)).ownsRow (w.heap.size + 3) 30 1 v' k' (pv qs') ∧ Apart (w3.setCell ⟨w.heap.size + 2, 2, none⟩ (.slice qa (k + 1) qc)) (w.heap.size + 3) v' qs' ∧ Hid (qs'.map (·.bs) = (List.range k').map fun (i : Nat) => someL rc i) :=
              ⟨k + 1, .slice qa (k + 1) qc, qs ++ [⟨some ⟨wr.heap.size, 0, none⟩, 32, someL rc k⟩], by omega, by go_num, hb3.setCell (by simp) _, heap_far t0 (by omega), heap_far t1 (by omega), by simpa using heap_setCell_same _ _ 2 _ _ (.slice qa (k + 1) qc) t2, owns_far (by simpa [pv, Part.val, someL_length] using ho3) _ _ _ (by omega), hap3.far _ _ _ (by omega), by show _ = _; rw [List.map_append, hst.out, List.range_succ, List.map_append]; rfl⟩
            first | exact hR | ((repeat apply Exists.intro); exact ⟨hR, rfl⟩)
          case measure => simp [intOf]; omega
      · have hkI : (k : Int) = pk rc 4 := by omega
        obtain ⟨ba, bc, hv, hl, hL, hFr⟩ := listAt_of_owns ho hap
        subst hv
        have hL' := hL (by omega)
        have hOf := off_of_owns ho hap
        have hbs : Hid (qs.map (·.bs) = hBats rc) := by show _ = _; rw [hst.out, hBats, ← hkI]; rfl
        have Hl : Hid (k = qs.length) := hl
        have Hk : Hid ((k : Int) = pk rc 4) := hkI
        have hk3 : k ≤ 3 := by omega
        clear hl hkI hL hst
        have d0 : wr.cell? ⟨w.heap.size + 1, 0, none⟩ = some (.int .i64 0) := cells_at r1 0 _ rfl
        have d1 : wr.cell? ⟨w.heap.size + 1, 1, none⟩ = some (.int .i64 0) := cells_at r1 1 _ rfl
        have d2 : wr.cell? ⟨w.heap.size + 1, 2, none⟩ = some (.slice none 0 0) := cells_at r1 2 _ rfl
        have d3 : wr.cell? ⟨w.heap.size + 1, 3, none⟩ = some (.slice none 0 0) := cells_at r1 3 _ rfl
        have f0 := frozen_at r1 0
        have f1 := frozen_at r1 1
        have f2 := frozen_at r1 2
        have f3 := frozen_at r1 3
        have e0 : wr.cell? ⟨w.heap.size + 2, 0, none⟩ = some (.int .i64 (pk ra 4)) := cells_at r2 0 _ rfl
        have e1 : wr.cell? ⟨w.heap.size + 2, 1, none⟩ = some (.int .i64 (1 + pk rb 9)) := cells_at r2 1 _ rfl
        have e3 : wr.cell? ⟨w.heap.size + 2, 3, none⟩ = some (.slice none 0 0) := cells_at r2 3 _ rfl
        by_cases hrd : pk rb 9 = 0
        · have hps : Hid (hPars ra rb rc = []) := by show _ = _; rw [hPars, if_pos hrd]
          have hrI : ¬ (1 : Int) < 1 + pk rb 9 := by omega
          have Hrd : Hid (pk rb 9 = 0) := hrd
          clear hrd
          go_wp2_with (go_at_call 14; refine (picked_any rc 4 _ h4.1 h4.2 (by omega) (by omega)).mono ?_; rintro e w9 ⟨rfl, rfl⟩)
          have g1 : w.heap.size + 1 < w.heap.size + 3 := by omega
          refine bodyPost_ret (v := .agg #[.int .i64 (pk ra 4), .int .i64 (1 + pk rb 9), .slice ba k bc, .slice none 0 0]) (by simp [results, Try.results16, go_sem, d0, d1, d2, d3]) rfl ?_
          refine ⟨ba, bc, qs, none, 0, [], by rw [← Hl.out]; rfl, ?_, ?_, ?_, ?_, hbs.out, by rw [hps.out]; rfl, ?_, ⟨fun sb so e => by have := hFr.row sb so e; omega, fun p hp sb so e => by have := hFr.each p hp sb so e; omega⟩, ⟨(fun sb so e => by cases e), (fun p hp => by cases hp)⟩⟩
          · exact (((hL'.setCell hFr _ _ _ g1).setCell hFr _ _ _ g1).setCell hFr _ _ _ g1).setCell hFr _ _ _ g1
          · exact ⟨Nat.le_refl _, by decide, by decide, .inl rfl, ⟨.inl rfl, fun p hp => by cases hp⟩⟩
          · exact (((hOf.far _ _ _).far _ _ _).far _ _ _).far _ _ _
          · exact ⟨(fun sb so e => by cases e), (fun p hp => by cases hp)⟩
          · exact ((((hW.setCell (by simp) _).setCell (by simp) _).setCell (by simp) _).setCell (by simp) _)
        · have hrI : (1 : Int) < 1 + pk rb 9 := by omega
          have hps : Hid (hPars ra rb rc = (List.range (3 + pk rc 2).toNat).map fun (i : Nat) => someL ra (10 + i)) := by show _ = _; rw [hPars, if_neg hrd]
          go_wp2_with (go_at_call 14; refine (picked_any rc 4 _ h4.1 h4.2 (by omega) (by omega)).mono ?_; rintro e w9 ⟨rfl, rfl⟩)
          rename World => wl
          have hoff0 : Off wl (.slice none 0 0) ba qs := hOf
          have hwl : w.heap.size + 3 ≤ wl.heap.size := hN
          go_loopw [5] (fun j wr => ∃ (m : Nat) (v : Value) (ps : List Part), (m : Int) ≤ 3 + pk rc 2 ∧ j = .int .i64 m ∧ Below w.heap.size w wr ∧ wr.heap[w.heap.size]? = some (.cells #[.int .i64 ki, .int .i64 ra, .int .i64 rb, .int .i64 rc, .slice sa n cap] 24 (0, 0)) ∧ wr.heap[w.heap.size + 1]? = some (.cells #[.int .i64 0, .int .i64 0, .slice none 0 0, .slice none 0 0] 29 (0, 0)) ∧ wr.heap[w.heap.size + 2]? = some (.cells #[.int .i64 (pk ra 4), .int .i64 (1 + pk rb 9), .slice ba k bc, v] 29 (0, 0)) ∧ wr.ownsRow wl.heap.size 30 1 v m (pv ps) ∧ Apart wr wl.heap.size v ps ∧ Hid (ps.map (·.bs) = (List.range m).map fun (i : Nat) => someL ra (10 + i)) ∧ ListAt wr ba bc qs ∧ Off wr v ba qs ∧ wl.heap.size ≤ wr.heap.size) (fun j _ => (3 + pk rc 2 - intOf j).toNat)
          case atStart => exact ⟨0, _, [], by omega, rfl, hW, r0, r1, r2, World.ownsRow_nil _ _ _ _, apart_nil _ _ _, (by show _ = _; simp), hL', hoff0, Nat.le_refl _⟩
          case round =>
            clear hW r0 r1 r2 hap ho hL' hOf hoff0 c3 o2 of2 hN d0 d1 d2 d3 f0 f1 f2 f3 e0 e1 e3
            obtain ⟨m, v, ps, hm, rfl, hW, r0, r1, r2, ho, hap, hst, hLb, hOb, hBl⟩ := hrel
            have c3 : wr.cell? ⟨w.heap.size, 3, none⟩ = some (.int .i64 rc) := cells_at r0 3 _ rfl
            have c1 : wr.cell? ⟨w.heap.size, 1, none⟩ = some (.int .i64 ra) := cells_at r0 1 _ rfl
            have o3 : wr.cell? ⟨w.heap.size + 2, 3, none⟩ = some v := cells_at r2 3 _ rfl
            have of3 := frozen_at r2 3
            have hN : w.heap.size + 2 < wr.heap.size := lt_of_heap r2
            by_cases hlt : (m : Int) < 3 + pk rc 2
            · have hvb : v.ownBlock ≠ some (w.heap.size + 2) := fun e => by have := (ho.lt _ e).1; omega
              have hv0 : v.ownBlock ≠ some w.heap.size := fun e => by have := (ho.lt _ e).1; omega
              have hv1 : v.ownBlock ≠ some (w.heap.size + 1) := fun e => by have := (ho.lt _ e).1; omega
              have hw10 : IntKind.i64.wrap (10 + (m : Int)) = 10 + (m : Int) := by rw [IntKind.wrap_i64]; omega
              go_wp2_with (go_at_call 14; refine (picked_any rc 2 _ h4.1 h4.2 (by omega) (by omega)).mono ?_; rintro e w9 ⟨rfl, rfl⟩)
              go_region_law (first | (refine step_calls rfl 17 _ _ rfl [.int .i64 ra, .int .i64 (10 + (m : Int))] rfl Hent.out (fun u w9 => u = .slice (some ⟨wr.heap.size, 0, none⟩) 32 32 ∧ w9.ownsRow wr.heap.size 5 1 u 32 (ub (someL ra (10 + m))) ∧ Below wr.heap.size wr w9) ((some_any ra (10 + m) _ h2).mono (fun e w9 ⟨he, ho9, hb9⟩ => ⟨_, he, rfl, ho9, below_drew hb9⟩)) ?_; rintro u w9 ⟨rfl, ho9, hb9⟩; have s0 := (hb9.block _ (lt_of_heap r0)).trans r0; have s1 := (hb9.block _ (lt_of_heap r1)).trans r1; have s2 := (hb9.block _ (lt_of_heap r2)).trans r2; have p3 : w9.cell? ⟨w.heap.size + 2, 3, none⟩ = some v := cells_at s2 3 _ rfl; have p1 : w9.cell? ⟨w.heap.size, 1, none⟩ = some (.int .i64 ra) := cells_at s0 1 _ rfl; have pf3 := frozen_at s2 3; have hN8 : w.heap.size + 2 < w9.heap.size := lt_of_heap s2; have hN9 : wl.heap.size ≤ w9.heap.size := Nat.le_trans hBl hb9.size; have ho9' := owns_keep ho hb9) | (refine step_append_at rfl _ _ 27 rfl wl.heap.size 30 i (.slice none 0 0) 1 24 Try.underlying27 hi hz0 hz1 hz2 rfl (by decide) _ m _ rfl (World.ownsRow.alloc ho9' _) ⟨w9.heap.size, 0, none⟩ 1 1 [.slice (some ⟨wr.heap.size, 0, none⟩) 32 32] rfl rfl (cells_new _ _ _) (by intro u hu; simp at hu; subst hu; rfl) (by unfold maxLen; omega) (by omega) (le_alloc hN9 _) ?_; intro v1 w3 ho3 G3; have t0 := G3.row (heap_keep s0) hv0; have t1 := G3.row (heap_keep s1) hv1; have t2 := G3.row (heap_keep s2) hvb; have g3 : w3.cell? ⟨w.heap.size + 2, 3, none⟩ = some v := cells_at t2 3 _ rfl; have gf3 := frozen_at t2 3; obtain ⟨qa, qc, hq⟩ := owns_shape ho3; subst hq))
              all_goals
                go_wp2_with fail
                go_roundw
                case rel =>
                  have hb3 : Below w.heap.size w w3 := (hW.trans (hb9.mono hW.size)).trans (G3.alloc.below (Nat.le_trans hW.size hb9.size) (fun q e => by have := (ho9'.lt q e).1; omega))
                  have hs9 := (sliceAt_of_owns ho9).2
                  have hap3 := hap.more (q := ⟨some ⟨wr.heap.size, 0, none⟩, 32, someL ra (10 + m)⟩) hBl ho hb9 ho9 hs9 G3
                  have hA9 : Below w9.heap.size w9 (w9.alloc (.cells #[.slice (some ⟨wr.heap.size, 0, none⟩) 32 32] 30)) := (Below.refl _ _).alloc (Nat.le_refl _) _
                  have hOb9 := (hOb.below hb9).alloc (.cells #[.slice (some ⟨wr.heap.size, 0, none⟩) 32 32] 30)
                  have hLb3 := G3.list ((hLb.below hb9).below hA9) hOb9
                  have hOb3 := G3.off hOb9
                  have hR : ∃ (m' : Nat) (v' : Value) (ps' : List Part), (m' : Int) ≤ 3 + pk rc 2 ∧ (Value.int .i64 ((m : Int) + 1)) = .int .i64 m' ∧ Below w.heap.size w (w3.setCell ⟨w.heap.size + 2, 3, none⟩ (.slice qa (m + 1) qc)) ∧ (w3.setCell ⟨w.heap.size + 2, 3, none⟩ (.slice qa (m + 1) qc)).heap[w.heap.size]? = some (.cells #[.int .i64 ki, .int .i64 ra, .int .i64 rb, .int .i64 rc, .slice sa n cap] 24 (0, 0)) ∧ (w3.setCell ⟨w.heap.size + 2, 3, none⟩ (.slice qa (m + 1) qc)).heap[w.heap.size + 1]? = some (.cells #[.int .i64 0, .int .i64 0, .slice none 0 0, .slice none 0 0] 29 (0, 0)) ∧ (w3.setCell ⟨w.heap.size + 2, 3, none⟩ (.slice qa (m + 1) qc)).heap[w.heap.size + 2]? = some (.cells #[.int .i64 (pk ra 4), .int .i64 (1 + pk rb 9), .slice ba k bc, v'] 29 (0, 0)) ∧ (w3.setCell ⟨w.heap.size + 2, 3, none⟩ (.slice qa (m + 1) qc)).ownsRow wl.heap.size 30 1 v' m' (pv ps') ∧ Apart (w3.setCell ⟨w.heap.size + 2, 3, none⟩ (.slice qa (m + 1) qc)) wl.heap.size v' ps' ∧ Hid (ps'.map (·.bs) = (List.range m').map fun (i : Nat) => someL ra (10 + i)) ∧ ListAt (w3.setCell ⟨w.heap.size + 2, 3, none⟩ (.slice qa (m + 1) qc)) ba bc qs ∧ Off (w3.setCell ⟨w.heap.size + 2, 3, none⟩ (.slice qa (m + 1) qc)) v' ba qs ∧ wl.heap.size ≤ (w3.setCell ⟨w.heap.size + 2, 3, none⟩ (.slice qa (m + 1) qc)).heap.size :=
                    ⟨m + 1, .slice qa (m + 1) qc, ps ++ [⟨some ⟨wr.heap.size, 0, none⟩, 32, someL ra (10 + m)⟩], by omega, by go_num, hb3.setCell (by simp) _, heap_far t0 (by omega), heap_far t1 (by omega), by simpa using heap_setCell_same _ _ 3 _ _ (.slice qa (m + 1) qc) t2, owns_far (by simpa [pv, Part.val, someL_length] using ho3) _ _ _ (by omega), hap3.far _ _ _ (by omega), (by show _ = _; rw [List.map_append, hst.out, List.range_succ, List.map_append]; rfl), hLb3.setCell hFr _ _ _ (by omega), hOb3.far _ _ _, by simpa using Nat.le_trans (le_alloc hN9 _) G3.grown.size⟩
                  first | exact hR | ((repeat apply Exists.intro); exact ⟨hR, rfl⟩)
                case measure => simp [intOf]; omega
            · have hkI : (m : Int) = 3 + pk rc 2 := by omega
              obtain ⟨qa, qc, hv, hl, hL, hFp⟩ := listAt_of_owns ho hap
              subst hv
              have hLp := hL (by omega)
              have hOp := off_of_owns ho hap
              have hpp : Hid (ps.map (·.bs) = hPars ra rb rc) := by show _ = _; rw [hst.out, hps.out, ← hkI]; rfl
              have Hlp : Hid (m = ps.length) := hl
              have hOb' : Off wr (.slice none 0 0) ba qs := ⟨fun sb so e => ⟨(hOb.row sb so e).1, fun e => by cases e⟩, fun p hp sb so e => ⟨(hOb.each p hp sb so e).1, fun e => by cases e⟩⟩
              have hm4 : m ≤ 4 := by omega
              have Hm : Hid ((m : Int) = 3 + pk rc 2) := hkI
              clear hl hkI hL hst
              have d0 : wr.cell? ⟨w.heap.size + 1, 0, none⟩ = some (.int .i64 0) := cells_at r1 0 _ rfl
              have d1 : wr.cell? ⟨w.heap.size + 1, 1, none⟩ = some (.int .i64 0) := cells_at r1 1 _ rfl
              have d2 : wr.cell? ⟨w.heap.size + 1, 2, none⟩ = some (.slice none 0 0) := cells_at r1 2 _ rfl
              have d3 : wr.cell? ⟨w.heap.size + 1, 3, none⟩ = some (.slice none 0 0) := cells_at r1 3 _ rfl
              have f0 := frozen_at r1 0
              have f1 := frozen_at r1 1
              have f2 := frozen_at r1 2
              have f3 := frozen_at r1 3
              have e0 : wr.cell? ⟨w.heap.size + 2, 0, none⟩ = some (.int .i64 (pk ra 4)) := cells_at r2 0 _ rfl
              have e1 : wr.cell? ⟨w.heap.size + 2, 1, none⟩ = some (.int .i64 (1 + pk rb 9)) := cells_at r2 1 _ rfl
              have e2 : wr.cell? ⟨w.heap.size + 2, 2, none⟩ = some (.slice ba k bc) := cells_at r2 2 _ rfl
              go_wp2_with (go_at_call 14; refine (picked_any rc 2 _ h4.1 h4.2 (by omega) (by omega)).mono ?_; rintro e w9 ⟨rfl, rfl⟩)
              have g1 : w.heap.size + 1 < w.heap.size + 3 := by omega
              have g2 : w.heap.size + 1 < wl.heap.size := by omega
              refine bodyPost_ret (v := .agg #[.int .i64 (pk ra 4), .int .i64 (1 + pk rb 9), .slice ba k bc, .slice qa m qc]) (by simp [results, Try.results16, go_sem, d0, d1, d2, d3]) rfl ?_
              refine ⟨ba, bc, qs, qa, qc, ps, by rw [← Hl.out, ← Hlp.out], ?_, ?_, ?_, ?_, hbs.out, hpp.out, ?_, ⟨fun sb so e => by have := hFr.row sb so e; omega, fun p hp sb so e => by have := hFr.each p hp sb so e; omega⟩, ⟨fun sb so e => by have := hFp.row sb so e; omega, fun p hp sb so e => by have := hFp.each p hp sb so e; omega⟩⟩
              · exact (((hLb.setCell hFr _ _ _ g1).setCell hFr _ _ _ g1).setCell hFr _ _ _ g1).setCell hFr _ _ _ g1
              · exact (((hLp.setCell hFp _ _ _ g2).setCell hFp _ _ _ g2).setCell hFp _ _ _ g2).setCell hFp _ _ _ g2
              · exact (((hOb'.far _ _ _).far _ _ _).far _ _ _).far _ _ _
              · exact (((hOp.far _ _ _).far _ _ _).far _ _ _).far _ _ _
              · exact ((((hW.setCell (by simp) _).setCell (by simp) _).setCell (by simp) _).setCell (by simp) _)
set_option maxRecDepth 100000 in
theorem header_raw (ki ra rb rc : Int) (sa : Option Addr) (n cap : Nat) (w : World) (h2 : I64 ra) (h3 : I64 rb) (h4 : I64 rc) :
    Calls Try.prog 16 #[.agg #[.int .i64 ki, .int .i64 ra, .int .i64 rb, .int .i64 rc, .slice sa n cap]] w fun e w' => ∃ ba bc bl pa pc pl, e = .returned (.agg #[.int .i64 (pk ra 4), .int .i64 (1 + pk rb 9), .slice ba (List.length bl) bc, .slice pa (List.length pl) pc]) ∧ ListAt w' ba bc bl ∧ ListAt w' pa pc pl ∧ Off w' (.slice none 0 0) ba bl ∧ Off w' (.slice none 0 0) pa pl ∧ bl.map (·.bs) = hBats rc ∧ pl.map (·.bs) = hPars ra rb rc ∧ Below w.heap.size w w' := by
  refine (header_raw2 ki ra rb rc sa n cap w h2 h3 h4).mono ?_
  rintro e w' ⟨ba, bc, bl, pa, pc, pl, he, a1, a2, a3, a4, a5, a6, a7, _, _⟩
  exact ⟨ba, bc, bl, pa, pc, pl, he, a1, a2, a3, a4, a5, a6, a7⟩
end Go.Proofs.Ythijfhbmkpfnkaa

namespace Go.Proofs.Ythijfhbmkpfnkaa
open Go.RowKit

set_option maxRecDepth 100000 in
theorem someL_u8 (n m : Int) : ∀ x ∈ someL n m, 0 ≤ x ∧ x ≤ 255 := by
  obtain ⟨hp0, hp1⟩ := pk_bounds n 256 (by decide)
  intro x hx
  rcases List.mem_or_eq_of_mem_set hx with hx | rfl
  · rcases List.mem_or_eq_of_mem_set hx with hx | rfl
    · rcases List.mem_or_eq_of_mem_set hx with hx | rfl
      · rw [List.mem_replicate] at hx; omega
      · omega
    · omega
  · omega
set_option maxRecDepth 100000 in
theorem someL_inj {a : Int} {i j : Int} (hi : 0 ≤ i ∧ i < 256) (hj : 0 ≤ j ∧ j < 256) (h : someL a i = someL a j) : i = j := by
  have h1 : (someL a i)[1]? = (someL a j)[1]? := by rw [h]
  simp [someL] at h1
  omega
set_option maxRecDepth 100000 in
/-- Digests of raw numbers are whole, and all different. -/
theorem digF_some (ps : List Part) (a c : Int) (n : Nat) (hc : 0 ≤ c ∧ c + n ≤ 256) (h : ps.map (·.bs) = (List.range n).map fun (i : Nat) => someL a (c + i)) : digF ps = 0 := by
  have hl : ps.length = n := by have := congrArg List.length h; simpa using this
  have hg : ∀ k, k < ps.length → (partAt ps k).bs = someL a (c + k) := by
    intro k hk
    rw [partAt_get ps k hk]
    have h1 : (ps.map (·.bs))[k]? = ((List.range n).map fun (i : Nat) => someL a (c + i))[k]? := by rw [h]
    simp [hk, show k < n by omega] at h1
    exact h1
  have hall : ∀ k, k ≤ ps.length → digTo1 ps k = 0 := by
    intro k
    induction k with
    | zero => intro _; rfl
    | succ k ih =>
      intro hk
      rw [digTo1, ih (by omega)]
      simp only [ne_eq, not_true_eq_false, if_false]
      have htw : twice ps k = false := by
        rw [twice, List.any_eq_false]
        intro j hj
        rw [List.mem_range] at hj
        rw [hg j (by omega), hg k (by omega)]
        intro e
        have e' := of_decide_eq_true e
        unfold txL at e'
        have e2 : someL a (c + j) = someL a (c + k) := bstr_inj (someL_u8 _ _) (someL_u8 _ _) (ba_ext e')
        have := someL_inj (by omega) (by omega) e2
        omega
      rw [digAt, hg k (by omega), someL_length, htw]
      simp
  exact hall ps.length (Nat.le_refl _)
set_option maxRecDepth 100000 in
theorem headerF_raw (ra rb rc : Int) (bl pl : List Part) (hb : bl.map (·.bs) = hBats rc) (hp : pl.map (·.bs) = hPars ra rb rc) : headerF (pk ra 4) (1 + pk rb 9) bl pl = 0 := by
  obtain ⟨pa0, pa1⟩ := pk_bounds ra 4 (by decide)
  obtain ⟨pb0, pb1⟩ := pk_bounds rb 9 (by decide)
  obtain ⟨pc0, pc1⟩ := pk_bounds rc 4 (by decide)
  obtain ⟨pd0, pd1⟩ := pk_bounds rc 2 (by decide)
  have hbl : bl.length = (pk rc 4).toNat := by have := congrArg List.length hb; simpa [hBats] using this
  have hdb : digF bl = 0 := digF_some bl rc 0 (pk rc 4).toNat (by omega) (by rw [hb, hBats]; simp)
  by_cases h0 : pk rb 9 = 0
  · rw [hPars, if_pos h0] at hp
    have hpl : pl = [] := by simpa using hp
    subst hpl
    rw [headerF, if_neg (by omega), if_neg (by simp; omega), if_neg (by simp [hdb]), if_neg (by simp [digF, digTo1])]
    simp [parentsF, h0]
  · rw [hPars, if_neg h0] at hp
    have hpl : pl.length = (3 + pk rc 2).toNat := by have := congrArg List.length hp; simpa using this
    have hdp : digF pl = 0 := digF_some pl ra 10 (3 + pk rc 2).toNat (by omega) hp
    rw [headerF, if_neg (by omega), if_neg (by omega), if_neg (by simp [hdb]), if_neg (by simp [hdp]), parentsF, if_neg (by omega)]
end Go.Proofs.Ythijfhbmkpfnkaa

namespace Go.Proofs.Ythijfhbmkpfnkaa
open Go.RowKit

/-- The numbers below i, without k. -/
def without (k : Int) : Nat → List Int
  | 0 => []
  | i + 1 => if (i : Int) = k then without k i else without k i ++ [(i : Int)]
def votersL (n : Int) : List Int := without (pk n 5) 4
set_option maxRecDepth 100000 in
theorem without_le (k : Int) (i : Nat) : (without k i).length ≤ i := by
  induction i with
  | zero => simp [without]
  | succ i ih =>
    rw [without]
    split
    · omega
    · simp; omega
set_option maxRecDepth 100000 in
set_option maxHeartbeats 1000000 in
theorem voters_any (n : Int) (w : World) (hn : I64 n) :
    Calls Try.prog 18 #[.int .i64 n] w fun e w' => ∃ v, e = .returned v ∧ w'.ownsRow w.heap.size 3 1 v (votersL n).length (iv (votersL n)) ∧ Below w.heap.size w w' := by
  obtain ⟨p0, p1⟩ := pk_bounds n 5 (by decide)
  obtain ⟨i, hi, hz0, hz1, hz2⟩ := info_parts infoInt2
  have hP := fun wx => picked_any n 5 wx hn.1 hn.2 (by decide) (by decide)
  unfold votersL
  generalize pk n 5 = k at *
  have HP : Hid _ := hP
  clear hP
  go_enter Try.func18, Try.ntmps18
  go_wp2_with (go_at_call 14; refine (HP.out _).mono ?_; rintro e w9 ⟨rfl, rfl⟩)
  go_loopw [5, 4] (fun j t wr => ∃ (m : Nat) (tv : Value), m ≤ 4 ∧ j = .int .i64 m ∧ tv = t ∧ wr.ownsRow w.heap.size 3 1 tv (without k m).length (iv (without k m)) ∧ Below w.heap.size w wr) (fun j _ _ => 4 - (intOf j).toNat)
  case atStart => exact ⟨0, _, Nat.zero_le _, rfl, rfl, World.ownsRow_nil _ _ _ _, Below.refl _ _⟩
  case round =>
    obtain ⟨m, tv, hm, rfl, rfl, ho, hbw⟩ := hrel
    by_cases hlt : m < 4
    · have hltI : (m : Int) < 4 := by omega
      have hle := without_le k m
      by_cases he : (m : Int) = k
      · have hst : Hid (without k (m + 1) = without k m) := by show _ = _; rw [without, if_pos he]
        have heb : ((m : Int) == k) = true := by simpa using he
        have He : Hid ((m : Int) = k) := he
        clear he
        go_wp2_with fail
        go_roundw
        case rel =>
          have hR : ∃ (m' : Nat) (tv' : Value), m' ≤ 4 ∧ (Value.int .i64 ((m : Int) + 1)) = .int .i64 m' ∧ tv' = tv ∧ wr.ownsRow w.heap.size 3 1 tv' (without k m').length (iv (without k m')) ∧ Below w.heap.size w wr := ⟨m + 1, tv, by omega, by go_num, rfl, by rw [hst.out]; exact ho, hbw⟩
          first | exact hR | ((repeat apply Exists.intro); exact ⟨hR, rfl⟩)
        case measure => simp [intOf]; omega
      · have hst : Hid (without k (m + 1) = without k m ++ [(m : Int)]) := by show _ = _; rw [without, if_neg he]
        have heb : ((m : Int) == k) = false := by simpa using he
        generalize without k m = T at *
        have hBr := hbw.size
        go_wp2_with (at_builtin; refine wpList_append_own_at _ rfl _ _ 33 rfl w.heap.size 3 i (.int .i64 0) 1 8 Try.underlying33 hi hz0 hz1 hz2 rfl (by decide) _ T.length _ rfl (World.ownsRow.alloc ho _) ⟨wr.heap.size, 0, none⟩ 1 1 [.int .i64 (m : Int)] rfl rfl (cells_new _ _ _) (iv_one [_]) (by unfold maxLen; omega) (by omega) (le_alloc hBr _) ?_; intro v5 w5 ho5 hg5 _ _)
        go_roundw
        case rel =>
          have hb5 : Below w.heap.size w w5 := Below.grown (hbw.alloc hBr _) hg5 (le_alloc hBr _) (fun q e => (ho.lt q e).1)
          have hR : ∃ (m' : Nat) (tv' : Value), m' ≤ 4 ∧ (Value.int .i64 ((m : Int) + 1)) = .int .i64 m' ∧ tv' = v5 ∧ w5.ownsRow w.heap.size 3 1 tv' (without k m').length (iv (without k m')) ∧ Below w.heap.size w w5 := ⟨m + 1, v5, by omega, by go_num, rfl, by rw [hst.out]; simpa [iv] using ho5, hb5⟩
          first | exact hR | ((repeat apply Exists.intro); exact ⟨hR, rfl⟩)
        case measure => simp [intOf]; omega
    · obtain rfl : m = 4 := by omega
      go_wp2_with fail
      go_ret
      exact ⟨_, rfl, ho, hbw⟩
end Go.Proofs.Ythijfhbmkpfnkaa

namespace Go.Proofs.Ythijfhbmkpfnkaa
open Go.RowKit

set_option maxRecDepth 100000 in
theorem votersL_form (rc : Int) : ∃ x0 x1 x2 xs, votersL rc = x0 :: x1 :: x2 :: xs ∧ 0 ≤ x0 ∧ x0 < x1 ∧ x1 < 4 ∧ votersF (votersL rc) = 0 ∧ x0 < 4 ∧ (votersL rc).length ≤ 4 := by
  obtain ⟨p0, p1⟩ := pk_bounds rc 5 (by decide)
  unfold votersL
  generalize pk rc 5 = k at *
  have h : k = 0 ∨ k = 1 ∨ k = 2 ∨ k = 3 ∨ k = 4 := by omega
  rcases h with rfl | rfl | rfl | rfl | rfl
  · exact ⟨1, 2, 3, [], by decide, by decide, by decide, by decide, by decide, by decide, by decide⟩
  · exact ⟨0, 2, 3, [], by decide, by decide, by decide, by decide, by decide, by decide, by decide⟩
  · exact ⟨0, 1, 3, [], by decide, by decide, by decide, by decide, by decide, by decide, by decide⟩
  · exact ⟨0, 1, 2, [], by decide, by decide, by decide, by decide, by decide, by decide, by decide⟩
  · exact ⟨0, 1, 2, [3], by decide, by decide, by decide, by decide, by decide, by decide, by decide⟩
set_option maxRecDepth 100000 in
theorem votersL_four (rc : Int) : ∀ x ∈ votersL rc, 0 ≤ x ∧ x < 4 := by
  obtain ⟨p0, p1⟩ := pk_bounds rc 5 (by decide)
  unfold votersL
  generalize pk rc 5 = k at *
  have h : k = 0 ∨ k = 1 ∨ k = 2 ∨ k = 3 ∨ k = 4 := by omega
  rcases h with rfl | rfl | rfl | rfl | rfl <;> decide
end Go.Proofs.Ythijfhbmkpfnkaa
