/- A batch that may be. -/
import Derived.Test.YthpocgndgphedaaSx
import Derived.Test.YthpocgndgphedaaStrsAt
import Derived.Test.YthpocgndgphedaaCalls
import Derived.Deep.RegionHeld3
import Derived.Laws.Rows
import Derived.Laws.Tables
import Derived.Laws.Strings
import Derived.Deep.RegionHeld
import Derived.Test.YthpocgndgphedaaPicked
import Derived.Test.YthpocgndgphedaaTextsAt
import Derived.Shelf.Abstract
import Derived.Deep.CutRange
import Derived.Deep.DeepCutAuto
import Derived.Test.YthpocgndgphedaaStrs
namespace Go.Proofs.Ythpocgndgphedaa
open Go.RowKit

set_option maxRecDepth 100000 in
theorem sMsg' : (Try.prog.info? 47).map (·.size) = some 19 := by kernel_rfl
set_option maxRecDepth 100000 in
/-- A struct that is stored as a row, as the one operation that comes up. -/
theorem step_store_row {ops : Array Oper} {o : Oper} {a : Act} {w : World} {K : Act → World → Prop} {Q : Exit → Act → World → Prop} {E : Prop}
    (hg : o.guard = none) (hd : o.dst = none) (ty : TypeId) (x y : Operand) (ho : o.op = .store ty x y) (g : Nat) (cells : Array Value) (hx : a.eval x = .pointer (some ⟨g, 0, none⟩)) (hy : a.eval y = .agg cells)
    (t : TypeId) (old : Array Value) (hh : w.heap[g]? = some (.cells old t (0, 0))) (hi : (Try.prog.info? ty).map (·.size) = some cells.size) (hold : old.size = cells.size) (h1 : cells.all (·.oneCell') = true) (hK : K a (w.setRow g cells)) :
    if Region.wanted o (yielded ops a.tmps) = true then Oper.wp Try.prog o a w K Q else E := by
  rw [if_pos (by simp [Region.wanted, hg])]
  exact wp_store_row ty x y ho g cells hx hy t old hh hi hold h1 (by rw [hd]; exact hK)
set_option maxRecDepth 100000 in
theorem cell_row {w : World} {b : Nat} {cs : Array Value} {k j : Nat} (h : k ≠ b) : (w.setRow b cs).cell? ⟨k, j, none⟩ = w.cell? ⟨k, j, none⟩ := World.cell?_of_block (setRow_other w b k cs h)
set_option maxRecDepth 100000 in
theorem StrsAt.setRow {w : World} {sa : Option Addr} {ss : List ByteArray} (h : StrsAt w sa ss) (b : Nat) (cs : Array Value) (hne : ∀ sb so, sa = some ⟨sb, so, none⟩ → sb ≠ b) : StrsAt (w.setRow b cs) sa ss := by
  refine ⟨?_, h.size⟩
  rcases h.cells with h | ⟨sb, so, rfl, hc⟩
  · exact .inl h
  · exact .inr ⟨sb, so, rfl, fun k hk => (cell_row (hne sb so rfl)).trans (hc k hk)⟩
set_option maxRecDepth 100000 in
theorem slice_setRow {w : World} {sa : Option Addr} {cap : Nat} {bs : List Int} (h : SliceAt w sa cap bs) (b : Nat) (cs : Array Value) (hne : ∀ sb so, sa = some ⟨sb, so, none⟩ → sb ≠ b) : SliceAt (w.setRow b cs) sa cap bs := by
  refine ⟨h.le, h.max, h.some, h.nil, ?_⟩
  rcases h.bytes with hc | ⟨sb, so, e, hc⟩
  · exact .inl hc
  · exact .inr ⟨sb, so, e, fun k hk => (cell_row (hne sb so e)).trans (hc k hk)⟩
end Go.Proofs.Ythpocgndgphedaa

namespace Go.Proofs.Ythpocgndgphedaa
open Go.RowKit

/-- A transaction of a raw text: one sign, or its first twenty bytes. -/
def txS (s : ByteArray) : ByteArray := if s.size = 0 then ⟨#[120]⟩ else s.extract 0 (min s.size 20)
set_option maxRecDepth 100000 in
theorem txS_size (s : ByteArray) : 1 ≤ (txS s).size ∧ (txS s).size ≤ 20 := by
  unfold txS
  by_cases h : s.size = 0
  · rw [if_pos h]; exact ⟨by decide, by decide⟩
  · rw [if_neg h]; simp; omega
set_option maxRecDepth 100000 in
theorem ret_str {a b : ByteArray} (h : a = b) : Ending.returned (.string a) = .returned (.string b) := by rw [h]
set_option maxRecDepth 100000 in
theorem cut_any (s : ByteArray) (w : World) (hs : s.size ≤ maxLen) :
    Calls Try.prog 55 #[.string s, .int .i64 20] w fun e w' => e = .returned (.string (s.extract 0 (min s.size 20))) ∧ w = w' := by
  unfold maxLen at hs
  by_cases h : s.size ≤ 20
  · have hm : min s.size 20 = s.size := by omega
    rw [hm]
    go_enter Try.func55, Try.ntmps55
    go_wp2_with fail
    go_ret
    exact ⟨ret_str (by simp), rfl⟩
  · have hm : min s.size 20 = 20 := by omega
    rw [hm]
    go_enter Try.func55, Try.ntmps55
    go_wp2_with fail
    go_ret
    exact ⟨rfl, rfl⟩
set_option maxRecDepth 100000 in
theorem empty_text (s : ByteArray) : s.toList.isEmpty = true ↔ s.size = 0 := by
  rw [List.isEmpty_iff, ← List.length_eq_zero_iff, ByteArray.toList_eq, Array.length_toList, ByteArray.size_data]
set_option maxRecDepth 100000 in
theorem tx_any (s : ByteArray) (w : World) (hs : s.size ≤ maxLen) :
    Calls Try.prog 47 #[.string s] w fun e w' => e = .returned (.string (txS s)) ∧ w = w' := by
  by_cases h : s.size = 0
  · have h1 : s.toList.isEmpty = true := (empty_text s).2 h
    have hF : Hid (txS s = ⟨#[120]⟩) := by show _ = _; rw [txS, if_pos h]
    clear h
    go_enter Try.func47, Try.ntmps47
    go_wp2_with fail
    go_ret
    exact ⟨ret_str hF.out.symm, rfl⟩
  · have h1 : s.toList.isEmpty = false := by
      rw [Bool.eq_false_iff]; exact fun e => h ((empty_text s).1 e)
    have hF : Hid (txS s = s.extract 0 (min s.size 20)) := by show _ = _; rw [txS, if_neg h]
    go_enter Try.func47, Try.ntmps47
    go_wp2_with fail
    refine (cut_any s w hs).mono ?_
    rintro e w1 ⟨he, rfl⟩
    subst he
    dsimp only
    go_wp2_with fail
    go_ret
    exact ⟨ret_str hF.out.symm, rfl⟩
end Go.Proofs.Ythpocgndgphedaa

namespace Go.Proofs.Ythpocgndgphedaa
open Go.RowKit

set_option maxRecDepth 100000 in
theorem owns_shape {w : World} {base n : Nat} {e : TypeId} {s : Nat} {v : Value} {xs : List Value} (h : w.ownsRow base e s v n xs) : ∃ za zc, v = .slice za n zc := by
  rcases h.2 with ⟨rfl, hn⟩ | ⟨g, cap, cur, rfl, _⟩
  · subst hn; exact ⟨none, 0, rfl⟩
  · exact ⟨some ⟨g, 0, none⟩, cap, rfl⟩
set_option maxRecDepth 100000 in
/-- A row stays where a block below its base is rewritten. -/
theorem owns_far {w : World} {base n : Nat} {e : TypeId} {s : Nat} {v : Value} {xs : List Value} (h : w.ownsRow base e s v n xs) (b j : Nat) (x : Value) (hb : b < base) : (w.setCell ⟨b, j, none⟩ x).ownsRow base e s v n xs := by
  obtain ⟨h1, h2⟩ := h
  refine ⟨h1, ?_⟩
  rcases h2 with h2 | ⟨g, cap, cur, rfl, hg, hc, r⟩
  · exact .inl h2
  · exact .inr ⟨g, cap, cur, rfl, hg, (heap_setCell_other w ⟨b, j, none⟩ g x (by show g ≠ b; omega)).trans hc, r⟩
end Go.Proofs.Ythpocgndgphedaa

namespace Go.Proofs.Ythpocgndgphedaa
open Go.RowKit

set_option maxRecDepth 100000 in
theorem infoStr : (Try.prog.info? 9).map (fun i => (i.zero, i.size, i.bytes)) = some (some (.string ByteArray.empty), 1, 16) := by kernel_rfl
def sv (ss : List ByteArray) : List Value := ss.map Value.string
set_option maxRecDepth 100000 in
theorem sv_length (ss : List ByteArray) : (sv ss).length = ss.length := by simp [sv]
set_option maxRecDepth 100000 in
theorem sv_one (ss : List ByteArray) : ∀ u ∈ sv ss, u.oneCell' = true := by
  intro u hu; simp [sv] at hu; obtain ⟨x, _, rfl⟩ := hu; rfl
set_option maxRecDepth 100000 in
theorem strsAt_of_owns {w : World} {base n : Nat} {v : Value} {ss : List ByteArray} (h : w.ownsRow base 9 1 v n (sv ss)) (hz : ∀ s ∈ ss, s.size ≤ maxLen) : ∃ ra rc, v = .slice ra n rc ∧ n = ss.length ∧ StrsAt w ra ss ∧ ∀ sb so, ra = some ⟨sb, so, none⟩ → base ≤ sb := by
  have hl : n = ss.length := by have := h.1; rw [sv_length] at this; omega
  rcases h.2 with ⟨rfl, hn⟩ | ⟨g, cap, cur, rfl, _⟩
  · have hb : ss = [] := List.eq_nil_of_length_eq_zero (by omega)
    subst hn hb
    exact ⟨none, 0, rfl, rfl, ⟨.inl rfl, hz⟩, fun _ _ e => by cases e⟩
  · refine ⟨some ⟨g, 0, none⟩, cap, rfl, hl, ⟨.inr ⟨g, 0, rfl, fun j hj => ?_⟩, hz⟩, fun sb so e => by cases e; exact (h.lt _ rfl).1⟩
    rw [Nat.zero_add, World.ownsRow.cellAt h j (by omega)]
    simp [sv, hj]
set_option maxRecDepth 100000 in
theorem StrsAt.setCell {w : World} {sa : Option Addr} {ss : List ByteArray} (h : StrsAt w sa ss) (b j : Nat) (v : Value) (hne : ∀ sb so, sa = some ⟨sb, so, none⟩ → b ≠ sb) : StrsAt (w.setCell ⟨b, j, none⟩ v) sa ss := by
  refine ⟨?_, h.size⟩
  rcases h.cells with h | ⟨sb, so, rfl, hc⟩
  · exact .inl h
  · exact .inr ⟨sb, so, rfl, fun k hk => (World.cell?_setCell_far _ _ _ _ (hne sb so rfl)).trans (hc k hk)⟩
end Go.Proofs.Ythpocgndgphedaa

namespace Go.Proofs.Ythpocgndgphedaa
open Go.RowKit

/-- The transactions of a raw batch. -/
def bTxs (ss : List ByteArray) : List ByteArray := if ss = [] then [⟨#[116]⟩] else (ss.take 4).map txS
set_option maxRecDepth 100000 in
set_option maxHeartbeats 1000000 in
theorem batch_raw (ki ra rb rc : Int) (sa : Option Addr) (cap : Nat) (ss : List ByteArray) (w : World) (h2 : I64 ra) (h3 : I64 rb) (h5 : TextsAt w sa cap ss) :
    Calls Try.prog 33 #[.agg #[.int .i64 ki, .int .i64 ra, .int .i64 rb, .int .i64 rc, .slice sa ss.length cap]] w fun e w' => ∃ ba bc, e = .returned (.agg #[.int .i64 (pk ra 4), .int .i64 (1 + pk rb 9), .slice ba (bTxs ss).length bc]) ∧ w'.ownsRow w.heap.size 9 1 (.slice ba (bTxs ss).length bc) (bTxs ss).length (sv (bTxs ss)) ∧ Below w.heap.size w w' := by
  obtain ⟨pa0, pa1⟩ := pk_bounds ra 4 (by decide)
  obtain ⟨pb0, pb1⟩ := pk_bounds rb 9 (by decide)
  have hle := h5.le
  have hre := h5.reach
  have q0 := heap_alloc2_old w (.cells #[.int .i64 ki, .int .i64 ra, .int .i64 rb, .int .i64 rc, .slice sa ss.length cap] 56) (.cells #[.int .i64 0, .int .i64 0, .slice none 0 0] 37)
  have k1 := cells_at q0 1 _ rfl
  have k2 := cells_at q0 2 _ rfl
  have hw : IntKind.i64.wrap (1 + pk rb 9) = 1 + pk rb 9 := by rw [IntKind.wrap_i64]; omega
  go_enter Try.func33, Try.ntmps33
  go_upto_region 1 with (fail)
  go_cut [3] (fun v wx => v = .pointer (some ⟨w.heap.size + 2, 0, none⟩) ∧ Below w.heap.size w wx ∧ wx.heap[w.heap.size]? = some (.cells #[.int .i64 ki, .int .i64 ra, .int .i64 rb, .int .i64 rc, .slice sa ss.length cap] 56 (0, 0)) ∧ wx.heap[w.heap.size + 1]? = some (.cells #[.int .i64 0, .int .i64 0, .slice none 0 0] 37 (0, 0)) ∧ wx.heap[w.heap.size + 2]? = some (.cells #[.int .i64 (pk ra 4), .int .i64 (1 + pk rb 9), .slice none 0 0] 37 (0, 0)))
  case first =>
    go_region_held3 (fun w' => w'.cell? ⟨w.heap.size, 1, none⟩ = some (.int .i64 ra) ∧ w'.cell? ⟨w.heap.size, 2, none⟩ = some (.int .i64 rb)) (go_keep) (first | (go_at_call 10; refine (picked_any _ _ _ (by first | exact h2.1 | exact h3.1) (by first | exact h2.2 | exact h3.2) (by omega) (by omega)).mono ?_; rintro e w9 ⟨rfl, rfl⟩))
    all_goals
      go_wp2_with fail
      go_meet
      case rel =>
        refine ⟨rfl, ((((Below.refl _ _).alloc (Nat.le_refl _) _).alloc (by simp) _).alloc (by simp; omega) _).drew, ?_, ?_, ?_⟩
        · exact heap_keep (heap_keep (heap_alloc_new w _))
        · exact heap_keep (heap_new_at _ _ _ (by simp))
        · exact heap_new_at _ _ _ (by simp)
  case rest =>
    obtain ⟨rfl, hW, r0, r1, r2⟩ := hcut
    clear k1 k2 q0 hw
    obtain ⟨i, hi, hz0, hz1, hz2⟩ := info_parts infoStr
    have hN := lt_of_heap r2
    go_wp2_with fail
    go_loopw [4] (fun j wr => ∃ (k : Nat) (v : Value), k ≤ ss.length ∧ k ≤ 4 ∧ j = .int .i64 k ∧ Below w.heap.size w wr ∧ wr.heap[w.heap.size]? = some (.cells #[.int .i64 ki, .int .i64 ra, .int .i64 rb, .int .i64 rc, .slice sa ss.length cap] 56 (0, 0)) ∧ wr.heap[w.heap.size + 1]? = some (.cells #[.int .i64 0, .int .i64 0, .slice none 0 0] 37 (0, 0)) ∧ wr.heap[w.heap.size + 2]? = some (.cells #[.int .i64 (pk ra 4), .int .i64 (1 + pk rb 9), v] 37 (0, 0)) ∧ wr.ownsRow (w.heap.size + 3) 9 1 v k (sv ((ss.take k).map txS))) (fun j _ => ss.length - (intOf j).toNat)
    case atStart => exact ⟨0, _, Nat.zero_le _, Nat.zero_le _, rfl, hW, r0, r1, r2, World.ownsRow_nil _ _ _ _⟩
    case round =>
      clear hW r0 r1 r2 hN
      obtain ⟨k, v, hk, hk4, rfl, hW, r0, r1, r2, ho⟩ := hrel
      have c4 : wr.cell? ⟨w.heap.size, 4, none⟩ = some (.slice sa ss.length cap) := cells_at r0 4 _ rfl
      have o2 : wr.cell? ⟨w.heap.size + 2, 2, none⟩ = some v := cells_at r2 2 _ rfl
      have of2 := frozen_at r2 2
      have hN : w.heap.size + 2 < wr.heap.size := lt_of_heap r2
      by_cases hlt : k < ss.length ∧ k < 4
      · obtain ⟨hlt, hlt4⟩ := hlt
        obtain ⟨sb, so, rfl, hc⟩ : ∃ sb so, sa = some ⟨sb, so, none⟩ ∧ ∀ j, j < ss.length → wr.cell? ⟨sb, so + j, none⟩ = some (.string (ss.getD j ByteArray.empty)) := by
          rcases (h5.strs.below hW).cells with h | h
          · rw [h] at hlt; simp at hlt
          · exact h
        have ck := hc k hlt
        have hsz : (ss.getD k ByteArray.empty).size ≤ maxLen := h5.strs.size _ (by simp [List.getD, hlt])
        have hltI : (k : Int) < ss.length := by omega
        have hlt4I : (k : Int) < 4 := by omega
        have hst : Hid ((ss.take (k + 1)).map txS = (ss.take k).map txS ++ [txS (ss.getD k ByteArray.empty)]) := by
          show _ = _
          rw [List.take_succ_eq_append_getElem hlt, List.map_append]
          simp only [List.map_cons, List.map_nil, List.getD, List.getElem?_eq_getElem hlt, Option.getD_some]
        have hvb : v.ownBlock ≠ some (w.heap.size + 2) := fun e => by have := (ho.lt _ e).1; omega
        clear hc
        generalize ss.getD k ByteArray.empty = x at ck hst hsz
        go_wp2_with fail
        have hA : Below wr.heap.size wr (wr.alloc (.cells #[.string (txS x)] 9)).drew := ((Below.refl _ _).alloc (Nat.le_refl _) _).drew
        have r0A : (wr.alloc (.cells #[.string (txS x)] 9)).drew.heap[w.heap.size]? = some (.cells #[.int .i64 ki, .int .i64 ra, .int .i64 rb, .int .i64 rc, .slice (some ⟨sb, so, none⟩) ss.length cap] 56 (0, 0)) := heap_keep r0
        have r1A : (wr.alloc (.cells #[.string (txS x)] 9)).drew.heap[w.heap.size + 1]? = some (.cells #[.int .i64 0, .int .i64 0, .slice none 0 0] 37 (0, 0)) := heap_keep r1
        have r2A : (wr.alloc (.cells #[.string (txS x)] 9)).drew.heap[w.heap.size + 2]? = some (.cells #[.int .i64 (pk ra 4), .int .i64 (1 + pk rb 9), v] 37 (0, 0)) := heap_keep r2
        have hv0 : v.ownBlock ≠ some w.heap.size := fun e => by have := (ho.lt _ e).1; omega
        have hv1 : v.ownBlock ≠ some (w.heap.size + 1) := fun e => by have := (ho.lt _ e).1; omega
        have ckA : (wr.alloc (.cells #[.string (txS x)] 9)).drew.cell? ⟨sb, so + k, none⟩ = some (.string x) := (hA.cell (p := ⟨sb, so + k, none⟩) (block_lt_of_cell ck)).trans ck
        have hsbN : sb < w.heap.size := by
          rcases h5.strs.cells with h | ⟨sb', so', e, h⟩
          · rw [h] at hlt; simp at hlt
          · cases e; exact block_lt_of_cell (h k hlt)
        have hent := enters_of Try.func47 (by kernel_rfl) rfl
        go_region_law (first | (refine step_calls rfl 47 _ _ rfl [.string x] rfl hent (fun u w9 => u = .string (txS x) ∧ w9 = _) ((tx_any x _ hsz).mono (fun e w9 ⟨he, hw9⟩ => ⟨_, he, rfl, hw9.symm⟩)) ?_; rintro u w9 ⟨rfl, rfl⟩) | (refine step_append_own rfl _ _ 35 rfl (w.heap.size + 3) 9 i (.string ByteArray.empty) 1 16 Try.underlying35 hi hz0 hz1 hz2 rfl (by decide) _ k _ rfl (World.ownsRow.alloc ho.drew _) ⟨wr.heap.size, 0, none⟩ 1 1 [.string (txS x)] rfl rfl (cells_new _ _ _) (sv_one [_]) (by unfold maxLen; omega) (by omega) (le_alloc hN _) ?_; intro v1 w2 ho1 hg1; have s0 := (hg1.block _ (lt_of_heap r0A) (fun e => hv0 e.symm)).trans r0A; have s1 := (hg1.block _ (lt_of_heap r1A) (fun e => hv1 e.symm)).trans r1A; have s2 := (hg1.block _ (lt_of_heap r2A) (fun e => hvb e.symm)).trans r2A; have p2 : w2.cell? ⟨w.heap.size + 2, 2, none⟩ = some v := cells_at s2 2 _ rfl; have p4 : w2.cell? ⟨w.heap.size, 4, none⟩ = some (.slice (some ⟨sb, so, none⟩) ss.length cap) := cells_at s0 4 _ rfl; have pk' : w2.cell? ⟨sb, so + k, none⟩ = some (.string x) := (World.cell?_of_block (hg1.block sb (block_lt_of_cell ckA) (fun e => by have := (ho.lt _ e.symm).1; omega))).trans ckA; have pf2 := frozen_at s2 2; obtain ⟨qa, qc, hq⟩ := owns_shape ho1; subst hq))
        all_goals
          go_wp2_with fail
          go_roundw
          case rel =>
            have hb2 : Below w.heap.size w w2 := Below.grown (hW.drew.alloc hW.size _) hg1 (le_alloc hW.size _) (fun q e => by have := (ho.lt q e).1; omega)
            have hR : ∃ (k' : Nat) (v' : Value), k' ≤ ss.length ∧ k' ≤ 4 ∧ (Value.int .i64 ((k : Int) + 1)) = .int .i64 k' ∧ Below w.heap.size w (w2.setCell ⟨w.heap.size + 2, 2, none⟩ (.slice qa (k + 1) qc)) ∧ (w2.setCell ⟨w.heap.size + 2, 2, none⟩ (.slice qa (k + 1) qc)).heap[w.heap.size]? = some (.cells #[.int .i64 ki, .int .i64 ra, .int .i64 rb, .int .i64 rc, .slice (some ⟨sb, so, none⟩) ss.length cap] 56 (0, 0)) ∧ (w2.setCell ⟨w.heap.size + 2, 2, none⟩ (.slice qa (k + 1) qc)).heap[w.heap.size + 1]? = some (.cells #[.int .i64 0, .int .i64 0, .slice none 0 0] 37 (0, 0)) ∧ (w2.setCell ⟨w.heap.size + 2, 2, none⟩ (.slice qa (k + 1) qc)).heap[w.heap.size + 2]? = some (.cells #[.int .i64 (pk ra 4), .int .i64 (1 + pk rb 9), v'] 37 (0, 0)) ∧ (w2.setCell ⟨w.heap.size + 2, 2, none⟩ (.slice qa (k + 1) qc)).ownsRow (w.heap.size + 3) 9 1 v' k' (sv ((ss.take k').map txS)) :=
              ⟨k + 1, .slice qa (k + 1) qc, by omega, by omega, by go_num, hb2.setCell (by simp) _, heap_far s0 (by omega), heap_far s1 (by omega), by simpa using heap_setCell_same _ _ 2 _ _ (.slice qa (k + 1) qc) s2, by rw [hst.out]; exact owns_far (by simpa [sv] using ho1) _ _ _ (by omega)⟩
            first | exact hR | ((repeat apply Exists.intro); exact ⟨hR, rfl⟩)
          case measure => simp [intOf]; omega
      · obtain ⟨za, zc, hz⟩ := owns_shape ho
        subst hz
        have p0 : wr.cell? ⟨w.heap.size + 2, 0, none⟩ = some (.int .i64 (pk ra 4)) := cells_at r2 0 _ rfl
        have p1 : wr.cell? ⟨w.heap.size + 2, 1, none⟩ = some (.int .i64 (1 + pk rb 9)) := cells_at r2 1 _ rfl
        have d0 : wr.cell? ⟨w.heap.size + 1, 0, none⟩ = some (.int .i64 0) := cells_at r1 0 _ rfl
        have d1 : wr.cell? ⟨w.heap.size + 1, 1, none⟩ = some (.int .i64 0) := cells_at r1 1 _ rfl
        have d2 : wr.cell? ⟨w.heap.size + 1, 2, none⟩ = some (.slice none 0 0) := cells_at r1 2 _ rfl
        have hN1 : w.heap.size + 1 < wr.heap.size := by omega
        have f0 := frozen_at r1 0
        have f1 := frozen_at r1 1
        have f2 := frozen_at r1 2
        by_cases h0 : k = 0
        · subst h0
          have hs0 : ss = [] := List.eq_nil_of_length_eq_zero (by omega)
          subst hs0
          go_wp2_with fail
          refine bodyPost_ret (v := .agg #[.int .i64 (pk ra 4), .int .i64 (1 + pk rb 9), .slice (some ⟨wr.heap.size, 0, none⟩) 1 1]) (by simp [results, Try.results33, go_sem, d0, d1, d2, hN1]) rfl ⟨_, _, rfl, ?_, ?_⟩
          · have hO := World.ownsRow_lit (base := w.heap.size) (e := 9) (size := 1) ((((wr.setCell ⟨w.heap.size + 2, 2, none⟩ (.slice (some ⟨wr.heap.size, 0, none⟩) 1 1)).setCell ⟨w.heap.size + 1, 0, none⟩ (.int .i64 (pk ra 4))).setCell ⟨w.heap.size + 1, 1, none⟩ (.int .i64 (1 + pk rb 9))).setCell ⟨w.heap.size + 1, 2, none⟩ (.slice (some ⟨wr.heap.size, 0, none⟩) 1 1)) (sv [⟨#[116]⟩]).toArray 1 (by simpa using hW.size) (by decide) rfl
            simpa [bTxs, sv] using hO
          · exact ((((hW.setCell (by simp) _).setCell (by simp) _).setCell (by simp) _).setCell (by simp) _).alloc (by simpa using hW.size) _
        · have h0I : ¬ (k : Int) = 0 := by omega
          have hB : Hid (bTxs ss = (ss.take k).map txS) := by
            show _ = _
            have hne : ss ≠ [] := fun e => by subst e; simp at hk; omega
            have : ss.take 4 = ss.take k := by
              by_cases h4 : k = 4
              · rw [h4]
              · have : k = ss.length := by omega
                rw [List.take_of_length_le (by omega), List.take_of_length_le (by omega)]
            rw [bTxs, if_neg hne, this]
          have hl : Hid (k = (bTxs ss).length) := by show _ = _; rw [hB.out]; simp; omega
          by_cases h4 : k < ss.length
          · obtain rfl : k = 4 := by omega
            have hltI : (4 : Int) < ss.length := by omega
            go_wp2_with fail
            refine bodyPost_ret (v := .agg #[.int .i64 (pk ra 4), .int .i64 (1 + pk rb 9), .slice za 4 zc]) (by simp [results, Try.results33, go_sem, d0, d1, d2]) rfl ?_
            rw [← hl.out, hB.out]
            exact ⟨_, _, rfl, ownsRow_base' (owns_far (owns_far (owns_far ho _ _ _ (by omega)) _ _ _ (by omega)) _ _ _ (by omega)) (by omega), (((hW.setCell (by simp) _).setCell (by simp) _).setCell (by simp) _)⟩
          · have hltI : ¬ (k : Int) < ss.length := by omega
            go_wp2_with fail
            refine bodyPost_ret (v := .agg #[.int .i64 (pk ra 4), .int .i64 (1 + pk rb 9), .slice za k zc]) (by simp [results, Try.results33, go_sem, d0, d1, d2]) rfl ?_
            rw [← hl.out, hB.out]
            exact ⟨_, _, rfl, ownsRow_base' (owns_far (owns_far (owns_far ho _ _ _ (by omega)) _ _ _ (by omega)) _ _ _ (by omega)) (by omega), (((hW.setCell (by simp) _).setCell (by simp) _).setCell (by simp) _)⟩
end Go.Proofs.Ythpocgndgphedaa

namespace Go.Proofs.Ythpocgndgphedaa
open Go.RowKit

set_option maxRecDepth 100000 in
theorem batchF_ok {au nu : Int} {ss : List ByteArray} (h : batchF au nu ss = 0) : (0 ≤ au ∧ au < 4) ∧ (1 ≤ nu ∧ nu ≤ 1048576) ∧ (1 ≤ ss.length ∧ ss.length ≤ 4) ∧ ∀ s ∈ ss, 1 ≤ s.size ∧ s.size ≤ 20 := by
  unfold batchF at h
  split at h
  · cases h
  · split at h
    · cases h
    · split at h
      · rename_i h1 h2 h3
        refine ⟨by omega, by omega, by omega, fun s hs => ?_⟩
        have := List.all_eq_true.1 h3 s hs
        simpa [txOk] using this
      · cases h
end Go.Proofs.Ythpocgndgphedaa
