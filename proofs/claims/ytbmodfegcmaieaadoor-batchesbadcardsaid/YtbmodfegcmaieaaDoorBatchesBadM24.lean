/- What the reading of an argument that is a slice of bytes gives the walks. -/
import Derived.Test.YtbmodfegcmaieaaDoorBatchesBadM18
import Derived.Test.YtbmodfegcmaieaaDoorGCalls
import Derived.Test.YtbmodfegcmaieaaDoorGBtRow
import Derived.Test.YtbmodfegcmaieaaDoorGSteps
import Derived.Test.YtbmodfegcmaieaaDoorBatchesBadM12
import Derived.Shelf.Abstract
import Derived.Deep.RegionHeld3
import Derived.Deep.CutRange
import Derived.Deep.DeepCutAuto
import Derived.Test.YtbmodfegcmaieaaDoorGBcF
import Derived.Test.YtbmodfegcmaieaaDoorRows
import Derived.Test.YtbmodfegcmaieaaDoorGK
import Derived.Lib.LaidTab
import Derived.OpenShut
import Derived.Stop.LaidErr
import Derived.Test.YtbmodfegcmaieaaDoorGTagged
import Derived.ProofKit
namespace Go.Proofs.YtbmodfegcmaieaaDoor
open Go.RowKit

/-- The transactions of a raw batch. -/
def bTxs (ss : List ByteArray) : List ByteArray := if ss = [] then [⟨#[116]⟩] else (ss.take 4).map txS
set_option maxRecDepth 100000 in
set_option maxHeartbeats 1000000 in
theorem batch_raw (ki ra rb rc : Int) (sa : Option Addr) (cap : Nat) (ss : List ByteArray) (w : World) (h2 : I64 ra) (h3 : I64 rb) (h5 : TextsAt w sa cap ss) :
    Calls Tryd.prog 48 #[.agg #[.int .i64 ki, .int .i64 ra, .int .i64 rb, .int .i64 rc, .slice sa ss.length cap]] w fun e w' => ∃ ba bc, e = .returned (.agg #[.int .i64 (pk ra 4), .int .i64 (1 + pk rb 9), .slice ba (bTxs ss).length bc]) ∧ w'.ownsRow w.heap.size 9 1 (.slice ba (bTxs ss).length bc) (bTxs ss).length (sv (bTxs ss)) ∧ Below w.heap.size w w' := by
  obtain ⟨pa0, pa1⟩ := pk_bounds ra 4 (by decide)
  obtain ⟨pb0, pb1⟩ := pk_bounds rb 9 (by decide)
  have hle := h5.le
  have hre := h5.reach
  have q0 := heap_alloc2_old w (.cells #[.int .i64 ki, .int .i64 ra, .int .i64 rb, .int .i64 rc, .slice sa ss.length cap] 80) (.cells #[.int .i64 0, .int .i64 0, .slice none 0 0] 42)
  have k1 := cells_at q0 1 _ rfl
  have k2 := cells_at q0 2 _ rfl
  have hw : IntKind.i64.wrap (1 + pk rb 9) = 1 + pk rb 9 := by rw [IntKind.wrap_i64]; omega
  go_enter Tryd.func48, Tryd.ntmps48
  go_upto_region 1 with (fail)
  go_cut [3] (fun v wx => v = .pointer (some ⟨w.heap.size + 2, 0, none⟩) ∧ Below w.heap.size w wx ∧ wx.heap[w.heap.size]? = some (.cells #[.int .i64 ki, .int .i64 ra, .int .i64 rb, .int .i64 rc, .slice sa ss.length cap] 80 (0, 0)) ∧ wx.heap[w.heap.size + 1]? = some (.cells #[.int .i64 0, .int .i64 0, .slice none 0 0] 42 (0, 0)) ∧ wx.heap[w.heap.size + 2]? = some (.cells #[.int .i64 (pk ra 4), .int .i64 (1 + pk rb 9), .slice none 0 0] 42 (0, 0)))
  case first =>
    go_region_held3 (fun w' => w'.cell? ⟨w.heap.size, 1, none⟩ = some (.int .i64 ra) ∧ w'.cell? ⟨w.heap.size, 2, none⟩ = some (.int .i64 rb)) (go_keep) (first | (go_at_call 35; refine (picked_any _ _ _ (by first | exact h2.1 | exact h3.1) (by first | exact h2.2 | exact h3.2) (by omega) (by omega)).mono ?_; rintro e w9 ⟨rfl, rfl⟩))
    all_goals
      go_wp2_with fail
      go_meet
      case rel =>
        refine ⟨rfl, ((((Below.refl _ _).alloc (Nat.le_refl _) _).alloc (by simp) _).alloc (by simp; omega) _).drew, ?_, ?_, ?_⟩
        · exact heap_keep (heap_keep (heap_alloc_new w _))
        · exact heap_keep (heap_new_at _ _ _ (by simp))
        · exact heap_new_at _ _ _ (by simp)
  case rest =>
    obtain ⟨rfl, hW, r0, r1, r2⟩ := hcut
    clear k1 k2 q0 hw
    obtain ⟨i, hi, hz0, hz1, hz2⟩ := info_parts infoStr
    have hN := lt_of_heap r2
    go_wp2_with fail
    go_loopw [4] (fun j wr => ∃ (k : Nat) (v : Value), k ≤ ss.length ∧ k ≤ 4 ∧ j = .int .i64 k ∧ Below w.heap.size w wr ∧ wr.heap[w.heap.size]? = some (.cells #[.int .i64 ki, .int .i64 ra, .int .i64 rb, .int .i64 rc, .slice sa ss.length cap] 80 (0, 0)) ∧ wr.heap[w.heap.size + 1]? = some (.cells #[.int .i64 0, .int .i64 0, .slice none 0 0] 42 (0, 0)) ∧ wr.heap[w.heap.size + 2]? = some (.cells #[.int .i64 (pk ra 4), .int .i64 (1 + pk rb 9), v] 42 (0, 0)) ∧ wr.ownsRow (w.heap.size + 3) 9 1 v k (sv ((ss.take k).map txS))) (fun j _ => ss.length - (intOf j).toNat)
    case atStart => exact ⟨0, _, Nat.zero_le _, Nat.zero_le _, rfl, hW, r0, r1, r2, World.ownsRow_nil _ _ _ _⟩
    case round =>
      clear hW r0 r1 r2 hN
      obtain ⟨k, v, hk, hk4, rfl, hW, r0, r1, r2, ho⟩ := hrel
      have c4 : wr.cell? ⟨w.heap.size, 4, none⟩ = some (.slice sa ss.length cap) := cells_at r0 4 _ rfl
      have o2 : wr.cell? ⟨w.heap.size + 2, 2, none⟩ = some v := cells_at r2 2 _ rfl
      have of2 := frozen_at r2 2
      have hN : w.heap.size + 2 < wr.heap.size := lt_of_heap r2
      by_cases hlt : k < ss.length ∧ k < 4
      · obtain ⟨hlt, hlt4⟩ := hlt
        obtain ⟨sb, so, rfl, hc⟩ : ∃ sb so, sa = some ⟨sb, so, none⟩ ∧ ∀ j, j < ss.length → wr.cell? ⟨sb, so + j, none⟩ = some (.string (ss.getD j ByteArray.empty)) := by
          rcases (h5.strs.below hW).cells with h | h
          · rw [h] at hlt; simp at hlt
          · exact h
        have ck := hc k hlt
        have hsz : (ss.getD k ByteArray.empty).size ≤ maxLen := h5.strs.size _ (by simp [List.getD, hlt])
        have hltI : (k : Int) < ss.length := by omega
        have hlt4I : (k : Int) < 4 := by omega
        have hst : Hid ((ss.take (k + 1)).map txS = (ss.take k).map txS ++ [txS (ss.getD k ByteArray.empty)]) := by
          show _ = _
          rw [List.take_succ_eq_append_getElem hlt, List.map_append]
          simp only [List.map_cons, List.map_nil, List.getD, List.getElem?_eq_getElem hlt, Option.getD_some]
        have hvb : v.ownBlock ≠ some (w.heap.size + 2) := fun e => by have := (ho.lt _ e).1; omega
        clear hc
        generalize ss.getD k ByteArray.empty = x at ck hst hsz
        go_wp2_with fail
        have hA : Below wr.heap.size wr (wr.alloc (.cells #[.string (txS x)] 9)).drew := ((Below.refl _ _).alloc (Nat.le_refl _) _).drew
        have r0A : (wr.alloc (.cells #[.string (txS x)] 9)).drew.heap[w.heap.size]? = some (.cells #[.int .i64 ki, .int .i64 ra, .int .i64 rb, .int .i64 rc, .slice (some ⟨sb, so, none⟩) ss.length cap] 80 (0, 0)) := heap_keep r0
        have r1A : (wr.alloc (.cells #[.string (txS x)] 9)).drew.heap[w.heap.size + 1]? = some (.cells #[.int .i64 0, .int .i64 0, .slice none 0 0] 42 (0, 0)) := heap_keep r1
        have r2A : (wr.alloc (.cells #[.string (txS x)] 9)).drew.heap[w.heap.size + 2]? = some (.cells #[.int .i64 (pk ra 4), .int .i64 (1 + pk rb 9), v] 42 (0, 0)) := heap_keep r2
        have hv0 : v.ownBlock ≠ some w.heap.size := fun e => by have := (ho.lt _ e).1; omega
        have hv1 : v.ownBlock ≠ some (w.heap.size + 1) := fun e => by have := (ho.lt _ e).1; omega
        have ckA : (wr.alloc (.cells #[.string (txS x)] 9)).drew.cell? ⟨sb, so + k, none⟩ = some (.string x) := (hA.cell (p := ⟨sb, so + k, none⟩) (block_lt_of_cell ck)).trans ck
        have hsbN : sb < w.heap.size := by
          rcases h5.strs.cells with h | ⟨sb', so', e, h⟩
          · rw [h] at hlt; simp at hlt
          · cases e; exact block_lt_of_cell (h k hlt)
        have hent := enters_of Tryd.func67 (by kernel_rfl) rfl
        go_region_law (first | (refine step_calls rfl 67 _ _ rfl [.string x] rfl hent (fun u w9 => u = .string (txS x) ∧ w9 = _) ((tx_any x _ hsz).mono (fun e w9 ⟨he, hw9⟩ => ⟨_, he, rfl, hw9.symm⟩)) ?_; rintro u w9 ⟨rfl, rfl⟩) | (refine step_append_own rfl _ _ 40 rfl (w.heap.size + 3) 9 i (.string ByteArray.empty) 1 16 Tryd.underlying40 hi hz0 hz1 hz2 rfl (by decide) _ k _ rfl (World.ownsRow.alloc ho.drew _) ⟨wr.heap.size, 0, none⟩ 1 1 [.string (txS x)] rfl rfl (cells_new _ _ _) (sv_one [_]) (by unfold maxLen; omega) (by omega) (le_alloc hN _) ?_; intro v1 w2 ho1 hg1; have s0 := (hg1.block _ (lt_of_heap r0A) (fun e => hv0 e.symm)).trans r0A; have s1 := (hg1.block _ (lt_of_heap r1A) (fun e => hv1 e.symm)).trans r1A; have s2 := (hg1.block _ (lt_of_heap r2A) (fun e => hvb e.symm)).trans r2A; have p2 : w2.cell? ⟨w.heap.size + 2, 2, none⟩ = some v := cells_at s2 2 _ rfl; have p4 : w2.cell? ⟨w.heap.size, 4, none⟩ = some (.slice (some ⟨sb, so, none⟩) ss.length cap) := cells_at s0 4 _ rfl; have pk' : w2.cell? ⟨sb, so + k, none⟩ = some (.string x) := (World.cell?_of_block (hg1.block sb (block_lt_of_cell ckA) (fun e => by have := (ho.lt _ e.symm).1; omega))).trans ckA; have pf2 := frozen_at s2 2; obtain ⟨qa, qc, hq⟩ := owns_shape ho1; subst hq))
        all_goals
          go_wp2_with fail
          go_roundw
          case rel =>
            have hb2 : Below w.heap.size w w2 := Below.grown (hW.drew.alloc hW.size _) hg1 (le_alloc hW.size _) (fun q e => by have := (ho.lt q e).1; omega)
            have hR : ∃ (k' : Nat) (v' : Value), k' ≤ ss.length ∧ k' ≤ 4 ∧ (Value.int .i64 ((k : Int) + 1)) = .int .i64 k' ∧ Below w.heap.size w (w2.setCell ⟨w.heap.size + 2, 2, none⟩ (.slice qa (k + 1) qc)) ∧ (w2.setCell ⟨w.heap.size + 2, 2, none⟩ (.slice qa (k + 1) qc)).heap[w.heap.size]? = some (.cells #[.int .i64 ki, .int .i64 ra, .int .i64 rb, .int .i64 rc, .slice (some ⟨sb, so, none⟩) ss.length cap] 80 (0, 0)) ∧ (w2.setCell ⟨w.heap.size + 2, 2, none⟩ (.slice qa (k + 1) qc)).heap[w.heap.size + 1]? = some (.cells #[.int .i64 0, .int .i64 0, .slice none 0 0] 42 (0, 0)) ∧ (w2.setCell ⟨w.heap.size + 2, 2, none⟩ (.slice qa (k + 1) qc)).heap[w.heap.size + 2]? = some (.cells #[.int .i64 (pk ra 4), .int .i64 (1 + pk rb 9), v'] 42 (0, 0)) ∧ (w2.setCell ⟨w.heap.size + 2, 2, none⟩ (.slice qa (k + 1) qc)).ownsRow (w.heap.size + 3) 9 1 v' k' (sv ((ss.take k').map txS)) :=
              ⟨k + 1, .slice qa (k + 1) qc, by omega, by omega, by go_num, hb2.setCell (by simp) _, heap_far s0 (by omega), heap_far s1 (by omega), by simpa using heap_setCell_same _ _ 2 _ _ (.slice qa (k + 1) qc) s2, by rw [hst.out]; exact owns_far (by simpa [sv] using ho1) _ _ _ (by omega)⟩
            first | exact hR | ((repeat apply Exists.intro); exact ⟨hR, rfl⟩)
          case measure => simp [intOf]; omega
      · obtain ⟨za, zc, hz⟩ := owns_shape ho
        subst hz
        have p0 : wr.cell? ⟨w.heap.size + 2, 0, none⟩ = some (.int .i64 (pk ra 4)) := cells_at r2 0 _ rfl
        have p1 : wr.cell? ⟨w.heap.size + 2, 1, none⟩ = some (.int .i64 (1 + pk rb 9)) := cells_at r2 1 _ rfl
        have d0 : wr.cell? ⟨w.heap.size + 1, 0, none⟩ = some (.int .i64 0) := cells_at r1 0 _ rfl
        have d1 : wr.cell? ⟨w.heap.size + 1, 1, none⟩ = some (.int .i64 0) := cells_at r1 1 _ rfl
        have d2 : wr.cell? ⟨w.heap.size + 1, 2, none⟩ = some (.slice none 0 0) := cells_at r1 2 _ rfl
        have hN1 : w.heap.size + 1 < wr.heap.size := by omega
        have f0 := frozen_at r1 0
        have f1 := frozen_at r1 1
        have f2 := frozen_at r1 2
        by_cases h0 : k = 0
        · subst h0
          have hs0 : ss = [] := List.eq_nil_of_length_eq_zero (by omega)
          subst hs0
          go_wp2_with fail
          refine bodyPost_ret (v := .agg #[.int .i64 (pk ra 4), .int .i64 (1 + pk rb 9), .slice (some ⟨wr.heap.size, 0, none⟩) 1 1]) (by simp [results, Tryd.results48, go_sem, d0, d1, d2, hN1]) rfl ⟨_, _, rfl, ?_, ?_⟩
          · have hO := World.ownsRow_lit (base := w.heap.size) (e := 9) (size := 1) ((((wr.setCell ⟨w.heap.size + 2, 2, none⟩ (.slice (some ⟨wr.heap.size, 0, none⟩) 1 1)).setCell ⟨w.heap.size + 1, 0, none⟩ (.int .i64 (pk ra 4))).setCell ⟨w.heap.size + 1, 1, none⟩ (.int .i64 (1 + pk rb 9))).setCell ⟨w.heap.size + 1, 2, none⟩ (.slice (some ⟨wr.heap.size, 0, none⟩) 1 1)) (sv [⟨#[116]⟩]).toArray 1 (by simpa using hW.size) (by decide) rfl
            simpa [bTxs, sv] using hO
          · exact ((((hW.setCell (by simp) _).setCell (by simp) _).setCell (by simp) _).setCell (by simp) _).alloc (by simpa using hW.size) _
        · have h0I : ¬ (k : Int) = 0 := by omega
          have hB : Hid (bTxs ss = (ss.take k).map txS) := by
            show _ = _
            have hne : ss ≠ [] := fun e => by subst e; simp at hk; omega
            have : ss.take 4 = ss.take k := by
              by_cases h4 : k = 4
              · rw [h4]
              · have : k = ss.length := by omega
                rw [List.take_of_length_le (by omega), List.take_of_length_le (by omega)]
            rw [bTxs, if_neg hne, this]
          have hl : Hid (k = (bTxs ss).length) := by show _ = _; rw [hB.out]; simp; omega
          by_cases h4 : k < ss.length
          · obtain rfl : k = 4 := by omega
            have hltI : (4 : Int) < ss.length := by omega
            go_wp2_with fail
            refine bodyPost_ret (v := .agg #[.int .i64 (pk ra 4), .int .i64 (1 + pk rb 9), .slice za 4 zc]) (by simp [results, Tryd.results48, go_sem, d0, d1, d2]) rfl ?_
            rw [← hl.out, hB.out]
            exact ⟨_, _, rfl, ownsRow_base' (owns_far (owns_far (owns_far ho _ _ _ (by omega)) _ _ _ (by omega)) _ _ _ (by omega)) (by omega), (((hW.setCell (by simp) _).setCell (by simp) _).setCell (by simp) _)⟩
          · have hltI : ¬ (k : Int) < ss.length := by omega
            go_wp2_with fail
            refine bodyPost_ret (v := .agg #[.int .i64 (pk ra 4), .int .i64 (1 + pk rb 9), .slice za k zc]) (by simp [results, Tryd.results48, go_sem, d0, d1, d2]) rfl ?_
            rw [← hl.out, hB.out]
            exact ⟨_, _, rfl, ownsRow_base' (owns_far (owns_far (owns_far ho _ _ _ (by omega)) _ _ _ (by omega)) _ _ _ (by omega)) (by omega), (((hW.setCell (by simp) _).setCell (by simp) _).setCell (by simp) _)⟩
end Go.Proofs.YtbmodfegcmaieaaDoor

namespace Go.Proofs.YtbmodfegcmaieaaDoor
open Go.RowKit

set_option maxRecDepth 100000 in
theorem bTxs_ok (ss : List ByteArray) : (1 ≤ (bTxs ss).length ∧ (bTxs ss).length ≤ 4) ∧ ∀ s ∈ bTxs ss, 1 ≤ s.size ∧ s.size ≤ 20 := by
  unfold bTxs
  by_cases h : ss = []
  · rw [if_pos h]
    exact ⟨by simp, fun s hs => by simp at hs; subst hs; decide⟩
  · rw [if_neg h]
    have : 0 < ss.length := List.length_pos_iff.2 h
    refine ⟨by simp; omega, fun s hs => ?_⟩
    simp only [List.mem_map] at hs
    obtain ⟨x, _, rfl⟩ := hs
    exact txS_size x
set_option maxRecDepth 100000 in
theorem batchF_raw (ra rb : Int) (ss : List ByteArray) : batchF (pk ra 4) (1 + pk rb 9) (bTxs ss) = 0 := by
  obtain ⟨pa0, pa1⟩ := pk_bounds ra 4 (by decide)
  obtain ⟨pb0, pb1⟩ := pk_bounds rb 9 (by decide)
  obtain ⟨⟨h1, h2⟩, h3⟩ := bTxs_ok ss
  rw [batchF, if_neg (by omega), if_neg (by omega), if_pos]
  rw [List.all_eq_true]
  exact fun s hs => by simpa [txOk] using h3 s hs
end Go.Proofs.YtbmodfegcmaieaaDoor

namespace Go.Proofs.YtbmodfegcmaieaaDoor
open Go.RowKit

def rtAt (rs : List Rt) (k : Nat) : Rt := rs.getD k ⟨0, 0, 0, 0, none, 0, []⟩
/-- The k'th batch. -/
def rawB (rs : List Rt) (k : Nat) : BW := ⟨pk (rtAt rs k).a 4, 1 + (k : Int), bTxs (rtAt rs k).ss⟩
def rawsTo (rs : List Rt) (n : Nat) : List BW := (List.range n).map (rawB rs)
set_option maxRecDepth 100000 in
theorem rawsTo_succ (rs : List Rt) (n : Nat) : rawsTo rs (n + 1) = rawsTo rs n ++ [rawB rs n] := by simp [rawsTo, List.range_succ]
set_option maxRecDepth 100000 in
theorem rawsTo_length (rs : List Rt) (n : Nat) : (rawsTo rs n).length = n := by simp [rawsTo]
set_option maxRecDepth 100000 in
theorem rawB_f (rs : List Rt) (k : Nat) (hk : k ≤ 1000) : (rawB rs k).f = 0 := by
  have hp := pk_bounds (rtAt rs k).a 4 (by decide)
  obtain ⟨⟨h1, h2⟩, h3⟩ := bTxs_ok (rtAt rs k).ss
  show batchF (pk (rtAt rs k).a 4) (1 + (k : Int)) (bTxs (rtAt rs k).ss) = 0
  unfold batchF
  rw [if_neg (by omega), if_neg (by omega), if_pos]
  rw [List.all_eq_true]
  intro s hs
  exact decide_eq_true (h3 s hs)
set_option maxRecDepth 100000 in
theorem rawsTo_f (rs : List Rt) (n : Nat) (hn : n ≤ 1000) : ∀ b ∈ rawsTo rs n, b.f = 0 := by
  intro b hb
  obtain ⟨k, hk, rfl⟩ := List.mem_map.1 hb
  exact rawB_f rs k (by have := List.mem_range.1 hk; omega)
set_option maxRecDepth 100000 in
theorem rawsTo_nums (rs : List Rt) (n : Nat) : (rawsTo rs n).Pairwise (fun a b => a.nu < b.nu) := by
  rw [rawsTo, List.pairwise_map]
  refine List.Pairwise.imp ?_ (List.pairwise_lt_range)
  intro a b hab
  show 1 + (a : Int) < 1 + (b : Int)
  omega
/-- What batchesOf answers. -/
structure BofO (w w' : World) (e : Ending) (rs : List Rt) : Prop where
  below : Below w.heap.size w w'
  out : ∃ (v : Value) (bl : List Bc), e = .returned v ∧ bws bl = rawsTo rs (min rs.length 12) ∧ w'.ownsRow w.heap.size 42 3 v bl.length (bcl bl) ∧ ∀ b ∈ bl, BcAt w' b
set_option maxRecDepth 100000 in
set_option maxHeartbeats 4000000 in
theorem batchesOf_any (rs : List Rt) (sa : Option Addr) (n cap : Nat) (w : World) (hn : n = rs.length) (hr : RawTs w sa rs) :
    Calls Tryd.prog 26 #[.slice sa n cap] w fun e w' => BofO w w' e rs := by
  subst hn
  obtain ⟨ib, hib, hi0, hi1, hi2⟩ := info_parts infoBatch
  have HR : Hid (∀ W : World, Below w.heap.size w W → RawTs W sa rs) := by
    show ∀ W, _
    exact fun W hW => hr.below hW
  clear hr
  go_enter Tryd.func26, Tryd.ntmps26
  go_wp2_with fail
  go_loopw [4, 3] (fun j v wr => ∃ (m : Nat) (bl : List Bc), (m ≤ rs.length ∧ m ≤ 12) ∧ j = .int .i64 m ∧ Hid (bws bl = rawsTo rs m) ∧ Hid (bl.length = m) ∧ wr.ownsRow w.heap.size 42 3 v m (bcl bl) ∧ Hid (∀ b ∈ bl, TxOwn wr w.heap.size b) ∧ Below w.heap.size w wr) (fun j _ _ => 12 - (intOf j).toNat)
  case atStart => exact ⟨0, [], ⟨Nat.zero_le _, Nat.zero_le _⟩, rfl, (show _ = _ from rfl), (show _ = _ from rfl), World.ownsRow_nil _ _ _ _, (show ∀ b ∈ [], _ from fun b hb => by cases hb), Below.refl _ _⟩
  case round =>
    obtain ⟨m, bl, ⟨hm, hm12⟩, rfl, HBL, HLN, ho, HTX, hb⟩ := hrel
    by_cases hlt : m < rs.length ∧ m < 12
    · obtain ⟨hl1, hl2⟩ := hlt
      have hl1I : (m : Int) < rs.length := by omega
      have hl2I : (m : Int) < 12 := by omega
      have hrr := HR.out wr hb
      obtain ⟨sb, so, hse, hc⟩ : ∃ sb so, sa = some ⟨sb, so, none⟩ ∧ ∀ j (h : j < rs.length), _ := by
        rcases hrr.cells with h | h
        · rw [h] at hl1; simp at hl1
        · exact h
      subst hse
      obtain ⟨c0, c1, c2, c3, c4⟩ := hc m hl1
      obtain ⟨_, i2, i3, _, i5⟩ := hrr.each (rs[m]) (List.getElem_mem hl1)
      have HRT : Hid (rawB rs m = ⟨pk (rs[m]).a 4, 1 + (m : Int), bTxs (rs[m]).ss⟩) := by
        show _ = _
        simp [rawB, rtAt, hl1]
      clear hc hrr
      generalize rs[m] = r at c0 c1 c2 c3 c4 i2 i3 i5 HRT
      have HBT := batch_raw r.ki r.a r.b r.c r.sa r.cap r.ss wr i2 i3 i5
      go_wp2_with fail
      refine HBT.mono ?_
      rintro e w2 ⟨ba, bc, he, hot, hb2⟩
      subst he
      dsimp only
      have hB2 := hb.trans (hb2.mono hb.size)
      have ho2 := owns_keep ho hb2
      have HTX2 : Hid (∀ b ∈ bl, TxOwn w2 w.heap.size b) := by
        show ∀ b ∈ bl, _
        exact fun b hb' => ⟨owns_keep (HTX.out b hb').1 hb2, (HTX.out b hb').2⟩
      have HOT : Hid (TxOwn w2 w.heap.size ⟨⟨pk r.a 4, 1 + (m : Int), bTxs r.ss⟩, ba, bc⟩) := by
        refine ⟨own_wideO hot hb.size, fun s hs => ?_⟩
        have := ((bTxs_ok r.ss).2 s hs).2
        unfold maxLen; omega
      have hw1 : IntKind.i64.wrap (1 + (m : Int)) = 1 + (m : Int) := by rw [IntKind.wrap_i64]; omega
      clear HBT c0 c1 c2 c3 c4 hot HTX i2 i3 i5
      generalize bTxs r.ss = tl at HOT HRT ⊢
      generalize pk r.a 4 = pa at HOT HRT ⊢
      generalize 1 + pk r.b 9 = pb
      have q2 := heap_alloc_new w2 (.cells #[.int .i64 pa, .int .i64 pb, .slice ba tl.length bc] 42)
      have hA2 := (Below.refl w2.heap.size w2).alloc (Nat.le_refl _) (.cells #[.int .i64 pa, .int .i64 pb, .slice ba tl.length bc] 42)
      go_upto_region 6 with fail
      generalize w2.alloc (.cells #[.int .i64 pa, .int .i64 pb, .slice ba tl.length bc] 42) = W3 at q2 hA2 ⊢
      have k1 := cells_at q2 1 _ rfl
      have f1 := frozen_at q2 1
      have hA3 := hA2.setCell (p := ⟨w2.heap.size, 1, none⟩) (Nat.le_refl _) (.int .i64 (1 + (m : Int)))
      have q3 : (W3.setCell ⟨w2.heap.size, 1, none⟩ (.int .i64 (1 + (m : Int)))).heap[w2.heap.size]? = some (.cells #[.int .i64 pa, .int .i64 (1 + (m : Int)), .slice ba tl.length bc] 42 (0, 0)) := by simpa using heap_setCell_same _ _ 1 _ _ (.int .i64 (1 + (m : Int))) q2
      go_upto_region 7 with fail
      generalize W3.setCell ⟨w2.heap.size, 1, none⟩ (.int .i64 (1 + (m : Int))) = W4 at q3 hA3 ⊢
      have g0 := cells_at q3 0 _ rfl
      have g1 := cells_at q3 1 _ rfl
      have g2 := cells_at q3 2 _ rfl
      have hB4 := hB2.trans (hA3.mono hB2.size)
      have ho4 := owns_keep ho2 hA3
      have HTX4 : Hid (∀ b ∈ bl ++ [⟨⟨pa, 1 + (m : Int), tl⟩, ba, bc⟩], TxOwn W4 w.heap.size b) := by
        show ∀ b ∈ bl ++ [⟨⟨pa, 1 + (m : Int), tl⟩, ba, bc⟩], _
        intro b hb'
        rcases List.mem_append.1 hb' with g | g
        · exact ⟨owns_keep (HTX2.out b g).1 hA3, (HTX2.out b g).2⟩
        · obtain rfl : b = _ := by simpa using g
          exact ⟨owns_keep HOT.out.1 hA3, HOT.out.2⟩
      clear HTX2 HOT ho2 hA2 q2 k1 f1
      go_wp2_with (at_builtin; refine wpList_append_own_at _ rfl _ _ 22 rfl w.heap.size 42 ib (.agg #[.int .i64 0, .int .i64 0, .slice none 0 0]) 3 40 Tryd.underlying22 hib hi0 hi1 hi2 rfl (by decide) _ m _ rfl (World.ownsRow.alloc ho4 _) ⟨W4.heap.size, 0, none⟩ 1 1 (Bc.cs ⟨⟨pa, 1 + (m : Int), tl⟩, ba, bc⟩) rfl rfl (cells_new _ _ _) (bc_one _) (by unfold maxLen; omega) (by omega) (le_alloc hB4.size _) ?_; intro v5 w5 ho5 hg5 _ hat5)
      have G5 := Grew.of hg5 hat5
      have hB5 := Below.grown (hB4.alloc hB4.size _) hg5 (le_alloc hB4.size _) (fun q e => (ho4.lt q e).1)
      have HTX5 : Hid (∀ b ∈ bl ++ [⟨⟨pa, 1 + (m : Int), tl⟩, ba, bc⟩], TxOwn w5 w.heap.size b) := by
        show ∀ b ∈ bl ++ [⟨⟨pa, 1 + (m : Int), tl⟩, ba, bc⟩], _
        intro b hb'
        obtain ⟨t1, t2⟩ := HTX4.out b hb'
        exact ⟨owns_grew (World.ownsRow.alloc t1 _) (World.ownsRow.alloc ho4 _) (by decide) G5, t2⟩
      go_roundw
      case rel =>
        have hR : ∃ (m' : Nat) (bl' : List Bc), (m' ≤ rs.length ∧ m' ≤ 12) ∧ (Value.int .i64 ((m : Int) + 1)) = .int .i64 m' ∧ Hid (bws bl' = rawsTo rs m') ∧ Hid (bl'.length = m') ∧ w5.ownsRow w.heap.size 42 3 v5 m' (bcl bl') ∧ Hid (∀ b ∈ bl', TxOwn w5 w.heap.size b) ∧ Below w.heap.size w w5 :=
          ⟨m + 1, bl ++ [⟨⟨pa, 1 + (m : Int), tl⟩, ba, bc⟩], ⟨by omega, by omega⟩, by go_num, (by
            show _ = _
            rw [rawsTo_succ, HRT.out, ← HBL.out]; simp [bws]), (by
            show _ = _
            rw [List.length_append, HLN.out]; rfl), by rw [bcl_app]; simpa [bcl] using ho5, HTX5, hB5⟩
        first | exact hR | ((repeat apply Exists.intro); exact ⟨hR, rfl⟩)
      case measure => simp [intOf]; omega
    · have HME : Hid (m = min rs.length 12) := by show _ = _; omega
      have HOUT : Hid (∀ v, wr.ownsRow w.heap.size 42 3 v m (bcl bl) → BofO w wr (.returned v) rs) := by
        show ∀ v, _
        intro v hv
        refine ⟨hb, v, bl, rfl, by rw [HBL.out, HME.out], by rw [HLN.out]; exact hv, fun b hb' => (HTX.out b hb').at⟩
      by_cases hl1 : m < rs.length
      · obtain rfl : m = 12 := by omega
        have hl1I : (12 : Int) < rs.length := by omega
        clear hlt
        go_wp2_with fail
        go_ret
        exact HOUT.out _ ho
      · have hl1I : ¬ ((m : Int) < rs.length) := by omega
        clear hlt
        go_wp2_with fail
        go_ret
        exact HOUT.out _ ho
end Go.Proofs.YtbmodfegcmaieaaDoor

namespace Go.Proofs.YtbmodfegcmaieaaDoor
open Go.RowKit

/-- What batchesBad answers. -/
def BbdO (w w' : World) (e : Ending) (rs : List Rt) : Prop := (e = .returned (.bool true) ∨ (e = .returned (.bool false) ∧ CollB (rawsTo rs (min rs.length 12)))) ∧ Below w.heap.size w w'
set_option maxRecDepth 100000 in
theorem bsF_zeroB (l : List BW) : bsF (l ++ [⟨0, 0, []⟩]) = 12 := by
  rcases bsF_or (l ++ [⟨0, 0, []⟩]) with h | h
  · obtain ⟨_, h2, _⟩ := bsF_iff.1 h
    have := h2 ⟨0, 0, []⟩ (by simp)
    cases this
  · exact h
set_option maxRecDepth 100000 in
set_option maxHeartbeats 4000000 in
theorem batchesBad_any (rs : List Rt) (sa : Option Addr) (cap : Nat) (n : Int) (w : World) (hr : RawTs w sa rs) (hn1 : -9223372036854775808 ≤ n) (hn2 : n ≤ 9223372036854775807) (hT : Tabs w) :
    Calls Tryd.prog 24 #[.slice sa rs.length cap, .int .i64 n] w fun e w' => BbdO w w' e rs := by
  have HT : Hid (∀ W : World, Below w.heap.size w W → Tabs W) := by
    show ∀ W, _
    exact fun W hW => hT.below hW
  have HB := batchesOf_any rs sa _ cap w rfl hr
  clear hT hr
  go_enter Tryd.func24, Tryd.ntmps24
  go_wp2_with fail
  refine HB.mono ?_
  intro e w1 hO
  have hb1 := hO.below
  obtain ⟨v, bl, he, hbw, ho, hat⟩ := hO.out
  obtain ⟨ba, bc, hve, -, hAt⟩ := bcs_of_owns ho hat
  subst hve
  subst he
  dsimp only
  have HBW : Hid _ := hbw
  have hbl12 : bl.length ≤ 12 := by
    have := congrArg List.length hbw
    rw [bws_length, rawsTo_length] at this; omega
  have HOK : Hid (bsF (bws bl) = 0 ∨ (bsF (bws bl) = 12 ∧ CollB (rawsTo rs (min rs.length 12)))) := by
    show _ ∨ _
    rw [hbw]
    rcases bsF_or_coll (l := rawsTo rs (min rs.length 12)) (by rw [rawsTo_length]; omega) (rawsTo_f rs _ (by omega)) (rawsTo_nums rs _) with g | g
    · exact .inl g
    · rcases bsF_or (rawsTo rs (min rs.length 12)) with h | h
      · exact .inl h
      · exact .inr ⟨h, g⟩
  have HCK := checkBatches_any bl ba _ bc w1 rfl hAt (HT.out w1 hb1)
  clear hbw hO HB
  go_upto_region 2 with fail
  rcases HOK.out with h0 | ⟨h12, hco⟩
  case inr =>
    have HCO : Hid _ := hco
    rw [h12] at HCK
    clear hco h12 HOK
    go_wp2_with (go_at_call 13; refine HCK.mono ?_; rintro e w2 ⟨he, hb2⟩; subst he; dsimp only)
    go_ret
    exact ⟨.inr ⟨rfl, HCO.out⟩, hb1.trans (hb2.mono hb1.size)⟩
  case inl =>
    rw [h0] at HCK
    clear h0 HOK
    go_upto_region 4 with (go_at_call 13; refine HCK.mono ?_; rintro e w2 ⟨he, hb2⟩; subst he; dsimp only)
    clear HCK
    have hB2 := hb1.trans (hb2.mono hb1.size)
    have ho2 := owns_keep ho hb2
    have HAT : Hid (∀ W : World, Below w1.heap.size w1 W → ∀ b ∈ bl, BcAt W b) := by
      show ∀ W, _
      exact fun W hW b hb => (hat b hb).below hW
    have hZ : BcAt w2 ⟨⟨0, 0, []⟩, none, 0⟩ := ⟨⟨.inl rfl, fun s hs => by cases hs⟩, Nat.le_refl _, by decide, fun _ => rfl, fun sb so e => by cases e⟩
    go_wp2_with (at_builtin; first
      | (refine wpList_append_own_at _ rfl _ _ 22 rfl w2.heap.size 42 ib (.agg #[.int .i64 0, .int .i64 0, .slice none 0 0]) 3 40 Tryd.underlying22 hib hi0 hi1 hi2 rfl (by decide) _ (0 + bl.length) _ rfl (World.ownsRow.alloc ho3 _) ⟨w3.heap.size, 0, none⟩ 1 1 (Bc.cs ⟨⟨0, 0, []⟩, none, 0⟩) rfl rfl (cells_new _ _ _) (bc_one _) (by unfold maxLen; omega) (by omega) (le_alloc hb3.size _) ?_; intro v4 w4 ho4 hg4 _ hat4)
      | (refine wpList_append_bcs rfl _ _ rfl w2.heap.size (.slice none 0 0) 0 [] rfl (World.ownsRow_nil _ _ _ _) _ bl.length bl w.heap.size rfl ho2 (by omega) (Nat.le_refl _) ?_; intro v3 w3 ho3 hg3; have hb3 : Below w2.heap.size w2 w3 := Below.grown (Below.refl _ _) hg3 (Nat.le_refl _) (fun q e => by cases e); obtain ⟨ib, hib, hi0, hi1, hi2⟩ := info_parts infoBatch))
    have hb4 : Below w2.heap.size w2 w4 := Below.grown (hb3.alloc hb3.size _) hg4 (le_alloc hb3.size _) (fun q e => (ho3.lt q e).1)
    have hB4 := hB2.trans (hb4.mono hB2.size)
    have HO4 : w4.ownsRow w2.heap.size 42 3 v4 (0 + bl.length + 1) (bcl (bl ++ [⟨⟨0, 0, []⟩, none, 0⟩])) := by
      rw [bcl_app]; simpa [bcl] using ho4
    obtain ⟨ga, gc, hve, hgl, hAt4⟩ := bcs_of_owns HO4 (fun b hb => by
      rcases List.mem_append.1 hb with g | g
      · exact HAT.out w4 (hb2.trans (hb4.mono hb2.size)) b g
      · obtain rfl : b = _ := by simpa using g
        exact hZ.below hb4)
    have HGL : Hid _ := hgl
    clear hgl
    subst hve
    have HC4 := checkBatches_any (bl ++ [⟨⟨0, 0, []⟩, none, 0⟩]) ga _ gc w4 HGL.out hAt4 (HT.out w4 hB4)
    have h12 : bsF (bws (bl ++ [⟨⟨0, 0, []⟩, none, 0⟩])) = 12 := by
      have e3 : bws (bl ++ [⟨⟨0, 0, []⟩, none, 0⟩]) = bws bl ++ [⟨0, 0, []⟩] := by simp [bws]
      rw [e3]; exact bsF_zeroB _
    rw [h12] at HC4
    clear h12 HO4 hAt4 hZ ho4 ho3 hg3 hg4 hat4
    go_upto_region 7 with (go_at_call 13; refine HC4.mono ?_; rintro e w5 ⟨he, hb5⟩; subst he; dsimp only)
    clear HC4 HGL
    have hb15 := hb2.trans ((hb4.trans (hb5.mono hb4.size)).mono hb2.size)
    have hB5 := hB4.trans (hb5.mono hB4.size)
    have ho5 := owns_keep ho hb15
    have hAt5 := hAt.below hb15
    by_cases hz : bl.length = 0
    · obtain rfl : bl = [] := List.eq_nil_of_length_eq_zero hz
      clear hz hAt hAt5 ho ho2 ho5
      simp only [List.length_nil]
      go_wp2_with fail
      go_ret
      exact ⟨.inl rfl, hB5⟩
    · have hzI : ((bl.length : Int) == 0) = false := by rw [beq_eq_false_iff_ne]; omega
      obtain ⟨I, hEI⟩ : ∃ I : Nat, pk n bl.length = (I : Int) := ⟨(pk n bl.length).toNat, by have := pk_bounds n bl.length (by omega); omega⟩
      have hI : I < bl.length := by have := pk_bounds n bl.length (by omega); omega
      have HPI : Hid (∀ V : World, Calls Tryd.prog 35 #[.int .i64 n, .int .i64 (bl.length : Int)] V fun e w' => e = .returned (.int .i64 (I : Int)) ∧ V = w') := by
        show ∀ V, _
        intro V
        rw [← hEI]
        exact picked_any n bl.length V hn1 hn2 (by omega) (by omega)
      have hII : (I : Int) < bl.length := by omega
      clear hEI hz
      obtain ⟨bb, bo, hbe, c0, c1, c2⟩ := hAt5.at I hI
      subst hbe
      have HXM : Hid (bl[I] ∈ bl) := List.getElem_mem hI
      have hxA := hAt5.each _ (List.getElem_mem hI)
      generalize bl[I] = x at c0 c1 c2 HXM hxA
      have hbbl : bb < w5.heap.size := block_lt_of_cell c0
      obtain ⟨ib, hib, hi0, hi1, hi2⟩ := info_parts infoBatch
      go_upto_region 9 with fail
      go_wp2_with (first
        | (go_at_call 35; refine (HPI.out _).mono ?_; rintro e w' ⟨rfl, rfl⟩)
        | (at_builtin; first
          | (refine wpList_append_own_at _ rfl _ _ 22 rfl w5.heap.size 42 ib (.agg #[.int .i64 0, .int .i64 0, .slice none 0 0]) 3 40 Tryd.underlying22 hib hi0 hi1 hi2 rfl (by decide) _ (0 + bl.length) _ rfl (World.ownsRow.alloc ho6 _) ⟨w6.heap.size, 0, none⟩ 1 1 (Bc.cs x) rfl rfl (cells_new _ _ _) (bc_one _) (by unfold maxLen; omega) (by omega) (le_alloc hb6.size _) ?_; intro v7 w7 ho7 hg7 _ hat7)
          | (refine wpList_append_bcs rfl _ _ rfl w5.heap.size (.slice none 0 0) 0 [] rfl (World.ownsRow_nil _ _ _ _) _ bl.length bl w.heap.size rfl ho5 (by omega) (Nat.le_refl _) ?_; intro v6 w6 ho6 hg6; have hb6 : Below w5.heap.size w5 w6 := Below.grown (Below.refl _ _) hg6 (Nat.le_refl _) (fun q e => by cases e); have g0 := (hb6.cell (p := ⟨bb, bo + I * 3, none⟩) hbbl).trans c0; have g1 := (hb6.cell (p := ⟨bb, bo + I * 3 + 1, none⟩) hbbl).trans c1; have g2 := (hb6.cell (p := ⟨bb, bo + I * 3 + 2, none⟩) hbbl).trans c2)))
      have hb7 : Below w5.heap.size w5 w7 := Below.grown (hb6.alloc hb6.size _) hg7 (le_alloc hb6.size _) (fun q e => (ho6.lt q e).1)
      have hB7 := hB5.trans (hb7.mono hB5.size)
      have HO7 : w7.ownsRow w5.heap.size 42 3 v7 (0 + bl.length + 1) (bcl (bl ++ [x])) := by
        rw [bcl_app]; simpa [bcl] using ho7
      obtain ⟨ga2, gc2, hve, hgl, hAt7⟩ := bcs_of_owns HO7 (fun b hb => by
        rcases List.mem_append.1 hb with g | g
        · exact HAT.out w7 (hb15.trans (hb7.mono hb15.size)) b g
        · obtain rfl : b = x := by simpa using g
          exact hxA.below hb7)
      have HGL : Hid _ := hgl
      clear hgl
      subst hve
      have HC7 := checkBatches_any (bl ++ [x]) ga2 _ gc2 w7 HGL.out hAt7 (HT.out w7 hB7)
      have h12 : bsF (bws (bl ++ [x])) = 12 := by
        have e3 : bws (bl ++ [x]) = bws bl ++ [x.v] := by simp [bws]
        rw [e3]; exact bsF_twice (List.mem_map.2 ⟨x, HXM.out, rfl⟩)
      rw [h12] at HC7
      clear h12 HO7 hAt7 ho7 ho6 hg6 hg7 hat7 c0 c1 c2 g0 g1 g2
      first
        | (refine HC7.mono ?_; rintro e w8 ⟨he, hb8⟩; subst he; dsimp only)
        | (go_wp2_with fail; refine HC7.mono ?_; rintro e w8 ⟨he, hb8⟩; subst he; dsimp only)
      go_wp2_with fail
      go_ret
      exact ⟨.inl rfl, hB7.trans (hb8.mono hB7.size)⟩
set_option maxRecDepth 100000 in
theorem batchesBad_walk (sa : Option Addr) (cap : Nat) (rs : List Rt) (n : Int) (w : World) (hr : RawTs w sa rs) (_hc : rs.length ≤ cap) (hn1 : -9223372036854775808 ≤ n) (hn2 : n ≤ 9223372036854775807) (hT : Tabs w) :
    Calls Tryd.prog 11 #[.slice sa rs.length cap, .int .i64 n] w fun e w' => e = .returned (.bool true) ∧ Below w.heap.size w w' := by
  have H := batchesBad_any rs sa cap n w hr hn1 hn2 hT
  go_enter Tryd.func11, Tryd.ntmps11
  go_wp2_with fail
  refine H.mono ?_
  rintro e w1 ⟨hor, hb1⟩
  rcases hor with he | ⟨he, hco⟩
  · subst he
    dsimp only
    go_wp2_with fail
    go_ret
    exact ⟨rfl, hb1⟩
  · subst he
    dsimp only
    have HCO : Hid _ := hco
    have HB := batchesOf_any rs sa _ cap w1 rfl (hr.below hb1)
    clear H hco
    go_wp2_with fail
    refine HB.mono ?_
    intro e w2 hO
    have hb2 := hO.below
    obtain ⟨v, bl, he, hbw, ho, hat⟩ := hO.out
    obtain ⟨ba, bc, hve, -, hAt⟩ := bcs_of_owns ho hat
    subst hve
    subst he
    dsimp only
    have hB2 := hb1.trans (hb2.mono hb1.size)
    have H2 : Calls Tryd.prog 25 #[.slice none 0 0, .slice ba bl.length bc] w2 fun e w' => e = .returned (.bool true) ∧ Below w2.heap.size w2 w' := by
      obtain ⟨K, I, h1, h2, h3, h4⟩ := HCO.out
      rw [← hbw] at h2 h3 h4
      rw [bws_length] at h2
      have hK : K < bl.length := by omega
      have hl12 : bl.length ≤ 12 := by
        have := congrArg List.length hbw
        rw [bws_length, rawsTo_length] at this; omega
      rw [bws_at bl I h2, bws_at bl K hK] at h3 h4
      refine oneSum_batches [] none 0 0 bl ba _ bc w2 I K rfl rfl (by simp) (by omega) h1 h2 ⟨.inl rfl, fun c hc => by cases hc⟩ hAt (fun b hb => ?_) ?_ ?_ (hT.below hB2)
      · have hm : b.v ∈ rawsTo rs (min rs.length 12) := by rw [← hbw]; exact List.mem_map.2 ⟨b, hb, rfl⟩
        exact rawsTo_f rs _ (by omega) _ hm
      · rw [bcAt_get bl I h2, bcAt_get bl K hK]; exact h3
      · rw [bcAt_get bl I h2, bcAt_get bl K hK]; exact h4
    clear hO hbw ho hat hAt HB
    go_wp2_with fail
    refine H2.mono ?_
    rintro e w3 ⟨he, hb3⟩
    subst he
    dsimp only
    go_wp2_with fail
    go_ret
    exact ⟨rfl, hB2.trans (hb3.mono hB2.size)⟩
end Go.Proofs.YtbmodfegcmaieaaDoor

namespace Go.Proofs.YtbmodfegcmaieaaDoor
open Go.RowKit

set_option maxRecDepth 100000 in
/-- An array of arrays of integers that reads as a table of rows holds the rows' numbers, cell for cell. -/
theorem cells_of_tab2 {H : Type} {enc : TypeId × Value → H} {P : Program} {w : World} {base : Nat} {sp : Nat → Bool} {held : Bool} {fuel : Nat} {t e i : TypeId} {n m : Nat} {k : IntKind} {cs : List Value} {rows : List (List Int)} {p : List MemPlace}
    (ht : P.underlying t = some (.array n e)) (he : P.underlying e = some (.array m i)) (hi : P.underlying i = some (.int k)) (hci : P.cellsOf i = 1) (hce : P.cellsOf e = m) (hm : 0 < m)
    (h : DataW.trod enc P w base sp held fuel t cs = some (.agg (rows.map (Lib.tabData k)), p)) (q : Nat) (hq : q < n * m) : cs[q]? = ((rows.getD (q / m) []).map (Value.int k))[q % m]? := by
  obtain ⟨xs, f, rfl, hx, hl, hn, hr⟩ := DataW.trod_array ht h
  have hin : q / m < n := Nat.div_lt_of_lt_mul (by rw [Nat.mul_comm]; exact hq)
  have hrow := hr (q / m) hin
  have hxs : xs.map (·.1) = rows.map (Lib.tabData k) := by
    have := congrArg Prod.fst hx
    simpa using this.symm
  have hg : (xs.map (·.1))[q / m]? = some (xs[q / m]'(by omega)).1 := by simp [hn, hin]
  rw [hxs] at hg
  simp only [List.getElem?_map, Option.map_eq_some_iff] at hg
  obtain ⟨r, hr1, hr2⟩ := hg
  rw [List.getElem?_eq_getElem (by omega), hce] at hrow
  have hrow' : DataW.trod enc P w base sp held f e ((cs.drop (q / m * m)).take m) = some (Lib.tabData k r, (xs[q / m]'(by omega)).2) := by
    rw [hrow, hr2]
  have hc := Lib.cells_of_tab he hi hci hce hrow'
  have hj : q % m < m := Nat.mod_lt _ hm
  have e1 : ((cs.drop (q / m * m)).take m)[q % m]? = cs[q]? := by
    rw [List.getElem?_take, if_pos hj, List.getElem?_drop, Nat.mul_comm, Nat.div_add_mod]
  rw [← e1, hc]
  simp [List.getD, hr1]

set_option maxRecDepth 100000 in
theorem tFirst : (Tryd.prog.globals[0]?).map (·.type) = some 142 := by kernel_rfl
set_option maxRecDepth 100000 in
theorem tOrders : (Tryd.prog.globals[1]?).map (·.type) = some 172 := by kernel_rfl
set_option maxRecDepth 100000 in
theorem tLanes : (Tryd.prog.globals[2]?).map (·.type) = some 174 := by kernel_rfl
set_option maxRecDepth 100000 in
theorem cU32 : Tryd.prog.cellsOf 141 = 1 := by kernel_rfl
set_option maxRecDepth 100000 in
theorem c8U32 : Tryd.prog.cellsOf 142 = 8 := by kernel_rfl
set_option maxRecDepth 100000 in
theorem c16U8 : Tryd.prog.cellsOf 171 = 16 := by kernel_rfl
set_option maxRecDepth 100000 in
theorem c4U8 : Tryd.prog.cellsOf 173 = 4 := by kernel_rfl
def ordRows : List (List Int) := [[0, 1, 2, 3, 4, 5, 6, 7, 8, 9, 10, 11, 12, 13, 14, 15], [14, 10, 4, 8, 9, 15, 13, 6, 1, 12, 0, 2, 11, 7, 5, 3], [11, 8, 12, 0, 5, 2, 15, 13, 10, 14, 3, 6, 7, 1, 9, 4], [7, 9, 3, 1, 13, 12, 11, 14, 2, 6, 5, 10, 4, 0, 15, 8], [9, 0, 5, 7, 2, 4, 10, 15, 14, 1, 11, 12, 6, 8, 3, 13], [2, 12, 6, 10, 0, 11, 8, 3, 4, 13, 7, 5, 15, 14, 1, 9], [12, 5, 1, 15, 14, 13, 4, 10, 0, 7, 6, 3, 9, 2, 8, 11], [13, 11, 7, 14, 12, 1, 3, 9, 5, 0, 15, 4, 8, 6, 2, 10], [6, 15, 14, 9, 11, 3, 0, 8, 12, 2, 13, 7, 1, 4, 10, 5], [10, 2, 8, 4, 7, 6, 1, 5, 15, 11, 9, 14, 3, 12, 13, 0]]
def laneRows : List (List Int) := [[0, 4, 8, 12], [1, 5, 9, 13], [2, 6, 10, 14], [3, 7, 11, 15], [0, 5, 10, 15], [1, 6, 11, 12], [2, 7, 8, 13], [3, 4, 9, 14]]
set_option maxRecDepth 100000 in
theorem ordRows_flat : ∀ q, q < 160 → (ordRows.getD (q / 16) [])[q % 16]? = some ((ordF.getD q 0 : Nat) : Int) := by decide +kernel
set_option maxRecDepth 100000 in
theorem laneRows_flat : ∀ q, q < 32 → (laneRows.getD (q / 4) [])[q % 4]? = some ((laneF.getD q 0 : Nat) : Int) := by decide +kernel
set_option maxRecDepth 100000 in
theorem dFirst : Rows.laid_sheaves_blake_firstWords (H := Unit) = Lib.tabData .u32 fw := rfl
set_option maxRecDepth 100000 in
theorem dOrders : Rows.laid_sheaves_blake_orders (H := Unit) = .agg (ordRows.map (Lib.tabData .u8)) := rfl
set_option maxRecDepth 100000 in
theorem dLanes : Rows.laid_sheaves_blake_lanes (H := Unit) = .agg (laneRows.map (Lib.tabData .u8)) := rfl

set_option maxRecDepth 100000 in
theorem tabs_of_laid {W : World} {n1 n2 n3 : String} (gFirst : Tryd.prog.globalNamed n1 = some 0) (gOrders : Tryd.prog.globalNamed n2 = some 1) (gLanes : Tryd.prog.globalNamed n3 = some 2)
    (h : laidMetH Tryd.prog [(n1, Rows.laid_sheaves_blake_firstWords), (n2, Rows.laid_sheaves_blake_orders), (n3, Rows.laid_sheaves_blake_lanes)] W) : Tabs W := by
  have h1 : laidMet Tryd.prog [(n1, Rows.laid_sheaves_blake_firstWords), (n2, Rows.laid_sheaves_blake_orders), (n3, Rows.laid_sheaves_blake_lanes)] W := h
  clear h
  have h2 := h1.tail
  have h3 := h2.tail
  rw [dFirst] at h1
  rw [dOrders] at h2
  rw [dLanes] at h3
  have t1 := Lib.tabIs_of_head gFirst tFirst Tryd.underlying142 Tryd.underlying141 cU32 c8U32 h1
  refine ⟨fun i hi => t1.cell gFirst i hi, fun i hi => ?_, fun i hi => ?_⟩
  · obtain ⟨ps, ⟨g', t', cs, fuel, p, q, hg', ht', hvar, hd, _, _⟩, _⟩ := h2
    obtain rfl := Option.some.inj (gOrders.symm.trans hg')
    obtain rfl := Option.some.inj (tOrders.symm.trans ht')
    have hc := World.var?_cell gOrders hvar i
    have he := cells_of_tab2 Tryd.underlying172 Tryd.underlying171 Tryd.underlying5 cU8 c16U8 (by decide) hd i hi
    rw [hc]
    have := ordRows_flat i hi
    simp only [List.getElem?_map, this, Option.map_some] at he
    simpa using he
  · obtain ⟨ps, ⟨g', t', cs, fuel, p, q, hg', ht', hvar, hd, _, _⟩, _⟩ := h3
    obtain rfl := Option.some.inj (gLanes.symm.trans hg')
    obtain rfl := Option.some.inj (tLanes.symm.trans ht')
    have hc := World.var?_cell gLanes hvar i
    have he := cells_of_tab2 Tryd.underlying174 Tryd.underlying173 Tryd.underlying5 cU8 c4U8 (by decide) hd i hi
    rw [hc]
    have := laneRows_flat i hi
    simp only [List.getElem?_map, this, Option.map_some] at he
    simpa using he
end Go.Proofs.YtbmodfegcmaieaaDoor

namespace Go.Proofs.YtbmodfegcmaieaaDoor
open Go.ChangeShapes Go.WideShapes Go.ChangeAt Go.RowKit

/-- What the initialisers of the three tables lay, in the first blocks. -/
def layBlock (c : Array Value) : Obj → Obj
  | .cells _ t frozen => .cells c t frozen
  | o => o
def layTabs (w : World) : World :=
  { w with heap := ((w.heap.modify 0 (layBlock (ua fw))).modify 1 (layBlock (ub (ordF.map Int.ofNat)).toArray)).modify 2 (layBlock (ub (laneF.map Int.ofNat)).toArray) }
end Go.Proofs.YtbmodfegcmaieaaDoor
