/- blake.spread. -/
import Derived.Test.YtbmodfegcmaieaaDoorGK
import Derived.Deep.QuietTactic
import Derived.BigQuiet
import Derived.BigRegion
import Derived.Deep.CutRange
import Derived.Laws.CopyOwn
namespace Go.Proofs.YtbmodfegcmaieaaDoor
open Go.RowKit

set_option maxRecDepth 100000 in
set_option maxHeartbeats 400000 in
theorem turn_any (x n : Int) (w : World) (h : n = 16 ∨ n = 12 ∨ n = 8 ∨ n = 7) :
    Calls Tryd.prog 137 #[.int .u32 x, .int .i64 n] w fun e w' => e = .returned (.int .u32 (rotI n x)) ∧ w' = w := by
  have e1 : bits .and .u64 (IntKind.u64.wrap (-16)) 31 = 16 := by decide
  have e2 : bits .and .u64 (IntKind.u64.wrap (-12)) 31 = 20 := by decide
  have e3 : bits .and .u64 (IntKind.u64.wrap (-8)) 31 = 24 := by decide
  have e4 : bits .and .u64 (IntKind.u64.wrap (-7)) 31 = 25 := by decide
  rcases h with rfl | rfl | rfl | rfl
  all_goals
    go_enter Tryd.func137, Tryd.ntmps137
    go_wp2
    go_ret
    exact ⟨rfl, rfl⟩

set_option maxRecDepth 100000 in
set_option maxHeartbeats 1000000 in
theorem mix_cells (bv l0 l1 l2 l3 : Nat) (a b c d x y : Int) (w : World) (hbv : bv < w.heap.size)
   (h0 : l0 < 16) (h1 : l1 < 16) (h2 : l2 < 16) (h3 : l3 < 16)
   (n01 : ¬ l0 = l1) (n02 : ¬ l0 = l2) (n03 : ¬ l0 = l3) (n12 : ¬ l1 = l2) (n13 : ¬ l1 = l3) (n23 : ¬ l2 = l3)
   (ha : w.cell? ⟨bv, l0, none⟩ = some (.int .u32 a)) (hb : w.cell? ⟨bv, l1, none⟩ = some (.int .u32 b)) (hc : w.cell? ⟨bv, l2, none⟩ = some (.int .u32 c)) (hd : w.cell? ⟨bv, l3, none⟩ = some (.int .u32 d))
   (fa : ∀ j, w.frozen? ⟨bv, j, none⟩ = false) :
    Calls Tryd.prog 130 #[.pointer (some ⟨bv, 0, none⟩), .agg #[.int .u8 l0, .int .u8 l1, .int .u8 l2, .int .u8 l3], .int .u32 x, .int .u32 y] w fun e w' => e = .returned (.tuple #[]) ∧ ∃ n, w' = (((((w.alloc (.cells #[.int .u8 l0, .int .u8 l1, .int .u8 l2, .int .u8 l3] 173)).drewN n).setCell ⟨bv, l0, none⟩ (.int .u32 (mA a b c d x y))).setCell ⟨bv, l1, none⟩ (.int .u32 (mB a b c d x y))).setCell ⟨bv, l2, none⟩ (.int .u32 (mC a b c d x y))).setCell ⟨bv, l3, none⟩ (.int .u32 (mD a b c d x y)) := by
  have g0 : (l0 : Int) < 16 := by omega
  have g1 : (l1 : Int) < 16 := by omega
  have g2 : (l2 : Int) < 16 := by omega
  have g3 : (l3 : Int) < 16 := by omega
  go_enter Tryd.func130, Tryd.ntmps130
  go_wp2
  go_quiet (fail)
  go_wp2_with (go_at_call 137; refine (turn_any _ _ _ (by decide)).mono ?_; rintro e w' ⟨rfl, rfl⟩)
  go_region
  go_end0
  exact ⟨rfl, _, rfl⟩

set_option maxRecDepth 100000 in
/-- blake.mix: the row of sixteen words is rewritten as P1.2 says. -/
theorem mix_any (vs : List Int) (bv l0 l1 l2 l3 : Nat) (x y : Int) (w : World) (hl : vs.length = 16) (hb : w.heap[bv]? = some (.cells (ua vs) 168 (0, 0)))
   (h0 : l0 < 16) (h1 : l1 < 16) (h2 : l2 < 16) (h3 : l3 < 16)
   (n01 : ¬ l0 = l1) (n02 : ¬ l0 = l2) (n03 : ¬ l0 = l3) (n12 : ¬ l1 = l2) (n13 : ¬ l1 = l3) (n23 : ¬ l2 = l3) :
    Calls Tryd.prog 130 #[.pointer (some ⟨bv, 0, none⟩), .agg #[.int .u8 l0, .int .u8 l1, .int .u8 l2, .int .u8 l3], .int .u32 x, .int .u32 y] w fun e w' => e = .returned (.tuple #[]) ∧ Upd bv (.cells (ua (mixL vs l0 l1 l2 l3 x y)) 168 (0, 0)) w w' := by
  have hc : ∀ j, j < 16 → w.cell? ⟨bv, j, none⟩ = some (.int .u32 (vs.getD j 0)) := fun j hj => by
    rw [cell_of_row w bv j _ _ _ hb, ua_get _ _ (by omega)]
  refine (mix_cells bv l0 l1 l2 l3 _ _ _ _ x y w (lt_of_heap hb) h0 h1 h2 h3 n01 n02 n03 n12 n13 n23 (hc _ h0) (hc _ h1) (hc _ h2) (hc _ h3) (fun j => frozen_of_row w bv j _ _ hb)).mono ?_
  rintro e w' ⟨rfl, n, rfl⟩
  refine ⟨rfl, ?_⟩
  have h := (((((Upd.refl hb).alloc (.cells #[.int .u8 l0, .int .u8 l1, .int .u8 l2, .int .u8 l3] 173)).drewN n).setCell l0 (.int .u32 (mA (vs.getD l0 0) (vs.getD l1 0) (vs.getD l2 0) (vs.getD l3 0) x y))).setCell l1 (.int .u32 (mB (vs.getD l0 0) (vs.getD l1 0) (vs.getD l2 0) (vs.getD l3 0) x y))).setCell l2 (.int .u32 (mC (vs.getD l0 0) (vs.getD l1 0) (vs.getD l2 0) (vs.getD l3 0) x y)) |>.setCell l3 (.int .u32 (mD (vs.getD l0 0) (vs.getD l1 0) (vs.getD l2 0) (vs.getD l3 0) x y))
  rw [ua_set, ua_set, ua_set, ua_set] at h
  exact h
end Go.Proofs.YtbmodfegcmaieaaDoor

namespace Go.Proofs.YtbmodfegcmaieaaDoor
open Go.RowKit

set_option maxRecDepth 100000 in
theorem words_size (bs : List Int) : (Tryd.prog.info? 167).map (·.size) = some (ua (wordsTo bs bs.length)).size := by
  rw [ua_size, wordsTo_length]; kernel_rfl
set_option maxRecDepth 100000 in
theorem words_old (bs : List Int) : (ua (List.replicate 16 0)).size = (ua (wordsTo bs bs.length)).size := by
  rw [ua_size, ua_size, wordsTo_length]; rfl

set_option maxRecDepth 100000 in
set_option maxHeartbeats 1000000 in
theorem words_any (bs : List Int) (sa : Option Addr) (cap : Nat) (w : World) (hl : bs.length ≤ 64) (hc : BytesAt w sa bs) :
    Calls Tryd.prog 129 #[.slice sa bs.length cap] w fun e w' => e = .returned (.agg (ua (wordsTo bs bs.length))) ∧ Below w.heap.size w w' := by
  go_enter Tryd.func129, Tryd.ntmps129
  go_wp2
  go_loopw [8] (fun i wr => ∃ k : Nat, k ≤ bs.length ∧ i = .int .i64 k ∧ Below w.heap.size w wr ∧ wr.heap[w.heap.size + 1]? = some (.cells (ua (wordsTo bs k)) 167 (0, 0)) ∧ wr.heap[w.heap.size]? = some (.cells (ua (List.replicate 16 0)) 167 (0, 0))) (fun i _ => bs.length - (intOf i).toNat)
  case atStart => exact ⟨0, Nat.zero_le _, rfl, ((Below.refl _ _).alloc (Nat.le_refl _) _).alloc (by simp) _, heap_alloc2_new _ _ _, heap_alloc2_old _ _ _⟩
  case round =>
    obtain ⟨k, hk, rfl, hb, h1, h0⟩ := hrel
    by_cases hlt : k < bs.length
    · rcases hc with hc | ⟨sb, so, rfl, hc⟩
      · subst hc; simp at hlt
      have hsb : sb < w.heap.size := block_lt_of_cell (hc k hlt)
      have ck : wr.cell? ⟨sb, so + k, none⟩ = some (.int .u8 (bs.getD k 0)) := (hb.cell (p := ⟨sb, so + k, none⟩) hsb).trans (hc k hlt)
      have cm : wr.cell? ⟨w.heap.size + 1, k / 4, none⟩ = some (.int .u32 ((wordsTo bs k).getD (k / 4) 0)) := by
        rw [cell_of_row wr _ _ _ _ _ h1, ua_get _ _ (by rw [wordsTo_length]; omega)]
      have fm := frozen_of_row wr _ (k / 4) _ _ h1
      have hs : Hid ((wordsTo bs (k + 1)) = (wordsTo bs k).set (k / 4) (bits .or .u32 ((wordsTo bs k).getD (k / 4) 0) (bs.getD k 0 % 4294967296 * 2 ^ (8 * (k % 4)) % 4294967296))) := rfl
      generalize bs.getD k 0 = x at ck hs
      generalize (wordsTo bs k).getD (k / 4) 0 = m at cm hs
      go_wp2
      go_region
      go_wp2
      go_roundw
      case rel =>
        refine ⟨k + 1, by omega, by go_num, (hb.setCell (p := ⟨w.heap.size + 1, k / 4, none⟩) (by simp) _).drew, ?_, ?_⟩
        · rw [hs.out, ← ua_set]
          exact heap_setCell_same wr _ _ _ _ _ h1
        · exact (Below.heap_setCell wr _ _ _ (by simp)).trans h0
      case measure => simp [intOf]; omega
    · obtain rfl : k = bs.length := by omega
      have hz := words_size bs
      have ho := words_old bs
      go_wp2_with (first | refine wpList_load_row rfl 167 _ rfl (w.heap.size + 1) rfl 167 (ua (wordsTo bs bs.length)) (0, 0) _ h1 Tryd.underlying167 rfl hz ?_ | refine wpList_store_row rfl 167 _ _ rfl w.heap.size (ua (wordsTo bs bs.length)) rfl rfl 167 (ua (List.replicate 16 0)) h0 hz ho (ua_one _) ?_)
      exact bodyPost_ret (v := .agg (ua (wordsTo bs bs.length))) (results_cell_row (fn := Tryd.f129) (p := 2) (ty := 167) rfl _ _ w.heap.size 167 _ (0, 0) _ rfl (setRow_heap wr _ _ _ _ _ h0) Tryd.underlying167 rfl hz) rfl ⟨rfl, (Upd.setRow h0).below hb hb.size (Nat.le_refl _)⟩

end Go.Proofs.YtbmodfegcmaieaaDoor

namespace Go.Proofs.YtbmodfegcmaieaaDoor
open Go.RowKit

set_option maxRecDepth 100000 in
theorem sizeU32 : (Tryd.prog.info? 141).map (·.size) = some 1 := by kernel_rfl
set_option maxRecDepth 100000 in
theorem spread_size (vs : List Int) (h : vs.length = 16) : (Tryd.prog.info? 168).map (·.size) = some (ua vs).size := by
  rw [ua_size, h]; kernel_rfl
set_option maxRecDepth 100000 in
/-- copy(v[:], s[:]) behind the boxes. -/
theorem spread_copy (s : List Int) (w : World) (hs : s.length = 8) : ∃ w1,
    (Builtin.copy_ #[183, 183] 3 #[.slice (some ⟨w.heap.size + 1 + 1, 0, none⟩) 16 16, .slice (some ⟨w.heap.size, 0, none⟩) 8 8]).run Tryd.prog
      (((w.alloc (.cells (ua s) 143)).alloc (.cells (ua (List.replicate 16 0)) 168)).alloc (.cells (ua (List.replicate 16 0)) 168)).drew = .ok (.int .i64 8) w1 ∧
    Below w.heap.size w w1 ∧ w1.heap[w.heap.size + 1 + 1]? = some (.cells (ua (spreadTo s 0)) 168 (0, 0)) ∧ w1.heap[w.heap.size + 1]? = some (.cells (ua (List.replicate 16 0)) 168 (0, 0)) := by
  generalize hW : ((w.alloc (.cells (ua s) 143)).alloc (.cells (ua (List.replicate 16 0)) 168)).alloc (.cells (ua (List.replicate 16 0)) 168) = W
  have hb : Below w.heap.size w W := by
    subst hW; exact (((Below.refl _ _).alloc (Nat.le_refl _) _).alloc (by simp) _).alloc (by simp; omega) _
  have h2 : W.heap[w.heap.size + 1 + 1]? = some (.cells (ua (List.replicate 16 0)) 168 (0, 0)) := by
    subst hW; exact heap_new_at _ _ _ (by simp)
  have h1 : W.heap[w.heap.size + 1]? = some (.cells (ua (List.replicate 16 0)) 168 (0, 0)) := by
    subst hW; rw [Below.heap_alloc _ _ _ (by simp)]; exact heap_new_at _ _ _ (by simp)
  have h0 : W.heap[w.heap.size]? = some (.cells (ua s) 143 (0, 0)) := by
    subst hW; rw [Below.heap_alloc _ _ _ (by simp; omega), Below.heap_alloc _ _ _ (by simp)]; exact heap_new_at _ _ _ rfl
  have hrun := run_copy_row (P := Tryd.prog) W.drew 183 183 3 141 (w.heap.size + 1 + 1) 0 16 16 ⟨w.heap.size, 0, none⟩ 8 8 (ua (List.replicate 16 0)) 168 (ua s).toList Tryd.underlying183 sizeU32 h2
    (by simp [ua, hs]) (fun j v hv => by
      rw [add_off, Nat.zero_add, World.cell?_drew, cell_of_row W _ j _ _ _ h0]
      simpa using hv) (by simp [ua, hs]) (fun v hv => by
      have := ua_one s
      rw [Array.all_eq_true_iff_forall_mem] at this
      exact this v (by simpa using hv))
  have e : (List.take 0 (ua (List.replicate 16 0)).toList ++ (ua s).toList ++ List.drop (0 + (ua s).toList.length) (ua (List.replicate 16 0)).toList).toArray = ua (spreadTo s 0) := by
    simp [ua, hs, spreadTo]
  have e2 : goInt ((ua s).toList.length : Int) = .int .i64 8 := by simp [ua, hs, goInt]
  rw [e, e2] at hrun
  refine ⟨W.drew.setRow (w.heap.size + 1 + 1) (ua (spreadTo s 0)), hrun, below_setRow hb.drew (by omega) _, setRow_heap W.drew _ _ _ _ _ h2, ?_⟩
  rw [setRow_other _ _ _ _ (by omega)]; exact h1

set_option maxRecDepth 100000 in
set_option maxHeartbeats 1000000 in
theorem spread_any (s : List Int) (taken : Int) (last : Bool) (w : World) (hl : s.length = 8) (hF : Words8 w) :
    Calls Tryd.prog 128 #[.agg (ua s), .int .i64 taken, .bool last] w fun e w' => e = .returned (.agg (ua (spreadL s taken last))) ∧ Below w.heap.size w w' := by
  obtain ⟨w1, hcp, hb1, hv1, hr1⟩ := spread_copy s w hl
  rw [z16] at hcp
  have hg := hF.lt
  go_enter Tryd.func128, Tryd.ntmps128
  go_wp2
  go_region
  go_wp2
  go_loopw [13] (fun i wr => ∃ k : Nat, k ≤ 8 ∧ i = .int .i64 k ∧ Below w.heap.size w wr ∧ wr.heap[w.heap.size + 1 + 1]? = some (.cells (ua (spreadTo s k)) 168 (0, 0)) ∧ wr.heap[w.heap.size + 1]? = some (.cells (ua (List.replicate 16 0)) 168 (0, 0))) (fun i _ => 8 - (intOf i).toNat)
  case atStart => exact ⟨0, Nat.zero_le _, rfl, hb1, hv1, hr1⟩
  case round =>
    obtain ⟨k, hk, rfl, hb, h2, h1⟩ := hrel
    clear hcp hv1 hr1 hb1
    by_cases hlt : k < 8
    · have ck : wr.cell? ⟨0, k, none⟩ = some (.int .u32 (fw.getD k 0)) := (hb.cell (p := ⟨0, k, none⟩) hg).trans (hF k hlt)
      have cm : wr.cell? ⟨w.heap.size + 1 + 1, 8 + k, none⟩ = some (.int .u32 ((spreadTo s k).getD (8 + k) 0)) := by
        rw [cell_of_row wr _ _ _ _ _ h2, ua_get _ _ (by rw [spreadTo_length s hl]; omega)]
      have fm := frozen_of_row wr _ (8 + k) _ _ h2
      have hs : Hid (spreadTo s (k + 1) = (spreadTo s k).set (8 + k) (fw.getD k 0)) := rfl
      generalize fw.getD k 0 = x at ck hs
      generalize (spreadTo s k).getD (8 + k) 0 = m at cm
      go_wp2
      go_roundw
      case rel =>
        refine ⟨k + 1, by omega, by go_num, hb.setCell (p := ⟨w.heap.size + 1 + 1, 8 + k, none⟩) (by simp; omega) _, ?_, ?_⟩
        · rw [hs.out, ← ua_set]
          exact heap_setCell_same wr _ _ _ _ _ h2
        · exact (Below.heap_setCell wr _ _ _ (by simp)).trans h1
      case measure => simp [intOf]; omega
    · obtain rfl : k = 8 := by omega
      have c12 : wr.cell? ⟨w.heap.size + 1 + 1, 12, none⟩ = some (.int .u32 ((spreadTo s 8).getD 12 0)) := by
        rw [cell_of_row wr _ _ _ _ _ h2, ua_get _ _ (by rw [spreadTo_length s hl]; omega)]
      have c14 : wr.cell? ⟨w.heap.size + 1 + 1, 14, none⟩ = some (.int .u32 ((spreadTo s 8).getD 14 0)) := by
        rw [cell_of_row wr _ _ _ _ _ h2, ua_get _ _ (by rw [spreadTo_length s hl]; omega)]
      have f12 := fun j => frozen_of_row wr _ j _ _ h2
      have q12 : (wr.setCell ⟨w.heap.size + 1 + 1, 12, none⟩ (.int .u32 (bits .xor .u32 ((spreadTo s 8).getD 12 0) (taken % 4294967296)))).heap[w.heap.size + 1 + 1]? = some (.cells (ua (spreadA s taken)) 168 (0, 0)) := by
        rw [spreadA, ← ua_set]; exact heap_setCell_same wr _ _ _ _ _ h2
      cases last
      · have hq : (wr.setCell ⟨w.heap.size + 1 + 1, 12, none⟩ (.int .u32 (bits .xor .u32 ((spreadTo s 8).getD 12 0) (taken % 4294967296)))).heap[w.heap.size + 1 + 1]? = some (.cells (ua (spreadL s taken false)) 168 (0, 0)) := q12
        have hq1 : (wr.setCell ⟨w.heap.size + 1 + 1, 12, none⟩ (.int .u32 (bits .xor .u32 ((spreadTo s 8).getD 12 0) (taken % 4294967296)))).heap[w.heap.size + 1]? = some (.cells (ua (List.replicate 16 0)) 168 (0, 0)) := by
          repeat rw [Below.heap_setCell _ _ _ _ (by simp)]
          exact h1
        have hz := spread_size (spreadL s taken false) (spreadL_length s hl taken false)
        have ho : (ua (List.replicate 16 0)).size = (ua (spreadL s taken false)).size := by rw [ua_size, ua_size, spreadL_length s hl]; rfl
        have hbb : Below w.heap.size w (wr.setCell ⟨w.heap.size + 1 + 1, 12, none⟩ (.int .u32 (bits .xor .u32 ((spreadTo s 8).getD 12 0) (taken % 4294967296)))) := by
          repeat refine Below.setCell ?_ (by simp; omega) _
          exact hb
        generalize hm12 : (spreadTo s 8).getD 12 0 = m12 at *
        generalize hm14 : (spreadTo s 8).getD 14 0 = m14 at *
        clear hm12 hm14
        go_wp2_with (first | refine wpList_load_row rfl 168 _ rfl (w.heap.size + 1 + 1) rfl 168 (ua (spreadL s taken false)) (0, 0) _ hq Tryd.underlying168 rfl hz ?_ | refine wpList_store_row rfl 168 _ _ rfl (w.heap.size + 1) (ua (spreadL s taken false)) rfl rfl 168 (ua (List.replicate 16 0)) hq1 hz ho (ua_one _) ?_)
        exact bodyPost_ret (v := .agg (ua (spreadL s taken false))) (results_cell_row (fn := Tryd.f128) (p := 6) (ty := 168) rfl _ _ (w.heap.size + 1) 168 _ (0, 0) _ rfl (setRow_heap _ _ _ _ _ _ hq1) Tryd.underlying168 rfl hz) rfl ⟨rfl, (Upd.setRow hq1).below hbb hbb.size (by omega)⟩
      · have hq : ((wr.setCell ⟨w.heap.size + 1 + 1, 12, none⟩ (.int .u32 (bits .xor .u32 ((spreadTo s 8).getD 12 0) (taken % 4294967296)))).setCell ⟨w.heap.size + 1 + 1, 14, none⟩ (.int .u32 (bits .xor .u32 IntKind.u32.max ((spreadTo s 8).getD 14 0)))).heap[w.heap.size + 1 + 1]? = some (.cells (ua (spreadL s taken true)) 168 (0, 0)) := by
          rw [show spreadL s taken true = (spreadA s taken).set 14 (bits .xor .u32 IntKind.u32.max ((spreadTo s 8).getD 14 0)) from rfl, ← ua_set]; exact heap_setCell_same _ _ _ _ _ _ q12
        have hq1 : ((wr.setCell ⟨w.heap.size + 1 + 1, 12, none⟩ (.int .u32 (bits .xor .u32 ((spreadTo s 8).getD 12 0) (taken % 4294967296)))).setCell ⟨w.heap.size + 1 + 1, 14, none⟩ (.int .u32 (bits .xor .u32 IntKind.u32.max ((spreadTo s 8).getD 14 0)))).heap[w.heap.size + 1]? = some (.cells (ua (List.replicate 16 0)) 168 (0, 0)) := by
          repeat rw [Below.heap_setCell _ _ _ _ (by simp)]
          exact h1
        have hz := spread_size (spreadL s taken true) (spreadL_length s hl taken true)
        have ho : (ua (List.replicate 16 0)).size = (ua (spreadL s taken true)).size := by rw [ua_size, ua_size, spreadL_length s hl]; rfl
        have hbb : Below w.heap.size w ((wr.setCell ⟨w.heap.size + 1 + 1, 12, none⟩ (.int .u32 (bits .xor .u32 ((spreadTo s 8).getD 12 0) (taken % 4294967296)))).setCell ⟨w.heap.size + 1 + 1, 14, none⟩ (.int .u32 (bits .xor .u32 IntKind.u32.max ((spreadTo s 8).getD 14 0)))) := by
          repeat refine Below.setCell ?_ (by simp; omega) _
          exact hb
        generalize hm12 : (spreadTo s 8).getD 12 0 = m12 at *
        generalize hm14 : (spreadTo s 8).getD 14 0 = m14 at *
        clear hm12 hm14
        go_wp2_with (first | refine wpList_load_row rfl 168 _ rfl (w.heap.size + 1 + 1) rfl 168 (ua (spreadL s taken true)) (0, 0) _ hq Tryd.underlying168 rfl hz ?_ | refine wpList_store_row rfl 168 _ _ rfl (w.heap.size + 1) (ua (spreadL s taken true)) rfl rfl 168 (ua (List.replicate 16 0)) hq1 hz ho (ua_one _) ?_)
        exact bodyPost_ret (v := .agg (ua (spreadL s taken true))) (results_cell_row (fn := Tryd.f128) (p := 6) (ty := 168) rfl _ _ (w.heap.size + 1) 168 _ (0, 0) _ rfl (setRow_heap _ _ _ _ _ _ hq1) Tryd.underlying168 rfl hz) rfl ⟨rfl, (Upd.setRow hq1).below hbb hbb.size (by omega)⟩
end Go.Proofs.YtbmodfegcmaieaaDoor
