/- blake.begin: the state at the beginning, wherever the table of the first words lies as the program lays it. -/
import Derived.Test.YtbmodfegcmaieaaDoorK
import Derived.Deep.QuietTactic
import Derived.BigQuiet
import Derived.BigRegion
namespace Go.Proofs.YtbmodfegcmaieaaDoor
open Go.RowKit

set_option maxRecDepth 100000 in
theorem state_size (vs : List Int) (h : vs.length = 8) : (Tryd.prog.info? 143).map (·.size) = some (ua vs).size := by
  rw [ua_size, h]; kernel_rfl

set_option maxRecDepth 100000 in
set_option maxHeartbeats 1000000 in
theorem begin_any (w : World) (hF : Words8 w) :
    Calls Tryd.prog 105 #[] w fun e w' => e = .returned (.agg (ua beginL)) ∧ Below w.heap.size w w' := by
  have hg := hF.lt
  go_enter Tryd.func105, Tryd.ntmps105
  go_wp2
  go_loopw [3] (fun i wr => ∃ k : Nat, k ≤ 8 ∧ i = .int .i64 k ∧ Below w.heap.size w wr ∧ wr.heap[w.heap.size + 1]? = some (.cells (ua (beginTo k)) 143 (0, 0)) ∧ wr.heap[w.heap.size]? = some (.cells (ua (List.replicate 8 0)) 143 (0, 0))) (fun i _ => 8 - (intOf i).toNat)
  case atStart => exact ⟨0, Nat.zero_le _, rfl, ((Below.refl _ _).alloc (Nat.le_refl _) _).alloc (by simp) _, heap_alloc2_new _ _ _, heap_alloc2_old _ _ _⟩
  case round =>
    obtain ⟨k, hk, rfl, hb, h2, h1⟩ := hrel
    by_cases hlt : k < 8
    · have ck : wr.cell? ⟨0, k, none⟩ = some (.int .u32 (fw.getD k 0)) := (hb.cell (p := ⟨0, k, none⟩) hg).trans (hF k hlt)
      have cm : wr.cell? ⟨w.heap.size + 1, k, none⟩ = some (.int .u32 ((beginTo k).getD k 0)) := by
        rw [cell_of_row wr _ _ _ _ _ h2, ua_get _ _ (by rw [beginTo_length]; omega)]
      have fm := frozen_of_row wr _ k _ _ h2
      have hs : Hid (beginTo (k + 1) = (beginTo k).set k (fw.getD k 0)) := rfl
      generalize fw.getD k 0 = x at ck hs
      generalize (beginTo k).getD k 0 = m at cm
      go_wp2
      go_roundw
      case rel =>
        refine ⟨k + 1, by omega, by go_num, hb.setCell (p := ⟨w.heap.size + 1, k, none⟩) (by simp) _, ?_, ?_⟩
        · rw [hs.out, ← ua_set]
          exact heap_setCell_same wr _ _ _ _ _ h2
        · exact (Below.heap_setCell wr _ _ _ (by simp)).trans h1
      case measure => simp [intOf]; omega
    · obtain rfl : k = 8 := by omega
      have c0 : wr.cell? ⟨w.heap.size + 1, 0, none⟩ = some (.int .u32 ((beginTo 8).getD 0 0)) := by
        rw [cell_of_row wr _ _ _ _ _ h2, ua_get _ _ (by rw [beginTo_length]; omega)]
      have f0 := fun j => frozen_of_row wr _ j _ _ h2
      have hq : (wr.setCell ⟨w.heap.size + 1, 0, none⟩ (.int .u32 (bits .xor .u32 ((beginTo 8).getD 0 0) 16842784))).heap[w.heap.size + 1]? = some (.cells (ua beginL) 143 (0, 0)) := by
        rw [beginL, ← ua_set]; exact heap_setCell_same wr _ _ _ _ _ h2
      have hq1 : (wr.setCell ⟨w.heap.size + 1, 0, none⟩ (.int .u32 (bits .xor .u32 ((beginTo 8).getD 0 0) 16842784))).heap[w.heap.size]? = some (.cells (ua (List.replicate 8 0)) 143 (0, 0)) := by
        rw [Below.heap_setCell _ _ _ _ (by simp)]; exact h1
      have hz := state_size beginL beginL_length
      have ho : (ua (List.replicate 8 0)).size = (ua beginL).size := by rw [ua_size, ua_size, beginL_length]; rfl
      have hbb : Below w.heap.size w (wr.setCell ⟨w.heap.size + 1, 0, none⟩ (.int .u32 (bits .xor .u32 ((beginTo 8).getD 0 0) 16842784))) := hb.setCell (by simp) _
      generalize hm : (beginTo 8).getD 0 0 = m at *
      clear hm
      go_wp2_with (first | refine wpList_load_row rfl 143 _ rfl (w.heap.size + 1) rfl 143 (ua beginL) (0, 0) _ hq Tryd.underlying143 rfl hz ?_ | refine wpList_store_row rfl 143 _ _ rfl w.heap.size (ua beginL) rfl rfl 143 (ua (List.replicate 8 0)) hq1 hz ho (ua_one _) ?_)
      exact bodyPost_ret (v := .agg (ua beginL)) (results_cell_row (fn := Tryd.f105) (p := 0) (ty := 143) rfl _ _ w.heap.size 143 _ (0, 0) _ rfl (setRow_heap _ _ _ _ _ _ hq1) Tryd.underlying143 rfl hz) rfl ⟨rfl, (Upd.setRow hq1).below hbb hbb.size (Nat.le_refl _)⟩
end Go.Proofs.YtbmodfegcmaieaaDoor
