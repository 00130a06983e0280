/- blake.words: the sixteen words of a block of at most 64 bytes, for every block. -/
import Derived.Test.YtbmodfegcmaieaaDoorK
import Derived.Deep.QuietTactic
import Derived.BigQuiet
import Derived.BigRegion
namespace Go.Proofs.YtbmodfegcmaieaaDoor
open Go.RowKit

set_option maxRecDepth 100000 in
theorem words_size (bs : List Int) : (Tryd.prog.info? 167).map (·.size) = some (ua (wordsTo bs bs.length)).size := by
  rw [ua_size, wordsTo_length]; kernel_rfl
set_option maxRecDepth 100000 in
theorem words_old (bs : List Int) : (ua (List.replicate 16 0)).size = (ua (wordsTo bs bs.length)).size := by
  rw [ua_size, ua_size, wordsTo_length]; rfl

set_option maxRecDepth 100000 in
set_option maxHeartbeats 1000000 in
theorem words_any (bs : List Int) (sa : Option Addr) (cap : Nat) (w : World) (hl : bs.length ≤ 64) (hc : BytesAt w sa bs) :
    Calls Tryd.prog 129 #[.slice sa bs.length cap] w fun e w' => e = .returned (.agg (ua (wordsTo bs bs.length))) ∧ Below w.heap.size w w' := by
  go_enter Tryd.func129, Tryd.ntmps129
  go_wp2
  go_loopw [8] (fun i wr => ∃ k : Nat, k ≤ bs.length ∧ i = .int .i64 k ∧ Below w.heap.size w wr ∧ wr.heap[w.heap.size + 1]? = some (.cells (ua (wordsTo bs k)) 167 (0, 0)) ∧ wr.heap[w.heap.size]? = some (.cells (ua (List.replicate 16 0)) 167 (0, 0))) (fun i _ => bs.length - (intOf i).toNat)
  case atStart => exact ⟨0, Nat.zero_le _, rfl, ((Below.refl _ _).alloc (Nat.le_refl _) _).alloc (by simp) _, heap_alloc2_new _ _ _, heap_alloc2_old _ _ _⟩
  case round =>
    obtain ⟨k, hk, rfl, hb, h1, h0⟩ := hrel
    by_cases hlt : k < bs.length
    · rcases hc with hc | ⟨sb, so, rfl, hc⟩
      · subst hc; simp at hlt
      have hsb : sb < w.heap.size := block_lt_of_cell (hc k hlt)
      have ck : wr.cell? ⟨sb, so + k, none⟩ = some (.int .u8 (bs.getD k 0)) := (hb.cell (p := ⟨sb, so + k, none⟩) hsb).trans (hc k hlt)
      have cm : wr.cell? ⟨w.heap.size + 1, k / 4, none⟩ = some (.int .u32 ((wordsTo bs k).getD (k / 4) 0)) := by
        rw [cell_of_row wr _ _ _ _ _ h1, ua_get _ _ (by rw [wordsTo_length]; omega)]
      have fm := frozen_of_row wr _ (k / 4) _ _ h1
      have hs : Hid ((wordsTo bs (k + 1)) = (wordsTo bs k).set (k / 4) (bits .or .u32 ((wordsTo bs k).getD (k / 4) 0) (bs.getD k 0 % 4294967296 * 2 ^ (8 * (k % 4)) % 4294967296))) := rfl
      generalize bs.getD k 0 = x at ck hs
      generalize (wordsTo bs k).getD (k / 4) 0 = m at cm hs
      go_wp2
      go_region
      go_wp2
      go_roundw
      case rel =>
        refine ⟨k + 1, by omega, by go_num, (hb.setCell (p := ⟨w.heap.size + 1, k / 4, none⟩) (by simp) _).drew, ?_, ?_⟩
        · rw [hs.out, ← ua_set]
          exact heap_setCell_same wr _ _ _ _ _ h1
        · exact (Below.heap_setCell wr _ _ _ (by simp)).trans h0
      case measure => simp [intOf]; omega
    · obtain rfl : k = bs.length := by omega
      have hz := words_size bs
      have ho := words_old bs
      go_wp2_with (first | refine wpList_load_row rfl 167 _ rfl (w.heap.size + 1) rfl 167 (ua (wordsTo bs bs.length)) (0, 0) _ h1 Tryd.underlying167 rfl hz ?_ | refine wpList_store_row rfl 167 _ _ rfl w.heap.size (ua (wordsTo bs bs.length)) rfl rfl 167 (ua (List.replicate 16 0)) h0 hz ho (ua_one _) ?_)
      exact bodyPost_ret (v := .agg (ua (wordsTo bs bs.length))) (results_cell_row (fn := Tryd.f129) (p := 2) (ty := 167) rfl _ _ w.heap.size 167 _ (0, 0) _ rfl (setRow_heap wr _ _ _ _ _ h0) Tryd.underlying167 rfl hz) rfl ⟨rfl, (Upd.setRow h0).below hb hb.size (Nat.le_refl _)⟩

end Go.Proofs.YtbmodfegcmaieaaDoor
