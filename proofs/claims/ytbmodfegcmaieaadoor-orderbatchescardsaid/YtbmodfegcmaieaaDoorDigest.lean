/- blake.digest: the 32 bytes of a state, in new memory, for every state. -/
import Derived.Test.YtbmodfegcmaieaaDoorBegin
import Derived.Deep.DeepAppendRoom
import Derived.OwnWalk
namespace Go.Proofs.YtbmodfegcmaieaaDoor
open Go.RowKit

set_option maxRecDepth 100000 in
theorem run_index_state (s : List Int) (hs : s.length = 8) (k : Nat) (hk : k < 8) (w : World) :
    (Instr.index 143 (.agg (ua s)) (.int .i64 k)).run Tryd.prog w = .ok (.int .u32 (s.getD k 0)) w := by
  have hg := ua_get s k (by omega)
  simp [Instr.index, asIntOf, Sem.run_bind, run_underlying Tryd.underlying143, part, hg, hk]

set_option maxRecDepth 100000 in
theorem makeDigest (w : World) : (Instr.makeSlice 46 (.int .i64 0) (.int .i64 32)).run Tryd.prog w = .ok (.slice (some ⟨w.heap.size, 0, none⟩) 0 32) (w.alloc (.cells (ub (List.replicate 32 0)).toArray 5)) := by kernel_rfl

set_option maxRecDepth 100000 in
set_option maxHeartbeats 1000000 in
theorem digest_any (s : List Int) (w : World) (hl : s.length = 8) :
    Calls Tryd.prog 107 #[.agg (ua s)] w fun e w' => e = .returned (.slice (some ⟨w.heap.size + 1, 0, none⟩) 32 32) ∧ Below w.heap.size w w' ∧ w'.ownsRow w.heap.size 5 1 (.slice (some ⟨w.heap.size + 1, 0, none⟩) 32 32) 32 (ub (digTo s 8)) := by
  have hmk := fun w => makeDigest w
  have hz := state_size s hl
  have hrow : ((w.alloc (.cells (ua s) 143)).alloc (.cells (ub (List.replicate 32 0)).toArray 5)).heap[w.heap.size]? = some (.cells (ua s) 143 (0, 0)) := heap_alloc2_old _ _ _
  obtain ⟨i, hi, hz0, hz1, hz2⟩ := info_parts infoU8
  have hown := World.ownsRow_made (base := w.heap.size) (e := 5) (size := 1) (w.alloc (.cells (ua s) 143)) (ub (List.replicate 32 0)).toArray 32 (by simp) (by decide) rfl
  go_enter Tryd.func107, Tryd.ntmps107
  go_wp2_with (refine wpList_load_row rfl 143 _ rfl w.heap.size rfl 143 (ua s) (0, 0) _ hrow Tryd.underlying143 rfl hz ?_)
  go_loopw [8, 3] (fun i v wr => ∃ k : Nat, k ≤ 8 ∧ i = .int .i64 k ∧ v = .slice (some ⟨w.heap.size + 1, 0, none⟩) (4 * k) 32 ∧ Below w.heap.size w wr ∧ wr.ownsRow w.heap.size 5 1 (.slice (some ⟨w.heap.size + 1, 0, none⟩) (4 * k) 32) (4 * k) (ub (digTo s k))) (fun i _ _ => 8 - (intOf i).toNat)
  case atStart => exact ⟨0, Nat.zero_le _, rfl, by simp, ((Below.refl _ _).alloc (Nat.le_refl _) _).alloc (by simp) _, by simpa [ub, digTo] using hown⟩
  case round =>
    obtain ⟨k, hk, rfl, rfl, hb, ho⟩ := hrel
    clear hrow hown
    by_cases hlt : k < 8
    · have hidx := fun w => run_index_state s hl k hlt w
      have hs : Hid (digTo s (k + 1) = digTo s k ++ [s.getD k 0 % 256, s.getD k 0 / 256 % 256, s.getD k 0 / 65536 % 256, s.getD k 0 / 16777216 % 256]) := rfl
      generalize s.getD k 0 = x at hidx hs
      go_wp2_with (at_builtin; refine wpList_append_own_spare _ rfl _ _ 46 rfl w.heap.size 5 i 1 Tryd.underlying46 hi hz1 (w.heap.size + 1) (4 * k) 32 _ rfl (ho.alloc _) ⟨wr.heap.size, 0, none⟩ 4 4 [.int .u8 (x % 256), .int .u8 (x / 256 % 256), .int .u8 (x / 65536 % 256), .int .u8 (x / 16777216 % 256)] rfl rfl (cells_new _ _ _) (u8_one [_, _, _, _]) (by omega) ?_; intro w1 hown1 hgrow1)
      go_roundw
      case rel =>
        refine ⟨k + 1, by omega, by go_num, by rw [show 4 * (k + 1) = 4 * k + 4 by omega], (hb.alloc hb.size _).grown hgrow1 (by simp; exact Nat.le_succ_of_le hb.size) (by simp), ?_⟩
        rw [hs.out, show 4 * (k + 1) = 4 * k + 4 by omega]
        simpa [ub] using hown1
      case measure => simp [intOf]; omega
    · obtain rfl : k = 8 := by omega
      go_wp2_with fail
      go_ret
      exact ⟨rfl, hb, ho⟩
end Go.Proofs.YtbmodfegcmaieaaDoor
