/- blake.digest: the 32 bytes of a state, in new memory, for every state. -/
import Derived.Test.YtbmodfegcmaieaaDoorGK
import Derived.Deep.QuietTactic
import Derived.BigQuiet
import Derived.BigRegion
import Derived.Test.YtbmodfegcmaieaaDoorGSpread
import Derived.Deep.DeepCutAuto
import Derived.Deep.RegionWith
import Derived.Deep.DeepAppendRoom
import Derived.OwnWalk
namespace Go.Proofs.YtbmodfegcmaieaaDoor
open Go.RowKit

set_option maxRecDepth 100000 in
theorem state_size (vs : List Int) (h : vs.length = 8) : (Tryd.prog.info? 143).map (·.size) = some (ua vs).size := by
  rw [ua_size, h]; kernel_rfl

set_option maxRecDepth 100000 in
set_option maxHeartbeats 1000000 in
theorem begin_any (w : World) (hF : Words8 w) :
    Calls Tryd.prog 105 #[] w fun e w' => e = .returned (.agg (ua beginL)) ∧ Below w.heap.size w w' := by
  have hg := hF.lt
  go_enter Tryd.func105, Tryd.ntmps105
  go_wp2
  go_loopw [3] (fun i wr => ∃ k : Nat, k ≤ 8 ∧ i = .int .i64 k ∧ Below w.heap.size w wr ∧ wr.heap[w.heap.size + 1]? = some (.cells (ua (beginTo k)) 143 (0, 0)) ∧ wr.heap[w.heap.size]? = some (.cells (ua (List.replicate 8 0)) 143 (0, 0))) (fun i _ => 8 - (intOf i).toNat)
  case atStart => exact ⟨0, Nat.zero_le _, rfl, ((Below.refl _ _).alloc (Nat.le_refl _) _).alloc (by simp) _, heap_alloc2_new _ _ _, heap_alloc2_old _ _ _⟩
  case round =>
    obtain ⟨k, hk, rfl, hb, h2, h1⟩ := hrel
    by_cases hlt : k < 8
    · have ck : wr.cell? ⟨0, k, none⟩ = some (.int .u32 (fw.getD k 0)) := (hb.cell (p := ⟨0, k, none⟩) hg).trans (hF k hlt)
      have cm : wr.cell? ⟨w.heap.size + 1, k, none⟩ = some (.int .u32 ((beginTo k).getD k 0)) := by
        rw [cell_of_row wr _ _ _ _ _ h2, ua_get _ _ (by rw [beginTo_length]; omega)]
      have fm := frozen_of_row wr _ k _ _ h2
      have hs : Hid (beginTo (k + 1) = (beginTo k).set k (fw.getD k 0)) := rfl
      generalize fw.getD k 0 = x at ck hs
      generalize (beginTo k).getD k 0 = m at cm
      go_wp2
      go_roundw
      case rel =>
        refine ⟨k + 1, by omega, by go_num, hb.setCell (p := ⟨w.heap.size + 1, k, none⟩) (by simp) _, ?_, ?_⟩
        · rw [hs.out, ← ua_set]
          exact heap_setCell_same wr _ _ _ _ _ h2
        · exact (Below.heap_setCell wr _ _ _ (by simp)).trans h1
      case measure => simp [intOf]; omega
    · obtain rfl : k = 8 := by omega
      have c0 : wr.cell? ⟨w.heap.size + 1, 0, none⟩ = some (.int .u32 ((beginTo 8).getD 0 0)) := by
        rw [cell_of_row wr _ _ _ _ _ h2, ua_get _ _ (by rw [beginTo_length]; omega)]
      have f0 := fun j => frozen_of_row wr _ j _ _ h2
      have hq : (wr.setCell ⟨w.heap.size + 1, 0, none⟩ (.int .u32 (bits .xor .u32 ((beginTo 8).getD 0 0) 16842784))).heap[w.heap.size + 1]? = some (.cells (ua beginL) 143 (0, 0)) := by
        rw [beginL, ← ua_set]; exact heap_setCell_same wr _ _ _ _ _ h2
      have hq1 : (wr.setCell ⟨w.heap.size + 1, 0, none⟩ (.int .u32 (bits .xor .u32 ((beginTo 8).getD 0 0) 16842784))).heap[w.heap.size]? = some (.cells (ua (List.replicate 8 0)) 143 (0, 0)) := by
        rw [Below.heap_setCell _ _ _ _ (by simp)]; exact h1
      have hz := state_size beginL beginL_length
      have ho : (ua (List.replicate 8 0)).size = (ua beginL).size := by rw [ua_size, ua_size, beginL_length]; rfl
      have hbb : Below w.heap.size w (wr.setCell ⟨w.heap.size + 1, 0, none⟩ (.int .u32 (bits .xor .u32 ((beginTo 8).getD 0 0) 16842784))) := hb.setCell (by simp) _
      generalize hm : (beginTo 8).getD 0 0 = m at *
      clear hm
      go_wp2_with (first | refine wpList_load_row rfl 143 _ rfl (w.heap.size + 1) rfl 143 (ua beginL) (0, 0) _ hq Tryd.underlying143 rfl hz ?_ | refine wpList_store_row rfl 143 _ _ rfl w.heap.size (ua beginL) rfl rfl 143 (ua (List.replicate 8 0)) hq1 hz ho (ua_one _) ?_)
      exact bodyPost_ret (v := .agg (ua beginL)) (results_cell_row (fn := Tryd.f105) (p := 0) (ty := 143) rfl _ _ w.heap.size 143 _ (0, 0) _ rfl (setRow_heap _ _ _ _ _ _ hq1) Tryd.underlying143 rfl hz) rfl ⟨rfl, (Upd.setRow hq1).below hbb hbb.size (Nat.le_refl _)⟩
end Go.Proofs.YtbmodfegcmaieaaDoor

namespace Go.Proofs.YtbmodfegcmaieaaDoor
open Go.RowKit

/-- What lies in memory inside take: the state, the result's place, the sixteen words, and the block's. -/
structure TakeV (w : World) (s v : List Int) (bv : Nat) (wx : World) : Prop where
  bel : Below w.heap.size w wx
  st : wx.heap[w.heap.size]? = some (.cells (ua s) 143 (0, 0))
  res : wx.heap[w.heap.size + 1]? = some (.cells (ua (List.replicate 8 0)) 143 (0, 0))
  lt : w.heap.size + 1 < bv
  vs : wx.heap[bv]? = some (.cells (ua v) 168 (0, 0))
structure TakeM (w : World) (s v m : List Int) (bv bm : Nat) (wx : World) : Prop where
  v : TakeV w s v bv wx
  lt : bv < bm
  ms : wx.heap[bm]? = some (.cells (ua m) 167 (0, 0))

set_option maxRecDepth 100000 in
theorem TakeM.upd {w : World} {s v v' m : List Int} {bv bm : Nat} {wr w2 : World} (h : TakeM w s v m bv bm wr) (hU : Upd bv (.cells (ua v') 168 (0, 0)) wr w2) : TakeM w s v' m bv bm w2 := by
  have h1 := h.v.lt
  have h2 := h.lt
  have l0 := lt_of_heap h.v.st
  have l1 := lt_of_heap h.v.res
  have l2 := lt_of_heap h.ms
  exact ⟨⟨hU.below h.v.bel h.v.bel.size (by omega), (hU.block _ l0 (by omega)).trans h.v.st, (hU.block _ l1 (by omega)).trans h.v.res, h1, hU.here⟩, h2, (hU.block _ l2 (by omega)).trans h.ms⟩
set_option maxRecDepth 100000 in
theorem upd_drewN {b : Nat} {o : Obj} {w w' : World} {n : Nat} (h : Upd b o (w.drewN n) w') : Upd b o w w' := ⟨h.os, h.tape, h.output, h.size, h.block, h.here⟩
set_option maxRecDepth 100000 in
theorem below_two {w w1 : World} {A B : Obj} (h : Below ((w.alloc A).alloc B).heap.size ((w.alloc A).alloc B) w1) :
    Below w.heap.size w w1 ∧ w1.heap[w.heap.size]? = some A ∧ w1.heap[w.heap.size + 1]? = some B ∧ w.heap.size + 1 < w1.heap.size := by
  have hs := h.size
  simp at hs
  refine ⟨(((Below.refl _ _).alloc (Nat.le_refl _) _).alloc (by simp) _).trans (h.mono (by simp; omega)), ?_, ?_, by omega⟩
  · exact (h.block _ (by simp; omega)).trans (heap_alloc2_old _ _ _)
  · exact (h.block _ (by simp)).trans (heap_alloc2_new _ _ _)

set_option maxRecDepth 100000 in
set_option maxHeartbeats 1000000 in
theorem take_any (s bs : List Int) (sa : Option Addr) (cap : Nat) (taken : Int) (last : Bool) (w : World) (hl : s.length = 8) (hbl : bs.length ≤ 64) (hc : BytesAt w sa bs) (hT : Tabs w) :
    Calls Tryd.prog 106 #[.agg (ua s), .slice sa bs.length cap, .int .i64 taken, .bool last] w fun e w' => e = .returned (.agg (ua (takeL s bs taken last))) ∧ Below w.heap.size w w' := by
  have hzs := state_size s hl
  have hlv := spreadL_length s hl taken last
  have hzv := spread_size (spreadL s taken last) hlv
  have hov : (ua (List.replicate 16 0)).size = (ua (spreadL s taken last)).size := by rw [ua_size, ua_size, hlv]; rfl
  go_enter Tryd.func106, Tryd.ntmps106
  go_upto_region 1 with (fail)
  go_cut [9] (fun p wx => ∃ bv, p = .pointer (some ⟨bv, 0, none⟩) ∧ TakeV w s (spreadL s taken last) bv wx)
  case first =>
    have hrow : ((w.alloc (.cells (ua s) 143)).alloc (.cells #[.int .u32 0, .int .u32 0, .int .u32 0, .int .u32 0, .int .u32 0, .int .u32 0, .int .u32 0, .int .u32 0] 143)).heap[w.heap.size]? = some (.cells (ua s) 143 (0, 0)) := heap_alloc2_old _ _ _
    have hT1 : Tabs ((w.alloc (.cells (ua s) 143)).alloc (.cells #[.int .u32 0, .int .u32 0, .int .u32 0, .int .u32 0, .int .u32 0, .int .u32 0, .int .u32 0, .int .u32 0] 143)) := hT.below (((Below.refl _ _).alloc (Nat.le_refl _) _).alloc (by simp) _)
    go_wp2_with (first | refine wpList_load_row rfl 143 _ rfl w.heap.size rfl 143 (ua s) (0, 0) _ hrow Tryd.underlying143 rfl hzs ?_ | (go_at_call 128; refine (spread_any s taken last _ hl hT1.words).mono ?_; rintro e w1 ⟨rfl, hb1⟩) | refine wpList_store_row rfl 168 _ _ rfl _ (ua (spreadL s taken last)) rfl rfl 168 (ua (List.replicate 16 0)) (heap_alloc_new _ _) hzv hov (ua_one _) ?_)
    go_meet
    case rel =>
      obtain ⟨k1, k2, k3, k4⟩ := below_two hb1
      have hn := heap_alloc_new w1 (.cells (ua (List.replicate 16 0)) 168)
      refine ⟨_, rfl, (Upd.setRow hn).below (k1.alloc k1.size _) (by simp; exact Nat.le_succ_of_le k1.size) k1.size, ?_, ?_, k4, setRow_heap _ _ _ _ _ _ hn⟩
      · rw [setRow_other _ _ _ _ (by omega), Below.heap_alloc _ _ _ (by omega)]; exact k2
      · rw [setRow_other _ _ _ _ (by omega), Below.heap_alloc _ _ _ (by omega)]; exact k3
  case rest =>
    obtain ⟨bv, rfl, hV⟩ := hcut
    go_upto_region 2 with (fail)
    go_cut [10] (fun p wx => ∃ bm, p = .pointer (some ⟨bm, 0, none⟩) ∧ TakeM w s (spreadL s taken last) (wordsTo bs bs.length) bv bm wx)
    case first =>
      have hc1 : BytesAt wc sa bs := hc.below' hV.bel
      go_wp2_with (first | (go_at_call 129; refine (words_any bs sa cap _ hbl hc1).mono ?_; rintro e w1 ⟨rfl, hb1⟩) | refine wpList_store_row rfl 167 _ _ rfl _ (ua (wordsTo bs bs.length)) rfl rfl 167 (ua (List.replicate 16 0)) (heap_alloc_new _ _) (words_size bs) (words_old bs) (ua_one _) ?_)
      go_meet
      case rel =>
        have hn := heap_alloc_new w1 (.cells (ua (List.replicate 16 0)) 167)
        have hlt := lt_of_heap hV.vs
        have hlt' := hV.lt
        have hsz := hb1.size
        have hk : ∀ k, k < wc.heap.size → ((w1.alloc (.cells (ua (List.replicate 16 0)) 167)).setRow w1.heap.size (ua (wordsTo bs bs.length))).heap[k]? = wc.heap[k]? := fun k hk => by
          rw [setRow_other _ _ _ _ (by omega), Below.heap_alloc _ _ _ (by omega)]; exact hb1.block k hk
        have k1 : Below w.heap.size w w1 := hV.bel.trans (hb1.mono hV.bel.size)
        refine ⟨_, rfl, ⟨(Upd.setRow hn).below (k1.alloc k1.size _) (by simp; exact Nat.le_succ_of_le k1.size) k1.size, (hk _ (by omega)).trans hV.st, (hk _ (by omega)).trans hV.res, hV.lt, (hk _ (by omega)).trans hV.vs⟩, by omega, setRow_heap _ _ _ _ _ _ hn⟩
    case rest =>
      obtain ⟨bm, rfl, hM⟩ := hcut
      clear hV
      have hlw := wordsTo_length bs bs.length
      have hfin : Hid (takeL s bs taken last = foldTo s (roundsTo (wordsTo bs bs.length) (spreadL s taken last) 10) 8) := rfl
      generalize wordsTo bs bs.length = m at hM hlw hfin
      generalize spreadL s taken last = v at hM hlv hfin
      have hlt := hT.lt
      go_wp2_with fail
      go_loopw [22] (fun i wr => ∃ r : Nat, r ≤ 10 ∧ i = .int .i64 r ∧ TakeM w s (roundsTo m v r) m bv bm wr) (fun i _ => 10 - (intOf i).toNat)
      case atStart => exact ⟨0, by omega, rfl, hM⟩
      case round =>
        obtain ⟨r, hr, rfl, hR⟩ := hrel
        by_cases hr10 : r < 10
        · have hrI : (r : Int) < 10 := by omega
          go_wp2_with fail
          go_loopw [25] (fun i wr => ∃ k : Nat, k ≤ 8 ∧ i = .int .i64 k ∧ TakeM w s (lanesTo m r (roundsTo m v r) k) m bv bm wr) (fun i _ => 8 - (intOf i).toNat)
          case atStart => exact ⟨0, by omega, rfl, hR⟩
          case round =>
            obtain ⟨k, hk, rfl, hK⟩ := hrel
            by_cases hk8 : k < 8
            · have hW : Tabs wr := hT.below hK.v.bel
              have hkI : (k : Int) < 8 := by omega
              have h2k : (2 * (k : Int)) < 16 := by omega
              have h2k1 : (2 * (k : Int) + 1) < 16 := by omega
              have o1 := hW.orders (r * 16 + 2 * k) (by omega)
              have o2 := hW.orders (r * 16 + (2 * k + 1)) (by omega)
              have x1 := ordF_lt (r * 16 + 2 * k) (by omega)
              have x2 := ordF_lt (r * 16 + (2 * k + 1)) (by omega)
              generalize ho1 : ordF.getD (r * 16 + 2 * k) 0 = p1 at o1 x1
              generalize ho2 : ordF.getD (r * 16 + (2 * k + 1)) 0 = p2 at o2 x2
              have Ho1 : Hid (ordF.getD (r * 16 + 2 * k) 0 = p1) := ho1
              have Ho2 : Hid (ordF.getD (r * 16 + (2 * k + 1)) 0 = p2) := ho2
              clear ho1 ho2
              go_wp2_with fail
              go_quiet (fail)
              have c1 : wr.cell? ⟨bm, p1, none⟩ = some (.int .u32 (m.getD p1 0)) := by rw [cell_of_row wr _ _ _ _ _ hK.ms, ua_get _ _ (by omega)]
              have c2 : wr.cell? ⟨bm, p2, none⟩ = some (.int .u32 (m.getD p2 0)) := by rw [cell_of_row wr _ _ _ _ _ hK.ms, ua_get _ _ (by omega)]
              have l0 := hW.lanes (k * 4) (by omega)
              have l1 := hW.lanes (k * 4 + 1) (by omega)
              have l2 := hW.lanes (k * 4 + 2) (by omega)
              have l3 := hW.lanes (k * 4 + 3) (by omega)
              have hs : Hid (lanesTo m r (roundsTo m v r) (k + 1) = mixL (lanesTo m r (roundsTo m v r) k) (laneF.getD (k * 4) 0) (laneF.getD (k * 4 + 1) 0) (laneF.getD (k * 4 + 2) 0) (laneF.getD (k * 4 + 3) 0) (m.getD p1 0) (m.getD p2 0)) := by
                rw [← Ho1.out, ← Ho2.out]; rfl
              obtain ⟨b0, b1, b2, b3, n01, n02, n03, n12, n13, n23⟩ := laneF_ok k hk8
              generalize laneF.getD (k * 4) 0 = q0 at *
              generalize laneF.getD (k * 4 + 1) 0 = q1 at *
              generalize laneF.getD (k * 4 + 2) 0 = q2 at *
              generalize laneF.getD (k * 4 + 3) 0 = q3 at *
              have gp1 : (p1 : Int) < 16 := by omega
              have gp2 : (p2 : Int) < 16 := by omega
              generalize m.getD p1 0 = x at c1 hs
              generalize m.getD p2 0 = y at c2 hs
              have hvl : (lanesTo m r (roundsTo m v r) k).length = 16 := by rw [lanesTo_length, roundsTo_length, hlv]
              go_wp2_with fail
              go_region_with (go_at_call 130; refine (mix_any (lanesTo m r (roundsTo m v r) k) bv q0 q1 q2 q3 x y _ hvl ?_ b0 b1 b2 b3 n01 n02 n03 n12 n13 n23).mono ?_; exact hK.v.vs; rintro e w2 ⟨rfl, hU⟩)
              all_goals
                go_wp2_with fail
                go_roundw
                case rel => exact ⟨k + 1, by omega, by go_num, by rw [hs.out]; exact hK.upd (upd_drewN hU)⟩
                case measure => simp [intOf]; omega
            · obtain rfl : k = 8 := by omega
              go_wp2_with fail
              go_roundw
              case rel => exact ⟨r + 1, by omega, by go_num, hK⟩
              case measure => simp [intOf]; omega
        · obtain rfl : r = 10 := by omega
          go_wp2_with fail
          have hv16 : (roundsTo m v 10).length = 16 := by rw [roundsTo_length, hlv]
          have hV := hR.v
          clear hR hM hc hT
          generalize roundsTo m v 10 = u at hV hv16 hfin
          have hbv := hV.lt
          go_loopw [53] (fun i wr => ∃ k : Nat, k ≤ 8 ∧ i = .int .i64 k ∧ TakeV w (foldTo s u k) u bv wr) (fun i _ => 8 - (intOf i).toNat)
          case atStart => exact ⟨0, by omega, rfl, hV⟩
          case round =>
            obtain ⟨k, hk, rfl, hK⟩ := hrel
            have hsl := (foldTo_length s u k).trans hl
            by_cases hk8 : k < 8
            · have hkI : (k : Int) < 8 := by omega
              have c0 : wr.cell? ⟨w.heap.size, k, none⟩ = some (.int .u32 ((foldTo s u k).getD k 0)) := by rw [cell_of_row wr _ _ _ _ _ hK.st, ua_get _ _ (by omega)]
              have c1 : wr.cell? ⟨bv, k, none⟩ = some (.int .u32 (u.getD k 0)) := by rw [cell_of_row wr _ _ _ _ _ hK.vs, ua_get _ _ (by omega)]
              have c2 : wr.cell? ⟨bv, k + 8, none⟩ = some (.int .u32 (u.getD (k + 8) 0)) := by rw [cell_of_row wr _ _ _ _ _ hK.vs, ua_get _ _ (by omega)]
              have f0 := frozen_of_row wr _ k _ _ hK.st
              have hs : Hid (foldTo s u (k + 1) = (foldTo s u k).set k (bits .xor .u32 ((foldTo s u k).getD k 0) (bits .xor .u32 (u.getD k 0) (u.getD (k + 8) 0)))) := rfl
              generalize (foldTo s u k).getD k 0 = x0 at c0 hs
              generalize u.getD k 0 = x1 at c1 hs
              generalize u.getD (k + 8) 0 = x2 at c2 hs
              go_wp2_with fail
              go_region
              go_wp2_with fail
              go_roundw
              case rel =>
                refine ⟨k + 1, by omega, by go_num, (hK.bel.setCell (p := ⟨w.heap.size, k, none⟩) (Nat.le_refl _) _).drew, ?_, ?_, hbv, ?_⟩
                · rw [hs.out, ← ua_set]; exact heap_setCell_same wr _ _ _ _ _ hK.st
                · exact (Below.heap_setCell wr _ _ _ (by simp)).trans hK.res
                · exact (Below.heap_setCell wr _ _ _ (by simp; omega)).trans hK.vs
              case measure => simp [intOf]; omega
            · obtain rfl : k = 8 := by omega
              have hz := state_size (foldTo s u 8) hsl
              have ho : (ua (List.replicate 8 0)).size = (ua (foldTo s u 8)).size := by rw [ua_size, ua_size, hsl]; rfl
              go_wp2_with (first | refine wpList_load_row rfl 143 _ rfl w.heap.size rfl 143 (ua (foldTo s u 8)) (0, 0) _ hK.st Tryd.underlying143 rfl hz ?_ | refine wpList_store_row rfl 143 _ _ rfl (w.heap.size + 1) (ua (foldTo s u 8)) rfl rfl 143 (ua (List.replicate 8 0)) hK.res hz ho (ua_one _) ?_)
              exact bodyPost_ret (v := .agg (ua (foldTo s u 8))) (results_cell_row (fn := Tryd.f106) (p := 8) (ty := 143) rfl _ _ (w.heap.size + 1) 143 _ (0, 0) _ rfl (setRow_heap _ _ _ _ _ _ hK.res) Tryd.underlying143 rfl hz) rfl ⟨by rw [hfin.out], (Upd.setRow hK.res).below hK.bel hK.bel.size (by omega)⟩
end Go.Proofs.YtbmodfegcmaieaaDoor

namespace Go.Proofs.YtbmodfegcmaieaaDoor
open Go.RowKit

set_option maxRecDepth 100000 in
theorem run_index_state (s : List Int) (hs : s.length = 8) (k : Nat) (hk : k < 8) (w : World) :
    (Instr.index 143 (.agg (ua s)) (.int .i64 k)).run Tryd.prog w = .ok (.int .u32 (s.getD k 0)) w := by
  have hg := ua_get s k (by omega)
  simp [Instr.index, asIntOf, Sem.run_bind, run_underlying Tryd.underlying143, part, hg, hk]

set_option maxRecDepth 100000 in
theorem makeDigest (w : World) : (Instr.makeSlice 46 (.int .i64 0) (.int .i64 32)).run Tryd.prog w = .ok (.slice (some ⟨w.heap.size, 0, none⟩) 0 32) (w.alloc (.cells (ub (List.replicate 32 0)).toArray 5)) := by kernel_rfl

set_option maxRecDepth 100000 in
set_option maxHeartbeats 1000000 in
theorem digest_any (s : List Int) (w : World) (hl : s.length = 8) :
    Calls Tryd.prog 107 #[.agg (ua s)] w fun e w' => e = .returned (.slice (some ⟨w.heap.size + 1, 0, none⟩) 32 32) ∧ Below w.heap.size w w' ∧ w'.ownsRow w.heap.size 5 1 (.slice (some ⟨w.heap.size + 1, 0, none⟩) 32 32) 32 (ub (digTo s 8)) := by
  have hmk := fun w => makeDigest w
  have hz := state_size s hl
  have hrow : ((w.alloc (.cells (ua s) 143)).alloc (.cells (ub (List.replicate 32 0)).toArray 5)).heap[w.heap.size]? = some (.cells (ua s) 143 (0, 0)) := heap_alloc2_old _ _ _
  obtain ⟨i, hi, hz0, hz1, hz2⟩ := info_parts infoU8
  have hown := World.ownsRow_made (base := w.heap.size) (e := 5) (size := 1) (w.alloc (.cells (ua s) 143)) (ub (List.replicate 32 0)).toArray 32 (by simp) (by decide) rfl
  go_enter Tryd.func107, Tryd.ntmps107
  go_wp2_with (refine wpList_load_row rfl 143 _ rfl w.heap.size rfl 143 (ua s) (0, 0) _ hrow Tryd.underlying143 rfl hz ?_)
  go_loopw [8, 3] (fun i v wr => ∃ k : Nat, k ≤ 8 ∧ i = .int .i64 k ∧ v = .slice (some ⟨w.heap.size + 1, 0, none⟩) (4 * k) 32 ∧ Below w.heap.size w wr ∧ wr.ownsRow w.heap.size 5 1 (.slice (some ⟨w.heap.size + 1, 0, none⟩) (4 * k) 32) (4 * k) (ub (digTo s k))) (fun i _ _ => 8 - (intOf i).toNat)
  case atStart => exact ⟨0, Nat.zero_le _, rfl, by simp, ((Below.refl _ _).alloc (Nat.le_refl _) _).alloc (by simp) _, by simpa [ub, digTo] using hown⟩
  case round =>
    obtain ⟨k, hk, rfl, rfl, hb, ho⟩ := hrel
    clear hrow hown
    by_cases hlt : k < 8
    · have hidx := fun w => run_index_state s hl k hlt w
      have hs : Hid (digTo s (k + 1) = digTo s k ++ [s.getD k 0 % 256, s.getD k 0 / 256 % 256, s.getD k 0 / 65536 % 256, s.getD k 0 / 16777216 % 256]) := rfl
      generalize s.getD k 0 = x at hidx hs
      go_wp2_with (at_builtin; refine wpList_append_own_spare _ rfl _ _ 46 rfl w.heap.size 5 i 1 Tryd.underlying46 hi hz1 (w.heap.size + 1) (4 * k) 32 _ rfl (ho.alloc _) ⟨wr.heap.size, 0, none⟩ 4 4 [.int .u8 (x % 256), .int .u8 (x / 256 % 256), .int .u8 (x / 65536 % 256), .int .u8 (x / 16777216 % 256)] rfl rfl (cells_new _ _ _) (u8_one [_, _, _, _]) (by omega) ?_; intro w1 hown1 hgrow1)
      go_roundw
      case rel =>
        refine ⟨k + 1, by omega, by go_num, by rw [show 4 * (k + 1) = 4 * k + 4 by omega], (hb.alloc hb.size _).grown hgrow1 (by simp; exact Nat.le_succ_of_le hb.size) (by simp), ?_⟩
        rw [hs.out, show 4 * (k + 1) = 4 * k + 4 by omega]
        simpa [ub] using hown1
      case measure => simp [intOf]; omega
    · obtain rfl : k = 8 := by omega
      go_wp2_with fail
      go_ret
      exact ⟨rfl, hb, ho⟩
end Go.Proofs.YtbmodfegcmaieaaDoor
