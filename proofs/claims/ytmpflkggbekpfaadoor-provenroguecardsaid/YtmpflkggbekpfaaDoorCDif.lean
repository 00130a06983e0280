/- seal.allDiffer, for all signs that may be. -/
import Derived.Test.YtmpflkggbekpfaaDoorCMark
import Derived.Test.YtmpflkggbekpfaaDoorCSig
import Derived.Test.YtmpflkggbekpfaaDoorLRow
import Derived.Laws.CopyOwn
import Derived.Deep.Cut
import Derived.Deep.RegionHeld3
import Derived.Laws.Rows
import Derived.Laws.Tables
namespace Go.Proofs.YtmpflkggbekpfaaDoor
open Go.RowKit Go.Maps Go.WideMaps

set_option maxRecDepth 100000 in
theorem makeMapN (n : Int) (w : World) : (Instr.makeMap 87 (some (.int .i64 n))).run Tryd.prog w = .ok (.map (some w.heap.size)) (w.alloc (.map #[] 0)) := by
  simp [Instr.makeMap, run_underlying Tryd.underlying87, Result.andThen]
  rfl
set_option maxRecDepth 100000 in
theorem mkv_len (p q r : Int) (l : List Int) : (mkv (p, q, r, l)).length = 3 + l.length := by simp [mkv, ub]; omega
set_option maxRecDepth 100000 in
theorem mkv_one (g : GV) : ∀ v ∈ mkv g, v.oneCell' = true := by
  intro v hv
  simp only [mkv, List.mem_cons] at hv
  rcases hv with rfl | rfl | rfl | hv
  · rfl
  · rfl
  · rfl
  · obtain ⟨x, _, rfl⟩ := List.mem_map.1 hv
    rfl
set_option maxRecDepth 100000 in
theorem sizeM : (Tryd.prog.info? 90).map (·.size) = some 35 := by kernel_rfl
set_option maxRecDepth 100000 in
theorem buildM (p q r : Int) (w : World) : (Instr.build 90 #[(0, .int .i64 p), (1, .int .i64 q), (2, .int .i64 r)]).run Tryd.prog w = .ok (.agg (mkv (p, q, r, List.replicate 32 0)).toArray) w := by kernel_rfl
set_option maxRecDepth 100000 in
theorem zeroM (w : World) : ∃ Z : Array Value, Z.size = 35 ∧ (Instr.alloc 90 true (.tuple #[])).run Tryd.prog w = .ok (.pointer (some ⟨w.heap.size, 0, none⟩)) (w.alloc (.cells Z 90)) := ⟨(mkv (0, 0, 0, List.replicate 32 0)).toArray, by simp [mkv, ub], by kernel_rfl⟩
set_option maxRecDepth 100000 in
theorem wpList_buildM {ops : Array Oper} {rest : List Oper} {o : Oper} {a : Act} {w : World} {Q : Exit → Act → World → Prop} (hg : o.guard = none) (x y z : Operand) (ho : o.op = .build 90 #[(0, x), (1, y), (2, z)])
    (p q r : Int) (hx : a.eval x = .int .i64 p) (hy : a.eval y = .int .i64 q) (hz : a.eval z = .int .i64 r)
    (h : wpList Tryd.prog ops Q rest (a.put o.dst (.agg (mkv (p, q, r, List.replicate 32 0)).toArray)) w) : wpList Tryd.prog ops Q (o :: rest) a w := by
  refine wpList_plain hg fun K hK => ?_
  have hrun := buildM p q r w
  unfold Oper.wp
  simp [execOp, ho, hx, hy, hz, hrun, Result.andThen]
  exact hK _ _ h
set_option maxRecDepth 100000 in
theorem wpList_allocM {ops : Array Oper} {rest : List Oper} {o : Oper} {a : Act} {w : World} {Q : Exit → Act → World → Prop} (hg : o.guard = none) (ho : o.op = .alloc 90)
    (h : ∀ w', (∃ Z : Array Value, Z.size = 35 ∧ w'.heap[w.heap.size]? = some (.cells Z 90 (0, 0))) → Below w.heap.size w w' → wpList Tryd.prog ops Q rest (a.put o.dst (.pointer (some ⟨w.heap.size, 0, none⟩))) w') : wpList Tryd.prog ops Q (o :: rest) a w := by
  refine wpList_plain hg fun K hK => ?_
  obtain ⟨Z, hZ, hrun⟩ := zeroM w
  unfold Oper.wp
  simp [execOp, ho, hrun, Result.andThen]
  exact hK _ _ (h _ ⟨Z, hZ, heap_alloc_new w _⟩ ((Below.refl _ _).alloc (Nat.le_refl _) _))
set_option maxRecDepth 100000 in
theorem wpList_storeM {ops : Array Oper} {rest : List Oper} {o : Oper} {a : Act} {w : World} {Q : Exit → Act → World → Prop} (hg : o.guard = none) (hd : o.dst = none) (x y : Operand) (ho : o.op = .store 90 x y)
    (g : Nat) (v : GV) (hl : v.2.2.2.length = 32) (hx : a.eval x = .pointer (some ⟨g, 0, none⟩)) (hy : a.eval y = .agg (mkv v).toArray) (hz : ∃ Z : Array Value, Z.size = 35 ∧ w.heap[g]? = some (.cells Z 90 (0, 0)))
    (B : Nat) (w0 : World) (hb : Below B w0 w) (hB : B ≤ g)
    (h : ∀ w', Hid (w'.heap[g]? = some (.cells (mkv v).toArray 90 (0, 0))) → Below B w0 w' → wpList Tryd.prog ops Q rest a w') : wpList Tryd.prog ops Q (o :: rest) a w := by
  refine wpList_plain hg fun K hK => ?_
  obtain ⟨Z, hZ, hw⟩ := hz
  have hsz : (mkv v).toArray.size = 35 := by obtain ⟨p, q, r, l⟩ := v; simpa [hl] using mkv_len p q r l
  refine wp_store_row _ x y ho g (mkv v).toArray hx hy _ Z hw (by rw [hsz]; exact sizeM) (by rw [hZ, hsz]) (by rw [← Array.all_toList]; exact List.all_eq_true.2 (fun u hu => mkv_one v u (by simpa using hu))) ?_
  rw [hd]
  exact hK _ _ (h _ (show _ = _ from setRow_heap w g _ _ _ _ hw) (below_setRow hb hB _))
set_option maxRecDepth 100000 in
theorem own_below {k : TypeId} {R : Value → Option (DataW Unit × List MemPlace)} {b n : Nat} {D : DataW Unit} {w w' : World} (h : w.ownsMap Tryd.prog k R b n D) (hb : Below w.heap.size w w') : w'.ownsMap Tryd.prog k R b n D := by
  have hlt := h.lt
  obtain ⟨es, clock, h1, F, hs, hD⟩ := h
  exact ⟨es, clock, (hb.block b hlt).trans h1, F, hs, hD⟩
set_option maxRecDepth 100000 in
theorem splice_mkv (p q r : Int) (l z : List Int) (hl : l.length = z.length) : splice (mkv (p, q, r, z)) 3 (ub l) = mkv (p, q, r, l) := by
  have h1 : (ub z).drop (ub l).length = [] := List.drop_eq_nil_of_le (by simp [ub, hl])
  simp only [splice, mkv, List.take_succ_cons, List.take_zero, List.cons_append, List.nil_append]
  rw [show 3 + (ub l).length = (ub l).length + 1 + 1 + 1 by omega, List.drop_succ_cons, List.drop_succ_cons, List.drop_succ_cons, h1, List.append_nil]
set_option maxRecDepth 100000 in
set_option maxHeartbeats 4000000 in
theorem allDiffer_any (ls : List Sg) (sa : Option Addr) (n cap : Nat) (w : World) (hn : n = ls.length) (hl : ls.length ≤ 2932031007400) (hp : SignsAt w sa ls) (hg : ∀ s ∈ ls, gF s.v = 0) :
    Calls Tryd.prog 52 #[.slice sa n cap] w fun e w' => e = .returned (.bool (decide (gvs ls).Nodup)) ∧ Below w.heap.size w w' := by
  subst hn
  obtain ⟨K, hK⟩ := exists_keyG
  have hmm := makeMapN
  have HG : Hid (∀ s ∈ ls, gF s.v = 0) := hg
  clear hg
  go_enter Tryd.func52, Tryd.ntmps52
  go_wp2_with fail
  go_loopw [12] (fun i wr => ∃ m : Nat, m ≤ ls.length ∧ i = .int .i64 m ∧ wr.ownsMap Tryd.prog 90 (unitElem (H := Unit)) w.heap.size m (setOf (.agg []) ((gvs (ls.take m)).map K)) ∧ Below w.heap.size w wr) (fun i _ => ls.length - (intOf i).toNat)
  case atStart => exact ⟨0, Nat.zero_le _, rfl, World.ownsMap_made _ _ _ _, (Below.refl _ _).alloc (Nat.le_refl _) _⟩
  case round =>
    obtain ⟨m, hm, rfl, hown, hb⟩ := hrel
    by_cases hlt : m < ls.length
    · have hpw := hp.below hb
      obtain ⟨sb, so, rfl, hc⟩ : ∃ sb so, sa = some ⟨sb, so, none⟩ ∧ ∀ j (h : j < ls.length), wr.cell? ⟨sb, so + j * 4, none⟩ = some (.int .i64 (ls[j]).nd) ∧ wr.cell? ⟨sb, so + j * 4 + 1, none⟩ = some (.int .i64 (ls[j]).au) ∧ wr.cell? ⟨sb, so + j * 4 + 2, none⟩ = some (.int .i64 (ls[j]).rd) ∧ wr.cell? ⟨sb, so + j * 4 + 3, none⟩ = some (.slice (ls[j]).p.sa (ls[j]).p.bs.length (ls[j]).p.cap) := by
        rcases hpw.cells with h | h
        · rw [h] at hlt; simp at hlt
        · exact h
      obtain ⟨c0, c1, c2, c3⟩ := hc m hlt
      have hx := hpw.each (ls[m]) (List.getElem_mem hlt)
      have hgm : Hid (gF (ls[m]).v = 0) := HG.out _ (List.getElem_mem hlt)
      have hltI : (m : Int) < ls.length := by omega
      have HS : Hid (setOf (H := Unit) (.agg []) ((gvs (ls.take (m + 1))).map K) = (setOf (.agg []) ((gvs (ls.take m)).map K)).put (K (ls[m]).v) (.agg [])) := by
        show _ = _
        rw [← setOf_snoc, List.take_succ_eq_append_getElem hlt]
        simp only [gvs, List.map_append, List.map_cons, List.map_nil]
      clear hc hpw
      generalize ls[m] = t at *
      go_upto_region 5 with fail
      have hA := hb.alloc hb.size (.cells #[.int .i64 t.nd, .int .i64 t.au, .int .i64 t.rd, .slice t.p.sa t.p.bs.length t.p.cap] 52)
      have hB1 := (Below.refl wr.heap.size wr).alloc (Nat.le_refl _) (.cells #[.int .i64 t.nd, .int .i64 t.au, .int .i64 t.rd, .slice t.p.sa t.p.bs.length t.p.cap] 52)
      have r0 := heap_alloc_new wr (.cells #[.int .i64 t.nd, .int .i64 t.au, .int .i64 t.rd, .slice t.p.sa t.p.bs.length t.p.cap] 52)
      have hsz1 : (wr.alloc (.cells #[.int .i64 t.nd, .int .i64 t.au, .int .i64 t.rd, .slice t.p.sa t.p.bs.length t.p.cap] 52)).heap.size = wr.heap.size + 1 := by simp
      have hown1 := hown.alloc (.cells #[.int .i64 t.nd, .int .i64 t.au, .int .i64 t.rd, .slice t.p.sa t.p.bs.length t.p.cap] 52)
      generalize wr.alloc (.cells #[.int .i64 t.nd, .int .i64 t.au, .int .i64 t.rd, .slice t.p.sa t.p.bs.length t.p.cap] 52) = W1 at hA hB1 r0 hsz1 hown1 ⊢
      have d0 := cells_at r0 0 _ rfl
      have d1 := cells_at r0 1 _ rfl
      have d2 := cells_at r0 2 _ rfl
      have d3 := cells_at r0 3 _ rfl
      go_upto_region 6 with (first
        | (refine wpList_buildM rfl _ _ _ rfl _ _ _ rfl rfl rfl ?_)
        | (refine wpList_allocM rfl rfl ?_; intro w2 hZ2 hB2)
        | (refine wpList_storeM rfl rfl _ _ rfl W1.heap.size (t.nd, t.au, t.rd, List.replicate 32 0) rfl rfl rfl hZ2 W1.heap.size W1 hB2 (Nat.le_refl _) ?_; intro w3 HR3 hB3))
      go_frame
      have hs3 : w3.heap[wr.heap.size]? = _ := (hB3.block wr.heap.size (by omega)).trans r0
      have hcp : Hid (SliceAt w3 t.p.sa t.p.cap t.p.bs) := (hx.1.below hB1).below hB3
      have e3 := cells_at hs3 3 _ rfl
      have hgd := good_g hgm.out
      have hb32 : t.p.bs.length = 32 := hgd.2.2.2
      have hubl : (ub t.p.bs).length = 32 := by simp [ub, hb32]
      have hown3 := own_below hown1 hB3
      obtain ⟨pb, po, hpa, hsrc⟩ : ∃ pb po, t.p.sa = some ⟨pb, po, none⟩ ∧ ∀ j v, (ub t.p.bs)[j]? = some v → w3.cell? ((⟨pb, po, none⟩ : Addr).add j) = some v := by
        rcases hcp.out.bytes with h9 | ⟨pb, po, h9, h8⟩
        · rw [h9] at hb32; simp at hb32
        · refine ⟨pb, po, h9, fun j v hv => ?_⟩
          have hj : j < t.p.bs.length := by
            rcases Nat.lt_or_ge j t.p.bs.length with g | g
            · exact g
            · rw [List.getElem?_eq_none (by simpa [ub] using g)] at hv; cases hv
          rw [add_off, h8 j hj]
          simp only [ub, List.getElem?_map, List.getElem?_eq_getElem hj, Option.map_some] at hv
          simp [hj, hv]
      rw [hpa, hb32] at e3
      have HSP : Hid (splice (mkv (t.nd, t.au, t.rd, List.replicate 32 0)) 3 (ub t.p.bs) = mkv (t.nd, t.au, t.rd, t.p.bs)) := splice_mkv _ _ _ _ _ (by rw [hb32]; simp)
      have HSRC : Hid (∀ j v, (ub t.p.bs)[j]? = some v → w3.cell? ((⟨pb, po, none⟩ : Addr).add j) = some v) := hsrc
      have H32 : Hid (t.p.bs.length = 32) := hb32
      have HU : Hid ((ub t.p.bs).length = 32) := hubl
      clear hsrc hb32 hubl hpa hs3 hcp hgd
      go_region_law (refine step_copy_splice rfl _ _ _ _ rfl 5 Tryd.underlying42 (by kernel_rfl) _ _ _ _ _ _ rfl rfl W1.heap.size 3 (mkv (t.nd, t.au, t.rd, List.replicate 32 0)) 90 HR3.out (ub t.p.bs) (by rw [HU.out]; rfl) (fun _ => ⟨by rw [hsz1], _, rfl, HSRC.out⟩) (by rw [HU.out]; simp [mkv, ub]) (by intro v hv; obtain ⟨x, _, rfl⟩ := List.mem_map.1 hv; rfl) W1.heap.size W1 hB3.drew (Nat.le_refl _) ?_; intro w4 HR4 hB4)
      have HR5 : Hid (w4.heap[wr.heap.size + 1]? = some (.cells (mkv t.v).toArray 90 (0, 0))) := by
        show _ = _
        rw [← hsz1, HR4.out, HSP.out]
        rfl
      have hown4 := own_below hown1 hB4
      have hkey : keyOf Tryd.prog 90 (.agg (mkv t.v).toArray) = some (K t.v) := hK _ hgm.out hx.2
      have hB5 : Below w.heap.size w w4 := hA.trans (hB4.mono hA.size)
      have hsM : (Tryd.prog.info? 90).map (·.size) = some (mkv t.v).toArray.size := by
        rw [sizeM]; simp [mkv, ub, H32.out, Sg.v]
      go_wp2_with (first
        | (refine wpList_load_row_w rfl _ _ rfl (wr.heap.size + 1) rfl 90 (mkv t.v).toArray (0, 0) _ HR5.out Tryd.underlying90 rfl hsM ?_)
        | (at_mapUpdate; refine wpList_mapUpdate_own _ rfl _ _ _ 87 rfl 90 91 lawM Tryd.underlying87 (unitElem (H := Unit)) w.heap.size m _ rfl hown4 (by unfold maxLen; omega) _ _ _ rfl rfl hkey _ [] unitElem_mk ?_; intro w5 hown5 hgrow5))
      go_roundw
      case rel => exact ⟨m + 1, by omega, by go_num, by rw [HS.out]; exact hown5, hB5.grown hgrow5 hB5.size (fun j hj => by cases hj; exact Nat.le_refl _)⟩
      case measure => simp [intOf]; omega
    · obtain rfl : m = ls.length := by omega
      have hF : Hid ((Maps.size (setOf (H := Unit) (.agg []) ((gvs ls).map K)) = ls.length ↔ (gvs ls).Nodup)) := by
        show _ ↔ _
        rw [← gvs_length ls]
        refine size_marks hK (fun g hg => ?_)
        obtain ⟨s, hs, rfl⟩ := List.mem_map.1 hg
        exact ⟨HG.out s hs, (hp.each s hs).2⟩
      rw [List.take_length] at hown
      generalize hz : Maps.size (setOf (H := Unit) (.agg []) ((gvs ls).map K)) = z at hF
      have HZ : Hid (Maps.size (setOf (H := Unit) (.agg []) ((gvs ls).map K)) = z) := hz
      clear hz
      go_wp2_with (first
        | (at_len; refine wpList_len_own _ rfl _ 87 rfl 90 91 Tryd.underlying87 (unitElem (H := Unit)) w.heap.size ls.length _ rfl hown ?_; rw [HZ.out]))
      go_ret
      refine ⟨ret_bool ?_, hb⟩
      by_cases hN : (gvs ls).Nodup
      · have h9 := hF.out.2 hN
        simp [h9, hN]
      · have h9 : ¬ z = ls.length := fun h8 => hN (hF.out.1 h8)
        have h7 : ¬ (z : Int) = ls.length := by omega
        simp [h7, hN]
end Go.Proofs.YtmpflkggbekpfaaDoor
