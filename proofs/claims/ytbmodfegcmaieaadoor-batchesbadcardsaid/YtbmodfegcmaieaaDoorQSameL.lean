/- sheaveskeep.sameLists and sameHeader. -/
import Derived.Test.YtbmodfegcmaieaaDoorQSameT
import Derived.Test.YtbmodfegcmaieaaDoorGAppD
import Derived.Test.YtbmodfegcmaieaaDoorGCalls
namespace Go.Proofs.YtbmodfegcmaieaaDoor
open Go.RowKit

def bsOf (ps : List Part) : List (List Int) := ps.map (·.bs)
set_option maxRecDepth 100000 in
set_option maxHeartbeats 1000000 in
theorem sameLists_any (ps qs : List Part) (sa sb : Option Addr) (n m c d : Nat) (w : World) (hn : n = ps.length) (hm : m = qs.length) (hx : n ≤ 1000) (hy : m ≤ 1000) (ha : ListAt w sa c ps) (hb : ListAt w sb d qs) (hu : ∀ p ∈ ps, ∀ x ∈ p.bs, 0 ≤ x ∧ x ≤ 255) (hv : ∀ p ∈ qs, ∀ x ∈ p.bs, 0 ≤ x ∧ x ≤ 255) :
    Calls Tryd.prog 66 #[.slice sa n c, .slice sb m d] w fun e w' => e = .returned (.bool (decide (bsOf ps = bsOf qs))) ∧ Below w.heap.size w w' := by
  subst hn hm
  by_cases hl : ps.length = qs.length
  · have hF : Hid (ps.length = qs.length) := hl
    have HU : Hid _ := hu
    have HV : Hid _ := hv
    rw [← hl]
    clear hu hv hl
    go_enter Tryd.func66, Tryd.ntmps66
    go_wp2_with fail
    go_loopw [5] (fun j wr => ∃ k : Nat, k ≤ ps.length ∧ j = .int .i64 k ∧ Hid (bsOf (ps.take k) = bsOf (qs.take k)) ∧ Below w.heap.size w wr) (fun j _ => ps.length - (intOf j).toNat)
    case atStart => exact ⟨0, Nat.zero_le _, rfl, by show _ = _; simp, Below.refl _ _⟩
    case round =>
      obtain ⟨k, hk, rfl, hst, hbw⟩ := hrel
      by_cases hlt : k < ps.length
      · have hlt2 : k < qs.length := by have := hF.out; omega
        obtain ⟨ab, ao, rfl, hca⟩ : ∃ ab ao, sa = some ⟨ab, ao, none⟩ ∧ ∀ j (h : j < ps.length), w.cell? ⟨ab, ao + j, none⟩ = some (.slice (ps[j]).sa (ps[j]).bs.length (ps[j]).cap) := by
          rcases ha.parts.cells with h | h
          · subst h; simp at hlt
          · exact h
        obtain ⟨bb, bo, rfl, hcb⟩ : ∃ bb bo, sb = some ⟨bb, bo, none⟩ ∧ ∀ j (h : j < qs.length), w.cell? ⟨bb, bo + j, none⟩ = some (.slice (qs[j]).sa (qs[j]).bs.length (qs[j]).cap) := by
          rcases hb.parts.cells with h | h
          · subst h; simp at hlt2
          · exact h
        have ka := (hbw.cell (p := ⟨ab, ao + k, none⟩) (block_lt_of_cell (hca k hlt))).trans (hca k hlt)
        have kb := (hbw.cell (p := ⟨bb, bo + k, none⟩) (block_lt_of_cell (hcb k hlt2))).trans (hcb k hlt2)
        have hpa := (ha.parts.each ps[k] (List.getElem_mem hlt)).below hbw
        have hpb := (hb.parts.each qs[k] (List.getElem_mem hlt2)).below hbw
        have hua := HU.out ps[k] (List.getElem_mem hlt)
        have hub := HV.out qs[k] (List.getElem_mem hlt2)
        have hltI : (k : Int) < ps.length := by omega
        have h0 : (0 : Int) ≤ k := by omega
        clear hca hcb
        have hsx : Hid (bsOf (ps.take (k + 1)) = bsOf (ps.take k) ++ [(ps[k]).bs]) := by show _ = _; rw [bsOf, List.take_succ_eq_append_getElem hlt, List.map_append]; rfl
        have hsy : Hid (bsOf (qs.take (k + 1)) = bsOf (qs.take k) ++ [(qs[k]).bs]) := by show _ = _; rw [bsOf, List.take_succ_eq_append_getElem hlt2, List.map_append]; rfl
        generalize ps[k] = p at *
        generalize qs[k] = q at *
        have hS : ∀ wx, Below wr.heap.size wr wx → Calls Tryd.prog 37 #[.slice p.sa p.bs.length p.cap, .slice q.sa q.bs.length q.cap] wx fun e w' => e = .returned (.bool (decide (p.bs = q.bs))) ∧ wx = w' := fun wx hbx => same_any p.bs q.bs p.sa q.sa _ _ p.cap q.cap wx rfl rfl (hpa.below hbx) (hpb.below hbx) hua hub
        have HS : Hid _ := hS
        clear hS hua hub
        by_cases he : p.bs = q.bs
        · have hxy : Hid (p.bs = q.bs) := he
          rw [decide_eq_true he] at HS
          clear he
          go_wp2_with fail
          go_region_held3 (fun w' => w'.cell? ⟨ab, ao + k, none⟩ = some (.slice p.sa p.bs.length p.cap) ∧ w'.cell? ⟨bb, bo + k, none⟩ = some (.slice q.sa q.bs.length q.cap)) (go_keep) ((go_at_call 37; refine (HS.out _ ?_).mono ?_; exact (Below.refl _ _).drew; rintro e w8 ⟨rfl, rfl⟩))
          all_goals
            go_wp2_with fail
            go_roundw
            case rel =>
              have hR : ∃ k' : Nat, k' ≤ ps.length ∧ (Value.int .i64 ((k : Int) + 1)) = .int .i64 k' ∧ Hid (bsOf (ps.take k') = bsOf (qs.take k')) ∧ Below w.heap.size w wr.drew := ⟨k + 1, by omega, by go_num, by show _ = _; rw [hsx.out, hsy.out, hst.out, hxy.out], hbw.drew⟩
              first | exact hR | ((repeat apply Exists.intro); exact ⟨hR, rfl⟩)
            case measure => simp [intOf]; omega
        · have hxy : Hid (¬ p.bs = q.bs) := he
          rw [decide_eq_false he] at HS
          clear he
          go_wp2_with fail
          go_region_held3 (fun w' => w'.cell? ⟨ab, ao + k, none⟩ = some (.slice p.sa p.bs.length p.cap) ∧ w'.cell? ⟨bb, bo + k, none⟩ = some (.slice q.sa q.bs.length q.cap)) (go_keep) ((go_at_call 37; refine (HS.out _ ?_).mono ?_; exact (Below.refl _ _).drew; rintro e w8 ⟨rfl, rfl⟩))
          all_goals
            go_wp2_with fail
            go_ret
            refine ⟨ret_bool (decide_eq_false fun e => hxy.out ?_).symm, hbw.drew⟩
            have h1 := hsx.out
            have h2 := hsy.out
            have h3 : bsOf (ps.take (k + 1)) = bsOf (qs.take (k + 1)) := by
              have e' : (bsOf ps).take (k + 1) = (bsOf qs).take (k + 1) := by rw [e]
              simpa [bsOf, List.map_take] using e'
            rw [h1, h2, hst.out] at h3
            have h4 := List.append_cancel_left h3
            simpa using h4
      · obtain rfl : k = ps.length := by omega
        have hltI : ¬ (ps.length : Int) < ps.length := by omega
        have heq : Hid (bsOf ps = bsOf qs) := by
          have h1 := hst.out
          rw [List.take_of_length_le (Nat.le_refl _), List.take_of_length_le (by have := hF.out; omega)] at h1
          exact h1
        go_wp2_with fail
        go_ret
        exact ⟨ret_bool (decide_eq_true heq.out).symm, hbw⟩
  · have hlI : ¬ (ps.length : Int) = qs.length := by omega
    have hF : Hid (¬ bsOf ps = bsOf qs) := fun e => hl (by have := congrArg List.length e; simpa [bsOf] using this)
    have hlb : ((ps.length : Int) == (qs.length : Int)) = false := beq_eq_false_iff_ne.2 hlI
    clear hu hv
    go_enter Tryd.func66, Tryd.ntmps66
    go_wp2_with fail
    go_ret
    exact ⟨ret_bool (decide_eq_false hF.out).symm, Below.refl _ _⟩
/-- The lists of a header, read in some world. -/
structure HeadAt (w : World) (ba : Option Addr) (bn bc : Nat) (bl : List Part) (pa : Option Addr) (pn pc : Nat) (pl : List Part) : Prop where
  eb : bn = bl.length
  ep : pn = pl.length
  b3 : bn ≤ 1000
  p4 : pn ≤ 1000
  bat : ListAt w ba bc bl
  par : ListAt w pa pc pl
  bu : ∀ p ∈ bl, ∀ x ∈ p.bs, 0 ≤ x ∧ x ≤ 255
  pu : ∀ p ∈ pl, ∀ x ∈ p.bs, 0 ≤ x ∧ x ≤ 255
set_option maxRecDepth 100000 in
theorem HeadAt.below {w w' : World} {ba : Option Addr} {bn bc : Nat} {bl : List Part} {pa : Option Addr} {pn pc : Nat} {pl : List Part} (h : HeadAt w ba bn bc bl pa pn pc pl) (hb : Below w.heap.size w w') : HeadAt w' ba bn bc bl pa pn pc pl := ⟨h.eb, h.ep, h.b3, h.p4, h.bat.below hb, h.par.below hb, h.bu, h.pu⟩
set_option maxRecDepth 100000 in
set_option maxHeartbeats 1000000 in
theorem sameHeader_any (au rd au' rd' : Int) (ba : Option Addr) (bn bc : Nat) (bl : List Part) (pa : Option Addr) (pn pc : Nat) (pl : List Part) (ba' : Option Addr) (bn' bc' : Nat) (bl' : List Part) (pa' : Option Addr) (pn' pc' : Nat) (pl' : List Part) (w : World) (ha : HeadAt w ba bn bc bl pa pn pc pl) (hb : HeadAt w ba' bn' bc' bl' pa' pn' pc' pl') :
    Calls Tryd.prog 46 #[.agg #[.int .i64 au, .int .i64 rd, .slice ba bn bc, .slice pa pn pc], .agg #[.int .i64 au', .int .i64 rd', .slice ba' bn' bc', .slice pa' pn' pc']] w fun e w' => e = .returned (.bool (decide (au = au' ∧ rd = rd' ∧ bsOf bl = bsOf bl' ∧ bsOf pl = bsOf pl'))) ∧ Below w.heap.size w w' := by
  have hA : Below w.heap.size w ((w.alloc (.cells #[.int .i64 au, .int .i64 rd, .slice ba bn bc, .slice pa pn pc] 60)).alloc (.cells #[.int .i64 au', .int .i64 rd', .slice ba' bn' bc', .slice pa' pn' pc'] 60)) := ((Below.refl _ _).alloc (Nat.le_refl _) _).alloc (by simp) _
  have hB : ∀ wx, Below w.heap.size w wx → Calls Tryd.prog 66 #[.slice ba bn bc, .slice ba' bn' bc'] wx fun e w' => e = .returned (.bool (decide (bsOf bl = bsOf bl'))) ∧ Below wx.heap.size wx w' := fun wx h => sameLists_any bl bl' ba ba' bn bn' bc bc' wx ha.eb hb.eb ha.b3 hb.b3 (ha.bat.below h) (hb.bat.below h) ha.bu hb.bu
  have hP : ∀ wx, Below w.heap.size w wx → Calls Tryd.prog 66 #[.slice pa pn pc, .slice pa' pn' pc'] wx fun e w' => e = .returned (.bool (decide (bsOf pl = bsOf pl'))) ∧ Below wx.heap.size wx w' := fun wx h => sameLists_any pl pl' pa pa' pn pn' pc pc' wx ha.ep hb.ep ha.p4 hb.p4 (ha.par.below h) (hb.par.below h) ha.pu hb.pu
  have HB : Hid _ := hB
  have HP : Hid _ := hP
  clear hB hP ha hb
  have hF : Hid (decide (au = au' ∧ rd = rd' ∧ bsOf bl = bsOf bl' ∧ bsOf pl = bsOf pl') = (decide (au = au' ∧ rd = rd') && decide (bsOf bl = bsOf bl') && decide (bsOf pl = bsOf pl'))) := by
    show _ = _
    by_cases h1 : au = au' <;> by_cases h2 : rd = rd' <;> by_cases h3 : bsOf bl = bsOf bl' <;> simp [h1, h2, h3]
  generalize decide (bsOf bl = bsOf bl') = x at *
  generalize decide (bsOf pl = bsOf pl') = y at *
  generalize decide (au = au' ∧ rd = rd' ∧ bsOf bl = bsOf bl' ∧ bsOf pl = bsOf pl') = z at *
  by_cases h1 : au = au'
  · subst h1
    by_cases h2 : rd = rd'
    · subst h2
      have hz : Hid (z = (x && y)) := by have := hF.out; show _ = _; simpa using this
      clear hF
      cases x
      · go_enter Tryd.func46, Tryd.ntmps46
        go_wp2_with fail
        refine (HB.out _ hA).mono ?_
        rintro e w1 ⟨rfl, hb1⟩
        go_wp2_with fail
        go_ret
        exact ⟨ret_bool (by rw [hz.out]; rfl), below_alloc (below_alloc hb1)⟩
      · go_enter Tryd.func46, Tryd.ntmps46
        go_wp2_with fail
        refine (HB.out _ hA).mono ?_
        rintro e w1 ⟨rfl, hb1⟩
        have r1 := row_new hb1
        have r0 := row_new (below_alloc hb1)
        rw [size_alloc] at r1
        replace hb1 := below_alloc (below_alloc hb1)
        have c3 : w1.cell? ⟨w.heap.size, 3, none⟩ = some (.slice pa pn pc) := cells_at r0 3 _ rfl
        have d3 : w1.cell? ⟨w.heap.size + 1, 3, none⟩ = some (.slice pa' pn' pc') := cells_at r1 3 _ rfl
        go_wp2_with fail
        refine (HP.out _ hb1).mono ?_
        rintro e w2 ⟨rfl, hb2⟩
        go_wp2_with fail
        go_ret
        exact ⟨ret_bool (by rw [hz.out]; simp), hb1.trans (hb2.mono hb1.size)⟩
    · have hz : Hid (z = false) := by have := hF.out; show _ = _; simpa [h2] using this
      clear hF
      have h2b : (rd == rd') = false := by simpa using h2
      go_enter Tryd.func46, Tryd.ntmps46
      go_wp2_with fail
      go_ret
      exact ⟨ret_bool hz.out.symm, hA⟩
  · have hz : Hid (z = false) := by have := hF.out; show _ = _; simpa [h1] using this
    clear hF
    have h1b : (au == au') = false := by simpa using h1
    go_enter Tryd.func46, Tryd.ntmps46
    go_wp2_with fail
    go_ret
    exact ⟨ret_bool hz.out.symm, hA⟩
end Go.Proofs.YtbmodfegcmaieaaDoor
