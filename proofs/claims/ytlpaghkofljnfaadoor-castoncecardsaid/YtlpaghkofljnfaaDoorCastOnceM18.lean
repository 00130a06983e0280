/- sheaveskeep.oneSum, of headers that may be, two of which are unlike and have one digest. -/
import Derived.Test.YtlpaghkofljnfaaDoorCastOnceM12
import Derived.Test.YtlpaghkofljnfaaDoorCastOnceM6
import Derived.Test.YtlpaghkofljnfaaDoorApp
import Derived.Test.YtlpaghkofljnfaaDoorSx
import Derived.Test.YtlpaghkofljnfaaDoorCastOnceM0
import Derived.Deep.RegionHeld3
import Derived.Test.YtlpaghkofljnfaaDoorLAt
import Derived.Test.YtlpaghkofljnfaaDoorCalls
import Derived.Test.YtlpaghkofljnfaaDoorCast
import Derived.Test.YtlpaghkofljnfaaDoorCTab
import Derived.Test.YtlpaghkofljnfaaDoorHOff
namespace Go.Proofs.YtlpaghkofljnfaaDoor
open Go.RowKit

set_option maxRecDepth 100000 in
set_option maxHeartbeats 1000000 in
theorem sameBatch_any (au nu au' nu' : Int) (xs ys : List ByteArray) (sa sb : Option Addr) (n m c d : Nat) (w : World) (hn : n = xs.length) (hm : m = ys.length) (hx : n ≤ 1000) (hy : m ≤ 1000) (ha : StrsAt w sa xs) (hb : StrsAt w sb ys) :
    Calls Tryd.prog 27 #[.agg #[.int .i64 au, .int .i64 nu, .slice sa n c], .agg #[.int .i64 au', .int .i64 nu', .slice sb m d]] w fun e w' => e = .returned (.bool (decide (au = au' ∧ nu = nu' ∧ xs = ys))) ∧ Below w.heap.size w w' := by
  have hA : Below w.heap.size w ((w.alloc (.cells #[.int .i64 au, .int .i64 nu, .slice sa n c] 63)).alloc (.cells #[.int .i64 au', .int .i64 nu', .slice sb m d] 63)) := ((Below.refl _ _).alloc (Nat.le_refl _) _).alloc (by simp) _
  have hT := sameTexts_any xs ys sa sb n m c d _ hn hm hx hy (ha.below hA) (hb.below hA)
  clear hn hm hx hy
  by_cases h1 : au = au'
  · subst h1
    by_cases h2 : nu = nu'
    · subst h2
      have hF : Hid (decide (au = au ∧ nu = nu ∧ xs = ys) = decide (xs = ys)) := by show _ = _; simp
      generalize decide (xs = ys) = r at *
      generalize decide (au = au ∧ nu = nu ∧ xs = ys) = r' at *
      go_enter Tryd.func27, Tryd.ntmps27
      go_wp2_with fail
      refine hT.mono ?_
      rintro e w1 ⟨he, hb1⟩
      subst he
      dsimp only
      go_wp2_with fail
      go_ret
      exact ⟨ret_bool hF.out.symm, below_alloc (below_alloc hb1)⟩
    · have hF : Hid (decide (au = au ∧ nu = nu' ∧ xs = ys) = false) := by show _ = _; simp [h2]
      have h2b : (nu == nu') = false := by simpa using h2
      go_enter Tryd.func27, Tryd.ntmps27
      go_wp2_with fail
      go_ret
      exact ⟨by first | rfl | exact ret_bool hF.out.symm, hA⟩
  · have hF : Hid (decide (au = au' ∧ nu = nu' ∧ xs = ys) = false) := by show _ = _; simp [h1]
    have h1b : (au == au') = false := by simpa using h1
    go_enter Tryd.func27, Tryd.ntmps27
    go_wp2_with fail
    go_ret
    exact ⟨by first | rfl | exact ret_bool hF.out.symm, hA⟩
set_option maxRecDepth 100000 in
set_option maxHeartbeats 400000 in
theorem same_any (xs ys : List Int) (sa sb : Option Addr) (n m c d : Nat) (w : World) (hn : n = xs.length) (hm : m = ys.length) (ha : SliceAt w sa c xs) (hb : SliceAt w sb d ys) (hx : ∀ x ∈ xs, 0 ≤ x ∧ x ≤ 255) (hy : ∀ x ∈ ys, 0 ≤ x ∧ x ≤ 255) :
    Calls Tryd.prog 12 #[.slice sa n c, .slice sb m d] w fun e w' => e = .returned (.bool (decide (xs = ys))) ∧ w = w' := by
  have h1 := run_text w sa n c xs hn ha
  have h2 := run_text w sb m d ys hm hb
  have hF : Hid (((bstr xs).toList == (bstr ys).toList) = decide (xs = ys)) := by
    show _ = _
    by_cases h : xs = ys
    · simp [h]
    · rw [decide_eq_false h, beq_eq_false_iff_ne]
      exact fun e => h (bstr_inj hx hy (ba_ext e))
  clear hn hm ha hb hx hy
  generalize bstr xs = A at *
  generalize bstr ys = B at *
  go_enter Tryd.func12, Tryd.ntmps12
  go_wp2_with fail
  go_ret
  exact ⟨ret_bool (by rw [← hF.out]), rfl⟩
end Go.Proofs.YtlpaghkofljnfaaDoor

namespace Go.Proofs.YtlpaghkofljnfaaDoor
open Go.RowKit

def bsOf (ps : List Part) : List (List Int) := ps.map (·.bs)
set_option maxRecDepth 100000 in
set_option maxHeartbeats 1000000 in
theorem sameLists_any (ps qs : List Part) (sa sb : Option Addr) (n m c d : Nat) (w : World) (hn : n = ps.length) (hm : m = qs.length) (hx : n ≤ 1000) (hy : m ≤ 1000) (ha : ListAt w sa c ps) (hb : ListAt w sb d qs) (hu : ∀ p ∈ ps, ∀ x ∈ p.bs, 0 ≤ x ∧ x ≤ 255) (hv : ∀ p ∈ qs, ∀ x ∈ p.bs, 0 ≤ x ∧ x ≤ 255) :
    Calls Tryd.prog 41 #[.slice sa n c, .slice sb m d] w fun e w' => e = .returned (.bool (decide (bsOf ps = bsOf qs))) ∧ Below w.heap.size w w' := by
  subst hn hm
  by_cases hl : ps.length = qs.length
  · have hF : Hid (ps.length = qs.length) := hl
    have HU : Hid _ := hu
    have HV : Hid _ := hv
    rw [← hl]
    clear hu hv hl
    go_enter Tryd.func41, Tryd.ntmps41
    go_wp2_with fail
    go_loopw [5] (fun j wr => ∃ k : Nat, k ≤ ps.length ∧ j = .int .i64 k ∧ Hid (bsOf (ps.take k) = bsOf (qs.take k)) ∧ Below w.heap.size w wr) (fun j _ => ps.length - (intOf j).toNat)
    case atStart => exact ⟨0, Nat.zero_le _, rfl, by show _ = _; simp, Below.refl _ _⟩
    case round =>
      obtain ⟨k, hk, rfl, hst, hbw⟩ := hrel
      by_cases hlt : k < ps.length
      · have hlt2 : k < qs.length := by have := hF.out; omega
        obtain ⟨ab, ao, rfl, hca⟩ : ∃ ab ao, sa = some ⟨ab, ao, none⟩ ∧ ∀ j (h : j < ps.length), w.cell? ⟨ab, ao + j, none⟩ = some (.slice (ps[j]).sa (ps[j]).bs.length (ps[j]).cap) := by
          rcases ha.parts.cells with h | h
          · subst h; simp at hlt
          · exact h
        obtain ⟨bb, bo, rfl, hcb⟩ : ∃ bb bo, sb = some ⟨bb, bo, none⟩ ∧ ∀ j (h : j < qs.length), w.cell? ⟨bb, bo + j, none⟩ = some (.slice (qs[j]).sa (qs[j]).bs.length (qs[j]).cap) := by
          rcases hb.parts.cells with h | h
          · subst h; simp at hlt2
          · exact h
        have ka := (hbw.cell (p := ⟨ab, ao + k, none⟩) (block_lt_of_cell (hca k hlt))).trans (hca k hlt)
        have kb := (hbw.cell (p := ⟨bb, bo + k, none⟩) (block_lt_of_cell (hcb k hlt2))).trans (hcb k hlt2)
        have hpa := (ha.parts.each ps[k] (List.getElem_mem hlt)).below hbw
        have hpb := (hb.parts.each qs[k] (List.getElem_mem hlt2)).below hbw
        have hua := HU.out ps[k] (List.getElem_mem hlt)
        have hub := HV.out qs[k] (List.getElem_mem hlt2)
        have hltI : (k : Int) < ps.length := by omega
        have h0 : (0 : Int) ≤ k := by omega
        clear hca hcb
        have hsx : Hid (bsOf (ps.take (k + 1)) = bsOf (ps.take k) ++ [(ps[k]).bs]) := by show _ = _; rw [bsOf, List.take_succ_eq_append_getElem hlt, List.map_append]; rfl
        have hsy : Hid (bsOf (qs.take (k + 1)) = bsOf (qs.take k) ++ [(qs[k]).bs]) := by show _ = _; rw [bsOf, List.take_succ_eq_append_getElem hlt2, List.map_append]; rfl
        generalize ps[k] = p at *
        generalize qs[k] = q at *
        have hS : ∀ wx, Below wr.heap.size wr wx → Calls Tryd.prog 12 #[.slice p.sa p.bs.length p.cap, .slice q.sa q.bs.length q.cap] wx fun e w' => e = .returned (.bool (decide (p.bs = q.bs))) ∧ wx = w' := fun wx hbx => same_any p.bs q.bs p.sa q.sa _ _ p.cap q.cap wx rfl rfl (hpa.below hbx) (hpb.below hbx) hua hub
        have HS : Hid _ := hS
        clear hS hua hub
        by_cases he : p.bs = q.bs
        · have hxy : Hid (p.bs = q.bs) := he
          rw [decide_eq_true he] at HS
          clear he
          go_wp2_with fail
          go_region_held3 (fun w' => w'.cell? ⟨ab, ao + k, none⟩ = some (.slice p.sa p.bs.length p.cap) ∧ w'.cell? ⟨bb, bo + k, none⟩ = some (.slice q.sa q.bs.length q.cap)) (go_keep) ((go_at_call 12; refine (HS.out _ ?_).mono ?_; exact (Below.refl _ _).drew; rintro e w8 ⟨rfl, rfl⟩))
          all_goals
            go_wp2_with fail
            go_roundw
            case rel =>
              have hR : ∃ k' : Nat, k' ≤ ps.length ∧ (Value.int .i64 ((k : Int) + 1)) = .int .i64 k' ∧ Hid (bsOf (ps.take k') = bsOf (qs.take k')) ∧ Below w.heap.size w wr.drew := ⟨k + 1, by omega, by go_num, by show _ = _; rw [hsx.out, hsy.out, hst.out, hxy.out], hbw.drew⟩
              first | exact hR | ((repeat apply Exists.intro); exact ⟨hR, rfl⟩)
            case measure => simp [intOf]; omega
        · have hxy : Hid (¬ p.bs = q.bs) := he
          rw [decide_eq_false he] at HS
          clear he
          go_wp2_with fail
          go_region_held3 (fun w' => w'.cell? ⟨ab, ao + k, none⟩ = some (.slice p.sa p.bs.length p.cap) ∧ w'.cell? ⟨bb, bo + k, none⟩ = some (.slice q.sa q.bs.length q.cap)) (go_keep) ((go_at_call 12; refine (HS.out _ ?_).mono ?_; exact (Below.refl _ _).drew; rintro e w8 ⟨rfl, rfl⟩))
          all_goals
            go_wp2_with fail
            go_ret
            refine ⟨ret_bool (decide_eq_false fun e => hxy.out ?_).symm, hbw.drew⟩
            have h1 := hsx.out
            have h2 := hsy.out
            have h3 : bsOf (ps.take (k + 1)) = bsOf (qs.take (k + 1)) := by
              have e' : (bsOf ps).take (k + 1) = (bsOf qs).take (k + 1) := by rw [e]
              simpa [bsOf, List.map_take] using e'
            rw [h1, h2, hst.out] at h3
            have h4 := List.append_cancel_left h3
            simpa using h4
      · obtain rfl : k = ps.length := by omega
        have hltI : ¬ (ps.length : Int) < ps.length := by omega
        have heq : Hid (bsOf ps = bsOf qs) := by
          have h1 := hst.out
          rw [List.take_of_length_le (Nat.le_refl _), List.take_of_length_le (by have := hF.out; omega)] at h1
          exact h1
        go_wp2_with fail
        go_ret
        exact ⟨ret_bool (decide_eq_true heq.out).symm, hbw⟩
  · have hlI : ¬ (ps.length : Int) = qs.length := by omega
    have hF : Hid (¬ bsOf ps = bsOf qs) := fun e => hl (by have := congrArg List.length e; simpa [bsOf] using this)
    have hlb : ((ps.length : Int) == (qs.length : Int)) = false := beq_eq_false_iff_ne.2 hlI
    clear hu hv
    go_enter Tryd.func41, Tryd.ntmps41
    go_wp2_with fail
    go_ret
    exact ⟨ret_bool (decide_eq_false hF.out).symm, Below.refl _ _⟩
/-- The lists of a header, read in some world. -/
structure HeadAt (w : World) (ba : Option Addr) (bn bc : Nat) (bl : List Part) (pa : Option Addr) (pn pc : Nat) (pl : List Part) : Prop where
  eb : bn = bl.length
  ep : pn = pl.length
  b3 : bn ≤ 1000
  p4 : pn ≤ 1000
  bat : ListAt w ba bc bl
  par : ListAt w pa pc pl
  bu : ∀ p ∈ bl, ∀ x ∈ p.bs, 0 ≤ x ∧ x ≤ 255
  pu : ∀ p ∈ pl, ∀ x ∈ p.bs, 0 ≤ x ∧ x ≤ 255
set_option maxRecDepth 100000 in
theorem HeadAt.below {w w' : World} {ba : Option Addr} {bn bc : Nat} {bl : List Part} {pa : Option Addr} {pn pc : Nat} {pl : List Part} (h : HeadAt w ba bn bc bl pa pn pc pl) (hb : Below w.heap.size w w') : HeadAt w' ba bn bc bl pa pn pc pl := ⟨h.eb, h.ep, h.b3, h.p4, h.bat.below hb, h.par.below hb, h.bu, h.pu⟩
set_option maxRecDepth 100000 in
set_option maxHeartbeats 1000000 in
theorem sameHeader_any (au rd au' rd' : Int) (ba : Option Addr) (bn bc : Nat) (bl : List Part) (pa : Option Addr) (pn pc : Nat) (pl : List Part) (ba' : Option Addr) (bn' bc' : Nat) (bl' : List Part) (pa' : Option Addr) (pn' pc' : Nat) (pl' : List Part) (w : World) (ha : HeadAt w ba bn bc bl pa pn pc pl) (hb : HeadAt w ba' bn' bc' bl' pa' pn' pc' pl') :
    Calls Tryd.prog 25 #[.agg #[.int .i64 au, .int .i64 rd, .slice ba bn bc, .slice pa pn pc], .agg #[.int .i64 au', .int .i64 rd', .slice ba' bn' bc', .slice pa' pn' pc']] w fun e w' => e = .returned (.bool (decide (au = au' ∧ rd = rd' ∧ bsOf bl = bsOf bl' ∧ bsOf pl = bsOf pl'))) ∧ Below w.heap.size w w' := by
  have hA : Below w.heap.size w ((w.alloc (.cells #[.int .i64 au, .int .i64 rd, .slice ba bn bc, .slice pa pn pc] 31)).alloc (.cells #[.int .i64 au', .int .i64 rd', .slice ba' bn' bc', .slice pa' pn' pc'] 31)) := ((Below.refl _ _).alloc (Nat.le_refl _) _).alloc (by simp) _
  have hB : ∀ wx, Below w.heap.size w wx → Calls Tryd.prog 41 #[.slice ba bn bc, .slice ba' bn' bc'] wx fun e w' => e = .returned (.bool (decide (bsOf bl = bsOf bl'))) ∧ Below wx.heap.size wx w' := fun wx h => sameLists_any bl bl' ba ba' bn bn' bc bc' wx ha.eb hb.eb ha.b3 hb.b3 (ha.bat.below h) (hb.bat.below h) ha.bu hb.bu
  have hP : ∀ wx, Below w.heap.size w wx → Calls Tryd.prog 41 #[.slice pa pn pc, .slice pa' pn' pc'] wx fun e w' => e = .returned (.bool (decide (bsOf pl = bsOf pl'))) ∧ Below wx.heap.size wx w' := fun wx h => sameLists_any pl pl' pa pa' pn pn' pc pc' wx ha.ep hb.ep ha.p4 hb.p4 (ha.par.below h) (hb.par.below h) ha.pu hb.pu
  have HB : Hid _ := hB
  have HP : Hid _ := hP
  clear hB hP ha hb
  have hF : Hid (decide (au = au' ∧ rd = rd' ∧ bsOf bl = bsOf bl' ∧ bsOf pl = bsOf pl') = (decide (au = au' ∧ rd = rd') && decide (bsOf bl = bsOf bl') && decide (bsOf pl = bsOf pl'))) := by
    show _ = _
    by_cases h1 : au = au' <;> by_cases h2 : rd = rd' <;> by_cases h3 : bsOf bl = bsOf bl' <;> simp [h1, h2, h3]
  generalize decide (bsOf bl = bsOf bl') = x at *
  generalize decide (bsOf pl = bsOf pl') = y at *
  generalize decide (au = au' ∧ rd = rd' ∧ bsOf bl = bsOf bl' ∧ bsOf pl = bsOf pl') = z at *
  by_cases h1 : au = au'
  · subst h1
    by_cases h2 : rd = rd'
    · subst h2
      have hz : Hid (z = (x && y)) := by have := hF.out; show _ = _; simpa using this
      clear hF
      cases x
      · go_enter Tryd.func25, Tryd.ntmps25
        go_wp2_with fail
        refine (HB.out _ hA).mono ?_
        rintro e w1 ⟨rfl, hb1⟩
        go_wp2_with fail
        go_ret
        exact ⟨ret_bool (by rw [hz.out]; rfl), below_alloc (below_alloc hb1)⟩
      · go_enter Tryd.func25, Tryd.ntmps25
        go_wp2_with fail
        refine (HB.out _ hA).mono ?_
        rintro e w1 ⟨rfl, hb1⟩
        have r1 := row_new hb1
        have r0 := row_new (below_alloc hb1)
        rw [size_alloc] at r1
        replace hb1 := below_alloc (below_alloc hb1)
        have c3 : w1.cell? ⟨w.heap.size, 3, none⟩ = some (.slice pa pn pc) := cells_at r0 3 _ rfl
        have d3 : w1.cell? ⟨w.heap.size + 1, 3, none⟩ = some (.slice pa' pn' pc') := cells_at r1 3 _ rfl
        go_wp2_with fail
        refine (HP.out _ hb1).mono ?_
        rintro e w2 ⟨rfl, hb2⟩
        go_wp2_with fail
        go_ret
        exact ⟨ret_bool (by rw [hz.out]; simp), hb1.trans (hb2.mono hb1.size)⟩
    · have hz : Hid (z = false) := by have := hF.out; show _ = _; simpa [h2] using this
      clear hF
      have h2b : (rd == rd') = false := by simpa using h2
      go_enter Tryd.func25, Tryd.ntmps25
      go_wp2_with fail
      go_ret
      exact ⟨ret_bool hz.out.symm, hA⟩
  · have hz : Hid (z = false) := by have := hF.out; show _ = _; simpa [h1] using this
    clear hF
    have h1b : (au == au') = false := by simpa using h1
    go_enter Tryd.func25, Tryd.ntmps25
    go_wp2_with fail
    go_ret
    exact ⟨ret_bool hz.out.symm, hA⟩
end Go.Proofs.YtlpaghkofljnfaaDoor

namespace Go.Proofs.YtlpaghkofljnfaaDoor
open Go.RowKit

set_option maxRecDepth 100000 in
set_option maxHeartbeats 400000 in
theorem same_eq (bs : List Int) (sa sb : Option Addr) (n m c d : Nat) (w : World) (hn : n = bs.length) (hm : m = bs.length) (ha : SliceAt w sa c bs) (hb : SliceAt w sb d bs) :
    Calls Tryd.prog 12 #[.slice sa n c, .slice sb m d] w fun e w' => e = .returned (.bool true) ∧ w = w' := by
  have h1 := run_text w sa n c bs hn ha
  have h2 := run_text w sb m d bs hm hb
  clear hn hm ha hb
  go_enter Tryd.func12, Tryd.ntmps12
  go_wp2_with fail
  go_ret
  exact ⟨by simp, rfl⟩
end Go.Proofs.YtlpaghkofljnfaaDoor

namespace Go.Proofs.YtlpaghkofljnfaaDoor
open Go.RowKit

set_option maxRecDepth 100000 in
set_option maxHeartbeats 1000000 in
theorem sameSlotK_eq (au rd : Int) (bs : List Int) (sa sb : Option Addr) (n m c d : Nat) (w : World) (hn : n = bs.length) (hm : m = bs.length) (ha : SliceAt w sa c bs) (hb : SliceAt w sb d bs) :
    Calls Tryd.prog 14 #[.agg #[.int .i64 au, .int .i64 rd, .slice sa n c], .agg #[.int .i64 au, .int .i64 rd, .slice sb m d]] w fun e w' => e = .returned (.bool true) ∧ Below w.heap.size w w' := by
  have hA : Below w.heap.size w ((w.alloc (.cells #[.int .i64 au, .int .i64 rd, .slice sa n c] 39)).alloc (.cells #[.int .i64 au, .int .i64 rd, .slice sb m d] 39)) := ((Below.refl _ _).alloc (Nat.le_refl _) _).alloc (by simp) _
  have h := same_eq bs sa sb n m c d _ hn hm (ha.below hA) (hb.below hA)
  clear hn hm ha hb
  go_enter Tryd.func14, Tryd.ntmps14
  go_wp2_with fail
  refine h.mono ?_
  rintro e w1 ⟨rfl, rfl⟩
  dsimp only
  go_wp2_with fail
  go_ret
  exact ⟨rfl, hA⟩
end Go.Proofs.YtlpaghkofljnfaaDoor

namespace Go.Proofs.YtlpaghkofljnfaaDoor
open Go.RowKit

set_option maxRecDepth 100000 in
theorem pre_at {ls ks : List Sl} {e : List SV} (h : vs ks = vs ls ++ e) : ∀ k (h : k < ls.length), ∃ h2 : k < ks.length, (ks[k]).v = (ls[k]).v := by
  intro k hk
  have hl : ks.length = ls.length + e.length := by have := congrArg List.length h; rw [List.length_append, vs_length, vs_length] at this; exact this
  have hk2 : k < ks.length := by omega
  refine ⟨hk2, ?_⟩
  rw [← svAt_get ks k hk2, ← svAt_get ls k hk, h, svAt, svAt, List.getD_eq_getElem?_getD, List.getD_eq_getElem?_getD, List.getElem?_append_left (by rw [vs_length]; exact hk)]
set_option maxRecDepth 100000 in
set_option maxHeartbeats 8000000 in
theorem castOnce_or (rs : List Rw) (sa : Option Addr) (n cap : Nat) (r : Rw) (nn : Int) (w : World) (hn : n = rs.length) (hr : RawsAt w sa rs) (h : I64 r.a ∧ I64 r.b ∧ I64 r.c) (hnn : I64 nn) (hT : Tabs w) :
    Calls Tryd.prog 4 #[.slice sa n cap, .agg #[.int .i64 r.ki, .int .i64 r.a, .int .i64 r.b, .int .i64 r.c, .slice r.sa r.n r.cap], .int .i64 nn] w fun e w' => ∃ b : Bool, e = .returned (.bool b) ∧ Below w.heap.size w w' ∧ (b = false → rDig r = oDig r nn) := by
  subst hn
  have HT : Hid (∀ W : World, Below w.heap.size w W → Tabs W) := by
    show ∀ W, _
    exact fun W hW => hT.below hW
  clear hT
  have hA0 := (Below.refl w.heap.size w).alloc (Nat.le_refl _) (.cells #[.int .i64 r.ki, .int .i64 r.a, .int .i64 r.b, .int .i64 r.c, .slice r.sa r.n r.cap] 25)
  have qR := heap_alloc_new w (.cells #[.int .i64 r.ki, .int .i64 r.a, .int .i64 r.b, .int .i64 r.c, .slice r.sa r.n r.cap] 25)
  go_enter Tryd.func4, Tryd.ntmps4
  go_wp2_with fail
  generalize w.alloc (.cells #[.int .i64 r.ki, .int .i64 r.a, .int .i64 r.b, .int .i64 r.c, .slice r.sa r.n r.cap] 25) = W0 at hA0 qR ⊢
  refine (table_any rs sa _ cap W0 rfl (hr.below hA0) (HT.out W0 hA0)).mono ?_
  rintro e w1 ⟨ta, tc, ls, he, hvl, hTt, hb1⟩
  subst he
  dsimp only
  have hB := hA0.trans (hb1.mono hA0.size)
  replace qR := (hb1.block _ (lt_of_heap qR)).trans qR
  have HVL : Hid _ := hvl
  obtain ⟨hF, hL30⟩ := tabR_ok rs
  have hl30 : ls.length ≤ 30 := by rw [← vs_length, hvl]; exact hL30
  have HF : Hid (tabF (vs ls) = 0) := by show _ = _; rw [hvl]; exact hF
  have HSP : Hid _ := cast_split (slotR r) (l := vs ls) HF.out (by rw [vs_length]; exact hl30) (slotR_ok r)
  clear hvl hF hL30
  have c0 := cells_at qR 0 _ rfl
  have c1 := cells_at qR 1 _ rfl
  have c2 := cells_at qR 2 _ rfl
  have c3 := cells_at qR 3 _ rfl
  have c4 := cells_at qR 4 _ rfl
  go_wp2_with fail
  refine (header_hat r w1 h).mono ?_
  rintro e w2 ⟨ba, bc, bl, pa, pc, pl, he, hH, hBL, hPL, hb2, -, hfp⟩
  subst he
  dsimp only
  clear c0 c1 c2 c3 c4 qR
  have HBL : Hid _ := hBL
  have HPL : Hid _ := hPL
  have HHF : Hid (headerF (pk r.a 4) (1 + pk r.b 9) bl pl = 0) := headerF_raw r.a r.b r.c bl pl hBL hPL
  have HDD : Hid (hDig (pk r.a 4) (1 + pk r.b 9) bl pl = rDig r) := hDig_raw r bl pl hBL hPL
  clear hBL hPL
  replace hB := hB.trans (hb2.mono hB.size)
  replace hTt := hTt.below hb2
  have hLp := hH.lp
  have hA2 := (Below.refl w2.heap.size w2).alloc (Nat.le_refl _) (.cells #[.int .i64 (pk r.a 4), .int .i64 (1 + pk r.b 9), .slice ba bl.length bc, .slice pa pl.length pc] 31)
  have qH := heap_alloc_new w2 (.cells #[.int .i64 (pk r.a 4), .int .i64 (1 + pk r.b 9), .slice ba bl.length bc, .slice pa pl.length pc] 31)
  replace hB := hB.trans (hA2.mono hB.size)
  replace hTt := hTt.below hA2
  replace hH := hH.below hA2
  replace hLp := hLp.below hA2
  have q_c0 := cells_at qH 0 _ rfl
  have q_c1 := cells_at qH 1 _ rfl
  have q_c2 := cells_at qH 2 _ rfl
  have q_c3 := cells_at qH 3 _ rfl
  go_wp2_with fail
  generalize hHB : w2.heap.size = HB at qH q_c0 q_c1 q_c2 q_c3 ⊢
  generalize w2.alloc (.cells #[.int .i64 (pk r.a 4), .int .i64 (1 + pk r.b 9), .slice ba bl.length bc, .slice pa pl.length pc] 31) = W2 at hA2 qH q_c0 q_c1 q_c2 q_c3 hB hTt hH hLp ⊢
  clear hHB
  clear q_c0 q_c1 q_c2 q_c3
  refine (headerDigest_hat hH HHF.out (HT.out W2 hB)).mono ?_
  rintro e w3 ⟨b, he, -, hb3, hsd⟩
  subst he
  dsimp only
  rw [HDD.out] at hsd
  replace hB := hB.trans (hb3.mono hB.size)
  replace hTt := hTt.below hb3
  replace hH := hH.below hb3
  replace hLp := hLp.below hb3
  replace qH := (hb3.block _ (lt_of_heap qH)).trans qH
  have q_c0 := cells_at qH 0 _ rfl
  have q_c1 := cells_at qH 1 _ rfl
  go_wp2_with fail
  refine (voted_any ls ta _ tc (pk r.a 4) (1 + pk r.b 9) w3 rfl hTt).mono ?_
  rintro e w4 ⟨wa, wc, wb, F, he, hVo, hsw, -, hb4⟩
  subst he
  dsimp only
  clear q_c0 q_c1
  have HVO : Hid _ := hVo
  clear hVo
  replace hB := hB.trans (hb4.mono hB.size)
  replace hTt := hTt.below hb4
  replace hH := hH.below hb4
  replace hLp := hLp.below hb4
  replace hsd := hsd.below hb4
  replace qH := (hb4.block _ (lt_of_heap qH)).trans qH
  have q_c0 := cells_at qH 0 _ rfl
  have q_c1 := cells_at qH 1 _ rfl
  have q_c2 := cells_at qH 2 _ rfl
  have q_c3 := cells_at qH 3 _ rfl
  have HC1 := cast_any ls ta tc (pk r.a 4) (1 + pk r.b 9) ba bc bl pa pc pl w4 hTt hH (HT.out w4 hB)
  rw [castAll_raw r bl pl HF.out HBL.out HPL.out] at HC1
  go_wp2_with fail
  refine HC1.mono ?_
  intro e w5 h5
  obtain ⟨ua, uc, ks, da, dc, xa, xr, ds, G, he, hR, hTu, hss, -, hdf, hb5⟩ := h5.out
  subst he
  dsimp only
  clear HC1 h5 q_c0 q_c1 q_c2 q_c3
  have HR : Hid _ := hR
  clear hR
  replace hB := hB.trans (hb5.mono hB.size)
  replace hTt := hTt.below hb5
  replace hH := hH.below hb5
  replace hLp := hLp.below hb5
  replace hsd := hsd.below hb5
  replace hsw := hsw.below hb5
  replace qH := (hb5.block _ (lt_of_heap qH)).trans qH
  have hA5 := (Below.refl w5.heap.size w5).alloc (Nat.le_refl _) (.cells #[.int .i64 xa, .int .i64 xr, .slice da ds.length dc] 39)
  have qS := heap_alloc_new w5 (.cells #[.int .i64 xa, .int .i64 xr, .slice da ds.length dc] 39)
  replace hB := hB.trans (hA5.mono hB.size)
  replace hTt := hTt.below hA5
  replace hTu := hTu.below hA5
  replace hH := hH.below hA5
  replace hLp := hLp.below hA5
  replace hsd := hsd.below hA5
  replace hsw := hsw.below hA5
  replace hss := hss.below hA5
  replace qH := (hA5.block _ (lt_of_heap qH)).trans qH
  go_wp2_with fail
  generalize hSB : w5.heap.size = SB at qS ⊢
  generalize w5.alloc (.cells #[.int .i64 xa, .int .i64 xr, .slice da ds.length dc] 39) = W5 at hA5 qS hB hTt hTu hH hLp hsd hsw hss qH ⊢
  clear hSB
  refine (checkTab_any ls ta _ tc W5 rfl hTt).mono ?_
  rintro e w7 ⟨he, hb7⟩
  rw [HF.out] at he
  subst he
  dsimp only
  replace hB := hB.trans (hb7.mono hB.size)
  replace hTt := hTt.below hb7
  replace hTu := hTu.below hb7
  replace hH := hH.below hb7
  replace hLp := hLp.below hb7
  replace hsd := hsd.below hb7
  replace hsw := hsw.below hb7
  replace hss := hss.below hb7
  replace qH := (hb7.block _ (lt_of_heap qH)).trans qH
  replace qS := (hb7.block _ (lt_of_heap qS)).trans qS
  have hSlt0 : SB < w7.heap.size := lt_of_heap qS
  rcases HSP.out with ⟨hcf, hvo⟩ | ⟨u, hcf, hCU⟩
  · have hR := HR.out
    rw [hcf, if_pos (by decide)] at hR
    simp only [Prod.mk.injEq] at hR
    obtain ⟨hk0, -, hG⟩ := hR
    obtain ⟨hz, hne⟩ := hvo _ _ HVO.out
    have hkl : ks.length = 0 := by rw [← vs_length, hk0]; rfl
    subst hz hG
    rw [hkl]
    have HSM := same_any2 wb (rDig r) wa (some ⟨b, 0, none⟩) _ 32 wc 32 w7 rfl (rDig_length r).symm hsw hsd
    have hne' : ¬ txL wb = txL (rDig r) := hne
    rw [decide_eq_false hne'] at HSM
    clear hne'
    clear hk0 hkl hvo hcf hne
    go_wp2_with fail
    refine HSM.mono ?_
    rintro e wq ⟨he, hwq⟩
    subst he hwq
    dsimp only
    go_wp2_with fail
    go_ret
    exact ⟨true, rfl, hB, fun h => by cases h⟩
  · have CU : Hid _ := hCU
    have hR := HR.out
    rw [hcf, if_neg (by simp)] at hR
    simp only [Prod.mk.injEq] at hR
    obtain ⟨hvk, hxx, hG⟩ := hR
    subst hG
    have hkk : ks.length = u.length := by rw [← vs_length, hvk]
    obtain ⟨hxa, hxr, hds⟩ : xa = pk r.a 4 ∧ xr = 1 + pk r.b 9 ∧ ds = rDig r := by
      have := hxx; simp only [slotR, Prod.mk.injEq] at this; exact this
    subst hxa hxr hds
    have hwas := CU.out.was
    rw [vs_length, ← hkk] at hwas
    have HVK : Hid _ := hvk
    clear hvk hxx hcf hCU hkk
    rcases hwas with ⟨hkn, hww⟩ | ⟨hkn, hww⟩
    · obtain ⟨hz, hwd⟩ := hww _ _ HVO.out
      subst hz
      have HSM := same_any2 wb (rDig r) wa (some ⟨b, 0, none⟩) _ 32 wc 32 w7 rfl (rDig_length r).symm hsw hsd
      have hwd' : txL wb = txL (rDig r) := hwd
      rw [decide_eq_true hwd'] at HSM
      clear hww hwd hwd' HVO
      rw [hkn]
      have HKN : Hid _ := hkn
      clear hkn
      go_wp2_with fail
      refine HSM.mono ?_
      rintro e wq ⟨he, hwq⟩
      subst he hwq
      dsimp only
      clear HSM
      have HC2 := cast_any ks ua uc (pk r.a 4) (1 + pk r.b 9) ba bc bl pa pc pl w7 hTu hH (HT.out w7 hB)
      rw [HVK.out, castAll_raw r bl pl CU.out.ok HBL.out HPL.out, CU.out.again, if_neg (by simp), HKN.out] at HC2
      have q_c0 := cells_at qH 0 _ rfl
      have q_c1 := cells_at qH 1 _ rfl
      have q_c2 := cells_at qH 2 _ rfl
      have q_c3 := cells_at qH 3 _ rfl
      go_wp2_with fail
      refine HC2.mono ?_
      intro e w8 h8
      obtain ⟨va, vc, ms, da2, dc2, xa2, xr2, ds2, er2, he, hR2, -, -, -, -, hb8⟩ := h8.out
      simp only [Prod.mk.injEq] at hR2
      obtain ⟨hvm, -, her2⟩ := hR2
      subst her2
      subst he
      dsimp only
      have hml : ms.length = ks.length := by rw [← vs_length, hvm, ← HVK.out, vs_length]
      rw [hml, HKN.out]
      clear HC2 h8 hvm hml q_c0 q_c1 q_c2 q_c3
      have hA8 := (Below.refl w8.heap.size w8).alloc (Nat.le_refl _) (.cells #[.int .i64 xa2, .int .i64 xr2, .slice da2 ds2.length dc2] 39)
      have hb8A := hb8.trans (hA8.mono hb8.size)
      replace hB := hB.trans (hb8A.mono hB.size)
      replace qH := (hb8A.block _ (lt_of_heap qH)).trans qH
      replace qS := (hb8A.block _ (lt_of_heap qS)).trans qS
      replace hH := hH.below hb8A
      replace hTt := hTt.below hb8A
      replace hTu := hTu.below hb8A
      replace hsd := hsd.below hb8A
      replace hss := hss.below hb8A
      replace hLp := hLp.below hb8A
      have q_c0 := cells_at qH 0 _ rfl
      have q_c1 := cells_at qH 1 _ rfl
      go_wp2_with fail
      generalize w8.alloc (.cells #[.int .i64 xa2, .int .i64 xr2, .slice da2 ds2.length dc2] 39) = W8 at hA8 hb8A hB qH qS hH hTt hTu hsd hss hLp q_c0 q_c1 ⊢
      clear q_c0 q_c1
      refine (voted_any ks ua _ uc (pk r.a 4) (1 + pk r.b 9) W8 HKN.out.symm hTu).mono ?_
      rintro e w9 ⟨na, nc, nb, er3, he, hVn, hsn, -, hb9⟩
      rw [HVK.out] at hVn
      obtain ⟨hz, hnd⟩ := CU.out.now _ _ hVn
      subst hz
      subst he
      dsimp only
      have HND : Hid (txL nb = txL (rDig r)) := hnd
      clear hVn hnd
      replace hB := hB.trans (hb9.mono hB.size)
      replace qH := (hb9.block _ (lt_of_heap qH)).trans qH
      replace qS := (hb9.block _ (lt_of_heap qS)).trans qS
      replace hH := hH.below hb9
      replace hTt := hTt.below hb9
      replace hTu := hTu.below hb9
      replace hsd := hsd.below hb9
      replace hss := hss.below hb9
      replace hLp := hLp.below hb9
      have q_c0 := cells_at qH 0 _ rfl
      have q_c1 := cells_at qH 1 _ rfl
      have q_c2 := cells_at qH 2 _ rfl
      have q_c3 := cells_at qH 3 _ rfl
      have hA9 := (Below.refl w9.heap.size w9).alloc (Nat.le_refl _) (.cells #[.int .i64 (pk r.a 4), .int .i64 (1 + pk r.b 9), .slice ba bl.length bc, .slice pa pl.length pc] 31)
      have qO := heap_alloc_new w9 (.cells #[.int .i64 (pk r.a 4), .int .i64 (1 + pk r.b 9), .slice ba bl.length bc, .slice pa pl.length pc] 31)
      have hBk9 := hB
      have hHk9 := hH
      clear hH
      go_wp2_with fail
      clear q_c0 q_c1 q_c2 q_c3
      have hOB : w9.heap.size = w9.heap.size := rfl
      generalize hOB' : w9.heap.size = OB at qO ⊢
      generalize w9.alloc (.cells #[.int .i64 (pk r.a 4), .int .i64 (1 + pk r.b 9), .slice ba bl.length bc, .slice pa pl.length pc] 31) = W9 at hA9 qO ⊢
      clear hOB
      refine (some_any nn 200 W9 hnn).mono ?_
      rintro e w10 ⟨he, hoN, hb10⟩
      subst he
      dsimp only
      have hOlt : OB < W9.heap.size := lt_of_heap qO
      have hsN := (sliceAt_of_owns hoN).2
      generalize hNB : W9.heap.size = NB at hoN hsN ⊢
      have hNO : OB < NB := by omega
      replace qO := (hb10.block _ (lt_of_heap qO)).trans qO
      have hA9' := hA9.trans (hb10.mono hA9.size)
      have HO := oth_at (nn := nn) (hOB' ▸ Nat.le_refl _) hNO hA9' hHk9 qO hsN
      have o_c0 := cells_at HO.box 0 _ rfl
      have o_c1 := cells_at HO.box 1 _ rfl
      have o_c2 := cells_at HO.box 2 _ rfl
      have o_c3 := cells_at HO.box 3 _ rfl
      have o_z := cells_at qO 2 _ rfl
      have o_f := frozen_at qO 2
      have hOl : OB < w10.heap.size := lt_of_heap qO
      clear hBk9 hHk9 hsN hoN hA9 hb10 hOlt hNO
      go_wp2_with fail
      generalize w10.heap.size = SZ at HO o_c0 o_c1 o_c2 o_c3 hOl ⊢
      generalize (w10.setCell ⟨OB, 2, none⟩ (.slice (some ⟨SZ, 0, none⟩) 1 1)).alloc (.cells #[.slice (some ⟨NB, 0, none⟩) 32 32] 33) = X at HO o_c0 o_c1 o_c2 o_c3 ⊢
      clear o_c0 o_c1 o_c2 o_c3 o_z o_f hOl qO
      have hX := HO.keep
      replace hB := hB.trans (hX.mono hB.size)
      replace qH := (hX.block _ (lt_of_heap qH)).trans qH
      replace qS := (hX.block _ (lt_of_heap qS)).trans qS
      replace hTt := hTt.below hX
      replace hTu := hTu.below hX
      replace hsd := hsd.below hX
      replace hss := hss.below hX
      replace hsn := hsn.below hX
      have HC3 := cast_any ks ua uc (pk r.a 4) (1 + pk r.b 9) (some ⟨SZ, 0, none⟩) 1 (oBl NB nn) pa pc pl X hTu HO.hat (HT.out X hB)
      rw [HVK.out, castAll_oth r NB nn bl pl CU.out HHF.out HPL.out, HKN.out] at HC3
      refine HC3.mono ?_
      intro e w11 h11
      obtain ⟨xaa, xcc, ms3, da3, dc3, xa3, xr3, ds3, er4, he, hR3, -, -, -, -, hb11⟩ := h11.out
      subst he
      dsimp only
      clear HC3 h11
      have hA11 := (Below.refl w11.heap.size w11).alloc (Nat.le_refl _) (.cells #[.int .i64 xa3, .int .i64 xr3, .slice da3 ds3.length dc3] 39)
      have hb11A := hb11.trans (hA11.mono hb11.size)
      replace hB := hB.trans (hb11A.mono hB.size)
      replace qH := (hb11A.block _ (lt_of_heap qH)).trans qH
      replace qS := (hb11A.block _ (lt_of_heap qS)).trans qS
      replace hTt := hTt.below hb11A
      replace hTu := hTu.below hb11A
      replace hsd := hsd.below hb11A
      replace hss := hss.below hb11A
      replace hsn := hsn.below hb11A
      have HR3 : Hid _ := hR3
      clear hR3
      by_cases hE : txL (rDig r) = txL (oDig r nn)
      · have hR3 := HR3.out
        rw [if_pos hE] at hR3
        simp only [Prod.mk.injEq] at hR3
        obtain ⟨-, -, hz⟩ := hR3
        subst hz
        have HD : Hid (rDig r = oDig r nn) := dig_one hE
        clear hE HR3
        go_wp2_with fail
        go_ret
        exact ⟨false, rfl, hB, fun _ => HD.out⟩
      · have hR3 := HR3.out
        rw [if_neg hE] at hR3
        simp only [Prod.mk.injEq] at hR3
        obtain ⟨-, -, hz⟩ := hR3
        subst hz
        clear hE HR3
        have s_c1 := cells_at qS 1 _ rfl
        have s_c2 := cells_at qS 2 _ rfl
        have h_c1 := cells_at qH 1 _ rfl
        have HS1 := same_any2 nb (rDig r) na (some ⟨b, 0, none⟩) _ 32 nc 32 _ rfl (rDig_length r).symm hsn hsd
        rw [decide_eq_true HND.out] at HS1
        have HS2 := same_any2 (rDig r) (rDig r) da (some ⟨b, 0, none⟩) _ 32 dc 32 _ rfl (rDig_length r).symm hss hsd
        rw [decide_eq_true rfl] at HS2
        go_wp2_with fail
        generalize w11.alloc (.cells #[.int .i64 xa3, .int .i64 xr3, .slice da3 ds3.length dc3] 39) = V at hA11 hb11A hB qH qS hTt hTu hsd hss hsn s_c1 s_c2 h_c1 HS1 HS2 ⊢
        refine HS1.mono ?_
        rintro e wq ⟨he, hwq⟩
        subst he hwq
        dsimp only
        clear HS1
        go_wp2_with fail
        refine HS2.mono ?_
        rintro e wq ⟨he, hwq⟩
        subst he hwq
        dsimp only
        clear HS2
        go_wp2_with fail
        clear s_c1 s_c2 h_c1 qH qS hsd hss hsn hsw
        have HP : Hid (∀ k (h : k < ls.length), ∃ h2 : k < ks.length, (ks[k]).v = (ls[k]).v) := by
          obtain ⟨e, he⟩ := CU.out.pre
          show ∀ k, _
          exact pre_at (HVK.out.trans he)
        clear CU HVK HSP HR HF HVL
        go_loopw [25] (fun i wr => ∃ k : Nat, k ≤ ls.length ∧ i = .int .i64 k ∧ Below V.heap.size V wr) (fun i _ => ls.length - (intOf i).toNat)
        case atStart => exact ⟨0, Nat.zero_le _, rfl, Below.refl _ _⟩
        case round =>
          obtain ⟨k, hk, rfl, hbw⟩ := hrel
          have hBw := hB.trans (hbw.mono hB.size)
          by_cases hlt : k < ls.length
          · obtain ⟨hlt2, hvk⟩ := HP.out k hlt
            have hpa := hTt.slots.below hbw
            have hpb := hTu.slots.below hbw
            obtain ⟨ab, ao, rfl, hca⟩ : ∃ sb so, ta = some ⟨sb, so, none⟩ ∧ ∀ j (h : j < ls.length), wr.cell? ⟨sb, so + j * 3, none⟩ = some (.int .i64 (ls[j]).au) ∧ wr.cell? ⟨sb, so + j * 3 + 1, none⟩ = some (.int .i64 (ls[j]).rd) ∧ wr.cell? ⟨sb, so + j * 3 + 2, none⟩ = some (.slice (ls[j]).p.sa (ls[j]).p.bs.length (ls[j]).p.cap) := by
              rcases hpa.cells with h | h
              · rw [h] at hlt; simp at hlt
              · exact h
            obtain ⟨bb, bo, rfl, hcb⟩ : ∃ sb' so, ua = some ⟨sb', so, none⟩ ∧ ∀ j (h : j < ks.length), wr.cell? ⟨sb', so + j * 3, none⟩ = some (.int .i64 (ks[j]).au) ∧ wr.cell? ⟨sb', so + j * 3 + 1, none⟩ = some (.int .i64 (ks[j]).rd) ∧ wr.cell? ⟨sb', so + j * 3 + 2, none⟩ = some (.slice (ks[j]).p.sa (ks[j]).p.bs.length (ks[j]).p.cap) := by
              rcases hpb.cells with h | h
              · rw [h] at hlt2; simp at hlt2
              · exact h
            obtain ⟨c0, c1, c2⟩ := hca k hlt
            obtain ⟨d0, d1, d2⟩ := hcb k hlt2
            have hx := hpa.each (ls[k]) (List.getElem_mem hlt)
            have hy := hpb.each (ks[k]) (List.getElem_mem hlt2)
            have hltI : (k : Int) < ls.length := by omega
            have hltJ : (k : Int) < ((ls.length + 1 : Nat) : Int) := by omega
            have hltK : (k : Int) < (ls.length : Int) + 1 := by omega
            clear hca hcb hpa hpb hTt hTu HP
            generalize ls[k] = s at c0 c1 c2 hx hvk
            generalize ks[k] = t at d0 d1 d2 hy hvk
            clear hlt2
            obtain ⟨au, rd, ⟨xa, xc, bs⟩⟩ := s
            obtain ⟨au', rd', ⟨ya, yc, bs'⟩⟩ := t
            simp only [Sl.v, Prod.mk.injEq] at hvk
            obtain ⟨rfl, rfl, rfl⟩ := hvk
            have hab : ab < wr.heap.size := block_lt_of_cell c0
            have hbb : bb < wr.heap.size := block_lt_of_cell d0
            dsimp only at c0 c1 c2 d0 d1 d2 hx hy
            have HS := sameSlotK_eq au' rd' bs' xa ya _ _ xc yc wr.drew rfl rfl (hx.below ((Below.refl _ _).drew)) (hy.below ((Below.refl _ _).drew))
            go_wp2_with fail
            go_region_held3 (fun w' => w'.cell? ⟨ab, ao + k * 3, none⟩ = some (.int .i64 au') ∧ w'.cell? ⟨ab, ao + k * 3 + 1, none⟩ = some (.int .i64 rd') ∧ w'.cell? ⟨ab, ao + k * 3 + 2, none⟩ = some (.slice xa bs'.length xc) ∧ w'.cell? ⟨bb, bo + k * 3, none⟩ = some (.int .i64 au') ∧ w'.cell? ⟨bb, bo + k * 3 + 1, none⟩ = some (.int .i64 rd') ∧ w'.cell? ⟨bb, bo + k * 3 + 2, none⟩ = some (.slice ya bs'.length yc)) (go_keep) ((go_at_call 14; refine HS.mono ?_; rintro e w2 ⟨rfl, hb2⟩; replace hb2 := below_drew hb2; have e0 := (hb2.cell (p := ⟨ab, ao + k * 3, none⟩) hab).trans c0; have e1 := (hb2.cell (p := ⟨ab, ao + k * 3 + 1, none⟩) hab).trans c1; have e2 := (hb2.cell (p := ⟨ab, ao + k * 3 + 2, none⟩) hab).trans c2; have g0 := (hb2.cell (p := ⟨bb, bo + k * 3, none⟩) hbb).trans d0; have g1 := (hb2.cell (p := ⟨bb, bo + k * 3 + 1, none⟩) hbb).trans d1; have g2 := (hb2.cell (p := ⟨bb, bo + k * 3 + 2, none⟩) hbb).trans d2))
            all_goals
              have hB2 := hbw.trans (hb2.mono hbw.size)
              go_wp2_with fail
              go_roundw
              case rel =>
                have hR : ∃ k' : Nat, k' ≤ ls.length ∧ (Value.int .i64 ((k : Int) + 1)) = .int .i64 k' ∧ Below V.heap.size V w2 := ⟨k + 1, by omega, by go_num, hB2⟩
                first | exact hR | ((repeat apply Exists.intro); exact ⟨hR, rfl⟩)
              case measure => simp [intOf]; omega
          · obtain rfl : k = ls.length := by omega
            go_wp2_with fail
            go_ret
            exact ⟨true, rfl, hBw, fun h => by cases h⟩
    · have hz := hww _ _ HVO.out
      subst hz
      clear hww HVO
      rw [hkn]
      have HKN : Hid _ := hkn
      clear hkn
      have HC2 := cast_any ks ua uc (pk r.a 4) (1 + pk r.b 9) ba bc bl pa pc pl w7 hTu hH (HT.out w7 hB)
      rw [HVK.out, castAll_raw r bl pl CU.out.ok HBL.out HPL.out, CU.out.again, if_neg (by simp), HKN.out] at HC2
      have q_c0 := cells_at qH 0 _ rfl
      have q_c1 := cells_at qH 1 _ rfl
      have q_c2 := cells_at qH 2 _ rfl
      have q_c3 := cells_at qH 3 _ rfl
      go_wp2_with fail
      refine HC2.mono ?_
      intro e w8 h8
      obtain ⟨va, vc, ms, da2, dc2, xa2, xr2, ds2, er2, he, hR2, -, -, -, -, hb8⟩ := h8.out
      simp only [Prod.mk.injEq] at hR2
      obtain ⟨hvm, -, her2⟩ := hR2
      subst her2
      subst he
      dsimp only
      have hml : ms.length = ks.length := by rw [← vs_length, hvm, ← HVK.out, vs_length]
      rw [hml, HKN.out]
      clear HC2 h8 hvm hml q_c0 q_c1 q_c2 q_c3
      have hA8 := (Below.refl w8.heap.size w8).alloc (Nat.le_refl _) (.cells #[.int .i64 xa2, .int .i64 xr2, .slice da2 ds2.length dc2] 39)
      have hb8A := hb8.trans (hA8.mono hb8.size)
      replace hB := hB.trans (hb8A.mono hB.size)
      replace qH := (hb8A.block _ (lt_of_heap qH)).trans qH
      replace qS := (hb8A.block _ (lt_of_heap qS)).trans qS
      replace hH := hH.below hb8A
      replace hTt := hTt.below hb8A
      replace hTu := hTu.below hb8A
      replace hsd := hsd.below hb8A
      replace hss := hss.below hb8A
      replace hLp := hLp.below hb8A
      have q_c0 := cells_at qH 0 _ rfl
      have q_c1 := cells_at qH 1 _ rfl
      go_wp2_with fail
      generalize w8.alloc (.cells #[.int .i64 xa2, .int .i64 xr2, .slice da2 ds2.length dc2] 39) = W8 at hA8 hb8A hB qH qS hH hTt hTu hsd hss hLp q_c0 q_c1 ⊢
      clear q_c0 q_c1
      refine (voted_any ks ua _ uc (pk r.a 4) (1 + pk r.b 9) W8 HKN.out.symm hTu).mono ?_
      rintro e w9 ⟨na, nc, nb, er3, he, hVn, hsn, -, hb9⟩
      rw [HVK.out] at hVn
      obtain ⟨hz, hnd⟩ := CU.out.now _ _ hVn
      subst hz
      subst he
      dsimp only
      have HND : Hid (txL nb = txL (rDig r)) := hnd
      clear hVn hnd
      replace hB := hB.trans (hb9.mono hB.size)
      replace qH := (hb9.block _ (lt_of_heap qH)).trans qH
      replace qS := (hb9.block _ (lt_of_heap qS)).trans qS
      replace hH := hH.below hb9
      replace hTt := hTt.below hb9
      replace hTu := hTu.below hb9
      replace hsd := hsd.below hb9
      replace hss := hss.below hb9
      replace hLp := hLp.below hb9
      have q_c0 := cells_at qH 0 _ rfl
      have q_c1 := cells_at qH 1 _ rfl
      have q_c2 := cells_at qH 2 _ rfl
      have q_c3 := cells_at qH 3 _ rfl
      have hA9 := (Below.refl w9.heap.size w9).alloc (Nat.le_refl _) (.cells #[.int .i64 (pk r.a 4), .int .i64 (1 + pk r.b 9), .slice ba bl.length bc, .slice pa pl.length pc] 31)
      have qO := heap_alloc_new w9 (.cells #[.int .i64 (pk r.a 4), .int .i64 (1 + pk r.b 9), .slice ba bl.length bc, .slice pa pl.length pc] 31)
      have hBk9 := hB
      have hHk9 := hH
      clear hH
      go_wp2_with fail
      clear q_c0 q_c1 q_c2 q_c3
      have hOB : w9.heap.size = w9.heap.size := rfl
      generalize hOB' : w9.heap.size = OB at qO ⊢
      generalize w9.alloc (.cells #[.int .i64 (pk r.a 4), .int .i64 (1 + pk r.b 9), .slice ba bl.length bc, .slice pa pl.length pc] 31) = W9 at hA9 qO ⊢
      clear hOB
      refine (some_any nn 200 W9 hnn).mono ?_
      rintro e w10 ⟨he, hoN, hb10⟩
      subst he
      dsimp only
      have hOlt : OB < W9.heap.size := lt_of_heap qO
      have hsN := (sliceAt_of_owns hoN).2
      generalize hNB : W9.heap.size = NB at hoN hsN ⊢
      have hNO : OB < NB := by omega
      replace qO := (hb10.block _ (lt_of_heap qO)).trans qO
      have hA9' := hA9.trans (hb10.mono hA9.size)
      have HO := oth_at (nn := nn) (hOB' ▸ Nat.le_refl _) hNO hA9' hHk9 qO hsN
      have o_c0 := cells_at HO.box 0 _ rfl
      have o_c1 := cells_at HO.box 1 _ rfl
      have o_c2 := cells_at HO.box 2 _ rfl
      have o_c3 := cells_at HO.box 3 _ rfl
      have o_z := cells_at qO 2 _ rfl
      have o_f := frozen_at qO 2
      have hOl : OB < w10.heap.size := lt_of_heap qO
      clear hBk9 hHk9 hsN hoN hA9 hb10 hOlt hNO
      go_wp2_with fail
      generalize w10.heap.size = SZ at HO o_c0 o_c1 o_c2 o_c3 hOl ⊢
      generalize (w10.setCell ⟨OB, 2, none⟩ (.slice (some ⟨SZ, 0, none⟩) 1 1)).alloc (.cells #[.slice (some ⟨NB, 0, none⟩) 32 32] 33) = X at HO o_c0 o_c1 o_c2 o_c3 ⊢
      clear o_c0 o_c1 o_c2 o_c3 o_z o_f hOl qO
      have hX := HO.keep
      replace hB := hB.trans (hX.mono hB.size)
      replace qH := (hX.block _ (lt_of_heap qH)).trans qH
      replace qS := (hX.block _ (lt_of_heap qS)).trans qS
      replace hTt := hTt.below hX
      replace hTu := hTu.below hX
      replace hsd := hsd.below hX
      replace hss := hss.below hX
      replace hsn := hsn.below hX
      have HC3 := cast_any ks ua uc (pk r.a 4) (1 + pk r.b 9) (some ⟨SZ, 0, none⟩) 1 (oBl NB nn) pa pc pl X hTu HO.hat (HT.out X hB)
      rw [HVK.out, castAll_oth r NB nn bl pl CU.out HHF.out HPL.out, HKN.out] at HC3
      refine HC3.mono ?_
      intro e w11 h11
      obtain ⟨xaa, xcc, ms3, da3, dc3, xa3, xr3, ds3, er4, he, hR3, -, -, -, -, hb11⟩ := h11.out
      subst he
      dsimp only
      clear HC3 h11
      have hA11 := (Below.refl w11.heap.size w11).alloc (Nat.le_refl _) (.cells #[.int .i64 xa3, .int .i64 xr3, .slice da3 ds3.length dc3] 39)
      have hb11A := hb11.trans (hA11.mono hb11.size)
      replace hB := hB.trans (hb11A.mono hB.size)
      replace qH := (hb11A.block _ (lt_of_heap qH)).trans qH
      replace qS := (hb11A.block _ (lt_of_heap qS)).trans qS
      replace hTt := hTt.below hb11A
      replace hTu := hTu.below hb11A
      replace hsd := hsd.below hb11A
      replace hss := hss.below hb11A
      replace hsn := hsn.below hb11A
      have HR3 : Hid _ := hR3
      clear hR3
      by_cases hE : txL (rDig r) = txL (oDig r nn)
      · have hR3 := HR3.out
        rw [if_pos hE] at hR3
        simp only [Prod.mk.injEq] at hR3
        obtain ⟨-, -, hz⟩ := hR3
        subst hz
        have HD : Hid (rDig r = oDig r nn) := dig_one hE
        clear hE HR3
        go_wp2_with fail
        go_ret
        exact ⟨false, rfl, hB, fun _ => HD.out⟩
      · have hR3 := HR3.out
        rw [if_neg hE] at hR3
        simp only [Prod.mk.injEq] at hR3
        obtain ⟨-, -, hz⟩ := hR3
        subst hz
        clear hE HR3
        have s_c1 := cells_at qS 1 _ rfl
        have s_c2 := cells_at qS 2 _ rfl
        have h_c1 := cells_at qH 1 _ rfl
        have HS1 := same_any2 nb (rDig r) na (some ⟨b, 0, none⟩) _ 32 nc 32 _ rfl (rDig_length r).symm hsn hsd
        rw [decide_eq_true HND.out] at HS1
        have HS2 := same_any2 (rDig r) (rDig r) da (some ⟨b, 0, none⟩) _ 32 dc 32 _ rfl (rDig_length r).symm hss hsd
        rw [decide_eq_true rfl] at HS2
        go_wp2_with fail
        generalize w11.alloc (.cells #[.int .i64 xa3, .int .i64 xr3, .slice da3 ds3.length dc3] 39) = V at hA11 hb11A hB qH qS hTt hTu hsd hss hsn s_c1 s_c2 h_c1 HS1 HS2 ⊢
        refine HS1.mono ?_
        rintro e wq ⟨he, hwq⟩
        subst he hwq
        dsimp only
        clear HS1
        go_wp2_with fail
        refine HS2.mono ?_
        rintro e wq ⟨he, hwq⟩
        subst he hwq
        dsimp only
        clear HS2
        go_wp2_with fail
        clear s_c1 s_c2 h_c1 qH qS hsd hss hsn hsw
        have HP : Hid (∀ k (h : k < ls.length), ∃ h2 : k < ks.length, (ks[k]).v = (ls[k]).v) := by
          obtain ⟨e, he⟩ := CU.out.pre
          show ∀ k, _
          exact pre_at (HVK.out.trans he)
        clear CU HVK HSP HR HF HVL
        go_loopw [25] (fun i wr => ∃ k : Nat, k ≤ ls.length ∧ i = .int .i64 k ∧ Below V.heap.size V wr) (fun i _ => ls.length - (intOf i).toNat)
        case atStart => exact ⟨0, Nat.zero_le _, rfl, Below.refl _ _⟩
        case round =>
          obtain ⟨k, hk, rfl, hbw⟩ := hrel
          have hBw := hB.trans (hbw.mono hB.size)
          by_cases hlt : k < ls.length
          · obtain ⟨hlt2, hvk⟩ := HP.out k hlt
            have hpa := hTt.slots.below hbw
            have hpb := hTu.slots.below hbw
            obtain ⟨ab, ao, rfl, hca⟩ : ∃ sb so, ta = some ⟨sb, so, none⟩ ∧ ∀ j (h : j < ls.length), wr.cell? ⟨sb, so + j * 3, none⟩ = some (.int .i64 (ls[j]).au) ∧ wr.cell? ⟨sb, so + j * 3 + 1, none⟩ = some (.int .i64 (ls[j]).rd) ∧ wr.cell? ⟨sb, so + j * 3 + 2, none⟩ = some (.slice (ls[j]).p.sa (ls[j]).p.bs.length (ls[j]).p.cap) := by
              rcases hpa.cells with h | h
              · rw [h] at hlt; simp at hlt
              · exact h
            obtain ⟨bb, bo, rfl, hcb⟩ : ∃ sb' so, ua = some ⟨sb', so, none⟩ ∧ ∀ j (h : j < ks.length), wr.cell? ⟨sb', so + j * 3, none⟩ = some (.int .i64 (ks[j]).au) ∧ wr.cell? ⟨sb', so + j * 3 + 1, none⟩ = some (.int .i64 (ks[j]).rd) ∧ wr.cell? ⟨sb', so + j * 3 + 2, none⟩ = some (.slice (ks[j]).p.sa (ks[j]).p.bs.length (ks[j]).p.cap) := by
              rcases hpb.cells with h | h
              · rw [h] at hlt2; simp at hlt2
              · exact h
            obtain ⟨c0, c1, c2⟩ := hca k hlt
            obtain ⟨d0, d1, d2⟩ := hcb k hlt2
            have hx := hpa.each (ls[k]) (List.getElem_mem hlt)
            have hy := hpb.each (ks[k]) (List.getElem_mem hlt2)
            have hltI : (k : Int) < ls.length := by omega
            have hltJ : (k : Int) < ((ls.length + 1 : Nat) : Int) := by omega
            have hltK : (k : Int) < (ls.length : Int) + 1 := by omega
            clear hca hcb hpa hpb hTt hTu HP
            generalize ls[k] = s at c0 c1 c2 hx hvk
            generalize ks[k] = t at d0 d1 d2 hy hvk
            clear hlt2
            obtain ⟨au, rd, ⟨xa, xc, bs⟩⟩ := s
            obtain ⟨au', rd', ⟨ya, yc, bs'⟩⟩ := t
            simp only [Sl.v, Prod.mk.injEq] at hvk
            obtain ⟨rfl, rfl, rfl⟩ := hvk
            have hab : ab < wr.heap.size := block_lt_of_cell c0
            have hbb : bb < wr.heap.size := block_lt_of_cell d0
            dsimp only at c0 c1 c2 d0 d1 d2 hx hy
            have HS := sameSlotK_eq au' rd' bs' xa ya _ _ xc yc wr.drew rfl rfl (hx.below ((Below.refl _ _).drew)) (hy.below ((Below.refl _ _).drew))
            go_wp2_with fail
            go_region_held3 (fun w' => w'.cell? ⟨ab, ao + k * 3, none⟩ = some (.int .i64 au') ∧ w'.cell? ⟨ab, ao + k * 3 + 1, none⟩ = some (.int .i64 rd') ∧ w'.cell? ⟨ab, ao + k * 3 + 2, none⟩ = some (.slice xa bs'.length xc) ∧ w'.cell? ⟨bb, bo + k * 3, none⟩ = some (.int .i64 au') ∧ w'.cell? ⟨bb, bo + k * 3 + 1, none⟩ = some (.int .i64 rd') ∧ w'.cell? ⟨bb, bo + k * 3 + 2, none⟩ = some (.slice ya bs'.length yc)) (go_keep) ((go_at_call 14; refine HS.mono ?_; rintro e w2 ⟨rfl, hb2⟩; replace hb2 := below_drew hb2; have e0 := (hb2.cell (p := ⟨ab, ao + k * 3, none⟩) hab).trans c0; have e1 := (hb2.cell (p := ⟨ab, ao + k * 3 + 1, none⟩) hab).trans c1; have e2 := (hb2.cell (p := ⟨ab, ao + k * 3 + 2, none⟩) hab).trans c2; have g0 := (hb2.cell (p := ⟨bb, bo + k * 3, none⟩) hbb).trans d0; have g1 := (hb2.cell (p := ⟨bb, bo + k * 3 + 1, none⟩) hbb).trans d1; have g2 := (hb2.cell (p := ⟨bb, bo + k * 3 + 2, none⟩) hbb).trans d2))
            all_goals
              have hB2 := hbw.trans (hb2.mono hbw.size)
              go_wp2_with fail
              go_roundw
              case rel =>
                have hR : ∃ k' : Nat, k' ≤ ls.length ∧ (Value.int .i64 ((k : Int) + 1)) = .int .i64 k' ∧ Below V.heap.size V w2 := ⟨k + 1, by omega, by go_num, hB2⟩
                first | exact hR | ((repeat apply Exists.intro); exact ⟨hR, rfl⟩)
              case measure => simp [intOf]; omega
          · obtain rfl : k = ls.length := by omega
            go_wp2_with fail
            go_ret
            exact ⟨true, rfl, hBw, fun h => by cases h⟩
end Go.Proofs.YtlpaghkofljnfaaDoor

namespace Go.Proofs.YtlpaghkofljnfaaDoor
open Go.RowKit

/-- A header, and where its lists lie. -/
structure Hd where
  (au rd : Int) (ba : Option Addr) (bc : Nat) (bl : List Part) (pa : Option Addr) (pc : Nat) (pl : List Part)
def Hd.d (h : Hd) : List Int := hDig h.au h.rd h.bl h.pl
/-- A header that may be, and that is read. -/
structure HdAt (w : World) (h : Hd) : Prop where
  hat : HAt w h.ba h.bc h.bl h.pa h.pc h.pl
  ok : headerF h.au h.rd h.bl h.pl = 0
  bu : ∀ p ∈ h.bl, ∀ x ∈ p.bs, 0 ≤ x ∧ x ≤ 255
  pu : ∀ p ∈ h.pl, ∀ x ∈ p.bs, 0 ≤ x ∧ x ≤ 255
set_option maxRecDepth 100000 in
theorem HdAt.below {w w' : World} {h : Hd} (H : HdAt w h) (hb : Below w.heap.size w w') : HdAt w' h := ⟨H.hat.below hb, H.ok, H.bu, H.pu⟩
def hdAt (hs : List Hd) (k : Nat) : Hd := hs.getD k ⟨0, 0, none, 0, [], none, 0, []⟩
set_option maxRecDepth 100000 in
theorem hdAt_get (hs : List Hd) (k : Nat) (h : k < hs.length) : hdAt hs k = hs[k] := by simp [hdAt, h]
/-- The headers of a slice of headers. -/
structure HsAt (w : World) (sa : Option Addr) (hs : List Hd) : Prop where
  cells : hs = [] ∨ ∃ sb so, sa = some ⟨sb, so, none⟩ ∧ ∀ j, j < hs.length → w.cell? ⟨sb, so + j * 4, none⟩ = some (.int .i64 (hdAt hs j).au) ∧ w.cell? ⟨sb, so + j * 4 + 1, none⟩ = some (.int .i64 (hdAt hs j).rd) ∧ w.cell? ⟨sb, so + j * 4 + 2, none⟩ = some (.slice (hdAt hs j).ba (hdAt hs j).bl.length (hdAt hs j).bc) ∧ w.cell? ⟨sb, so + j * 4 + 3, none⟩ = some (.slice (hdAt hs j).pa (hdAt hs j).pl.length (hdAt hs j).pc)
  each : ∀ h ∈ hs, HdAt w h
set_option maxRecDepth 100000 in
theorem HsAt.below {w w' : World} {sa : Option Addr} {hs : List Hd} (H : HsAt w sa hs) (hb : Below w.heap.size w w') : HsAt w' sa hs := by
  refine ⟨?_, fun h hh => (H.each h hh).below hb⟩
  rcases H.cells with h | ⟨sb, so, rfl, hc⟩
  · exact .inl h
  · refine .inr ⟨sb, so, rfl, fun j hj => ?_⟩
    obtain ⟨h0, h1, h2, h3⟩ := hc j hj
    have hlt : sb < w.heap.size := block_lt_of_cell h0
    exact ⟨(hb.cell (p := ⟨sb, so + j * 4, none⟩) hlt).trans h0, (hb.cell (p := ⟨sb, so + j * 4 + 1, none⟩) hlt).trans h1, (hb.cell (p := ⟨sb, so + j * 4 + 2, none⟩) hlt).trans h2, (hb.cell (p := ⟨sb, so + j * 4 + 3, none⟩) hlt).trans h3⟩
/-- Do two headers differ? -/
def unlike (x y : Hd) : Prop := ¬ (x.au = y.au ∧ x.rd = y.rd ∧ bsOf x.bl = bsOf y.bl ∧ bsOf x.pl = bsOf y.pl)
set_option maxRecDepth 100000 in
theorem HdAt.head {w : World} {h : Hd} (H : HdAt w h) : HeadAt w h.ba h.bl.length h.bc h.bl h.pa h.pl.length h.pc h.pl := by
  obtain ⟨_, _, y3, y4, _, _⟩ := headerF_ok H.ok
  exact ⟨rfl, rfl, by omega, by omega, H.hat.lb, H.hat.lp, H.bu, H.pu⟩
set_option maxRecDepth 100000 in
set_option maxHeartbeats 4000000 in
theorem oneSum_true (hs : List Hd) (sa : Option Addr) (n cap : Nat) (bv : Value) (w : World) (I K : Nat) (hn : n = hs.length) (hl : hs.length ≤ 100000) (hK : K < I) (hI : I < hs.length) (hS : HsAt w sa hs) (hD : (hdAt hs I).d = (hdAt hs K).d) (hU : unlike (hdAt hs I) (hdAt hs K)) (hT : Tabs w) :
    Calls Tryd.prog 15 #[.slice sa n cap, bv] w fun e w' => e = .returned (.bool true) ∧ Below w.heap.size w w' := by
  subst hn
  obtain ⟨sb, so, rfl, hc⟩ : ∃ sb so, sa = some ⟨sb, so, none⟩ ∧ ∀ j, j < hs.length → w.cell? ⟨sb, so + j * 4, none⟩ = some (.int .i64 (hdAt hs j).au) ∧ w.cell? ⟨sb, so + j * 4 + 1, none⟩ = some (.int .i64 (hdAt hs j).rd) ∧ w.cell? ⟨sb, so + j * 4 + 2, none⟩ = some (.slice (hdAt hs j).ba (hdAt hs j).bl.length (hdAt hs j).bc) ∧ w.cell? ⟨sb, so + j * 4 + 3, none⟩ = some (.slice (hdAt hs j).pa (hdAt hs j).pl.length (hdAt hs j).pc) := by
    rcases hS.cells with h | h
    · rw [h] at hI; simp at hI
    · exact h
  have HC : Hid (∀ j, j < hs.length → ∀ W : World, Below w.heap.size w W → W.cell? ⟨sb, so + j * 4, none⟩ = some (.int .i64 (hdAt hs j).au) ∧ W.cell? ⟨sb, so + j * 4 + 1, none⟩ = some (.int .i64 (hdAt hs j).rd) ∧ W.cell? ⟨sb, so + j * 4 + 2, none⟩ = some (.slice (hdAt hs j).ba (hdAt hs j).bl.length (hdAt hs j).bc) ∧ W.cell? ⟨sb, so + j * 4 + 3, none⟩ = some (.slice (hdAt hs j).pa (hdAt hs j).pl.length (hdAt hs j).pc)) := by
    show ∀ j, _
    intro j hj W hW
    obtain ⟨h0, h1, h2, h3⟩ := hc j hj
    have hlt : sb < w.heap.size := block_lt_of_cell h0
    exact ⟨(hW.cell (p := ⟨sb, so + j * 4, none⟩) hlt).trans h0, (hW.cell (p := ⟨sb, so + j * 4 + 1, none⟩) hlt).trans h1, (hW.cell (p := ⟨sb, so + j * 4 + 2, none⟩) hlt).trans h2, (hW.cell (p := ⟨sb, so + j * 4 + 3, none⟩) hlt).trans h3⟩
  have HA : Hid (∀ j, j < hs.length → ∀ W : World, Below w.heap.size w W → HdAt W (hdAt hs j)) := by
    show ∀ j, _
    intro j hj W hW
    rw [hdAt_get hs j hj]
    exact (hS.each _ (List.getElem_mem hj)).below hW
  have HT : Hid (∀ W : World, Below w.heap.size w W → Tabs W) := by
    show ∀ W, _
    exact fun W hW => hT.below hW
  have HD : Hid _ := hD
  have HU : Hid _ := hU
  have HKI : Hid (K < I) := hK
  have HIL : Hid (I < hs.length) := hI
  clear hS hc hT hD hU hK hI
  go_enter Tryd.func15, Tryd.ntmps15
  go_wp2_with fail
  go_loopw [5] (fun j wr => ∃ i : Nat, i ≤ I ∧ j = .int .i64 i ∧ Below w.heap.size w wr) (fun j _ => hs.length - (intOf j).toNat)
  case atStart => exact ⟨0, Nat.zero_le _, rfl, Below.refl _ _⟩
  case round =>
    obtain ⟨i, hi, rfl, hb⟩ := hrel
    have hiL : i < hs.length := by have := HIL.out; omega
    have hiI : (i : Int) < hs.length := by omega
    go_wp2_with fail
    go_loopw [6] (fun j wr => ∃ k : Nat, (k ≤ i ∧ (i = I → k ≤ K)) ∧ j = .int .i64 k ∧ Below w.heap.size w wr) (fun j _ => i - (intOf j).toNat)
    case atStart => exact ⟨0, ⟨Nat.zero_le _, fun _ => Nat.zero_le _⟩, rfl, hb⟩
    case round =>
      obtain ⟨k, ⟨hk, hkK⟩, rfl, hb0⟩ := hrel
      have HKK : Hid _ := hkK
      clear hkK
      by_cases hlt : k < i
      · have hltI : (k : Int) < i := by omega
        have hkL : k < hs.length := by omega
        have hkI : (k : Int) < hs.length := by omega
        obtain ⟨x, hxe⟩ : ∃ x, hdAt hs i = x := ⟨_, rfl⟩
        obtain ⟨y, hye⟩ : ∃ y, hdAt hs k = y := ⟨_, rfl⟩
        obtain ⟨c0, c1, c2, c3⟩ := HC.out i hiL wr hb0
        rw [hxe] at c0 c1 c2 c3
        have HX : Hid (∀ W : World, Below w.heap.size w W → HdAt W x) := by
          show ∀ W, _
          intro W hW
          rw [← hxe]; exact HA.out i hiL W hW
        have HY : Hid (∀ W : World, Below w.heap.size w W → HdAt W y) := by
          show ∀ W, _
          intro W hW
          rw [← hye]; exact HA.out k hkL W hW
        have HNX : Hid ((i = I → k = K → False) → i = I → k + 1 ≤ K) := by
          show _ → _
          intro h1 h2
          have h3 := HKK.out h2
          have h4 : ¬ k = K := h1 h2
          omega
        have HHIT : Hid (i = I → k = K → x.d = y.d ∧ unlike x y) := by
          show _ → _
          intro h1 h2
          rw [← hxe, ← hye, h1, h2]
          exact ⟨HD.out, HU.out⟩
        go_wp2_with fail
        refine (headerDigest_hat (HX.out wr hb0).hat (HX.out wr hb0).ok (HT.out wr hb0)).mono ?_
        rintro e w2 ⟨bx, he, hgx, hb2, hsx⟩
        subst he
        dsimp only
        have hB2 := hb0.trans (hb2.mono hb0.size)
        clear c0 c1 c2 c3
        obtain ⟨c0, c1, c2, c3⟩ := HC.out k hkL w2 hB2
        rw [hye] at c0 c1 c2 c3
        go_wp2_with fail
        refine (headerDigest_hat (HY.out w2 hB2).hat (HY.out w2 hB2).ok (HT.out w2 hB2)).mono ?_
        rintro e w4 ⟨by', he, hgy, hb4, hsy⟩
        subst he
        dsimp only
        have hB4 := hB2.trans (hb4.mono hB2.size)
        have hb4d := hb4
        clear c0 c1 c2 c3
        have hsx4 := (hsx.below hb4).below ((Below.refl w4.heap.size w4).drew)
        have hsy4 := hsy.below ((Below.refl w4.heap.size w4).drew)
        obtain ⟨B, hBe⟩ : ∃ B : Bool, decide (x.d = y.d) = B := ⟨_, rfl⟩
        have HSB : Hid (Calls Tryd.prog 12 #[.slice (some ⟨bx, 0, none⟩) 32 32, .slice (some ⟨by', 0, none⟩) 32 32] w4.drew fun e w' => e = .returned (.bool B) ∧ w4.drew = w') := by
          show Calls _ _ _ _ _
          have h := same_any (hDig x.au x.rd x.bl x.pl) (hDig y.au y.rd y.bl y.pl) (some ⟨bx, 0, none⟩) (some ⟨by', 0, none⟩) 32 32 32 32 w4.drew (hDig_length _ _ _ _).symm (hDig_length _ _ _ _).symm hsx4 hsy4 (digU8 _ _ _ _) (digU8 _ _ _ _)
          have h2 : decide (hDig x.au x.rd x.bl x.pl = hDig y.au y.rd y.bl y.pl) = B := hBe
          rw [h2] at h
          exact h
        have HBE : Hid _ := hBe
        clear hsx hsy hsx4 hsy4 hgx hgy hBe
        cases B with
        | false =>
          have HNX : Hid (i = I → k + 1 ≤ K) := HNX.out (fun h1 h2 => of_decide_eq_false HBE.out (HHIT.out h1 h2).1)
          go_upto_region 9 with fail
          have hBd := hB4.drew
          have hbd4 := hb4d
          obtain ⟨g0, g1, g2, g3⟩ := HC.out i hiL w4.drew hBd
          obtain ⟨g4, g5, g6, g7⟩ := HC.out k hkL w4.drew hBd
          rw [hxe] at g0 g1 g2 g3
          rw [hye] at g4 g5 g6 g7
          refine wp_region_held_drew (S := fun w' => w'.cell? ⟨sb, so + i * 4, none⟩ = some (.int .i64 x.au) ∧ w'.cell? ⟨sb, so + i * 4 + 1, none⟩ = some (.int .i64 x.rd) ∧ w'.cell? ⟨sb, so + i * 4 + 2, none⟩ = some (.slice x.ba x.bl.length x.bc) ∧ w'.cell? ⟨sb, so + i * 4 + 3, none⟩ = some (.slice x.pa x.pl.length x.pc) ∧ w'.cell? ⟨sb, so + k * 4, none⟩ = some (.int .i64 y.au) ∧ w'.cell? ⟨sb, so + k * 4 + 1, none⟩ = some (.int .i64 y.rd) ∧ w'.cell? ⟨sb, so + k * 4 + 2, none⟩ = some (.slice y.ba y.bl.length y.bc) ∧ w'.cell? ⟨sb, so + k * 4 + 3, none⟩ = some (.slice y.pa y.pl.length y.pc)) (by kernel_rfl) ⟨g0, g1, g2, g3, g4, g5, g6, g7⟩ (fun hHeld => ?_)
          refine take_dst (i := 0) (d := 44) (v := .int .i64 0) rfl rfl (by kernel_rfl) (by kernel_rfl) (by kernel_rfl) (fun _ _ _ h => h) (Or.inl ⟨by rfl, ?_⟩) hHeld ?_
          · (intro w0 hSw; (try dsimp only at hSw); go_simp)
          simp only [Act.put, List.setIfInBounds_toArray, List.set_cons_zero, List.set_cons_succ]
          refine take_dst (i := 1) (d := 45) (v := .bool true) rfl rfl (by kernel_rfl) (by kernel_rfl) (by kernel_rfl) (fun _ _ _ h => h) (Or.inl ⟨by rfl, ?_⟩) hHeld ?_
          · (intro w0 hSw; (try dsimp only at hSw); go_simp)
          simp only [Act.put, List.setIfInBounds_toArray, List.set_cons_zero, List.set_cons_succ]
          refine take_dst (i := 2) (d := 46) (v := .bool true) rfl rfl (by kernel_rfl) (by kernel_rfl) (by kernel_rfl) (fun _ _ _ h => h) (Or.inl ⟨by rfl, ?_⟩) hHeld ?_
          · (intro w0 hSw; (try dsimp only at hSw); go_simp)
          simp only [Act.put, List.setIfInBounds_toArray, List.set_cons_zero, List.set_cons_succ]
          refine take_dst (i := 3) (d := 47) (v := .int .i64 0) rfl rfl (by kernel_rfl) (by kernel_rfl) (by kernel_rfl) (fun _ _ _ h => h) (Or.inl ⟨by rfl, ?_⟩) hHeld ?_
          · (intro w0 hSw; (try dsimp only at hSw); go_simp)
          simp only [Act.put, List.setIfInBounds_toArray, List.set_cons_zero, List.set_cons_succ]
          refine take_dst (i := 4) (d := 48) (v := .bool true) rfl rfl (by kernel_rfl) (by kernel_rfl) (by kernel_rfl) (fun _ _ _ h => h) (Or.inl ⟨by rfl, ?_⟩) hHeld ?_
          · (intro w0 hSw; (try dsimp only at hSw); go_simp)
          simp only [Act.put, List.setIfInBounds_toArray, List.set_cons_zero, List.set_cons_succ]
          refine take_dst (i := 5) (d := 49) (v := .bool true) rfl rfl (by kernel_rfl) (by kernel_rfl) (by kernel_rfl) (fun _ _ _ h => h) (Or.inl ⟨by rfl, ?_⟩) hHeld ?_
          · (intro w0 hSw; (try dsimp only at hSw); go_simp)
          simp only [Act.put, List.setIfInBounds_toArray, List.set_cons_zero, List.set_cons_succ]
          refine take_dst (i := 6) (d := 50) (v := .bool true) rfl rfl (by kernel_rfl) (by kernel_rfl) (by kernel_rfl) (fun _ _ _ h => h) (Or.inl ⟨by rfl, ?_⟩) hHeld ?_
          · (intro w0 hSw; (try dsimp only at hSw); go_simp)
          simp only [Act.put, List.setIfInBounds_toArray, List.set_cons_zero, List.set_cons_succ]
          refine take_dst (i := 7) (d := 51) (v := .slice (some ⟨bx, 0, none⟩) 32 32) rfl rfl (by kernel_rfl) (by kernel_rfl) (by kernel_rfl) (fun _ _ _ h => h) (Or.inl ⟨by rfl, ?_⟩) hHeld ?_
          · (intro w0 hSw; (try dsimp only at hSw); go_simp)
          simp only [Act.put, List.setIfInBounds_toArray, List.set_cons_zero, List.set_cons_succ]
          refine take_dst (i := 8) (d := 52) (v := .int .i64 32) rfl rfl (by kernel_rfl) (by kernel_rfl) (by kernel_rfl) (fun _ _ _ h => h) (Or.inl ⟨by rfl, ?_⟩) hHeld ?_
          · (intro w0 hSw; (try dsimp only at hSw); go_simp)
          simp only [Act.put, List.setIfInBounds_toArray, List.set_cons_zero, List.set_cons_succ]
          refine take_dst (i := 9) (d := 53) (v := .bool true) rfl rfl (by kernel_rfl) (by kernel_rfl) (by kernel_rfl) (fun _ _ _ h => h) (Or.inl ⟨by rfl, ?_⟩) hHeld ?_
          · (intro w0 hSw; (try dsimp only at hSw); go_simp)
          simp only [Act.put, List.setIfInBounds_toArray, List.set_cons_zero, List.set_cons_succ]
          refine take_dst (i := 10) (d := 54) (v := .bool true) rfl rfl (by kernel_rfl) (by kernel_rfl) (by kernel_rfl) (fun _ _ _ h => h) (Or.inl ⟨by rfl, ?_⟩) hHeld ?_
          · (intro w0 hSw; (try dsimp only at hSw); go_simp)
          simp only [Act.put, List.setIfInBounds_toArray, List.set_cons_zero, List.set_cons_succ]
          refine take_dst (i := 11) (d := 55) (v := .bool true) rfl rfl (by kernel_rfl) (by kernel_rfl) (by kernel_rfl) (fun _ _ _ h => h) (Or.inl ⟨by rfl, ?_⟩) hHeld ?_
          · (intro w0 hSw; (try dsimp only at hSw); go_simp)
          simp only [Act.put, List.setIfInBounds_toArray, List.set_cons_zero, List.set_cons_succ]
          refine take_dst (i := 12) (d := 56) (v := .slice (some ⟨bx, 0, none⟩) 32 32) rfl rfl (by kernel_rfl) (by kernel_rfl) (by kernel_rfl) (fun _ _ _ h => h) (Or.inl ⟨by rfl, ?_⟩) hHeld ?_
          · (intro w0 hSw; (try dsimp only at hSw); go_simp)
          simp only [Act.put, List.setIfInBounds_toArray, List.set_cons_zero, List.set_cons_succ]
          refine take_dst (i := 13) (d := 57) (v := .slice (some ⟨by', 0, none⟩) 32 32) rfl rfl (by kernel_rfl) (by kernel_rfl) (by kernel_rfl) (fun _ _ _ h => h) (Or.inl ⟨by rfl, ?_⟩) hHeld ?_
          · (intro w0 hSw; (try dsimp only at hSw); go_simp)
          simp only [Act.put, List.setIfInBounds_toArray, List.set_cons_zero, List.set_cons_succ]
          refine wpAnyH_ready (rs := [14]) (by kernel_rfl) (by simp) (AllReadyH.cons rfl (fun KK hK => ?_) AllReadyH.nil)
          refine step_calls_on (by rfl) 58 rfl 12 [.tmp 56, .tmp 57] #[33, 33] rfl [.slice (some ⟨bx, 0, none⟩) 32 32, .slice (some ⟨by', 0, none⟩) 32 32] rfl (enters_of Tryd.func12 (by kernel_rfl) rfl) (fun v w' => v = .bool false ∧ w4.drew = w') (HSB.out.mono (by rintro e w' ⟨rfl, h⟩; exact ⟨_, rfl, rfl, h⟩)) ?_
          rintro v w5 ⟨rfl, rfl⟩
          refine hK.out _ _ hHeld (fun hHeld => ?_)
          simp only [Act.put, List.setIfInBounds_toArray, List.set_cons_zero, List.set_cons_succ]
          refine take_dst (i := 15) (d := 59) (v := .bool false) rfl rfl (by kernel_rfl) (by kernel_rfl) (by kernel_rfl) (fun _ _ _ h => h) (Or.inl ⟨by rfl, ?_⟩) hHeld ?_
          · (intro w0 hSw; (try dsimp only at hSw); go_simp)
          simp only [Act.put, List.setIfInBounds_toArray, List.set_cons_zero, List.set_cons_succ]
          refine take_dst (i := 16) (d := 60) (v := .bool false) rfl rfl (by kernel_rfl) (by kernel_rfl) (by kernel_rfl) (fun _ _ _ h => h) (Or.inl ⟨by rfl, ?_⟩) hHeld ?_
          · (intro w0 hSw; (try dsimp only at hSw); go_simp)
          simp only [Act.put, List.setIfInBounds_toArray, List.set_cons_zero, List.set_cons_succ]
          refine take_dst (i := 17) (d := 61) (v := undef) rfl rfl (by kernel_rfl) (by kernel_rfl) (by kernel_rfl) (fun _ _ _ h => h) (Or.inr ⟨by rfl, rfl⟩) hHeld ?_
          simp only [Act.put, List.setIfInBounds_toArray, List.set_cons_zero, List.set_cons_succ]
          refine take_dst (i := 18) (d := 62) (v := undef) rfl rfl (by kernel_rfl) (by kernel_rfl) (by kernel_rfl) (fun _ _ _ h => h) (Or.inr ⟨by rfl, rfl⟩) hHeld ?_
          simp only [Act.put, List.setIfInBounds_toArray, List.set_cons_zero, List.set_cons_succ]
          refine take_dst (i := 19) (d := 63) (v := undef) rfl rfl (by kernel_rfl) (by kernel_rfl) (by kernel_rfl) (fun _ _ _ h => h) (Or.inr ⟨by rfl, rfl⟩) hHeld ?_
          simp only [Act.put, List.setIfInBounds_toArray, List.set_cons_zero, List.set_cons_succ]
          refine take_dst (i := 20) (d := 64) (v := undef) rfl rfl (by kernel_rfl) (by kernel_rfl) (by kernel_rfl) (fun _ _ _ h => h) (Or.inr ⟨by rfl, rfl⟩) hHeld ?_
          simp only [Act.put, List.setIfInBounds_toArray, List.set_cons_zero, List.set_cons_succ]
          refine take_dst (i := 21) (d := 65) (v := undef) rfl rfl (by kernel_rfl) (by kernel_rfl) (by kernel_rfl) (fun _ _ _ h => h) (Or.inr ⟨by rfl, rfl⟩) hHeld ?_
          simp only [Act.put, List.setIfInBounds_toArray, List.set_cons_zero, List.set_cons_succ]
          refine take_dst (i := 22) (d := 66) (v := undef) rfl rfl (by kernel_rfl) (by kernel_rfl) (by kernel_rfl) (fun _ _ _ h => h) (Or.inr ⟨by rfl, rfl⟩) hHeld ?_
          simp only [Act.put, List.setIfInBounds_toArray, List.set_cons_zero, List.set_cons_succ]
          refine take_dst (i := 23) (d := 67) (v := undef) rfl rfl (by kernel_rfl) (by kernel_rfl) (by kernel_rfl) (fun _ _ _ h => h) (Or.inr ⟨by rfl, rfl⟩) hHeld ?_
          simp only [Act.put, List.setIfInBounds_toArray, List.set_cons_zero, List.set_cons_succ]
          refine take_dst (i := 24) (d := 68) (v := undef) rfl rfl (by kernel_rfl) (by kernel_rfl) (by kernel_rfl) (fun _ _ _ h => h) (Or.inr ⟨by rfl, rfl⟩) hHeld ?_
          simp only [Act.put, List.setIfInBounds_toArray, List.set_cons_zero, List.set_cons_succ]
          refine take_dst (i := 25) (d := 69) (v := undef) rfl rfl (by kernel_rfl) (by kernel_rfl) (by kernel_rfl) (fun _ _ _ h => h) (Or.inr ⟨by rfl, rfl⟩) hHeld ?_
          simp only [Act.put, List.setIfInBounds_toArray, List.set_cons_zero, List.set_cons_succ]
          refine take_dst (i := 26) (d := 70) (v := undef) rfl rfl (by kernel_rfl) (by kernel_rfl) (by kernel_rfl) (fun _ _ _ h => h) (Or.inr ⟨by rfl, rfl⟩) hHeld ?_
          simp only [Act.put, List.setIfInBounds_toArray, List.set_cons_zero, List.set_cons_succ]
          refine take_dst (i := 27) (d := 71) (v := .bool false) rfl rfl (by kernel_rfl) (by kernel_rfl) (by kernel_rfl) (fun _ _ _ h => h) (Or.inl ⟨by rfl, ?_⟩) hHeld ?_
          · (intro w0 hSw; (try dsimp only at hSw); go_simp)
          simp only [Act.put, List.setIfInBounds_toArray, List.set_cons_zero, List.set_cons_succ]
          refine wpAnyH_done (by kernel_rfl) ?_ _
          have HBW := hBd
          (try go_wp2_with fail)
          go_roundw
          case rel =>
            have hR : ∃ k' : Nat, (k' ≤ i ∧ (i = I → k' ≤ K)) ∧ (Value.int .i64 ((k : Int) + 1)) = .int .i64 k' ∧ Below w.heap.size w w4.drew := ⟨k + 1, ⟨by omega, HNX.out⟩, by go_num, HBW⟩
            first | exact hR | ((repeat apply Exists.intro); exact ⟨hR, rfl⟩)
          case measure => simp [intOf]; omega
        | true =>
          obtain ⟨Q, hQe⟩ : ∃ Q : Bool, decide (x.au = y.au ∧ x.rd = y.rd ∧ bsOf x.bl = bsOf y.bl ∧ bsOf x.pl = bsOf y.pl) = Q := ⟨_, rfl⟩
          have HSH : Hid (Calls Tryd.prog 25 #[.agg #[.int .i64 x.au, .int .i64 x.rd, .slice x.ba x.bl.length x.bc, .slice x.pa x.pl.length x.pc], .agg #[.int .i64 y.au, .int .i64 y.rd, .slice y.ba y.bl.length y.bc, .slice y.pa y.pl.length y.pc]] w4.drew fun e w' => e = .returned (.bool Q) ∧ Below w4.drew.heap.size w4.drew w') := by
            show Calls _ _ _ _ _
            have h := sameHeader_any x.au x.rd y.au y.rd x.ba _ x.bc x.bl x.pa _ x.pc x.pl y.ba _ y.bc y.bl y.pa _ y.pc y.pl w4.drew (HX.out w4.drew hB4.drew).head (HY.out w4.drew hB4.drew).head
            rw [hQe] at h
            exact h
          have HQE : Hid _ := hQe
          clear hQe
          cases Q with
          | true =>
            have HNX : Hid (i = I → k + 1 ≤ K) := HNX.out (fun h1 h2 => (HHIT.out h1 h2).2 (of_decide_eq_true HQE.out))
            go_upto_region 9 with fail
            have hBd := hB4.drew
            have hbd4 := hb4d
            obtain ⟨g0, g1, g2, g3⟩ := HC.out i hiL w4.drew hBd
            obtain ⟨g4, g5, g6, g7⟩ := HC.out k hkL w4.drew hBd
            rw [hxe] at g0 g1 g2 g3
            rw [hye] at g4 g5 g6 g7
            refine wp_region_held_drew (S := fun w' => w'.cell? ⟨sb, so + i * 4, none⟩ = some (.int .i64 x.au) ∧ w'.cell? ⟨sb, so + i * 4 + 1, none⟩ = some (.int .i64 x.rd) ∧ w'.cell? ⟨sb, so + i * 4 + 2, none⟩ = some (.slice x.ba x.bl.length x.bc) ∧ w'.cell? ⟨sb, so + i * 4 + 3, none⟩ = some (.slice x.pa x.pl.length x.pc) ∧ w'.cell? ⟨sb, so + k * 4, none⟩ = some (.int .i64 y.au) ∧ w'.cell? ⟨sb, so + k * 4 + 1, none⟩ = some (.int .i64 y.rd) ∧ w'.cell? ⟨sb, so + k * 4 + 2, none⟩ = some (.slice y.ba y.bl.length y.bc) ∧ w'.cell? ⟨sb, so + k * 4 + 3, none⟩ = some (.slice y.pa y.pl.length y.pc)) (by kernel_rfl) ⟨g0, g1, g2, g3, g4, g5, g6, g7⟩ (fun hHeld => ?_)
            refine take_dst (i := 0) (d := 44) (v := .int .i64 0) rfl rfl (by kernel_rfl) (by kernel_rfl) (by kernel_rfl) (fun _ _ _ h => h) (Or.inl ⟨by rfl, ?_⟩) hHeld ?_
            · (intro w0 hSw; (try dsimp only at hSw); go_simp)
            simp only [Act.put, List.setIfInBounds_toArray, List.set_cons_zero, List.set_cons_succ]
            refine take_dst (i := 1) (d := 45) (v := .bool true) rfl rfl (by kernel_rfl) (by kernel_rfl) (by kernel_rfl) (fun _ _ _ h => h) (Or.inl ⟨by rfl, ?_⟩) hHeld ?_
            · (intro w0 hSw; (try dsimp only at hSw); go_simp)
            simp only [Act.put, List.setIfInBounds_toArray, List.set_cons_zero, List.set_cons_succ]
            refine take_dst (i := 2) (d := 46) (v := .bool true) rfl rfl (by kernel_rfl) (by kernel_rfl) (by kernel_rfl) (fun _ _ _ h => h) (Or.inl ⟨by rfl, ?_⟩) hHeld ?_
            · (intro w0 hSw; (try dsimp only at hSw); go_simp)
            simp only [Act.put, List.setIfInBounds_toArray, List.set_cons_zero, List.set_cons_succ]
            refine take_dst (i := 3) (d := 47) (v := .int .i64 0) rfl rfl (by kernel_rfl) (by kernel_rfl) (by kernel_rfl) (fun _ _ _ h => h) (Or.inl ⟨by rfl, ?_⟩) hHeld ?_
            · (intro w0 hSw; (try dsimp only at hSw); go_simp)
            simp only [Act.put, List.setIfInBounds_toArray, List.set_cons_zero, List.set_cons_succ]
            refine take_dst (i := 4) (d := 48) (v := .bool true) rfl rfl (by kernel_rfl) (by kernel_rfl) (by kernel_rfl) (fun _ _ _ h => h) (Or.inl ⟨by rfl, ?_⟩) hHeld ?_
            · (intro w0 hSw; (try dsimp only at hSw); go_simp)
            simp only [Act.put, List.setIfInBounds_toArray, List.set_cons_zero, List.set_cons_succ]
            refine take_dst (i := 5) (d := 49) (v := .bool true) rfl rfl (by kernel_rfl) (by kernel_rfl) (by kernel_rfl) (fun _ _ _ h => h) (Or.inl ⟨by rfl, ?_⟩) hHeld ?_
            · (intro w0 hSw; (try dsimp only at hSw); go_simp)
            simp only [Act.put, List.setIfInBounds_toArray, List.set_cons_zero, List.set_cons_succ]
            refine take_dst (i := 6) (d := 50) (v := .bool true) rfl rfl (by kernel_rfl) (by kernel_rfl) (by kernel_rfl) (fun _ _ _ h => h) (Or.inl ⟨by rfl, ?_⟩) hHeld ?_
            · (intro w0 hSw; (try dsimp only at hSw); go_simp)
            simp only [Act.put, List.setIfInBounds_toArray, List.set_cons_zero, List.set_cons_succ]
            refine take_dst (i := 7) (d := 51) (v := .slice (some ⟨bx, 0, none⟩) 32 32) rfl rfl (by kernel_rfl) (by kernel_rfl) (by kernel_rfl) (fun _ _ _ h => h) (Or.inl ⟨by rfl, ?_⟩) hHeld ?_
            · (intro w0 hSw; (try dsimp only at hSw); go_simp)
            simp only [Act.put, List.setIfInBounds_toArray, List.set_cons_zero, List.set_cons_succ]
            refine take_dst (i := 8) (d := 52) (v := .int .i64 32) rfl rfl (by kernel_rfl) (by kernel_rfl) (by kernel_rfl) (fun _ _ _ h => h) (Or.inl ⟨by rfl, ?_⟩) hHeld ?_
            · (intro w0 hSw; (try dsimp only at hSw); go_simp)
            simp only [Act.put, List.setIfInBounds_toArray, List.set_cons_zero, List.set_cons_succ]
            refine take_dst (i := 9) (d := 53) (v := .bool true) rfl rfl (by kernel_rfl) (by kernel_rfl) (by kernel_rfl) (fun _ _ _ h => h) (Or.inl ⟨by rfl, ?_⟩) hHeld ?_
            · (intro w0 hSw; (try dsimp only at hSw); go_simp)
            simp only [Act.put, List.setIfInBounds_toArray, List.set_cons_zero, List.set_cons_succ]
            refine take_dst (i := 10) (d := 54) (v := .bool true) rfl rfl (by kernel_rfl) (by kernel_rfl) (by kernel_rfl) (fun _ _ _ h => h) (Or.inl ⟨by rfl, ?_⟩) hHeld ?_
            · (intro w0 hSw; (try dsimp only at hSw); go_simp)
            simp only [Act.put, List.setIfInBounds_toArray, List.set_cons_zero, List.set_cons_succ]
            refine take_dst (i := 11) (d := 55) (v := .bool true) rfl rfl (by kernel_rfl) (by kernel_rfl) (by kernel_rfl) (fun _ _ _ h => h) (Or.inl ⟨by rfl, ?_⟩) hHeld ?_
            · (intro w0 hSw; (try dsimp only at hSw); go_simp)
            simp only [Act.put, List.setIfInBounds_toArray, List.set_cons_zero, List.set_cons_succ]
            refine take_dst (i := 12) (d := 56) (v := .slice (some ⟨bx, 0, none⟩) 32 32) rfl rfl (by kernel_rfl) (by kernel_rfl) (by kernel_rfl) (fun _ _ _ h => h) (Or.inl ⟨by rfl, ?_⟩) hHeld ?_
            · (intro w0 hSw; (try dsimp only at hSw); go_simp)
            simp only [Act.put, List.setIfInBounds_toArray, List.set_cons_zero, List.set_cons_succ]
            refine take_dst (i := 13) (d := 57) (v := .slice (some ⟨by', 0, none⟩) 32 32) rfl rfl (by kernel_rfl) (by kernel_rfl) (by kernel_rfl) (fun _ _ _ h => h) (Or.inl ⟨by rfl, ?_⟩) hHeld ?_
            · (intro w0 hSw; (try dsimp only at hSw); go_simp)
            simp only [Act.put, List.setIfInBounds_toArray, List.set_cons_zero, List.set_cons_succ]
            refine wpAnyH_ready (rs := [14]) (by kernel_rfl) (by simp) (AllReadyH.cons rfl (fun KK hK => ?_) AllReadyH.nil)
            refine step_calls_on (by rfl) 58 rfl 12 [.tmp 56, .tmp 57] #[33, 33] rfl [.slice (some ⟨bx, 0, none⟩) 32 32, .slice (some ⟨by', 0, none⟩) 32 32] rfl (enters_of Tryd.func12 (by kernel_rfl) rfl) (fun v w' => v = .bool true ∧ w4.drew = w') (HSB.out.mono (by rintro e w' ⟨rfl, h⟩; exact ⟨_, rfl, rfl, h⟩)) ?_
            rintro v w5 ⟨rfl, rfl⟩
            refine hK.out _ _ hHeld (fun hHeld => ?_)
            simp only [Act.put, List.setIfInBounds_toArray, List.set_cons_zero, List.set_cons_succ]
            refine take_dst (i := 15) (d := 59) (v := .bool true) rfl rfl (by kernel_rfl) (by kernel_rfl) (by kernel_rfl) (fun _ _ _ h => h) (Or.inl ⟨by rfl, ?_⟩) hHeld ?_
            · (intro w0 hSw; (try dsimp only at hSw); go_simp)
            simp only [Act.put, List.setIfInBounds_toArray, List.set_cons_zero, List.set_cons_succ]
            refine take_dst (i := 16) (d := 60) (v := .bool true) rfl rfl (by kernel_rfl) (by kernel_rfl) (by kernel_rfl) (fun _ _ _ h => h) (Or.inl ⟨by rfl, ?_⟩) hHeld ?_
            · (intro w0 hSw; (try dsimp only at hSw); go_simp)
            simp only [Act.put, List.setIfInBounds_toArray, List.set_cons_zero, List.set_cons_succ]
            refine take_dst (i := 17) (d := 61) (v := .slice (some ⟨sb, so, none⟩) hs.length cap) rfl rfl (by kernel_rfl) (by kernel_rfl) (by kernel_rfl) (fun _ _ _ h => h) (Or.inl ⟨by rfl, ?_⟩) hHeld ?_
            · (intro w0 hSw; (try dsimp only at hSw); go_simp)
            simp only [Act.put, List.setIfInBounds_toArray, List.set_cons_zero, List.set_cons_succ]
            refine take_dst (i := 18) (d := 62) (v := .int .i64 (i : Int)) rfl rfl (by kernel_rfl) (by kernel_rfl) (by kernel_rfl) (fun _ _ _ h => h) (Or.inl ⟨by rfl, ?_⟩) hHeld ?_
            · (intro w0 hSw; (try dsimp only at hSw); go_simp)
            simp only [Act.put, List.setIfInBounds_toArray, List.set_cons_zero, List.set_cons_succ]
            refine take_dst (i := 19) (d := 63) (v := .pointer (some ⟨sb, so + i * 4, none⟩)) rfl rfl (by kernel_rfl) (by kernel_rfl) (by kernel_rfl) (fun _ _ _ h => h) (Or.inl ⟨by rfl, ?_⟩) hHeld ?_
            · (intro w0 hSw; (try dsimp only at hSw); go_simp)
            simp only [Act.put, List.setIfInBounds_toArray, List.set_cons_zero, List.set_cons_succ]
            refine take_dst (i := 20) (d := 64) (v := .agg #[.int .i64 x.au, .int .i64 x.rd, .slice x.ba x.bl.length x.bc, .slice x.pa x.pl.length x.pc]) rfl rfl (by kernel_rfl) (by kernel_rfl) (by kernel_rfl) (fun _ _ _ h => h) (Or.inl ⟨by rfl, ?_⟩) hHeld ?_
            · (intro w0 hSw; (try dsimp only at hSw); go_simp)
            simp only [Act.put, List.setIfInBounds_toArray, List.set_cons_zero, List.set_cons_succ]
            refine take_dst (i := 21) (d := 65) (v := .slice (some ⟨sb, so, none⟩) hs.length cap) rfl rfl (by kernel_rfl) (by kernel_rfl) (by kernel_rfl) (fun _ _ _ h => h) (Or.inl ⟨by rfl, ?_⟩) hHeld ?_
            · (intro w0 hSw; (try dsimp only at hSw); go_simp)
            simp only [Act.put, List.setIfInBounds_toArray, List.set_cons_zero, List.set_cons_succ]
            refine take_dst (i := 22) (d := 66) (v := .int .i64 (k : Int)) rfl rfl (by kernel_rfl) (by kernel_rfl) (by kernel_rfl) (fun _ _ _ h => h) (Or.inl ⟨by rfl, ?_⟩) hHeld ?_
            · (intro w0 hSw; (try dsimp only at hSw); go_simp)
            simp only [Act.put, List.setIfInBounds_toArray, List.set_cons_zero, List.set_cons_succ]
            refine take_dst (i := 23) (d := 67) (v := .pointer (some ⟨sb, so + k * 4, none⟩)) rfl rfl (by kernel_rfl) (by kernel_rfl) (by kernel_rfl) (fun _ _ _ h => h) (Or.inl ⟨by rfl, ?_⟩) hHeld ?_
            · (intro w0 hSw; (try dsimp only at hSw); go_simp)
            simp only [Act.put, List.setIfInBounds_toArray, List.set_cons_zero, List.set_cons_succ]
            refine take_dst (i := 24) (d := 68) (v := .agg #[.int .i64 y.au, .int .i64 y.rd, .slice y.ba y.bl.length y.bc, .slice y.pa y.pl.length y.pc]) rfl rfl (by kernel_rfl) (by kernel_rfl) (by kernel_rfl) (fun _ _ _ h => h) (Or.inl ⟨by rfl, ?_⟩) hHeld ?_
            · (intro w0 hSw; (try dsimp only at hSw); go_simp)
            simp only [Act.put, List.setIfInBounds_toArray, List.set_cons_zero, List.set_cons_succ]
            refine wpAnyH_ready (rs := [25]) (by kernel_rfl) (by simp) (AllReadyH.cons rfl (fun KK hK => ?_) AllReadyH.nil)
            refine step_calls_on (by rfl) 69 rfl 25 [.tmp 64, .tmp 68] #[31, 31] rfl [.agg #[.int .i64 x.au, .int .i64 x.rd, .slice x.ba x.bl.length x.bc, .slice x.pa x.pl.length x.pc], .agg #[.int .i64 y.au, .int .i64 y.rd, .slice y.ba y.bl.length y.bc, .slice y.pa y.pl.length y.pc]] rfl (enters_of Tryd.func25 (by kernel_rfl) rfl) (fun v w' => v = .bool true ∧ Below w4.drew.heap.size w4.drew w') (HSH.out.mono (by rintro e w' ⟨rfl, h⟩; exact ⟨_, rfl, rfl, h⟩)) ?_
            rintro v w6 ⟨rfl, hb6⟩
            have hB6 := hBd.trans (hb6.mono hBd.size)
            obtain ⟨g0, g1, g2, g3⟩ := HC.out i hiL w6 hB6
            obtain ⟨g4, g5, g6, g7⟩ := HC.out k hkL w6 hB6
            rw [hxe] at g0 g1 g2 g3
            rw [hye] at g4 g5 g6 g7
            refine hK.out _ _ ⟨g0, g1, g2, g3, g4, g5, g6, g7⟩ (fun hHeld => ?_)
            simp only [Act.put, List.setIfInBounds_toArray, List.set_cons_zero, List.set_cons_succ]
            refine take_dst (i := 26) (d := 70) (v := .bool false) rfl rfl (by kernel_rfl) (by kernel_rfl) (by kernel_rfl) (fun _ _ _ h => h) (Or.inl ⟨by rfl, ?_⟩) hHeld ?_
            · (intro w0 hSw; (try dsimp only at hSw); go_simp)
            simp only [Act.put, List.setIfInBounds_toArray, List.set_cons_zero, List.set_cons_succ]
            refine take_dst (i := 27) (d := 71) (v := .bool false) rfl rfl (by kernel_rfl) (by kernel_rfl) (by kernel_rfl) (fun _ _ _ h => h) (Or.inl ⟨by rfl, ?_⟩) hHeld ?_
            · (intro w0 hSw; (try dsimp only at hSw); go_simp)
            simp only [Act.put, List.setIfInBounds_toArray, List.set_cons_zero, List.set_cons_succ]
            refine wpAnyH_done (by kernel_rfl) ?_ _
            have HBW := hB6
            (try go_wp2_with fail)
            go_roundw
            case rel =>
              have hR : ∃ k' : Nat, (k' ≤ i ∧ (i = I → k' ≤ K)) ∧ (Value.int .i64 ((k : Int) + 1)) = .int .i64 k' ∧ Below w.heap.size w w6 := ⟨k + 1, ⟨by omega, HNX.out⟩, by go_num, HBW⟩
              first | exact hR | ((repeat apply Exists.intro); exact ⟨hR, rfl⟩)
            case measure => simp [intOf]; omega
          | false =>
            go_upto_region 9 with fail
            have hBd := hB4.drew
            have hbd4 := hb4d
            obtain ⟨g0, g1, g2, g3⟩ := HC.out i hiL w4.drew hBd
            obtain ⟨g4, g5, g6, g7⟩ := HC.out k hkL w4.drew hBd
            rw [hxe] at g0 g1 g2 g3
            rw [hye] at g4 g5 g6 g7
            refine wp_region_held_drew (S := fun w' => w'.cell? ⟨sb, so + i * 4, none⟩ = some (.int .i64 x.au) ∧ w'.cell? ⟨sb, so + i * 4 + 1, none⟩ = some (.int .i64 x.rd) ∧ w'.cell? ⟨sb, so + i * 4 + 2, none⟩ = some (.slice x.ba x.bl.length x.bc) ∧ w'.cell? ⟨sb, so + i * 4 + 3, none⟩ = some (.slice x.pa x.pl.length x.pc) ∧ w'.cell? ⟨sb, so + k * 4, none⟩ = some (.int .i64 y.au) ∧ w'.cell? ⟨sb, so + k * 4 + 1, none⟩ = some (.int .i64 y.rd) ∧ w'.cell? ⟨sb, so + k * 4 + 2, none⟩ = some (.slice y.ba y.bl.length y.bc) ∧ w'.cell? ⟨sb, so + k * 4 + 3, none⟩ = some (.slice y.pa y.pl.length y.pc)) (by kernel_rfl) ⟨g0, g1, g2, g3, g4, g5, g6, g7⟩ (fun hHeld => ?_)
            refine take_dst (i := 0) (d := 44) (v := .int .i64 0) rfl rfl (by kernel_rfl) (by kernel_rfl) (by kernel_rfl) (fun _ _ _ h => h) (Or.inl ⟨by rfl, ?_⟩) hHeld ?_
            · (intro w0 hSw; (try dsimp only at hSw); go_simp)
            simp only [Act.put, List.setIfInBounds_toArray, List.set_cons_zero, List.set_cons_succ]
            refine take_dst (i := 1) (d := 45) (v := .bool true) rfl rfl (by kernel_rfl) (by kernel_rfl) (by kernel_rfl) (fun _ _ _ h => h) (Or.inl ⟨by rfl, ?_⟩) hHeld ?_
            · (intro w0 hSw; (try dsimp only at hSw); go_simp)
            simp only [Act.put, List.setIfInBounds_toArray, List.set_cons_zero, List.set_cons_succ]
            refine take_dst (i := 2) (d := 46) (v := .bool true) rfl rfl (by kernel_rfl) (by kernel_rfl) (by kernel_rfl) (fun _ _ _ h => h) (Or.inl ⟨by rfl, ?_⟩) hHeld ?_
            · (intro w0 hSw; (try dsimp only at hSw); go_simp)
            simp only [Act.put, List.setIfInBounds_toArray, List.set_cons_zero, List.set_cons_succ]
            refine take_dst (i := 3) (d := 47) (v := .int .i64 0) rfl rfl (by kernel_rfl) (by kernel_rfl) (by kernel_rfl) (fun _ _ _ h => h) (Or.inl ⟨by rfl, ?_⟩) hHeld ?_
            · (intro w0 hSw; (try dsimp only at hSw); go_simp)
            simp only [Act.put, List.setIfInBounds_toArray, List.set_cons_zero, List.set_cons_succ]
            refine take_dst (i := 4) (d := 48) (v := .bool true) rfl rfl (by kernel_rfl) (by kernel_rfl) (by kernel_rfl) (fun _ _ _ h => h) (Or.inl ⟨by rfl, ?_⟩) hHeld ?_
            · (intro w0 hSw; (try dsimp only at hSw); go_simp)
            simp only [Act.put, List.setIfInBounds_toArray, List.set_cons_zero, List.set_cons_succ]
            refine take_dst (i := 5) (d := 49) (v := .bool true) rfl rfl (by kernel_rfl) (by kernel_rfl) (by kernel_rfl) (fun _ _ _ h => h) (Or.inl ⟨by rfl, ?_⟩) hHeld ?_
            · (intro w0 hSw; (try dsimp only at hSw); go_simp)
            simp only [Act.put, List.setIfInBounds_toArray, List.set_cons_zero, List.set_cons_succ]
            refine take_dst (i := 6) (d := 50) (v := .bool true) rfl rfl (by kernel_rfl) (by kernel_rfl) (by kernel_rfl) (fun _ _ _ h => h) (Or.inl ⟨by rfl, ?_⟩) hHeld ?_
            · (intro w0 hSw; (try dsimp only at hSw); go_simp)
            simp only [Act.put, List.setIfInBounds_toArray, List.set_cons_zero, List.set_cons_succ]
            refine take_dst (i := 7) (d := 51) (v := .slice (some ⟨bx, 0, none⟩) 32 32) rfl rfl (by kernel_rfl) (by kernel_rfl) (by kernel_rfl) (fun _ _ _ h => h) (Or.inl ⟨by rfl, ?_⟩) hHeld ?_
            · (intro w0 hSw; (try dsimp only at hSw); go_simp)
            simp only [Act.put, List.setIfInBounds_toArray, List.set_cons_zero, List.set_cons_succ]
            refine take_dst (i := 8) (d := 52) (v := .int .i64 32) rfl rfl (by kernel_rfl) (by kernel_rfl) (by kernel_rfl) (fun _ _ _ h => h) (Or.inl ⟨by rfl, ?_⟩) hHeld ?_
            · (intro w0 hSw; (try dsimp only at hSw); go_simp)
            simp only [Act.put, List.setIfInBounds_toArray, List.set_cons_zero, List.set_cons_succ]
            refine take_dst (i := 9) (d := 53) (v := .bool true) rfl rfl (by kernel_rfl) (by kernel_rfl) (by kernel_rfl) (fun _ _ _ h => h) (Or.inl ⟨by rfl, ?_⟩) hHeld ?_
            · (intro w0 hSw; (try dsimp only at hSw); go_simp)
            simp only [Act.put, List.setIfInBounds_toArray, List.set_cons_zero, List.set_cons_succ]
            refine take_dst (i := 10) (d := 54) (v := .bool true) rfl rfl (by kernel_rfl) (by kernel_rfl) (by kernel_rfl) (fun _ _ _ h => h) (Or.inl ⟨by rfl, ?_⟩) hHeld ?_
            · (intro w0 hSw; (try dsimp only at hSw); go_simp)
            simp only [Act.put, List.setIfInBounds_toArray, List.set_cons_zero, List.set_cons_succ]
            refine take_dst (i := 11) (d := 55) (v := .bool true) rfl rfl (by kernel_rfl) (by kernel_rfl) (by kernel_rfl) (fun _ _ _ h => h) (Or.inl ⟨by rfl, ?_⟩) hHeld ?_
            · (intro w0 hSw; (try dsimp only at hSw); go_simp)
            simp only [Act.put, List.setIfInBounds_toArray, List.set_cons_zero, List.set_cons_succ]
            refine take_dst (i := 12) (d := 56) (v := .slice (some ⟨bx, 0, none⟩) 32 32) rfl rfl (by kernel_rfl) (by kernel_rfl) (by kernel_rfl) (fun _ _ _ h => h) (Or.inl ⟨by rfl, ?_⟩) hHeld ?_
            · (intro w0 hSw; (try dsimp only at hSw); go_simp)
            simp only [Act.put, List.setIfInBounds_toArray, List.set_cons_zero, List.set_cons_succ]
            refine take_dst (i := 13) (d := 57) (v := .slice (some ⟨by', 0, none⟩) 32 32) rfl rfl (by kernel_rfl) (by kernel_rfl) (by kernel_rfl) (fun _ _ _ h => h) (Or.inl ⟨by rfl, ?_⟩) hHeld ?_
            · (intro w0 hSw; (try dsimp only at hSw); go_simp)
            simp only [Act.put, List.setIfInBounds_toArray, List.set_cons_zero, List.set_cons_succ]
            refine wpAnyH_ready (rs := [14]) (by kernel_rfl) (by simp) (AllReadyH.cons rfl (fun KK hK => ?_) AllReadyH.nil)
            refine step_calls_on (by rfl) 58 rfl 12 [.tmp 56, .tmp 57] #[33, 33] rfl [.slice (some ⟨bx, 0, none⟩) 32 32, .slice (some ⟨by', 0, none⟩) 32 32] rfl (enters_of Tryd.func12 (by kernel_rfl) rfl) (fun v w' => v = .bool true ∧ w4.drew = w') (HSB.out.mono (by rintro e w' ⟨rfl, h⟩; exact ⟨_, rfl, rfl, h⟩)) ?_
            rintro v w5 ⟨rfl, rfl⟩
            refine hK.out _ _ hHeld (fun hHeld => ?_)
            simp only [Act.put, List.setIfInBounds_toArray, List.set_cons_zero, List.set_cons_succ]
            refine take_dst (i := 15) (d := 59) (v := .bool true) rfl rfl (by kernel_rfl) (by kernel_rfl) (by kernel_rfl) (fun _ _ _ h => h) (Or.inl ⟨by rfl, ?_⟩) hHeld ?_
            · (intro w0 hSw; (try dsimp only at hSw); go_simp)
            simp only [Act.put, List.setIfInBounds_toArray, List.set_cons_zero, List.set_cons_succ]
            refine take_dst (i := 16) (d := 60) (v := .bool true) rfl rfl (by kernel_rfl) (by kernel_rfl) (by kernel_rfl) (fun _ _ _ h => h) (Or.inl ⟨by rfl, ?_⟩) hHeld ?_
            · (intro w0 hSw; (try dsimp only at hSw); go_simp)
            simp only [Act.put, List.setIfInBounds_toArray, List.set_cons_zero, List.set_cons_succ]
            refine take_dst (i := 17) (d := 61) (v := .slice (some ⟨sb, so, none⟩) hs.length cap) rfl rfl (by kernel_rfl) (by kernel_rfl) (by kernel_rfl) (fun _ _ _ h => h) (Or.inl ⟨by rfl, ?_⟩) hHeld ?_
            · (intro w0 hSw; (try dsimp only at hSw); go_simp)
            simp only [Act.put, List.setIfInBounds_toArray, List.set_cons_zero, List.set_cons_succ]
            refine take_dst (i := 18) (d := 62) (v := .int .i64 (i : Int)) rfl rfl (by kernel_rfl) (by kernel_rfl) (by kernel_rfl) (fun _ _ _ h => h) (Or.inl ⟨by rfl, ?_⟩) hHeld ?_
            · (intro w0 hSw; (try dsimp only at hSw); go_simp)
            simp only [Act.put, List.setIfInBounds_toArray, List.set_cons_zero, List.set_cons_succ]
            refine take_dst (i := 19) (d := 63) (v := .pointer (some ⟨sb, so + i * 4, none⟩)) rfl rfl (by kernel_rfl) (by kernel_rfl) (by kernel_rfl) (fun _ _ _ h => h) (Or.inl ⟨by rfl, ?_⟩) hHeld ?_
            · (intro w0 hSw; (try dsimp only at hSw); go_simp)
            simp only [Act.put, List.setIfInBounds_toArray, List.set_cons_zero, List.set_cons_succ]
            refine take_dst (i := 20) (d := 64) (v := .agg #[.int .i64 x.au, .int .i64 x.rd, .slice x.ba x.bl.length x.bc, .slice x.pa x.pl.length x.pc]) rfl rfl (by kernel_rfl) (by kernel_rfl) (by kernel_rfl) (fun _ _ _ h => h) (Or.inl ⟨by rfl, ?_⟩) hHeld ?_
            · (intro w0 hSw; (try dsimp only at hSw); go_simp)
            simp only [Act.put, List.setIfInBounds_toArray, List.set_cons_zero, List.set_cons_succ]
            refine take_dst (i := 21) (d := 65) (v := .slice (some ⟨sb, so, none⟩) hs.length cap) rfl rfl (by kernel_rfl) (by kernel_rfl) (by kernel_rfl) (fun _ _ _ h => h) (Or.inl ⟨by rfl, ?_⟩) hHeld ?_
            · (intro w0 hSw; (try dsimp only at hSw); go_simp)
            simp only [Act.put, List.setIfInBounds_toArray, List.set_cons_zero, List.set_cons_succ]
            refine take_dst (i := 22) (d := 66) (v := .int .i64 (k : Int)) rfl rfl (by kernel_rfl) (by kernel_rfl) (by kernel_rfl) (fun _ _ _ h => h) (Or.inl ⟨by rfl, ?_⟩) hHeld ?_
            · (intro w0 hSw; (try dsimp only at hSw); go_simp)
            simp only [Act.put, List.setIfInBounds_toArray, List.set_cons_zero, List.set_cons_succ]
            refine take_dst (i := 23) (d := 67) (v := .pointer (some ⟨sb, so + k * 4, none⟩)) rfl rfl (by kernel_rfl) (by kernel_rfl) (by kernel_rfl) (fun _ _ _ h => h) (Or.inl ⟨by rfl, ?_⟩) hHeld ?_
            · (intro w0 hSw; (try dsimp only at hSw); go_simp)
            simp only [Act.put, List.setIfInBounds_toArray, List.set_cons_zero, List.set_cons_succ]
            refine take_dst (i := 24) (d := 68) (v := .agg #[.int .i64 y.au, .int .i64 y.rd, .slice y.ba y.bl.length y.bc, .slice y.pa y.pl.length y.pc]) rfl rfl (by kernel_rfl) (by kernel_rfl) (by kernel_rfl) (fun _ _ _ h => h) (Or.inl ⟨by rfl, ?_⟩) hHeld ?_
            · (intro w0 hSw; (try dsimp only at hSw); go_simp)
            simp only [Act.put, List.setIfInBounds_toArray, List.set_cons_zero, List.set_cons_succ]
            refine wpAnyH_ready (rs := [25]) (by kernel_rfl) (by simp) (AllReadyH.cons rfl (fun KK hK => ?_) AllReadyH.nil)
            refine step_calls_on (by rfl) 69 rfl 25 [.tmp 64, .tmp 68] #[31, 31] rfl [.agg #[.int .i64 x.au, .int .i64 x.rd, .slice x.ba x.bl.length x.bc, .slice x.pa x.pl.length x.pc], .agg #[.int .i64 y.au, .int .i64 y.rd, .slice y.ba y.bl.length y.bc, .slice y.pa y.pl.length y.pc]] rfl (enters_of Tryd.func25 (by kernel_rfl) rfl) (fun v w' => v = .bool false ∧ Below w4.drew.heap.size w4.drew w') (HSH.out.mono (by rintro e w' ⟨rfl, h⟩; exact ⟨_, rfl, rfl, h⟩)) ?_
            rintro v w6 ⟨rfl, hb6⟩
            have hB6 := hBd.trans (hb6.mono hBd.size)
            obtain ⟨g0, g1, g2, g3⟩ := HC.out i hiL w6 hB6
            obtain ⟨g4, g5, g6, g7⟩ := HC.out k hkL w6 hB6
            rw [hxe] at g0 g1 g2 g3
            rw [hye] at g4 g5 g6 g7
            refine hK.out _ _ ⟨g0, g1, g2, g3, g4, g5, g6, g7⟩ (fun hHeld => ?_)
            simp only [Act.put, List.setIfInBounds_toArray, List.set_cons_zero, List.set_cons_succ]
            refine take_dst (i := 26) (d := 70) (v := .bool true) rfl rfl (by kernel_rfl) (by kernel_rfl) (by kernel_rfl) (fun _ _ _ h => h) (Or.inl ⟨by rfl, ?_⟩) hHeld ?_
            · (intro w0 hSw; (try dsimp only at hSw); go_simp)
            simp only [Act.put, List.setIfInBounds_toArray, List.set_cons_zero, List.set_cons_succ]
            refine take_dst (i := 27) (d := 71) (v := .bool true) rfl rfl (by kernel_rfl) (by kernel_rfl) (by kernel_rfl) (fun _ _ _ h => h) (Or.inl ⟨by rfl, ?_⟩) hHeld ?_
            · (intro w0 hSw; (try dsimp only at hSw); go_simp)
            simp only [Act.put, List.setIfInBounds_toArray, List.set_cons_zero, List.set_cons_succ]
            refine wpAnyH_done (by kernel_rfl) ?_ _
            (try go_wp2_with fail)
            go_ret
            exact ⟨rfl, hB6⟩
      · obtain rfl : k = i := by omega
        have hltI : ¬ (k : Int) < k := by omega
        have hne : k ≠ I := fun h => by have := HKK.out h; have := HKI.out; omega
        go_wp2_with fail
        go_roundw
        case rel =>
          have hR : ∃ i' : Nat, i' ≤ I ∧ (Value.int .i64 ((k : Int) + 1)) = .int .i64 i' ∧ Below w.heap.size w wr := ⟨k + 1, by omega, by go_num, hb0⟩
          first | exact hR | ((repeat apply Exists.intro); exact ⟨hR, rfl⟩)
        case measure => simp [intOf]; omega
end Go.Proofs.YtlpaghkofljnfaaDoor
