/- sheaveskeep.same: two slices of the same bytes are the same. -/
import Derived.Test.YthpocgndgphedaaStrsAt
import Derived.Test.YthpocgndgphedaaApp
import Derived.Test.YthpocgndgphedaaSx
import Derived.Test.YthpocgndgphedaaRecoverOddM12
import Derived.Deep.RegionHeld3
import Derived.Test.YthpocgndgphedaaLAt
import Derived.Test.YthpocgndgphedaaCalls
import Derived.Test.YthpocgndgphedaaRecoverOddM6
import Derived.Test.YthpocgndgphedaaIntsL
namespace Go.Proofs.Ythpocgndgphedaa
open Go.RowKit

set_option maxRecDepth 100000 in
set_option maxHeartbeats 1000000 in
theorem sameTexts_any (xs ys : List ByteArray) (sa sb : Option Addr) (n m c d : Nat) (w : World) (hn : n = xs.length) (hm : m = ys.length) (hx : n ≤ 1000) (hy : m ≤ 1000) (ha : StrsAt w sa xs) (hb : StrsAt w sb ys) :
    Calls Try.prog 37 #[.slice sa n c, .slice sb m d] w fun e w' => e = .returned (.bool (decide (xs = ys))) ∧ Below w.heap.size w w' := by
  subst hn hm
  by_cases hl : xs.length = ys.length
  · have hF : Hid (xs.length = ys.length) := hl
    rw [← hl]
    go_enter Try.func37, Try.ntmps37
    go_wp2_with fail
    go_loopw [5] (fun j wr => ∃ k : Nat, k ≤ xs.length ∧ j = .int .i64 k ∧ Hid (xs.take k = ys.take k) ∧ Below w.heap.size w wr) (fun j _ => xs.length - (intOf j).toNat)
    case atStart => exact ⟨0, Nat.zero_le _, rfl, by show _ = _; simp, Below.refl _ _⟩
    case round =>
      obtain ⟨k, hk, rfl, hst, hbw⟩ := hrel
      by_cases hlt : k < xs.length
      · obtain ⟨ab, ao, rfl, hca⟩ : ∃ ab ao, sa = some ⟨ab, ao, none⟩ ∧ ∀ j, j < xs.length → w.cell? ⟨ab, ao + j, none⟩ = some (.string (xs.getD j ByteArray.empty)) := by
          rcases ha.cells with h | h
          · rw [h] at hlt; simp at hlt
          · exact h
        obtain ⟨bb, bo, rfl, hcb⟩ : ∃ bb bo, sb = some ⟨bb, bo, none⟩ ∧ ∀ j, j < ys.length → w.cell? ⟨bb, bo + j, none⟩ = some (.string (ys.getD j ByteArray.empty)) := by
          rcases hb.cells with h | h
          · have := hF.out; rw [h] at this; simp at this; simp [this] at hlt
          · exact h
        have hlt2 : k < ys.length := by have := hF.out; omega
        have ka := (hbw.cell (p := ⟨ab, ao + k, none⟩) (block_lt_of_cell (hca k hlt))).trans (hca k hlt)
        have kb := (hbw.cell (p := ⟨bb, bo + k, none⟩) (block_lt_of_cell (hcb k hlt2))).trans (hcb k hlt2)
        have hltI : (k : Int) < xs.length := by omega
        have h0 : (0 : Int) ≤ k := by omega
        clear hca hcb
        have hsx : Hid (xs.take (k + 1) = xs.take k ++ [xs.getD k ByteArray.empty]) := by show _ = _; rw [List.take_succ_eq_append_getElem hlt]; simp [List.getD, hlt]
        have hsy : Hid (ys.take (k + 1) = ys.take k ++ [ys.getD k ByteArray.empty]) := by show _ = _; rw [List.take_succ_eq_append_getElem hlt2]; simp [List.getD, hlt2]
        generalize xs.getD k ByteArray.empty = x at ka hsx
        generalize ys.getD k ByteArray.empty = y at kb hsy
        by_cases he : x.toList = y.toList
        · have hxy : Hid (x = y) := ba_ext he
          have heb : (x.toList == y.toList) = true := by simp [he]
          clear he
          go_wp2_with fail
          go_region_held3 (fun w' => w'.cell? ⟨ab, ao + k, none⟩ = some (.string x) ∧ w'.cell? ⟨bb, bo + k, none⟩ = some (.string y)) (go_keep) (fail)
          all_goals
            go_wp2_with fail
            go_roundw
            case rel =>
              have hR : ∃ k' : Nat, k' ≤ xs.length ∧ (Value.int .i64 ((k : Int) + 1)) = .int .i64 k' ∧ Hid (xs.take k' = ys.take k') ∧ Below w.heap.size w wr.drew := ⟨k + 1, by omega, by go_num, by show _ = _; rw [hsx.out, hsy.out, hst.out, hxy.out], hbw.drew⟩
              first | exact hR | ((repeat apply Exists.intro); exact ⟨hR, rfl⟩)
            case measure => simp [intOf]; omega
        · have hxy : Hid (¬ x = y) := fun e => he (by rw [e])
          have heb : (x.toList == y.toList) = false := by simp [he]
          clear he
          go_wp2_with fail
          go_region_held3 (fun w' => w'.cell? ⟨ab, ao + k, none⟩ = some (.string x) ∧ w'.cell? ⟨bb, bo + k, none⟩ = some (.string y)) (go_keep) (fail)
          all_goals
            go_wp2_with fail
            go_ret
            refine ⟨ret_bool (decide_eq_false fun e => hxy.out ?_).symm, hbw.drew⟩
            have h1 := hsx.out
            have h2 := hsy.out
            rw [e, h2] at h1
            have h3 := List.append_cancel_left h1
            simp only [List.cons.injEq, and_true] at h3
            first | exact h3 | exact h3.symm
      · obtain rfl : k = xs.length := by omega
        have hltI : ¬ (xs.length : Int) < xs.length := by omega
        have heq : Hid (xs = ys) := by
          have h1 := hst.out
          rw [List.take_of_length_le (Nat.le_refl _), List.take_of_length_le (by have := hF.out; omega)] at h1
          exact h1
        go_wp2_with fail
        go_ret
        exact ⟨ret_bool (decide_eq_true heq.out).symm, hbw⟩
  · have hlI : ¬ (xs.length : Int) = ys.length := by omega
    have hF : Hid (¬ xs = ys) := fun e => hl (by rw [e])
    have hlb : ((xs.length : Int) == (ys.length : Int)) = false := beq_eq_false_iff_ne.2 hlI
    go_enter Try.func37, Try.ntmps37
    go_wp2_with fail
    go_ret
    exact ⟨ret_bool (decide_eq_false hF.out).symm, Below.refl _ _⟩
end Go.Proofs.Ythpocgndgphedaa

namespace Go.Proofs.Ythpocgndgphedaa
open Go.RowKit

set_option maxRecDepth 100000 in
set_option maxHeartbeats 1000000 in
theorem sameBatch_any (au nu au' nu' : Int) (xs ys : List ByteArray) (sa sb : Option Addr) (n m c d : Nat) (w : World) (hn : n = xs.length) (hm : m = ys.length) (hx : n ≤ 1000) (hy : m ≤ 1000) (ha : StrsAt w sa xs) (hb : StrsAt w sb ys) :
    Calls Try.prog 25 #[.agg #[.int .i64 au, .int .i64 nu, .slice sa n c], .agg #[.int .i64 au', .int .i64 nu', .slice sb m d]] w fun e w' => e = .returned (.bool (decide (au = au' ∧ nu = nu' ∧ xs = ys))) ∧ Below w.heap.size w w' := by
  have hA : Below w.heap.size w ((w.alloc (.cells #[.int .i64 au, .int .i64 nu, .slice sa n c] 37)).alloc (.cells #[.int .i64 au', .int .i64 nu', .slice sb m d] 37)) := ((Below.refl _ _).alloc (Nat.le_refl _) _).alloc (by simp) _
  have hT := sameTexts_any xs ys sa sb n m c d _ hn hm hx hy (ha.below hA) (hb.below hA)
  clear hn hm hx hy
  by_cases h1 : au = au'
  · subst h1
    by_cases h2 : nu = nu'
    · subst h2
      have hF : Hid (decide (au = au ∧ nu = nu ∧ xs = ys) = decide (xs = ys)) := by show _ = _; simp
      generalize decide (xs = ys) = r at *
      generalize decide (au = au ∧ nu = nu ∧ xs = ys) = r' at *
      go_enter Try.func25, Try.ntmps25
      go_wp2_with fail
      refine hT.mono ?_
      rintro e w1 ⟨he, hb1⟩
      subst he
      dsimp only
      go_wp2_with fail
      go_ret
      exact ⟨ret_bool hF.out.symm, below_alloc (below_alloc hb1)⟩
    · have hF : Hid (decide (au = au ∧ nu = nu' ∧ xs = ys) = false) := by show _ = _; simp [h2]
      have h2b : (nu == nu') = false := by simpa using h2
      go_enter Try.func25, Try.ntmps25
      go_wp2_with fail
      go_ret
      exact ⟨by first | rfl | exact ret_bool hF.out.symm, hA⟩
  · have hF : Hid (decide (au = au' ∧ nu = nu' ∧ xs = ys) = false) := by show _ = _; simp [h1]
    have h1b : (au == au') = false := by simpa using h1
    go_enter Try.func25, Try.ntmps25
    go_wp2_with fail
    go_ret
    exact ⟨by first | rfl | exact ret_bool hF.out.symm, hA⟩
set_option maxRecDepth 100000 in
set_option maxHeartbeats 400000 in
theorem same_any (xs ys : List Int) (sa sb : Option Addr) (n m c d : Nat) (w : World) (hn : n = xs.length) (hm : m = ys.length) (ha : SliceAt w sa c xs) (hb : SliceAt w sb d ys) (hx : ∀ x ∈ xs, 0 ≤ x ∧ x ≤ 255) (hy : ∀ x ∈ ys, 0 ≤ x ∧ x ≤ 255) :
    Calls Try.prog 17 #[.slice sa n c, .slice sb m d] w fun e w' => e = .returned (.bool (decide (xs = ys))) ∧ w = w' := by
  have h1 := run_text w sa n c xs hn ha
  have h2 := run_text w sb m d ys hm hb
  have hF : Hid (((bstr xs).toList == (bstr ys).toList) = decide (xs = ys)) := by
    show _ = _
    by_cases h : xs = ys
    · simp [h]
    · rw [decide_eq_false h, beq_eq_false_iff_ne]
      exact fun e => h (bstr_inj hx hy (ba_ext e))
  clear hn hm ha hb hx hy
  generalize bstr xs = A at *
  generalize bstr ys = B at *
  go_enter Try.func17, Try.ntmps17
  go_wp2_with fail
  go_ret
  exact ⟨ret_bool (by rw [← hF.out]), rfl⟩
end Go.Proofs.Ythpocgndgphedaa

namespace Go.Proofs.Ythpocgndgphedaa
open Go.RowKit

def bsOf (ps : List Part) : List (List Int) := ps.map (·.bs)
set_option maxRecDepth 100000 in
set_option maxHeartbeats 1000000 in
theorem sameLists_any (ps qs : List Part) (sa sb : Option Addr) (n m c d : Nat) (w : World) (hn : n = ps.length) (hm : m = qs.length) (hx : n ≤ 1000) (hy : m ≤ 1000) (ha : ListAt w sa c ps) (hb : ListAt w sb d qs) (hu : ∀ p ∈ ps, ∀ x ∈ p.bs, 0 ≤ x ∧ x ≤ 255) (hv : ∀ p ∈ qs, ∀ x ∈ p.bs, 0 ≤ x ∧ x ≤ 255) :
    Calls Try.prog 38 #[.slice sa n c, .slice sb m d] w fun e w' => e = .returned (.bool (decide (bsOf ps = bsOf qs))) ∧ Below w.heap.size w w' := by
  subst hn hm
  by_cases hl : ps.length = qs.length
  · have hF : Hid (ps.length = qs.length) := hl
    have HU : Hid _ := hu
    have HV : Hid _ := hv
    rw [← hl]
    clear hu hv hl
    go_enter Try.func38, Try.ntmps38
    go_wp2_with fail
    go_loopw [5] (fun j wr => ∃ k : Nat, k ≤ ps.length ∧ j = .int .i64 k ∧ Hid (bsOf (ps.take k) = bsOf (qs.take k)) ∧ Below w.heap.size w wr) (fun j _ => ps.length - (intOf j).toNat)
    case atStart => exact ⟨0, Nat.zero_le _, rfl, by show _ = _; simp, Below.refl _ _⟩
    case round =>
      obtain ⟨k, hk, rfl, hst, hbw⟩ := hrel
      by_cases hlt : k < ps.length
      · have hlt2 : k < qs.length := by have := hF.out; omega
        obtain ⟨ab, ao, rfl, hca⟩ : ∃ ab ao, sa = some ⟨ab, ao, none⟩ ∧ ∀ j (h : j < ps.length), w.cell? ⟨ab, ao + j, none⟩ = some (.slice (ps[j]).sa (ps[j]).bs.length (ps[j]).cap) := by
          rcases ha.parts.cells with h | h
          · subst h; simp at hlt
          · exact h
        obtain ⟨bb, bo, rfl, hcb⟩ : ∃ bb bo, sb = some ⟨bb, bo, none⟩ ∧ ∀ j (h : j < qs.length), w.cell? ⟨bb, bo + j, none⟩ = some (.slice (qs[j]).sa (qs[j]).bs.length (qs[j]).cap) := by
          rcases hb.parts.cells with h | h
          · subst h; simp at hlt2
          · exact h
        have ka := (hbw.cell (p := ⟨ab, ao + k, none⟩) (block_lt_of_cell (hca k hlt))).trans (hca k hlt)
        have kb := (hbw.cell (p := ⟨bb, bo + k, none⟩) (block_lt_of_cell (hcb k hlt2))).trans (hcb k hlt2)
        have hpa := (ha.parts.each ps[k] (List.getElem_mem hlt)).below hbw
        have hpb := (hb.parts.each qs[k] (List.getElem_mem hlt2)).below hbw
        have hua := HU.out ps[k] (List.getElem_mem hlt)
        have hub := HV.out qs[k] (List.getElem_mem hlt2)
        have hltI : (k : Int) < ps.length := by omega
        have h0 : (0 : Int) ≤ k := by omega
        clear hca hcb
        have hsx : Hid (bsOf (ps.take (k + 1)) = bsOf (ps.take k) ++ [(ps[k]).bs]) := by show _ = _; rw [bsOf, List.take_succ_eq_append_getElem hlt, List.map_append]; rfl
        have hsy : Hid (bsOf (qs.take (k + 1)) = bsOf (qs.take k) ++ [(qs[k]).bs]) := by show _ = _; rw [bsOf, List.take_succ_eq_append_getElem hlt2, List.map_append]; rfl
        generalize ps[k] = p at *
        generalize qs[k] = q at *
        have hS : ∀ wx, Below wr.heap.size wr wx → Calls Try.prog 17 #[.slice p.sa p.bs.length p.cap, .slice q.sa q.bs.length q.cap] wx fun e w' => e = .returned (.bool (decide (p.bs = q.bs))) ∧ wx = w' := fun wx hbx => same_any p.bs q.bs p.sa q.sa _ _ p.cap q.cap wx rfl rfl (hpa.below hbx) (hpb.below hbx) hua hub
        have HS : Hid _ := hS
        clear hS hua hub
        by_cases he : p.bs = q.bs
        · have hxy : Hid (p.bs = q.bs) := he
          rw [decide_eq_true he] at HS
          clear he
          go_wp2_with fail
          go_region_held3 (fun w' => w'.cell? ⟨ab, ao + k, none⟩ = some (.slice p.sa p.bs.length p.cap) ∧ w'.cell? ⟨bb, bo + k, none⟩ = some (.slice q.sa q.bs.length q.cap)) (go_keep) ((go_at_call 17; refine (HS.out _ ?_).mono ?_; exact (Below.refl _ _).drew; rintro e w8 ⟨rfl, rfl⟩))
          all_goals
            go_wp2_with fail
            go_roundw
            case rel =>
              have hR : ∃ k' : Nat, k' ≤ ps.length ∧ (Value.int .i64 ((k : Int) + 1)) = .int .i64 k' ∧ Hid (bsOf (ps.take k') = bsOf (qs.take k')) ∧ Below w.heap.size w wr.drew := ⟨k + 1, by omega, by go_num, by show _ = _; rw [hsx.out, hsy.out, hst.out, hxy.out], hbw.drew⟩
              first | exact hR | ((repeat apply Exists.intro); exact ⟨hR, rfl⟩)
            case measure => simp [intOf]; omega
        · have hxy : Hid (¬ p.bs = q.bs) := he
          rw [decide_eq_false he] at HS
          clear he
          go_wp2_with fail
          go_region_held3 (fun w' => w'.cell? ⟨ab, ao + k, none⟩ = some (.slice p.sa p.bs.length p.cap) ∧ w'.cell? ⟨bb, bo + k, none⟩ = some (.slice q.sa q.bs.length q.cap)) (go_keep) ((go_at_call 17; refine (HS.out _ ?_).mono ?_; exact (Below.refl _ _).drew; rintro e w8 ⟨rfl, rfl⟩))
          all_goals
            go_wp2_with fail
            go_ret
            refine ⟨ret_bool (decide_eq_false fun e => hxy.out ?_).symm, hbw.drew⟩
            have h1 := hsx.out
            have h2 := hsy.out
            have h3 : bsOf (ps.take (k + 1)) = bsOf (qs.take (k + 1)) := by
              have e' : (bsOf ps).take (k + 1) = (bsOf qs).take (k + 1) := by rw [e]
              simpa [bsOf, List.map_take] using e'
            rw [h1, h2, hst.out] at h3
            have h4 := List.append_cancel_left h3
            simpa using h4
      · obtain rfl : k = ps.length := by omega
        have hltI : ¬ (ps.length : Int) < ps.length := by omega
        have heq : Hid (bsOf ps = bsOf qs) := by
          have h1 := hst.out
          rw [List.take_of_length_le (Nat.le_refl _), List.take_of_length_le (by have := hF.out; omega)] at h1
          exact h1
        go_wp2_with fail
        go_ret
        exact ⟨ret_bool (decide_eq_true heq.out).symm, hbw⟩
  · have hlI : ¬ (ps.length : Int) = qs.length := by omega
    have hF : Hid (¬ bsOf ps = bsOf qs) := fun e => hl (by have := congrArg List.length e; simpa [bsOf] using this)
    have hlb : ((ps.length : Int) == (qs.length : Int)) = false := beq_eq_false_iff_ne.2 hlI
    clear hu hv
    go_enter Try.func38, Try.ntmps38
    go_wp2_with fail
    go_ret
    exact ⟨ret_bool (decide_eq_false hF.out).symm, Below.refl _ _⟩
/-- The lists of a header, read in some world. -/
structure HeadAt (w : World) (ba : Option Addr) (bn bc : Nat) (bl : List Part) (pa : Option Addr) (pn pc : Nat) (pl : List Part) : Prop where
  eb : bn = bl.length
  ep : pn = pl.length
  b3 : bn ≤ 1000
  p4 : pn ≤ 1000
  bat : ListAt w ba bc bl
  par : ListAt w pa pc pl
  bu : ∀ p ∈ bl, ∀ x ∈ p.bs, 0 ≤ x ∧ x ≤ 255
  pu : ∀ p ∈ pl, ∀ x ∈ p.bs, 0 ≤ x ∧ x ≤ 255
set_option maxRecDepth 100000 in
theorem HeadAt.below {w w' : World} {ba : Option Addr} {bn bc : Nat} {bl : List Part} {pa : Option Addr} {pn pc : Nat} {pl : List Part} (h : HeadAt w ba bn bc bl pa pn pc pl) (hb : Below w.heap.size w w') : HeadAt w' ba bn bc bl pa pn pc pl := ⟨h.eb, h.ep, h.b3, h.p4, h.bat.below hb, h.par.below hb, h.bu, h.pu⟩
set_option maxRecDepth 100000 in
set_option maxHeartbeats 1000000 in
theorem sameHeader_any (au rd au' rd' : Int) (ba : Option Addr) (bn bc : Nat) (bl : List Part) (pa : Option Addr) (pn pc : Nat) (pl : List Part) (ba' : Option Addr) (bn' bc' : Nat) (bl' : List Part) (pa' : Option Addr) (pn' pc' : Nat) (pl' : List Part) (w : World) (ha : HeadAt w ba bn bc bl pa pn pc pl) (hb : HeadAt w ba' bn' bc' bl' pa' pn' pc' pl') :
    Calls Try.prog 26 #[.agg #[.int .i64 au, .int .i64 rd, .slice ba bn bc, .slice pa pn pc], .agg #[.int .i64 au', .int .i64 rd', .slice ba' bn' bc', .slice pa' pn' pc']] w fun e w' => e = .returned (.bool (decide (au = au' ∧ rd = rd' ∧ bsOf bl = bsOf bl' ∧ bsOf pl = bsOf pl'))) ∧ Below w.heap.size w w' := by
  have hA : Below w.heap.size w ((w.alloc (.cells #[.int .i64 au, .int .i64 rd, .slice ba bn bc, .slice pa pn pc] 40)).alloc (.cells #[.int .i64 au', .int .i64 rd', .slice ba' bn' bc', .slice pa' pn' pc'] 40)) := ((Below.refl _ _).alloc (Nat.le_refl _) _).alloc (by simp) _
  have hB : ∀ wx, Below w.heap.size w wx → Calls Try.prog 38 #[.slice ba bn bc, .slice ba' bn' bc'] wx fun e w' => e = .returned (.bool (decide (bsOf bl = bsOf bl'))) ∧ Below wx.heap.size wx w' := fun wx h => sameLists_any bl bl' ba ba' bn bn' bc bc' wx ha.eb hb.eb ha.b3 hb.b3 (ha.bat.below h) (hb.bat.below h) ha.bu hb.bu
  have hP : ∀ wx, Below w.heap.size w wx → Calls Try.prog 38 #[.slice pa pn pc, .slice pa' pn' pc'] wx fun e w' => e = .returned (.bool (decide (bsOf pl = bsOf pl'))) ∧ Below wx.heap.size wx w' := fun wx h => sameLists_any pl pl' pa pa' pn pn' pc pc' wx ha.ep hb.ep ha.p4 hb.p4 (ha.par.below h) (hb.par.below h) ha.pu hb.pu
  have HB : Hid _ := hB
  have HP : Hid _ := hP
  clear hB hP ha hb
  have hF : Hid (decide (au = au' ∧ rd = rd' ∧ bsOf bl = bsOf bl' ∧ bsOf pl = bsOf pl') = (decide (au = au' ∧ rd = rd') && decide (bsOf bl = bsOf bl') && decide (bsOf pl = bsOf pl'))) := by
    show _ = _
    by_cases h1 : au = au' <;> by_cases h2 : rd = rd' <;> by_cases h3 : bsOf bl = bsOf bl' <;> simp [h1, h2, h3]
  generalize decide (bsOf bl = bsOf bl') = x at *
  generalize decide (bsOf pl = bsOf pl') = y at *
  generalize decide (au = au' ∧ rd = rd' ∧ bsOf bl = bsOf bl' ∧ bsOf pl = bsOf pl') = z at *
  by_cases h1 : au = au'
  · subst h1
    by_cases h2 : rd = rd'
    · subst h2
      have hz : Hid (z = (x && y)) := by have := hF.out; show _ = _; simpa using this
      clear hF
      cases x
      · go_enter Try.func26, Try.ntmps26
        go_wp2_with fail
        refine (HB.out _ hA).mono ?_
        rintro e w1 ⟨rfl, hb1⟩
        go_wp2_with fail
        go_ret
        exact ⟨ret_bool (by rw [hz.out]; rfl), below_alloc (below_alloc hb1)⟩
      · go_enter Try.func26, Try.ntmps26
        go_wp2_with fail
        refine (HB.out _ hA).mono ?_
        rintro e w1 ⟨rfl, hb1⟩
        have r1 := row_new hb1
        have r0 := row_new (below_alloc hb1)
        rw [size_alloc] at r1
        replace hb1 := below_alloc (below_alloc hb1)
        have c3 : w1.cell? ⟨w.heap.size, 3, none⟩ = some (.slice pa pn pc) := cells_at r0 3 _ rfl
        have d3 : w1.cell? ⟨w.heap.size + 1, 3, none⟩ = some (.slice pa' pn' pc') := cells_at r1 3 _ rfl
        go_wp2_with fail
        refine (HP.out _ hb1).mono ?_
        rintro e w2 ⟨rfl, hb2⟩
        go_wp2_with fail
        go_ret
        exact ⟨ret_bool (by rw [hz.out]; simp), hb1.trans (hb2.mono hb1.size)⟩
    · have hz : Hid (z = false) := by have := hF.out; show _ = _; simpa [h2] using this
      clear hF
      have h2b : (rd == rd') = false := by simpa using h2
      go_enter Try.func26, Try.ntmps26
      go_wp2_with fail
      go_ret
      exact ⟨ret_bool hz.out.symm, hA⟩
  · have hz : Hid (z = false) := by have := hF.out; show _ = _; simpa [h1] using this
    clear hF
    have h1b : (au == au') = false := by simpa using h1
    go_enter Try.func26, Try.ntmps26
    go_wp2_with fail
    go_ret
    exact ⟨ret_bool hz.out.symm, hA⟩
end Go.Proofs.Ythpocgndgphedaa

namespace Go.Proofs.Ythpocgndgphedaa
open Go.RowKit

/-- Lists of the same bytes. -/
structure SameU (ps qs : List Part) : Prop where
  same : Same ps qs
  u8 : ∀ p ∈ qs, ∀ x ∈ p.bs, 0 ≤ x ∧ x ≤ 255
  le : qs.length ≤ 1000
set_option maxRecDepth 100000 in
theorem SameU.length {ps qs : List Part} (h : SameU ps qs) : ps.length = qs.length := h.same.length
set_option maxRecDepth 100000 in
theorem SameU.u8' {ps qs : List Part} (h : SameU ps qs) : ∀ p ∈ ps, ∀ x ∈ p.bs, 0 ≤ x ∧ x ≤ 255 := by
  intro p hp x hx
  have h1 : p.bs ∈ ps.map (·.bs) := List.mem_map_of_mem hp
  have h2 : ps.map (·.bs) = qs.map (·.bs) := h.same
  rw [h2] at h1
  obtain ⟨q, hq, e⟩ := List.mem_map.1 h1
  have e' : q.bs = p.bs := e
  rw [← e'] at hx
  exact h.u8 q hq x hx
set_option maxRecDepth 100000 in
theorem sameHeaderK_eq (au rd : Int) (xa : Option Addr) (xc : Nat) (xl : List Part) (ya : Option Addr) (yc : Nat) (yl : List Part) (ba : Option Addr) (bc : Nat) (bl : List Part) (pa : Option Addr) (pc : Nat) (pl : List Part) (w : World) (s1 : SameU xl bl) (s2 : SameU yl pl) (h1 : ListAt w xa xc xl) (h2 : ListAt w ya yc yl) (h3 : ListAt w ba bc bl) (h4 : ListAt w pa pc pl) :
    Calls Try.prog 26 #[.agg #[.int .i64 au, .int .i64 rd, .slice xa bl.length xc, .slice ya pl.length yc], .agg #[.int .i64 au, .int .i64 rd, .slice ba bl.length bc, .slice pa pl.length pc]] w fun e w' => e = .returned (.bool true) ∧ Below w.heap.size w w' := by
  have h := sameHeader_any au rd au rd xa bl.length xc xl ya pl.length yc yl ba bl.length bc bl pa pl.length pc pl w ⟨s1.length.symm, s2.length.symm, s1.le, s2.le, h1, h2, s1.u8', s2.u8'⟩ ⟨rfl, rfl, s1.le, s2.le, h3, h4, s1.u8, s2.u8⟩
  have hd : decide (au = au ∧ rd = rd ∧ bsOf xl = bsOf bl ∧ bsOf yl = bsOf pl) = true := decide_eq_true ⟨rfl, rfl, s1.same, s2.same⟩
  rw [hd] at h
  exact h
end Go.Proofs.Ythpocgndgphedaa

namespace Go.Proofs.Ythpocgndgphedaa
open Go.RowKit

set_option maxRecDepth 100000 in
set_option maxHeartbeats 1000000 in
theorem sameIntsK_eq (vl : List Int) (sa sb : Option Addr) (c d : Nat) (w : World) (hl : vl.length ≤ 9000000000000000000) (ha : IntsAt w sa vl) (hb : IntsAt w sb vl) :
    Calls Try.prog 39 #[.slice sa vl.length c, .slice sb vl.length d] w fun e w' => e = .returned (.bool true) ∧ Below w.heap.size w w' := by
  go_enter Try.func39, Try.ntmps39
  go_wp2_with fail
  go_loopw [5] (fun j wr => ∃ k : Nat, k ≤ vl.length ∧ j = .int .i64 k ∧ Below w.heap.size w wr) (fun j _ => vl.length - (intOf j).toNat)
  case atStart => exact ⟨0, Nat.zero_le _, rfl, Below.refl _ _⟩
  case round =>
    obtain ⟨k, hk, rfl, hbw⟩ := hrel
    by_cases hlt2 : k < vl.length
    · obtain ⟨ab, ao, rfl, hca⟩ : ∃ ab ao, sa = some ⟨ab, ao, none⟩ ∧ ∀ j, j < vl.length → wr.cell? ⟨ab, ao + j, none⟩ = some (.int .i64 (vl.getD j 0)) := by
        rcases (ha.below hbw).cells with h | h
        · subst h; simp at hlt2
        · exact h
      obtain ⟨bb, bo, rfl, hcb⟩ : ∃ bb bo, sb = some ⟨bb, bo, none⟩ ∧ ∀ j, j < vl.length → wr.cell? ⟨bb, bo + j, none⟩ = some (.int .i64 (vl.getD j 0)) := by
        rcases (hb.below hbw).cells with h | h
        · subst h; simp at hlt2
        · exact h
      have ka := hca k hlt2
      have kb := hcb k hlt2
      have hltI : (k : Int) < vl.length := by omega
      have h0 : (0 : Int) ≤ k := by omega
      clear hca hcb
      generalize vl.getD k 0 = x at *
      go_wp2_with fail
      go_region
      all_goals
        go_wp2_with fail
        go_roundw
        case rel =>
          have hR : ∃ k' : Nat, k' ≤ vl.length ∧ (Value.int .i64 ((k : Int) + 1)) = .int .i64 k' ∧ Below w.heap.size w wr.drew := ⟨k + 1, by omega, by go_num, hbw.drew⟩
          first | exact hR | ((repeat apply Exists.intro); exact ⟨hR, rfl⟩)
        case measure => simp [intOf]; omega
    · obtain rfl : k = vl.length := by omega
      have hltI : ¬ (vl.length : Int) < vl.length := by omega
      go_wp2_with fail
      go_ret
      exact ⟨rfl, hbw⟩
set_option maxRecDepth 100000 in
set_option maxHeartbeats 1000000 in
theorem sameCertK_eq (au rd : Int) (xa : Option Addr) (xc : Nat) (xl : List Part) (ya : Option Addr) (yc : Nat) (yl : List Part) (za : Option Addr) (zc : Nat) (zl : List Int) (ba : Option Addr) (bc : Nat) (bl : List Part) (pa : Option Addr) (pc : Nat) (pl : List Part) (va : Option Addr) (vc : Nat) (w : World) (S1 : SameU xl bl) (S2 : SameU yl pl) (hl : zl.length ≤ 9000000000000000000) (a1 : ListAt w xa xc xl) (a2 : ListAt w ya yc yl) (a3 : IntsAt w za zl) (b1 : ListAt w ba bc bl) (b2 : ListAt w pa pc pl) (b3 : IntsAt w va zl) :
    Calls Try.prog 28 #[.agg #[.int .i64 au, .int .i64 rd, .slice xa xl.length xc, .slice ya yl.length yc, .slice za zl.length zc], .agg #[.int .i64 au, .int .i64 rd, .slice ba bl.length bc, .slice pa pl.length pc, .slice va zl.length vc]] w fun e w' => e = .returned (.bool true) ∧ Below w.heap.size w w' := by
  rw [S1.length, S2.length]
  have hA : Below w.heap.size w ((w.alloc (.cells #[.int .i64 au, .int .i64 rd, .slice xa bl.length xc, .slice ya pl.length yc, .slice za zl.length zc] 45)).alloc (.cells #[.int .i64 au, .int .i64 rd, .slice ba bl.length bc, .slice pa pl.length pc, .slice va zl.length vc] 45)) := ((Below.refl _ _).alloc (Nat.le_refl _) _).alloc (by rw [size_alloc]; omega) _
  have q0 := heap_alloc2_old w (.cells #[.int .i64 au, .int .i64 rd, .slice xa bl.length xc, .slice ya pl.length yc, .slice za zl.length zc] 45) (.cells #[.int .i64 au, .int .i64 rd, .slice ba bl.length bc, .slice pa pl.length pc, .slice va zl.length vc] 45)
  have q1 : ((w.alloc (.cells #[.int .i64 au, .int .i64 rd, .slice xa bl.length xc, .slice ya pl.length yc, .slice za zl.length zc] 45)).alloc (.cells #[.int .i64 au, .int .i64 rd, .slice ba bl.length bc, .slice pa pl.length pc, .slice va zl.length vc] 45)).heap[w.heap.size + 1]? = some (.cells #[.int .i64 au, .int .i64 rd, .slice ba bl.length bc, .slice pa pl.length pc, .slice va zl.length vc] 45 (0, 0)) := by
    have := heap_alloc_new (w.alloc (.cells #[.int .i64 au, .int .i64 rd, .slice xa bl.length xc, .slice ya pl.length yc, .slice za zl.length zc] 45)) (.cells #[.int .i64 au, .int .i64 rd, .slice ba bl.length bc, .slice pa pl.length pc, .slice va zl.length vc] 45)
    rw [size_alloc] at this; exact this
  have HS1 : Hid _ := S1
  have HS2 : Hid _ := S2
  clear S1 S2
  go_enter Try.func28, Try.ntmps28
  go_wp2_with fail
  generalize (w.alloc (.cells #[.int .i64 au, .int .i64 rd, .slice xa bl.length xc, .slice ya pl.length yc, .slice za zl.length zc] 45)).alloc (.cells #[.int .i64 au, .int .i64 rd, .slice ba bl.length bc, .slice pa pl.length pc, .slice va zl.length vc] 45) = W0 at hA q0 q1 ⊢
  refine (sameHeaderK_eq au rd xa xc xl ya yc yl ba bc bl pa pc pl W0 HS1.out HS2.out (a1.below hA) (a2.below hA) (b1.below hA) (b2.below hA)).mono ?_
  rintro e w1 ⟨he, hb1⟩
  subst he
  dsimp only
  have r0 := (hb1.block _ (lt_of_heap q0)).trans q0
  have r1 := (hb1.block _ (lt_of_heap q1)).trans q1
  have k4 := cells_at r0 4 _ rfl
  have m4 := cells_at r1 4 _ rfl
  have hB1 := hA.trans (hb1.mono hA.size)
  go_wp2_with fail
  refine (sameIntsK_eq zl za va zc vc w1 hl (a3.below hB1) (b3.below hB1)).mono ?_
  rintro e w2 ⟨he, hb2⟩
  subst he
  dsimp only
  go_wp2_with fail
  go_ret
  exact ⟨rfl, hB1.trans (hb2.mono hB1.size)⟩
end Go.Proofs.Ythpocgndgphedaa

namespace Go.Proofs.Ythpocgndgphedaa
open Go.RowKit

set_option maxRecDepth 100000 in
set_option maxHeartbeats 400000 in
theorem same_eq (bs : List Int) (sa sb : Option Addr) (n m c d : Nat) (w : World) (hn : n = bs.length) (hm : m = bs.length) (ha : SliceAt w sa c bs) (hb : SliceAt w sb d bs) :
    Calls Try.prog 17 #[.slice sa n c, .slice sb m d] w fun e w' => e = .returned (.bool true) ∧ w = w' := by
  have h1 := run_text w sa n c bs hn ha
  have h2 := run_text w sb m d bs hm hb
  clear hn hm ha hb
  go_enter Try.func17, Try.ntmps17
  go_wp2_with fail
  go_ret
  exact ⟨by simp, rfl⟩
end Go.Proofs.Ythpocgndgphedaa
