/- sheaveskeep.sameTexts, sameBatch and same, for every argument. -/
import Derived.Test.YtcecjdoabnhcgaaStrsAt
import Derived.Test.YtcecjdoabnhcgaaApp
import Derived.Test.YtcecjdoabnhcgaaSx
import Derived.Laws.Strings
import Derived.Deep.RegionHeld3
namespace Go.Proofs.Ytcecjdoabnhcgaa
open Go.RowKit

set_option maxRecDepth 100000 in
theorem ba_ext {a b : ByteArray} (h : a.toList = b.toList) : a = b := by
  rw [ByteArray.toList_eq, ByteArray.toList_eq] at h
  exact Go.WideShapes.bytes_inj h
set_option maxRecDepth 100000 in
set_option maxHeartbeats 1000000 in
theorem sameTexts_any (xs ys : List ByteArray) (sa sb : Option Addr) (n m c d : Nat) (w : World) (hn : n = xs.length) (hm : m = ys.length) (hx : n ≤ 1000) (hy : m ≤ 1000) (ha : StrsAt w sa xs) (hb : StrsAt w sb ys) :
    Calls Try.prog 73 #[.slice sa n c, .slice sb m d] w fun e w' => e = .returned (.bool (decide (xs = ys))) ∧ Below w.heap.size w w' := by
  subst hn hm
  by_cases hl : xs.length = ys.length
  · have hF : Hid (xs.length = ys.length) := hl
    rw [← hl]
    go_enter Try.func73, Try.ntmps73
    go_wp2_with fail
    go_loopw [5] (fun j wr => ∃ k : Nat, k ≤ xs.length ∧ j = .int .i64 k ∧ Hid (xs.take k = ys.take k) ∧ Below w.heap.size w wr) (fun j _ => xs.length - (intOf j).toNat)
    case atStart => exact ⟨0, Nat.zero_le _, rfl, by show _ = _; simp, Below.refl _ _⟩
    case round =>
      obtain ⟨k, hk, rfl, hst, hbw⟩ := hrel
      by_cases hlt : k < xs.length
      · obtain ⟨ab, ao, rfl, hca⟩ : ∃ ab ao, sa = some ⟨ab, ao, none⟩ ∧ ∀ j, j < xs.length → w.cell? ⟨ab, ao + j, none⟩ = some (.string (xs.getD j ByteArray.empty)) := by
          rcases ha.cells with h | h
          · rw [h] at hlt; simp at hlt
          · exact h
        obtain ⟨bb, bo, rfl, hcb⟩ : ∃ bb bo, sb = some ⟨bb, bo, none⟩ ∧ ∀ j, j < ys.length → w.cell? ⟨bb, bo + j, none⟩ = some (.string (ys.getD j ByteArray.empty)) := by
          rcases hb.cells with h | h
          · have := hF.out; rw [h] at this; simp at this; simp [this] at hlt
          · exact h
        have hlt2 : k < ys.length := by have := hF.out; omega
        have ka := (hbw.cell (p := ⟨ab, ao + k, none⟩) (block_lt_of_cell (hca k hlt))).trans (hca k hlt)
        have kb := (hbw.cell (p := ⟨bb, bo + k, none⟩) (block_lt_of_cell (hcb k hlt2))).trans (hcb k hlt2)
        have hltI : (k : Int) < xs.length := by omega
        have h0 : (0 : Int) ≤ k := by omega
        clear hca hcb
        have hsx : Hid (xs.take (k + 1) = xs.take k ++ [xs.getD k ByteArray.empty]) := by show _ = _; rw [List.take_succ_eq_append_getElem hlt]; simp [List.getD, hlt]
        have hsy : Hid (ys.take (k + 1) = ys.take k ++ [ys.getD k ByteArray.empty]) := by show _ = _; rw [List.take_succ_eq_append_getElem hlt2]; simp [List.getD, hlt2]
        generalize xs.getD k ByteArray.empty = x at ka hsx
        generalize ys.getD k ByteArray.empty = y at kb hsy
        by_cases he : x.toList = y.toList
        · have hxy : Hid (x = y) := ba_ext he
          have heb : (x.toList == y.toList) = true := by simp [he]
          clear he
          go_wp2_with fail
          go_region_held3 (fun w' => w'.cell? ⟨ab, ao + k, none⟩ = some (.string x) ∧ w'.cell? ⟨bb, bo + k, none⟩ = some (.string y)) (go_keep) (fail)
          all_goals
            go_wp2_with fail
            go_roundw
            case rel =>
              have hR : ∃ k' : Nat, k' ≤ xs.length ∧ (Value.int .i64 ((k : Int) + 1)) = .int .i64 k' ∧ Hid (xs.take k' = ys.take k') ∧ Below w.heap.size w wr.drew := ⟨k + 1, by omega, by go_num, by show _ = _; rw [hsx.out, hsy.out, hst.out, hxy.out], hbw.drew⟩
              first | exact hR | ((repeat apply Exists.intro); exact ⟨hR, rfl⟩)
            case measure => simp [intOf]; omega
        · have hxy : Hid (¬ x = y) := fun e => he (by rw [e])
          have heb : (x.toList == y.toList) = false := by simp [he]
          clear he
          go_wp2_with fail
          go_region_held3 (fun w' => w'.cell? ⟨ab, ao + k, none⟩ = some (.string x) ∧ w'.cell? ⟨bb, bo + k, none⟩ = some (.string y)) (go_keep) (fail)
          all_goals
            go_wp2_with fail
            go_ret
            refine ⟨ret_bool (decide_eq_false fun e => hxy.out ?_).symm, hbw.drew⟩
            have h1 := hsx.out
            have h2 := hsy.out
            rw [e, h2] at h1
            have h3 := List.append_cancel_left h1
            simp only [List.cons.injEq, and_true] at h3
            first | exact h3 | exact h3.symm
      · obtain rfl : k = xs.length := by omega
        have hltI : ¬ (xs.length : Int) < xs.length := by omega
        have heq : Hid (xs = ys) := by
          have h1 := hst.out
          rw [List.take_of_length_le (Nat.le_refl _), List.take_of_length_le (by have := hF.out; omega)] at h1
          exact h1
        go_wp2_with fail
        go_ret
        exact ⟨ret_bool (decide_eq_true heq.out).symm, hbw⟩
  · have hlI : ¬ (xs.length : Int) = ys.length := by omega
    have hF : Hid (¬ xs = ys) := fun e => hl (by rw [e])
    have hlb : ((xs.length : Int) == (ys.length : Int)) = false := beq_eq_false_iff_ne.2 hlI
    go_enter Try.func73, Try.ntmps73
    go_wp2_with fail
    go_ret
    exact ⟨ret_bool (decide_eq_false hF.out).symm, Below.refl _ _⟩
set_option maxRecDepth 100000 in
set_option maxHeartbeats 1000000 in
theorem sameBatch_any (au nu au' nu' : Int) (xs ys : List ByteArray) (sa sb : Option Addr) (n m c d : Nat) (w : World) (hn : n = xs.length) (hm : m = ys.length) (hx : n ≤ 1000) (hy : m ≤ 1000) (ha : StrsAt w sa xs) (hb : StrsAt w sb ys) :
    Calls Try.prog 35 #[.agg #[.int .i64 au, .int .i64 nu, .slice sa n c], .agg #[.int .i64 au', .int .i64 nu', .slice sb m d]] w fun e w' => e = .returned (.bool (decide (au = au' ∧ nu = nu' ∧ xs = ys))) ∧ Below w.heap.size w w' := by
  have hA : Below w.heap.size w ((w.alloc (.cells #[.int .i64 au, .int .i64 nu, .slice sa n c] 24)).alloc (.cells #[.int .i64 au', .int .i64 nu', .slice sb m d] 24)) := ((Below.refl _ _).alloc (Nat.le_refl _) _).alloc (by simp) _
  have hT := sameTexts_any xs ys sa sb n m c d _ hn hm hx hy (ha.below hA) (hb.below hA)
  clear hn hm hx hy
  by_cases h1 : au = au'
  · subst h1
    by_cases h2 : nu = nu'
    · subst h2
      have hF : Hid (decide (au = au ∧ nu = nu ∧ xs = ys) = decide (xs = ys)) := by show _ = _; simp
      generalize decide (xs = ys) = r at *
      generalize decide (au = au ∧ nu = nu ∧ xs = ys) = r' at *
      go_enter Try.func35, Try.ntmps35
      go_wp2_with fail
      refine hT.mono ?_
      rintro e w1 ⟨he, hb1⟩
      subst he
      dsimp only
      go_wp2_with fail
      go_ret
      exact ⟨ret_bool hF.out.symm, below_alloc (below_alloc hb1)⟩
    · have hF : Hid (decide (au = au ∧ nu = nu' ∧ xs = ys) = false) := by show _ = _; simp [h2]
      have h2b : (nu == nu') = false := by simpa using h2
      go_enter Try.func35, Try.ntmps35
      go_wp2_with fail
      go_ret
      exact ⟨by first | rfl | exact ret_bool hF.out.symm, hA⟩
  · have hF : Hid (decide (au = au' ∧ nu = nu' ∧ xs = ys) = false) := by show _ = _; simp [h1]
    have h1b : (au == au') = false := by simpa using h1
    go_enter Try.func35, Try.ntmps35
    go_wp2_with fail
    go_ret
    exact ⟨by first | rfl | exact ret_bool hF.out.symm, hA⟩
set_option maxRecDepth 100000 in
/-- The bytes as a text has them, one by one. -/
theorem bstr_data (bs : List Int) : (bstr bs).data.toList = bs.map fun n => UInt8.ofNat n.toNat := by
  have h : ∀ (l : List Int) (r : ByteArray), (l.foldl (fun r n => r.push (UInt8.ofNat n.toNat)) r).data.toList = r.data.toList ++ l.map fun n => UInt8.ofNat n.toNat := by
    intro l
    induction l with
    | nil => simp
    | cons x l ih => intro r; rw [List.foldl_cons, ih]; simp [ByteArray.push]
  rw [bstr, h]
  simp
set_option maxRecDepth 100000 in
theorem bstr_inj {xs ys : List Int} (hx : ∀ x ∈ xs, 0 ≤ x ∧ x ≤ 255) (hy : ∀ x ∈ ys, 0 ≤ x ∧ x ≤ 255) (h : bstr xs = bstr ys) : xs = ys := by
  have h1 : xs.map (fun n => UInt8.ofNat n.toNat) = ys.map (fun n => UInt8.ofNat n.toNat) := by rw [← bstr_data, ← bstr_data, h]
  have back : ∀ l : List Int, (∀ x ∈ l, 0 ≤ x ∧ x ≤ 255) → (l.map (fun n => UInt8.ofNat n.toNat)).map (fun b => (b.toNat : Int)) = l := by
    intro l hl
    rw [List.map_map]
    conv => rhs; rw [← List.map_id l]
    refine List.map_congr_left fun x hx => ?_
    have := hl x hx
    simp only [Function.comp, id]
    rw [UInt8.toNat_ofNat', Nat.mod_eq_of_lt (by omega)]
    omega
  rw [← back xs hx, ← back ys hy, h1]
set_option maxRecDepth 100000 in
set_option maxHeartbeats 400000 in
theorem same_any (xs ys : List Int) (sa sb : Option Addr) (n m c d : Nat) (w : World) (hn : n = xs.length) (hm : m = ys.length) (ha : SliceAt w sa c xs) (hb : SliceAt w sb d ys) (hx : ∀ x ∈ xs, 0 ≤ x ∧ x ≤ 255) (hy : ∀ x ∈ ys, 0 ≤ x ∧ x ≤ 255) :
    Calls Try.prog 29 #[.slice sa n c, .slice sb m d] w fun e w' => e = .returned (.bool (decide (xs = ys))) ∧ w = w' := by
  have h1 := run_text w sa n c xs hn ha
  have h2 := run_text w sb m d ys hm hb
  have hF : Hid (((bstr xs).toList == (bstr ys).toList) = decide (xs = ys)) := by
    show _ = _
    by_cases h : xs = ys
    · simp [h]
    · rw [decide_eq_false h, beq_eq_false_iff_ne]
      exact fun e => h (bstr_inj hx hy (ba_ext e))
  clear hn hm ha hb hx hy
  generalize bstr xs = A at *
  generalize bstr ys = B at *
  go_enter Try.func29, Try.ntmps29
  go_wp2_with fail
  go_ret
  exact ⟨ret_bool (by rw [← hF.out]), rfl⟩
end Go.Proofs.Ytcecjdoabnhcgaa
