/- The texts of raw batches: cut and tx. -/
import Derived.Test.YtnfcaonmfkbofaaGreatDoorSx
import Derived.Laws.Strings
namespace Go.Proofs.YtnfcaonmfkbofaaGreatDoor
open Go.RowKit

/-- A transaction of a raw text: one sign, or its first twenty bytes. -/
def txS (s : ByteArray) : ByteArray := if s.size = 0 then ⟨#[120]⟩ else s.extract 0 (min s.size 20)
set_option maxRecDepth 100000 in
theorem txS_size (s : ByteArray) : 1 ≤ (txS s).size ∧ (txS s).size ≤ 20 := by
  unfold txS
  by_cases h : s.size = 0
  · rw [if_pos h]; exact ⟨by decide, by decide⟩
  · rw [if_neg h]; simp; omega
set_option maxRecDepth 100000 in
theorem ret_str {a b : ByteArray} (h : a = b) : Ending.returned (.string a) = .returned (.string b) := by rw [h]
set_option maxRecDepth 100000 in
theorem cut_any (s : ByteArray) (w : World) (hs : s.size ≤ maxLen) :
    Calls Tryz.prog 95 #[.string s, .int .i64 20] w fun e w' => e = .returned (.string (s.extract 0 (min s.size 20))) ∧ w = w' := by
  unfold maxLen at hs
  by_cases h : s.size ≤ 20
  · have hm : min s.size 20 = s.size := by omega
    rw [hm]
    go_enter Tryz.func95, Tryz.ntmps95
    go_wp2_with fail
    go_ret
    exact ⟨ret_str (by simp), rfl⟩
  · have hm : min s.size 20 = 20 := by omega
    rw [hm]
    go_enter Tryz.func95, Tryz.ntmps95
    go_wp2_with fail
    go_ret
    exact ⟨rfl, rfl⟩
set_option maxRecDepth 100000 in
theorem empty_text (s : ByteArray) : s.toList.isEmpty = true ↔ s.size = 0 := by
  rw [List.isEmpty_iff, ← List.length_eq_zero_iff, ByteArray.toList_eq, Array.length_toList, ByteArray.size_data]
set_option maxRecDepth 100000 in
theorem tx_any (s : ByteArray) (w : World) (hs : s.size ≤ maxLen) :
    Calls Tryz.prog 69 #[.string s] w fun e w' => e = .returned (.string (txS s)) ∧ w = w' := by
  by_cases h : s.size = 0
  · have h1 : s.toList.isEmpty = true := (empty_text s).2 h
    have hF : Hid (txS s = ⟨#[120]⟩) := by show _ = _; rw [txS, if_pos h]
    clear h
    go_enter Tryz.func69, Tryz.ntmps69
    go_wp2_with fail
    go_ret
    exact ⟨ret_str hF.out.symm, rfl⟩
  · have h1 : s.toList.isEmpty = false := by
      rw [Bool.eq_false_iff]; exact fun e => h ((empty_text s).1 e)
    have hF : Hid (txS s = s.extract 0 (min s.size 20)) := by show _ = _; rw [txS, if_neg h]
    go_enter Tryz.func69, Tryz.ntmps69
    go_wp2_with fail
    refine (cut_any s w hs).mono ?_
    rintro e w1 ⟨he, rfl⟩
    subst he
    dsimp only
    go_wp2_with fail
    go_ret
    exact ⟨ret_str hF.out.symm, rfl⟩
end Go.Proofs.YtnfcaonmfkbofaaGreatDoor
