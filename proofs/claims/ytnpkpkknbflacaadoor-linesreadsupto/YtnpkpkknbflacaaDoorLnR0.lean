/- strings.Cut at a separator of one byte, and strings.IndexByte: for every text. -/
import Derived.Test.YtnpkpkknbflacaaDoorBstr
import Derived.Test.YtnpkpkknbflacaaDoorSx
import Derived.Test.YtnpkpkknbflacaaDoorLnLay
import Derived.Lib.IndexLaws
namespace Go.Proofs.YtnpkpkknbflacaaDoor
open Go.RowKit

/-- What stands ahead of the first c; behind it; is there one? -/
def bfC (c : UInt8) (l : List UInt8) : List UInt8 := l.takeWhile fun b => b != c
def afC (c : UInt8) (l : List UInt8) : List UInt8 := (l.dropWhile fun b => b != c).drop 1
def hasC (c : UInt8) (l : List UInt8) : Bool := l.any fun b => b == c
set_option maxRecDepth 100000 in
theorem cut_cases (c : UInt8) : ∀ l : List UInt8, (Lib.indexByte l c = -1 ∧ hasC c l = false ∧ bfC c l = l ∧ afC c l = []) ∨ ∃ o : Nat, Lib.indexByte l c = o ∧ o < l.length ∧ hasC c l = true ∧ bfC c l = l.take o ∧ afC c l = l.drop (o + 1)
  | [] => .inl ⟨rfl, rfl, rfl, rfl⟩
  | b :: l => by
    by_cases h : b = c
    · subst h
      exact .inr ⟨0, by simp [Lib.indexByte], by simp, by simp [hasC], by simp [bfC], by simp [afC]⟩
    · have hb : (b == c) = false := by simp [h]
      have hn : (b != c) = true := by simp [h]
      rcases cut_cases c l with ⟨h1, h2, h3, h4⟩ | ⟨o, h1, h2, h3, h4, h5⟩
      · refine .inl ⟨by simp [Lib.indexByte, h, h1], ?_, ?_, ?_⟩
        · unfold hasC at h2 ⊢; simp only [List.any_cons, hb, h2, Bool.or_false]
        · unfold bfC at h3 ⊢; simp only [List.takeWhile_cons, hn, if_true, h3]
        · unfold afC at h4 ⊢; simpa only [List.dropWhile_cons, hn, if_true] using h4
      · refine .inr ⟨o + 1, ?_, by simpa using h2, ?_, ?_, ?_⟩
        · have h9 : (Lib.indexByte l c == -1) = false := by rw [h1, beq_eq_false_iff_ne]; omega
          rw [Lib.indexByte, hb, h9, h1]
          simp
        · unfold hasC at h3 ⊢; simp only [List.any_cons, h3, Bool.or_true]
        · unfold bfC at h4 ⊢; simp only [List.takeWhile_cons, hn, if_true, h4, List.take_succ_cons]
        · unfold afC at h5 ⊢; simpa only [List.dropWhile_cons, hn, if_true, List.drop_succ_cons] using h5
set_option maxRecDepth 100000 in
theorem ext_take (s : ByteArray) (i : Nat) : s.extract 0 i = ⟨(s.data.toList.take i).toArray⟩ := by
  apply ba_ext
  rw [ByteArray.toList_eq, ByteArray.toList_eq, ByteArray.data_extract]
  simp
set_option maxRecDepth 100000 in
theorem ext_drop (s : ByteArray) (i : Nat) : s.extract i s.size = ⟨(s.data.toList.drop i).toArray⟩ := by
  apply ba_ext
  rw [ByteArray.toList_eq, ByteArray.toList_eq, ByteArray.data_extract]
  have : s.data.toList.length = s.size := Array.length_toList
  simp [List.take_of_length_le, this]
set_option maxRecDepth 100000 in
theorem indexByte_any (s : ByteArray) (c : UInt8) (w : World) :
    Calls Tryd.prog 49 #[.string s, .int .u8 (c.toNat : Int)] w fun e w' => e = .returned (.int .i64 (Lib.indexByte s.data.toList c)) ∧ w = w' :=
  Calls.mono (Any.stringslite_IndexByte layIxB s (c.toNat : Int) w) (fun e w' ⟨he, hw⟩ => ⟨by rw [he]; simp, hw.symm⟩)
set_option maxRecDepth 100000 in
set_option maxHeartbeats 1000000 in
theorem index_one (s : ByteArray) (c : UInt8) (w : World) (_hs : s.size ≤ maxLen) :
    Calls Tryd.prog 43 #[.string s, .string ⟨#[c]⟩] w fun e w' => e = .returned (.int .i64 (Lib.indexByte s.data.toList c)) ∧ w = w' := by
  have hc := indexByte_any s c w
  by_cases h : s.data.toList = [c]
  · have hb : ([c] == s.toList) = true := by rw [ByteArray.toList_eq, h]; simp
    have HF : Hid (Lib.indexByte s.data.toList c = 0) := by show _ = _; rw [h]; simp [Lib.indexByte]
    clear h
    go_enter Tryd.func43, Tryd.ntmps43
    go_wp2_with fail
    go_ret
    exact ⟨ret_int HF.out.symm, rfl⟩
  · have hb : ([c] == s.toList) = false := by
      rw [ByteArray.toList_eq, beq_eq_false_iff_ne]
      exact fun e => h e.symm
    clear h
    generalize Lib.indexByte s.data.toList c = I at *
    go_enter Tryd.func43, Tryd.ntmps43
    go_wp2_with fail
    refine hc.mono ?_
    rintro e w1 ⟨he, rfl⟩
    subst he
    dsimp only
    go_wp2_with fail
    go_ret
    exact ⟨rfl, rfl⟩
set_option maxRecDepth 100000 in
set_option maxHeartbeats 1000000 in
theorem liteCut_any (s : ByteArray) (c : UInt8) (w : World) (hs : s.size ≤ maxLen) :
    Calls Tryd.prog 28 #[.string s, .string ⟨#[c]⟩] w fun e w' => e = .returned (.tuple #[.string ⟨(bfC c s.data.toList).toArray⟩, .string ⟨(afC c s.data.toList).toArray⟩, .bool (hasC c s.data.toList)]) ∧ Below w.heap.size w w' := by
  have hI := index_one s c w hs
  have hm := hs
  unfold maxLen at hm
  have hlen : s.data.toList.length = s.size := Array.length_toList
  rcases cut_cases c s.data.toList with ⟨h1, h2, h3, h4⟩ | ⟨o, h1, h2, h3, h4, h5⟩
  · rw [h1] at hI
    rw [h2, h3, h4]
    have hss : (⟨s.data.toList.toArray⟩ : ByteArray) = s := by cases s; simp
    rw [hss]
    clear h1 h2 h3 h4 hss hlen
    go_enter Tryd.func28, Tryd.ntmps28
    go_wp2_with fail
    refine hI.mono ?_
    rintro e w1 ⟨he, rfl⟩
    subst he
    dsimp only
    go_wp2_with fail
    go_ret3
    exact ⟨rfl, Below.refl _ _⟩
  · rw [h1] at hI
    rw [h3, h4, h5, ← ext_take, ← ext_drop]
    rw [hlen] at h2
    have o1 : (o : Int) ≤ s.size := by omega
    have o2 : (o : Int) + 1 ≤ s.size := by omega
    clear h1 h3 h4 h5 hlen
    go_enter Tryd.func28, Tryd.ntmps28
    go_wp2_with fail
    refine hI.mono ?_
    rintro e w1 ⟨he, rfl⟩
    subst he
    dsimp only
    go_wp2_with fail
    go_region
    all_goals
      go_wp2_with fail
      go_ret3
      exact ⟨rfl, (Below.refl _ _).drew⟩
set_option maxRecDepth 100000 in
set_option maxHeartbeats 1000000 in
/-- strings.Cut. -/
theorem cut_any (s : ByteArray) (c : UInt8) (w : World) (hs : s.size ≤ maxLen) :
    Calls Tryd.prog 21 #[.string s, .string ⟨#[c]⟩] w fun e w' => e = .returned (.tuple #[.string ⟨(bfC c s.data.toList).toArray⟩, .string ⟨(afC c s.data.toList).toArray⟩, .bool (hasC c s.data.toList)]) ∧ Below w.heap.size w w' := by
  have hC := liteCut_any s c w hs
  generalize (⟨(bfC c s.data.toList).toArray⟩ : ByteArray) = X at *
  generalize (⟨(afC c s.data.toList).toArray⟩ : ByteArray) = Y at *
  generalize hasC c s.data.toList = b at *
  go_enter Tryd.func21, Tryd.ntmps21
  go_wp2_with fail
  refine hC.mono ?_
  rintro e w1 ⟨he, hb⟩
  subst he
  dsimp only
  go_wp2_with fail
  go_ret3
  exact ⟨rfl, hb⟩
set_option maxRecDepth 100000 in
set_option maxHeartbeats 1000000 in
/-- strings.IndexByte. -/
theorem sIndexByte_any (s : ByteArray) (c : UInt8) (w : World) :
    Calls Tryd.prog 61 #[.string s, .int .u8 (c.toNat : Int)] w fun e w' => e = .returned (.int .i64 (Lib.indexByte s.data.toList c)) ∧ w = w' := by
  have hc := indexByte_any s c w
  generalize Lib.indexByte s.data.toList c = I at *
  generalize (c.toNat : Int) = C at *
  go_enter Tryd.func61, Tryd.ntmps61
  go_wp2_with fail
  refine hc.mono ?_
  rintro e w1 ⟨he, rfl⟩
  subst he
  dsimp only
  go_wp2_with fail
  go_ret
  exact ⟨rfl, rfl⟩
end Go.Proofs.YtnpkpkknbflacaaDoor
