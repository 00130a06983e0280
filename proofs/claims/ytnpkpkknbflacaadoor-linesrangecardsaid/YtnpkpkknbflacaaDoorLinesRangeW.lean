/- LinesRange answers true for every argument. -/
import Derived.Test.YtnpkpkknbflacaaDoorLnC
import Derived.Test.YtnpkpkknbflacaaDoorPicked
import Derived.Test.YtnpkpkknbflacaaDoorApp
import Derived.Test.YtnpkpkknbflacaaDoorBstr
import Derived.Deep.CutRange
import Derived.Deep.DeepCutAuto
namespace Go.Proofs.YtnpkpkknbflacaaDoor
open Go.RowKit

set_option maxRecDepth 100000 in
theorem made_zerosL (K : Nat) (hK : K ≤ 500000) : ∃ (ZZ : Array Value) (zl : List Int), zl.length = K ∧ (∀ w : World, (Instr.makeSlice 43 (.int .i64 (K : Int)) (.int .i64 (K : Int))).run Tryd.prog w = .ok (.slice (some ⟨w.heap.size, 0, none⟩) K K) (w.alloc (.cells ZZ 5))) ∧ ∀ w : World, SliceAt (w.alloc (.cells ZZ 5)) (some ⟨w.heap.size, 0, none⟩) K zl := by
  obtain ⟨i, hi, hz0, hz1, hz2⟩ := info_parts infoU8
  refine ⟨madeCells (Value.int .u8 0).cells (K * 1), List.replicate K 0, by simp, fun w => ?_, fun w => ?_⟩
  · have h := run_make (P := Tryd.prog) w 43 5 i (.int .u8 0) Tryd.underlying43 hi hz0 .i64 .i64 (K : Int) (K : Int) (by omega) (Int.le_refl _) (by rw [hz2]; omega) (by omega)
    simpa [hz1] using h
  · have h := World.ownsRow_lit (base := w.heap.size) (e := 5) (size := 1) w (madeCells (Value.int .u8 0).cells (K * 1)) K (Nat.le_refl _) (by unfold maxLen; omega) (size_madeCells _ _)
    rw [zeros_made] at h
    exact (sliceAt_of_owns h).2
set_option maxRecDepth 100000 in
theorem bstr_size (bs : List Int) : (bstr bs).size = bs.length := by
  show (bstr bs).data.size = _
  rw [← Array.length_toList, bstr_data, List.length_map]
set_option maxRecDepth 100000 in
set_option maxHeartbeats 1000000 in
theorem linesRange_walk (n p : Int) (w : World) (hn0 : -9223372036854775808 ≤ n) (hn1 : n ≤ 9223372036854775807) (hp0 : -9223372036854775808 ≤ p) (hp1 : p ≤ 9223372036854775807) (hT : KTab w) :
    Calls Tryd.prog 11 #[.int .i64 n, .int .i64 p] w fun e w' => e = .returned (.bool true) ∧ Below w.heap.size w w' := by
  obtain ⟨hk0, hk1⟩ := pk_bounds n 12 (by omega)
  obtain ⟨hq0, hq1⟩ := pk_bounds p 800000 (by omega)
  have HP1 := picked_any n 12 w hn0 hn1 (by omega) (by omega)
  have HP2 := picked_any p 800000 w hp0 hp1 (by omega) (by omega)
  generalize pk n 12 = k at *
  generalize pk p 800000 = q at *
  have HF : Hid (actF 7 k q 0 = if 4 ≤ k ∨ 400000 < q then 2 else 0) := by
    show _ = _
    rw [actF, if_neg (by omega)]
    by_cases h1 : 4 ≤ k
    · rw [if_pos (by omega), if_pos (by omega)]
    · rw [if_neg (by omega)]
      by_cases h2 : 400000 < q
      · rw [if_pos (by omega), if_pos (by omega)]
      · rw [if_neg (by omega), if_neg (by omega), if_neg (by simp [moreB, hN, hP]), if_neg (by omega)]
  have HB : Hid (actF 7 (-1) 0 0 = 2) := by show _ = _; decide
  have HC : Hid (actF 9 0 0 4001 = 1) := by show _ = _; decide
  have hLt := hT.lt
  go_enter Tryd.func11, Tryd.ntmps11
  go_wp2_with fail
  refine HP1.mono ?_
  rintro e w1 ⟨he, rfl⟩
  subst he
  dsimp only
  go_wp2_with fail
  refine HP2.mono ?_
  rintro e w1 ⟨he, rfl⟩
  subst he
  dsimp only
  go_wp2_with fail
  refine (actCheck_any 7 k q ByteArray.empty w (by decide) hT).mono ?_
  rintro e w1 ⟨he, hb1⟩
  subst he
  dsimp only
  have hT1 := hT.below hb1 hLt
  have hLt1 := hT1.lt
  rw [show ByteArray.empty.size = 0 from rfl]
  generalize actF 7 k q 0 = A at *
  go_wp2_with fail
  refine (actCheck_any 7 (-1) 0 ByteArray.empty w1 (by decide) hT1).mono ?_
  rintro e w2 ⟨he, hb2⟩
  subst he
  dsimp only
  have hT2 := hT1.below hb2 hLt1
  have hB2 := hb1.trans (hb2.mono hb1.size)
  rw [show ByteArray.empty.size = 0 from rfl, HB.out]
  clear hb1 hb2 hT1 hLt1
  obtain ⟨ZZ, zl, hzl, hmk, hsl⟩ := made_zerosL 4001 (by omega)
  have mk : (Instr.makeSlice 43 (.int .i64 4001) (.int .i64 4001)).run Tryd.prog w2 = .ok (.slice (some ⟨w2.heap.size, 0, none⟩) 4001 4001) (w2.alloc (.cells ZZ 5)) := hmk w2
  have cv := run_text (w2.alloc (.cells ZZ 5)) (some ⟨w2.heap.size, 0, none⟩) 4001 4001 zl hzl.symm (hsl w2)
  have HD := actCheck_any 9 0 0 (bstr zl) (w2.alloc (.cells ZZ 5)) (by rw [bstr_size, hzl]; decide) (hT2.alloc _)
  rw [bstr_size, hzl, HC.out] at HD
  have hB3 := hB2.alloc hB2.size (.cells ZZ 5)
  clear hmk hsl hzl
  generalize bstr zl = x at *
  go_wp2_with fail
  refine HD.mono ?_
  rintro e w3 ⟨he, hb3⟩
  subst he
  dsimp only
  have hB4 := hB3.trans (hb3.mono hB3.size)
  clear hb3 HD mk cv
  by_cases h : 4 ≤ k ∨ 400000 < q
  · have hA : A = 2 := by rw [HF.out, if_pos h]
    subst hA
    rcases Int.lt_or_le k 4 with a | a
    · have b : 400000 < q := by omega
      go_wp2_with fail
      go_ret
      exact ⟨rfl, hB4⟩
    · go_wp2_with fail
      go_ret
      exact ⟨rfl, hB4⟩
  · have hA : A = 0 := by rw [HF.out, if_neg h]
    subst hA
    have a : ¬ 4 ≤ k := by omega
    have b : ¬ 400000 < q := by omega
    go_wp2_with fail
    go_ret
    exact ⟨rfl, hB4⟩
end Go.Proofs.YtnpkpkknbflacaaDoor
