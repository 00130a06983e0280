/- The document's partsOf. -/
import Derived.Test.YtnpkpkknbflacaaDoorLrA
import Derived.Test.YtnpkpkknbflacaaDoorTxt
namespace Go.Proofs.YtnpkpkknbflacaaDoor
open Go.RowKit

/-- The parts of a line. -/
def pts (l : List UInt8) : List (List UInt8) := if _h : hasC 32 l = true then bfC 32 l :: pts (afC 32 l) else [l]
termination_by l.length
decreasing_by exact afC_lt (by assumption)
set_option maxRecDepth 100000 in
theorem pts_cons (l : List UInt8) : pts l = bfC 32 l :: (if hasC 32 l = true then pts (afC 32 l) else []) := by
  rw [pts]
  by_cases h : hasC 32 l = true
  · rw [dif_pos h, if_pos h]
  · rw [dif_neg h, if_neg h]
    rcases cut_cases 32 l with ⟨_, _, h3, _⟩ | ⟨o, _, _, h3, _⟩
    · rw [h3]
    · exact absurd h3 h
set_option maxRecDepth 100000 in
theorem pts_at {x r : List UInt8} (h : noC 32 x) : pts (x ++ 32 :: r) = x :: pts r := by
  obtain ⟨h1, h2, h3⟩ := cut_at (r := r) h
  rw [pts_cons, h1, h2, if_pos h3]
set_option maxRecDepth 100000 in
theorem pts_end {x : List UInt8} (h : noC 32 x) : pts x = [x] := by
  obtain ⟨h1, h2, h3⟩ := cut_none h
  rw [pts_cons, h1, h3]
  rfl
def ba (l : List UInt8) : ByteArray := ⟨l.toArray⟩
set_option maxRecDepth 100000 in
theorem ext_mid (s : ByteArray) (a b : Nat) : s.extract a b = ba ((s.data.toList.drop a).take (b - a)) := by
  apply ba_ext
  rw [ByteArray.toList_eq, ByteArray.toList_eq, ByteArray.data_extract]
  simp only [ba, Array.toList_extract, List.extract_eq_take_drop]
set_option maxRecDepth 100000 in
theorem take_more (l : List UInt8) (f i : Nat) (h : f ≤ i) (hi : i < l.length) : (l.drop f).take (i + 1 - f) = (l.drop f).take (i - f) ++ [l[i]] := by
  have h1 : i - f < (l.drop f).length := by simp; omega
  have h2 : (l.drop f)[i - f] = l[i] := by
    rw [List.getElem_drop]
    congr 1
    omega
  rw [show i + 1 - f = (i - f) + 1 by omega, List.take_succ_eq_append_getElem h1, h2]
set_option maxRecDepth 100000 in
theorem drop_at (l : List UInt8) (f i : Nat) (h : f ≤ i) (hi : i < l.length) : l.drop f = (l.drop f).take (i - f) ++ l[i] :: l.drop (i + 1) := by
  have h1 : (l.drop f).drop (i - f) = l[i] :: l.drop (i + 1) := by
    rw [List.drop_drop, show f + (i - f) = i by omega, List.drop_eq_getElem_cons hi]
  rw [← h1, List.take_append_drop]
set_option maxRecDepth 100000 in
set_option maxHeartbeats 1000000 in
theorem partsOf_any (s : ByteArray) (w : World) (hs : s.size ≤ 1048576) :
    Calls Tryd.prog 30 #[.string s] w fun e w' => ∃ v, e = .returned v ∧ w'.ownsRow w.heap.size 9 1 v (pts s.data.toList).length (sv ((pts s.data.toList).map ba)) ∧ Below w.heap.size w w' := by
  have hlen : s.data.toList.length = s.size := Array.length_toList
  obtain ⟨i, hi, hz0, hz1, hz2⟩ := info_parts infoStr
  go_enter Tryd.func30, Tryd.ntmps30
  go_wp2_with fail
  go_loopw [5, 4, 3] (fun x y v wr => ∃ (j f : Nat) (ac : List (List UInt8)), x = .int .i64 j ∧ y = .int .i64 f ∧ f ≤ j ∧ ac.length ≤ f ∧ j ≤ s.size + 1 ∧ Below w.heap.size w wr ∧ wr.ownsRow w.heap.size 9 1 v ac.length (sv (ac.map ba)) ∧ Hid ((j ≤ s.size ∧ noC 32 ((s.data.toList.drop f).take (j - f)) ∧ pts s.data.toList = ac ++ pts (s.data.toList.drop f)) ∨ (j = s.size + 1 ∧ pts s.data.toList = ac))) (fun x _ _ _ => s.size + 1 - (intOf x).toNat)
  case atStart => exact ⟨0, 0, [], rfl, rfl, by omega, by simp, by omega, Below.refl _ _, World.ownsRow_nil _ _ _ _, .inl ⟨Nat.zero_le _, fun b hb => by simp at hb, by simp⟩⟩
  case round =>
    obtain ⟨j, f, ac, rfl, rfl, hfj, hac, hj, hb, ho, hI⟩ := hrel
    by_cases hle : j ≤ s.size
    · have hleI : (j : Int) ≤ s.size := by omega
      have HH : Hid (noC 32 ((s.data.toList.drop f).take (j - f)) ∧ pts s.data.toList = ac ++ pts (s.data.toList.drop f)) := by
        rcases hI.out with h | h
        · exact h.2
        · omega
      clear hI
      have hx := ext_mid s f j
      by_cases hend : j = s.size
      · have H2 : Hid (pts s.data.toList = ac ++ [(s.data.toList.drop f).take (j - f)]) := by
          show _ = _
          have h1 : (s.data.toList.drop f).take (j - f) = s.data.toList.drop f := List.take_of_length_le (by rw [List.length_drop, hlen]; omega)
          have h2 := HH.out
          rw [h1] at h2 ⊢
          rw [h2.2, pts_end h2.1]
        clear HH
        generalize (s.data.toList.drop f).take (j - f) = y at *
        subst hend
        have Hx : Hid _ := hx
        clear hx
        go_wp2_with (at_builtin; refine wpList_append_own_at _ rfl _ _ 37 rfl w.heap.size 9 i (.string ByteArray.empty) 1 16 Tryd.underlying37 hi hz0 hz1 hz2 rfl (by decide) _ ac.length (sv (ac.map ba)) rfl (World.ownsRow.alloc ho _) ⟨wr.heap.size, 0, none⟩ 1 1 [.string (s.extract f s.size)] rfl rfl (cells_new _ _ _) (sv_one [_]) (by unfold maxLen; omega) (by omega) (le_alloc hb.size _) ?_)
        intro v' w2 ho2 hg2 _ _
        go_wp2_with fail
        go_roundw
        case rel =>
          refine ⟨s.size + 1, s.size + 1, ac ++ [y], by go_num, by go_num, by omega, by simp; omega, by omega, Below.grown (hb.alloc hb.size _) hg2 (le_alloc hb.size _) (fun q e => (ho.lt q e).1), ?_, .inr ⟨rfl, H2.out⟩⟩
          rw [List.length_append, List.map_append]
          rw [Hx.out] at ho2
          simpa [sv] using ho2
        case measure => simp [intOf]
      · have hltN : j < s.size := by omega
        have hltI : (j : Int) < s.size := by omega
        have hne : ((j : Int) == s.size) = false := by rw [beq_eq_false_iff_ne]; omega
        have hix : ∀ w : World, (Instr.index 9 (.string s) (.int .i64 (j : Int))).run Tryd.prog w = .ok (.int .u8 (s[j].toNat : Int)) w := by
          intro w
          have e : s[j]? = some s[j] := getElem?_pos s j hltN
          simp [Instr.index, asIntOf, e]
        have hgl : s.data.toList[j]'(by rw [hlen]; exact hltN) = s[j] := rfl
        by_cases hsp : s[j] = 32
        · have H2 : Hid (pts s.data.toList = (ac ++ [(s.data.toList.drop f).take (j - f)]) ++ pts (s.data.toList.drop (j + 1))) := by
            show _ = _
            have h2 := HH.out
            have h4 := drop_at s.data.toList f j hfj (by rw [hlen]; exact hltN)
            rw [hgl, hsp] at h4
            rw [h2.2, (congrArg pts h4).trans (pts_at h2.1)]
            simp
          have hspI : ((s[j].toNat : Int) == 32) = true := by rw [hsp]; rfl
          clear HH hgl hsp
          generalize (s.data.toList.drop f).take (j - f) = y at *
          generalize (s[j].toNat : Int) = c at *
          have Hx : Hid _ := hx
          clear hx
          go_wp2_with (at_builtin; refine wpList_append_own_at _ rfl _ _ 37 rfl w.heap.size 9 i (.string ByteArray.empty) 1 16 Tryd.underlying37 hi hz0 hz1 hz2 rfl (by decide) _ ac.length (sv (ac.map ba)) rfl (World.ownsRow.alloc ho _) ⟨wr.heap.size, 0, none⟩ 1 1 [.string (s.extract f j)] rfl rfl (cells_new _ _ _) (sv_one [_]) (by unfold maxLen; omega) (by omega) (le_alloc hb.size _) ?_)
          intro v' w2 ho2 hg2 _ _
          go_wp2_with fail
          go_roundw
          case rel =>
            refine ⟨j + 1, j + 1, ac ++ [y], by go_num, by go_num, by omega, by simp; omega, by omega, Below.grown (hb.alloc hb.size _) hg2 (le_alloc hb.size _) (fun q e => (ho.lt q e).1), ?_, .inl ⟨hltN, fun b hb => by simp at hb, H2.out⟩⟩
            rw [List.length_append, List.map_append]
            rw [Hx.out] at ho2
            simpa [sv] using ho2
          case measure => simp [intOf]; omega
        · have H2 : Hid (noC 32 ((s.data.toList.drop f).take (j + 1 - f)) ∧ pts s.data.toList = ac ++ pts (s.data.toList.drop f)) := by
            have h2 := HH.out
            refine ⟨?_, h2.2⟩
            rw [take_more s.data.toList f j hfj (by rw [hlen]; exact hltN), hgl]
            exact noC_app h2.1 (fun b hb => by simp at hb; subst hb; exact hsp)
          have hspI : ((s[j].toNat : Int) == 32) = false := by
            rw [beq_eq_false_iff_ne]
            intro e
            exact hsp (UInt8.toNat_inj.1 (by have : (32 : UInt8).toNat = 32 := rfl; omega))
          clear HH hgl hsp hx
          generalize (s[j].toNat : Int) = c at *
          go_wp2_with fail
          go_roundw
          case rel => exact ⟨j + 1, f, ac, by go_num, rfl, by omega, hac, by omega, hb, ho, .inl ⟨hltN, H2.out.1, H2.out.2⟩⟩
          case measure => simp [intOf]; omega
    · obtain rfl : j = s.size + 1 := by omega
      have hleI : ¬ ((s.size + 1 : Nat) : Int) ≤ s.size := by omega
      have H2 : Hid (pts s.data.toList = ac) := by
        rcases hI.out with h | h
        · omega
        · exact h.2
      clear hI
      go_wp2_with fail
      go_ret
      exact ⟨_, rfl, by rw [H2.out]; exact ho, hb⟩
end Go.Proofs.YtnpkpkknbflacaaDoor
