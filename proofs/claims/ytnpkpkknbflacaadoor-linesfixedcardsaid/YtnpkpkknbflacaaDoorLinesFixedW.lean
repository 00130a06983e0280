/- LinesFixed answers true for every argument. -/
import Derived.Test.YtnpkpkknbflacaaDoorLnM1
namespace Go.Proofs.YtnpkpkknbflacaaDoor
open Go.RowKit

set_option maxRecDepth 100000 in
theorem readAs_text (l : List UInt8) (h : readE l = 0) : ∀ a ∈ readAs l, a.t.size ≤ maxLen := by
  intro a ha
  have h' : (readR l).2 = 0 := h
  obtain ⟨_, i2, _⟩ := rdAll_back (l.length + 1) 0 l (by omega) h'
  rw [readAs, if_pos h'] at ha
  have := (ok_bounds (i2 a ha)).2.2.2.1
  unfold maxLen
  omega
set_option maxRecDepth 100000 in
set_option maxHeartbeats 4000000 in
theorem linesFixed_walk (s : ByteArray) (w : World) (_hm : s.size ≤ maxLen) (hs : s.size ≤ 140737488355328) (hT : LTabs w) :
    Calls Tryd.prog 5 #[.string s] w fun e w' => e = .returned (.bool true) ∧ Below w.heap.size w w' := by
  have HR := read_any s w hs hT
  go_enter Tryd.func5, Tryd.ntmps5
  go_wp2_with fail
  refine HR.mono ?_
  rintro e w1 ⟨⟨v, he, ho⟩, hb1⟩
  subst he
  dsimp only
  clear HR
  by_cases hE : readE s.data.toList = 0
  · obtain ⟨s1, s2, s3, s4⟩ := read_show s.data.toList hE
    obtain ⟨sa, cap, hv, hn, hmx, hA⟩ := acts_of_owns ho (readAs_text _ hE)
    subst hv
    have HS := show_any (readAs s.data.toList) sa _ cap w1 rfl hmx hA (hT.below hb1).s
    rw [s1, s2, s3] at HS
    rw [hE, s4]
    have hss : (⟨s.data.toList.toArray⟩ : ByteArray) = s := by cases s; simp
    rw [hss] at HS
    clear hn hA ho hE s1 s2 s3 s4 hss
    generalize (readAs s.data.toList).length = N at *
    go_wp2_with fail
    refine HS.mono ?_
    rintro e w2 ⟨he, hb2⟩
    subst he
    dsimp only
    go_wp2_with fail
    go_ret
    exact ⟨rfl, hb1.trans (hb2.mono hb1.size)⟩
  · have hA : readAs s.data.toList = [] := by
      have : ¬ (readR s.data.toList).2 = 0 := hE
      rw [readAs, if_neg this]
    have hP : 0 ≤ readP s.data.toList := by
      unfold readP
      split
      · exact Int.le_refl _
      · exact Int.natCast_nonneg _
    rw [hA] at ho
    obtain ⟨sa, cap, hv, _, _, _⟩ := acts_of_owns (l := []) ho (fun a ha => by cases ha)
    subst hv
    have hEb : (readE s.data.toList != 0) = true := by simp [hE]
    clear hA ho hE
    generalize readE s.data.toList = E at *
    generalize readP s.data.toList = P at *
    go_wp2_with fail
    go_ret
    exact ⟨rfl, hb1⟩
end Go.Proofs.YtnpkpkknbflacaaDoor
