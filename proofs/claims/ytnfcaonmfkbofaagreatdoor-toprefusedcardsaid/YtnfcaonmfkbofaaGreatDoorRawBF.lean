/- Batches of raw numbers may be. -/
import Derived.Test.YtnfcaonmfkbofaaGreatDoorRawB
import Derived.Test.YtnfcaonmfkbofaaGreatDoorBunF
namespace Go.Proofs.YtnfcaonmfkbofaaGreatDoor
open Go.RowKit

set_option maxRecDepth 100000 in
theorem bTxs_ok (ss : List ByteArray) : (1 ≤ (bTxs ss).length ∧ (bTxs ss).length ≤ 4) ∧ ∀ s ∈ bTxs ss, 1 ≤ s.size ∧ s.size ≤ 20 := by
  unfold bTxs
  by_cases h : ss = []
  · rw [if_pos h]
    exact ⟨by simp, fun s hs => by simp at hs; subst hs; decide⟩
  · rw [if_neg h]
    have : 0 < ss.length := List.length_pos_iff.2 h
    refine ⟨by simp; omega, fun s hs => ?_⟩
    simp only [List.mem_map] at hs
    obtain ⟨x, _, rfl⟩ := hs
    exact txS_size x
set_option maxRecDepth 100000 in
theorem batchF_raw (ra rb : Int) (ss : List ByteArray) : batchF (pk ra 4) (1 + pk rb 9) (bTxs ss) = 0 := by
  obtain ⟨pa0, pa1⟩ := pk_bounds ra 4 (by decide)
  obtain ⟨pb0, pb1⟩ := pk_bounds rb 9 (by decide)
  obtain ⟨⟨h1, h2⟩, h3⟩ := bTxs_ok ss
  rw [batchF, if_neg (by omega), if_neg (by omega), if_pos]
  rw [List.all_eq_true]
  exact fun s hs => by simpa [txOk] using h3 s hs
end Go.Proofs.YtnfcaonmfkbofaaGreatDoor
