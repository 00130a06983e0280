/- The document's answer, package sheavesref: firstWord, wordsOf, turnsOf: the first words, a block's words, a round's order; for every block of at most 64 bytes, for every round. -/
import Derived.Test.YtcecjdoabnhcgaaDoorRMix
import Derived.Test.YtcecjdoabnhcgaaDoorApp
namespace Go.Proofs.YtcecjdoabnhcgaaDoor
open Go.RowKit

set_option maxRecDepth 100000 in
theorem infoInt : (Tryd.prog.info? 3).map (fun i => (i.zero, i.size, i.bytes)) = some (some (.int .i64 0), 1, 8) := by kernel_rfl

set_option maxRecDepth 100000 in
set_option maxHeartbeats 1000000 in
theorem firstWord_any (k : Nat) (hk : k < 8) (w : World) :
    Calls Tryd.prog 73 #[.int .i64 k] w fun e w' => e = .returned (.int .i64 (fw.getD k 0)) ∧ Below w.heap.size w w' := by
  have h : k = 0 ∨ k = 1 ∨ k = 2 ∨ k = 3 ∨ k = 4 ∨ k = 5 ∨ k = 6 ∨ k = 7 := by omega
  clear hk
  rcases h with rfl | rfl | rfl | rfl | rfl | rfl | rfl | rfl
  all_goals
    go_enter Tryd.func73, Tryd.ntmps73
    go_wp2
    go_ret
    exact ⟨rfl, (Below.refl _ _).alloc (Nat.le_refl _) _⟩

set_option maxRecDepth 100000 in
/-- A byte in its place, joined to the lower ones, is their sum. -/
theorem join_sum (v x : Int) (r : Nat) (hr : r < 4) (h0 : 0 ≤ v) (h1 : v < 2 ^ (8 * r)) (x0 : 0 ≤ x) (x1 : x ≤ 255) :
    bits .or .u32 v (x % 4294967296 * 2 ^ (8 * r) % 4294967296) = v + x * 2 ^ (8 * r) ∧ v + x * 2 ^ (8 * r) < 2 ^ (8 * (r + 1)) := by
  obtain ⟨a, rfl⟩ := Int.eq_ofNat_of_zero_le h0
  obtain ⟨b, rfl⟩ := Int.eq_ofNat_of_zero_le x0
  have hb : b ≤ 255 := by omega
  have key : ∀ i p : Nat, p = 2 ^ i → a < p → p < 4294967296 → b * p < 4294967296 → bits .or .u32 (a : Int) ((b : Int) % 4294967296 * p % 4294967296) = (a : Int) + b * p := by
    intro i p hp ha hp2 hbp
    have eb : (b : Int) % 4294967296 = b := Int.emod_eq_of_lt (by omega) (by omega)
    have e : (b : Int) * p % 4294967296 = ((b * p : Nat) : Int) := by
      rw [← Int.natCast_mul]
      exact Int.emod_eq_of_lt (Int.natCast_nonneg _) (Int.ofNat_lt.2 hbp)
    rw [eb, e, u32_or_nat _ _ (by omega) hbp, Nat.or_comm, nat_join i (b * p) a (by rw [hp]; exact Nat.mul_mod_left _ _) (by rw [← hp]; exact ha)]
    rw [Int.natCast_add, Int.natCast_mul, Int.add_comm]
  have hr' : r = 0 ∨ r = 1 ∨ r = 2 ∨ r = 3 := by omega
  rcases hr' with rfl | rfl | rfl | rfl
  · have h1' : (a : Int) < 1 := h1
    exact ⟨key 0 1 rfl (by omega) (by decide) (by omega), by show (a : Int) + b * 1 < 256; omega⟩
  · have h1' : (a : Int) < 256 := h1
    exact ⟨key 8 256 rfl (by omega) (by decide) (by omega), by show (a : Int) + b * 256 < 65536; omega⟩
  · have h1' : (a : Int) < 65536 := h1
    exact ⟨key 16 65536 rfl (by omega) (by decide) (by omega), by show (a : Int) + b * 65536 < 16777216; omega⟩
  · have h1' : (a : Int) < 16777216 := h1
    exact ⟨key 24 16777216 rfl (by omega) (by decide) (by omega), by show (a : Int) + b * 16777216 < 4294967296; omega⟩
set_option maxRecDepth 100000 in
/-- How far the words of a block have come. -/
theorem wordsTo_bound (bs : List Int) (hu : ∀ j, 0 ≤ bs.getD j 0 ∧ bs.getD j 0 ≤ 255) (k : Nat) (hk : k ≤ 64) : ∀ j, 0 ≤ (wordsTo bs k).getD j 0 ∧ (wordsTo bs k).getD j 0 < 2 ^ (8 * min 4 (k - 4 * j)) := by
  induction k with
  | zero =>
    intro j
    have : (wordsTo bs 0).getD j 0 = 0 := by
      simp only [wordsTo, List.getD, List.getElem?_replicate]
      split <;> rfl
    rw [this]
    exact ⟨by decide, Int.pow_pos (by decide)⟩
  | succ k ih =>
    intro j
    have ih := ih (by omega)
    have hlen := wordsTo_length bs k
    by_cases hj : j = k / 4
    · subst hj
      have hv := ih (k / 4)
      have e1 : min 4 (k - 4 * (k / 4)) = k % 4 := by omega
      have e2 : min 4 (k + 1 - 4 * (k / 4)) = k % 4 + 1 := by omega
      rw [e1] at hv
      obtain ⟨f1, f2⟩ := join_sum _ _ (k % 4) (by omega) hv.1 hv.2 (hu k).1 (hu k).2
      rw [wordsTo, getD_set_eq _ _ _ (by rw [hlen]; omega), e2, f1]
      refine ⟨?_, f2⟩
      have : (0 : Int) ≤ 2 ^ (8 * (k % 4)) := Int.le_of_lt (Int.pow_pos (by decide))
      have := Int.mul_nonneg (hu k).1 this
      have := hv.1
      omega
    · have hv := ih j
      have e : min 4 (k + 1 - 4 * j) = min 4 (k - 4 * j) := by omega
      rw [wordsTo, getD_set_ne _ _ _ _ hj, e]
      exact hv
set_option maxRecDepth 100000 in
theorem wordsTo_W1 (bs : List Int) (hu : ∀ j, 0 ≤ bs.getD j 0 ∧ bs.getD j 0 ≤ 255) (k : Nat) (hk : k ≤ 64) : ∀ z ∈ wordsTo bs k, W1 z := by
  intro z hz
  obtain ⟨j, hj, rfl⟩ := List.getElem_of_mem hz
  have h := wordsTo_bound bs hu k hk j
  have e : (wordsTo bs k).getD j 0 = (wordsTo bs k)[j] := by simp [List.getD, hj]
  rw [e] at h
  have hq : min 4 (k - 4 * j) = 0 ∨ min 4 (k - 4 * j) = 1 ∨ min 4 (k - 4 * j) = 2 ∨ min 4 (k - 4 * j) = 3 ∨ min 4 (k - 4 * j) = 4 := by omega
  refine ⟨h.1, Int.lt_of_lt_of_le h.2 ?_⟩
  rcases hq with e | e | e | e | e <;> rw [e] <;> decide
end Go.Proofs.YtcecjdoabnhcgaaDoor
