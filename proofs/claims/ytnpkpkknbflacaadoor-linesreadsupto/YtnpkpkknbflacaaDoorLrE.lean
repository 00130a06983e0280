/- The document's ActFault, for acts that have nothing that their kind has not. -/
import Derived.Test.YtnpkpkknbflacaaDoorLrA
namespace Go.Proofs.YtnpkpkknbflacaaDoor
open Go.RowKit

set_option maxRecDepth 100000 in
theorem actF_plain (k n p : Int) (t : Nat) (hk : 1 ≤ k ∧ k ≤ 10) (h0 : hN k = false → n = 0) (h1 : hP k = false → p = 0) (h2 : hT k = false → t = 0) : actF k n p t = if n < 0 ∨ 4 ≤ n then 2 else if p < 0 ∨ 400000 < p then 2 else if 4000 < t then 1 else 0 := by
  have hm : moreB k n p t = false := by
    unfold moreB
    cases e0 : hN k <;> cases e1 : hP k <;> cases e2 : hT k <;> simp_all
  rw [actF, if_neg (by omega), hm]
  simp
set_option maxRecDepth 100000 in
set_option maxHeartbeats 4000000 in
theorem actFault_any (k n p : Int) (t : ByteArray) (w : World) (hk : 1 ≤ k ∧ k ≤ 10) (h0 : hN k = false → n = 0) (h1 : hP k = false → p = 0) (h2 : hT k = false → t = ⟨#[]⟩) :
    Calls Tryd.prog 24 #[.agg #[.int .i64 k, .int .i64 n, .int .i64 p, .string t]] w fun e w' => e = .returned (.int .i64 (actF k n p t.size)) ∧ Below w.heap.size w w' := by
  have HF : Hid _ := actF_plain k n p t.size hk h0 h1 (fun h => by rw [h2 h]; rfl)
  have hA : Below w.heap.size w (w.alloc (.cells #[.int .i64 k, .int .i64 n, .int .i64 p, .string t] 30)) := (Below.refl _ _).alloc (Nat.le_refl _) _
  have CN := hasNode_any k
  have CP := hasPick_any k
  have CT := hasText_any k
  have hk1 := hk.1
  have hk2 := hk.2
  generalize hN k = b0 at *
  generalize hP k = b1 at *
  generalize hT k = b2 at *
  have c0 : (b0 = true ∧ (0 ≤ n ∧ n ≤ 3)) ∨ (b0 = true ∧ ¬ (0 ≤ n ∧ n ≤ 3)) ∨ (b0 = false ∧ n = 0) := by cases b0 <;> simp_all; omega
  have c1 : (b1 = true ∧ (0 ≤ p ∧ p ≤ 400000)) ∨ (b1 = true ∧ ¬ (0 ≤ p ∧ p ≤ 400000)) ∨ (b1 = false ∧ p = 0) := by cases b1 <;> simp_all; omega
  have c2 : (b2 = true ∧ t.size ≤ 4000) ∨ (b2 = true ∧ 4000 < t.size) ∨ (b2 = false ∧ t = ⟨#[]⟩) := by cases b2 <;> simp_all; omega
  clear h0 h1 h2 hk
  rcases c0 with ⟨rfl, g0⟩ | ⟨rfl, g0⟩ | ⟨rfl, rfl⟩
  all_goals rcases c1 with ⟨rfl, g1⟩ | ⟨rfl, g1⟩ | ⟨rfl, rfl⟩
  all_goals rcases c2 with ⟨rfl, g2⟩ | ⟨rfl, g2⟩ | ⟨rfl, rfl⟩
  all_goals
    go_enter Tryd.func24, Tryd.ntmps24
    go_wp2_with (first
      | (go_at_call 32; refine (CN _).mono ?_; rintro e w' ⟨rfl, rfl⟩)
      | (go_at_call 35; refine (CP _).mono ?_; rintro e w' ⟨rfl, rfl⟩)
      | (go_at_call 36; refine (CT _).mono ?_; rintro e w' ⟨rfl, rfl⟩)
      | (go_at_call 38; first | (refine (in_true _ _ _ _ (by omega)).mono ?_; rintro e w' ⟨rfl, rfl⟩) | (refine (in_false _ _ _ _ (by omega)).mono ?_; rintro e w' ⟨rfl, rfl⟩)))
    go_ret
    exact ⟨ret_int (by
      rw [HF.out]
      repeat' split
      all_goals first | rfl | omega | (exfalso; revert g2; decide) | (exfalso; rename_i h; revert h; decide)), hA⟩
end Go.Proofs.YtnpkpkknbflacaaDoor
