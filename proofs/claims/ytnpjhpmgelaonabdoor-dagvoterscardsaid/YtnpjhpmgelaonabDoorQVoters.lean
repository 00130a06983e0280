/- sheaveskeep.voters: three nodes, or all. -/
import Derived.Test.YtnpjhpmgelaonabDoorGIv
import Derived.Test.YtnpjhpmgelaonabDoorGSteps
import Derived.Test.YtnpjhpmgelaonabDoorGAppR
namespace Go.Proofs.YtnpjhpmgelaonabDoor
open Go.RowKit

/-- The numbers below i, without k. -/
def without (k : Int) : Nat → List Int
  | 0 => []
  | i + 1 => if (i : Int) = k then without k i else without k i ++ [(i : Int)]
def votersL (n : Int) : List Int := without (pk n 5) 4
set_option maxRecDepth 100000 in
theorem without_le (k : Int) (i : Nat) : (without k i).length ≤ i := by
  induction i with
  | zero => simp [without]
  | succ i ih =>
    rw [without]
    split
    · omega
    · simp; omega
set_option maxRecDepth 100000 in
set_option maxHeartbeats 1000000 in
theorem voters_any (n : Int) (w : World) (hn : I64 n) :
    Calls Tryd.prog 12 #[.int .i64 n] w fun e w' => ∃ v, e = .returned v ∧ w'.ownsRow w.heap.size 3 1 v (votersL n).length (iv (votersL n)) ∧ Below w.heap.size w w' := by
  obtain ⟨p0, p1⟩ := pk_bounds n 5 (by decide)
  obtain ⟨i, hi, hz0, hz1, hz2⟩ := info_parts infoInt2
  have hP := fun wx => picked_any n 5 wx hn.1 hn.2 (by decide) (by decide)
  unfold votersL
  generalize pk n 5 = k at *
  have HP : Hid _ := hP
  clear hP
  go_enter Tryd.func12, Tryd.ntmps12
  go_wp2_with (go_at_call 9; refine (HP.out _).mono ?_; rintro e w9 ⟨rfl, rfl⟩)
  go_loopw [5, 4] (fun j t wr => ∃ (m : Nat) (tv : Value), m ≤ 4 ∧ j = .int .i64 m ∧ tv = t ∧ wr.ownsRow w.heap.size 3 1 tv (without k m).length (iv (without k m)) ∧ Below w.heap.size w wr) (fun j _ _ => 4 - (intOf j).toNat)
  case atStart => exact ⟨0, _, Nat.zero_le _, rfl, rfl, World.ownsRow_nil _ _ _ _, Below.refl _ _⟩
  case round =>
    obtain ⟨m, tv, hm, rfl, rfl, ho, hbw⟩ := hrel
    by_cases hlt : m < 4
    · have hltI : (m : Int) < 4 := by omega
      have hle := without_le k m
      by_cases he : (m : Int) = k
      · have hst : Hid (without k (m + 1) = without k m) := by show _ = _; rw [without, if_pos he]
        have heb : ((m : Int) == k) = true := by simpa using he
        have He : Hid ((m : Int) = k) := he
        clear he
        go_wp2_with fail
        go_roundw
        case rel =>
          have hR : ∃ (m' : Nat) (tv' : Value), m' ≤ 4 ∧ (Value.int .i64 ((m : Int) + 1)) = .int .i64 m' ∧ tv' = tv ∧ wr.ownsRow w.heap.size 3 1 tv' (without k m').length (iv (without k m')) ∧ Below w.heap.size w wr := ⟨m + 1, tv, by omega, by go_num, rfl, by rw [hst.out]; exact ho, hbw⟩
          first | exact hR | ((repeat apply Exists.intro); exact ⟨hR, rfl⟩)
        case measure => simp [intOf]; omega
      · have hst : Hid (without k (m + 1) = without k m ++ [(m : Int)]) := by show _ = _; rw [without, if_neg he]
        have heb : ((m : Int) == k) = false := by simpa using he
        generalize without k m = T at *
        have hBr := hbw.size
        go_wp2_with (at_builtin; refine wpList_append_own_at _ rfl _ _ 43 rfl w.heap.size 3 i (.int .i64 0) 1 8 Tryd.underlying43 hi hz0 hz1 hz2 rfl (by decide) _ T.length _ rfl (World.ownsRow.alloc ho _) ⟨wr.heap.size, 0, none⟩ 1 1 [.int .i64 (m : Int)] rfl rfl (cells_new _ _ _) (iv_one [_]) (by unfold maxLen; omega) (by omega) (le_alloc hBr _) ?_; intro v5 w5 ho5 hg5 _ _)
        go_roundw
        case rel =>
          have hb5 : Below w.heap.size w w5 := Below.grown (hbw.alloc hBr _) hg5 (le_alloc hBr _) (fun q e => (ho.lt q e).1)
          have hR : ∃ (m' : Nat) (tv' : Value), m' ≤ 4 ∧ (Value.int .i64 ((m : Int) + 1)) = .int .i64 m' ∧ tv' = v5 ∧ w5.ownsRow w.heap.size 3 1 tv' (without k m').length (iv (without k m')) ∧ Below w.heap.size w w5 := ⟨m + 1, v5, by omega, by go_num, rfl, by rw [hst.out]; simpa [iv] using ho5, hb5⟩
          first | exact hR | ((repeat apply Exists.intro); exact ⟨hR, rfl⟩)
        case measure => simp [intOf]; omega
    · obtain rfl : m = 4 := by omega
      go_wp2_with fail
      go_ret
      exact ⟨_, rfl, ho, hbw⟩
end Go.Proofs.YtnpjhpmgelaonabDoor
