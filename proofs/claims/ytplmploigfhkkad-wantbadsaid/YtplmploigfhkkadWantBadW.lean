/- The walk of WantBad. -/
import Derived.Test.YtplmploigfhkkadEncW
import Derived.Test.YtplmploigfhkkadCarryW
import Derived.Test.YtplmploigfhkkadPicked
import Derived.Test.YtplmploigfhkkadSame
namespace Go.Proofs.Ytplmploigfhkkad
open Go.RowKit

/-- A message that wants a round. -/
def wantM (k : Int) : Msg := ⟨0, 0, 5, 0, 0, 0, 0, 0, 0, 0, 0, k, none, none, none, none, none, none, none, 0, 0, 0, 0, 0, 0, 0, 0, 0, 0, 0, 0, 0, 0⟩
theorem wantM_ok (k : Int) : checkF (wantM k) 0 = 0 := by simp [checkF, strip, msgEmpty, wantM]
theorem wantM_bad (k : Int) : checkF (wantM k) 2 = 2 := by simp [checkF, wantM]

set_option maxRecDepth 100000 in
set_option maxHeartbeats 400000 in
theorem wantBad_walk (n : Int) (w : World) (h0 : -9223372036854775808 ≤ n) (h1 : n ≤ 9223372036854775807) :
    Calls Try.prog 3 #[.int .i64 n] w fun e w' => e = .returned (.bool true) ∧ Below w.heap.size w w' := by
  obtain ⟨hp0, hp1⟩ := pk_bounds n 3145728 (by omega)
  go_enter Try.func3, Try.ntmps3
  go_wp2_with fail
  refine (picked_any n 3145728 _ h0 h1 (by omega) (by omega)).mono ?_
  rintro e w1 ⟨rfl, rfl⟩
  generalize pk n 3145728 = k at *
  have hq := heap_alloc_new w (.cells #[.int .i64 0, .int .i64 0, .int .i64 0, .int .i64 0, .int .i64 0, .slice none 0 0, .int .i64 0, .int .i64 0, .slice none 0 0, .slice none 0 0, .int .i64 0, .int .i64 0, .slice none 0 0, .int .i64 0, .int .i64 0, .slice none 0 0, .slice none 0 0, .slice none 0 0, .int .i64 0] 36)
  have hq1 := setRow_heap _ _ _ #[.int .i64 0, .int .i64 0, .int .i64 5, .int .i64 0, .int .i64 0, .slice none 0 0, .int .i64 0, .int .i64 0, .slice none 0 0, .slice none 0 0, .int .i64 0, .int .i64 0, .slice none 0 0, .int .i64 0, .int .i64 0, .slice none 0 0, .slice none 0 0, .slice none 0 0, .int .i64 k] _ _ hq
  have hW := laid_row w #[.int .i64 0, .int .i64 0, .int .i64 0, .int .i64 0, .int .i64 0, .slice none 0 0, .int .i64 0, .int .i64 0, .slice none 0 0, .slice none 0 0, .int .i64 0, .int .i64 0, .slice none 0 0, .int .i64 0, .int .i64 0, .slice none 0 0, .slice none 0 0, .slice none 0 0, .int .i64 0] #[.int .i64 0, .int .i64 0, .int .i64 5, .int .i64 0, .int .i64 0, .slice none 0 0, .int .i64 0, .int .i64 0, .slice none 0 0, .slice none 0 0, .int .i64 0, .int .i64 0, .slice none 0 0, .int .i64 0, .int .i64 0, .slice none 0 0, .slice none 0 0, .slice none 0 0, .int .i64 k] 36
  by_cases hk : 1 ≤ k ∧ k ≤ 1048576
  · have hF : wantF k = 0 := by simp [wantF, hk]
    obtain ⟨hk1, hk2⟩ := hk
    go_wp2_with (first | refine wpList_store_row rfl 36 _ _ rfl w.heap.size #[.int .i64 0, .int .i64 0, .int .i64 5, .int .i64 0, .int .i64 0, .slice none 0 0, .int .i64 0, .int .i64 0, .slice none 0 0, .slice none 0 0, .int .i64 0, .int .i64 0, .slice none 0 0, .int .i64 0, .int .i64 0, .slice none 0 0, .slice none 0 0, .slice none 0 0, .int .i64 k] rfl rfl 36 #[.int .i64 0, .int .i64 0, .int .i64 0, .int .i64 0, .int .i64 0, .slice none 0 0, .int .i64 0, .int .i64 0, .slice none 0 0, .slice none 0 0, .int .i64 0, .int .i64 0, .slice none 0 0, .int .i64 0, .int .i64 0, .slice none 0 0, .slice none 0 0, .slice none 0 0, .int .i64 0] hq sMsg rfl (by simp [Value.oneCell']) ?_ | refine wpList_load_row rfl 36 _ rfl w.heap.size rfl 36 #[.int .i64 0, .int .i64 0, .int .i64 5, .int .i64 0, .int .i64 0, .slice none 0 0, .int .i64 0, .int .i64 0, .slice none 0 0, .slice none 0 0, .int .i64 0, .int .i64 0, .slice none 0 0, .int .i64 0, .int .i64 0, .slice none 0 0, .slice none 0 0, .slice none 0 0, .int .i64 k] (0, 0) _ hq1 Try.underlying36 rfl sMsg ?_)
    refine (encode_want (wantM k) _ rfl (by simp [wantM]) (by simp [wantM]) ⟨by show 0 ≤ k; omega, hk2⟩ ?_).mono ?_
    · intro w1 _
      have := check_of (wantM k) 0 w1 (fun _ => by simp [wantM]) (fun w2 _ => by have := carry_want (wantM k) w2 rfl; rwa [show (wantM k).ro = k from rfl, hF] at this)
      rwa [wantM_ok] at this
    rintro e w2 ⟨v, rfl, ho, hb⟩
    replace hb := hW.trans (hb.mono hW.size)
    obtain ⟨sa, cap, hv, hl, hs⟩ := owns_form ho
    subst hv
    clear hl
    have hlit := (sliceAt_of_owns (World.ownsRow_lit (base := w2.heap.size) (e := 5) (size := 1) w2 (ub [5, 0, 0, k / 65536, k / 256 % 256, k % 256]).toArray 6 (Nat.le_refl _) (by decide) rfl)).2
    go_wp2_with fail
    refine (same_eq [5, 0, 0, k / 65536, k / 256 % 256, k % 256] _ _ _ _ _ _ _ rfl rfl (hs.below ?_) hlit).mono ?_
    · exact (Below.refl _ _).alloc (Nat.le_refl _) _
    rintro e w3 ⟨rfl, rfl⟩
    go_wp2_with fail
    go_ret
    exact ⟨rfl, hb.alloc hb.size _⟩
  · have hF : wantF k = 2 := by simp [wantF, hk]
    go_wp2_with (first | refine wpList_store_row rfl 36 _ _ rfl w.heap.size #[.int .i64 0, .int .i64 0, .int .i64 5, .int .i64 0, .int .i64 0, .slice none 0 0, .int .i64 0, .int .i64 0, .slice none 0 0, .slice none 0 0, .int .i64 0, .int .i64 0, .slice none 0 0, .int .i64 0, .int .i64 0, .slice none 0 0, .slice none 0 0, .slice none 0 0, .int .i64 k] rfl rfl 36 #[.int .i64 0, .int .i64 0, .int .i64 0, .int .i64 0, .int .i64 0, .slice none 0 0, .int .i64 0, .int .i64 0, .slice none 0 0, .slice none 0 0, .int .i64 0, .int .i64 0, .slice none 0 0, .int .i64 0, .int .i64 0, .slice none 0 0, .slice none 0 0, .slice none 0 0, .int .i64 0] hq sMsg rfl (by simp [Value.oneCell']) ?_ | refine wpList_load_row rfl 36 _ rfl w.heap.size rfl 36 #[.int .i64 0, .int .i64 0, .int .i64 5, .int .i64 0, .int .i64 0, .slice none 0 0, .int .i64 0, .int .i64 0, .slice none 0 0, .slice none 0 0, .int .i64 0, .int .i64 0, .slice none 0 0, .int .i64 0, .int .i64 0, .slice none 0 0, .slice none 0 0, .slice none 0 0, .int .i64 k] (0, 0) _ hq1 Try.underlying36 rfl sMsg ?_)
    refine (encode_bad (wantM k) 2 _ (by decide) ?_).mono ?_
    · intro w1 _
      have := check_of (wantM k) 2 w1 (fun h => by cases h) (fun w2 _ => by have := carry_want (wantM k) w2 rfl; rwa [show (wantM k).ro = k from rfl, hF] at this)
      rwa [wantM_bad] at this
    rintro e w2 ⟨rfl, hb⟩
    replace hb := hW.trans (hb.mono hW.size)
    go_wp2_with fail
    all_goals
      go_ret
      exact ⟨by first | rfl | simp, hb⟩
end Go.Proofs.Ytplmploigfhkkad
