/- The document's HeaderFault, for every header. -/
import Derived.Test.YtchmfbhdnhaleaaHeadF
import Derived.Test.YtchmfbhdnhaleaaRDigs
import Derived.Test.YtchmfbhdnhaleaaRIn
namespace Go.Proofs.Ytchmfbhdnhaleaa
open Go.RowKit

set_option maxRecDepth 100000 in
set_option maxHeartbeats 2000000 in
theorem headerFault_any (au rd : Int) (ba : Option Addr) (bc : Nat) (bl : List Part) (pa : Option Addr) (pc : Nat) (pl : List Part) (w : World) (hb : ListAt w ba bc bl) (hp : ListAt w pa pc pl) :
    Calls Try.prog 38 #[.agg #[.int .i64 au, .int .i64 rd, .slice ba bl.length bc, .slice pa pl.length pc]] w fun e w' => e = .returned (.int .i64 (headerF au rd bl pl)) ∧ Below w.heap.size w w' := by
  have hbl := hb.le
  have hbm := hb.max
  have hbs := hb.small
  have hpl := hp.le
  have hpm := hp.max
  have hps := hp.small
  have hA : Below w.heap.size w (w.alloc (.cells #[.int .i64 au, .int .i64 rd, .slice ba bl.length bc, .slice pa pl.length pc] 27)) := (Below.refl _ _).alloc (Nat.le_refl _) _
  by_cases ha : 0 ≤ au ∧ au < 4
  · by_cases hr : 1 ≤ rd ∧ rd ≤ 1048576
    · by_cases hz : 3 < bl.length ∨ 4 < pl.length
      · have hF : Hid (headerF au rd bl pl = 1) := by show _ = _; rw [headerF, if_neg (by simp [ha, hr]), if_pos hz]
        by_cases hz1 : 3 < bl.length
        · have hzI : (3 : Int) < bl.length := by omega
          go_enter Try.func38, Try.ntmps38
          go_wp2_with (go_at_call 36; first | (refine (in_true _ _ _ _ (by omega)).mono ?_; rintro e w' ⟨rfl, rfl⟩) | (refine (in_false _ _ _ _ (by omega)).mono ?_; rintro e w' ⟨rfl, rfl⟩))
          go_ret
          exact ⟨ret_int hF.out.symm, hA⟩
        · have hzI : ¬ (3 : Int) < bl.length := by omega
          have hzJ : (4 : Int) < pl.length := by omega
          go_enter Try.func38, Try.ntmps38
          go_wp2_with (go_at_call 36; first | (refine (in_true _ _ _ _ (by omega)).mono ?_; rintro e w' ⟨rfl, rfl⟩) | (refine (in_false _ _ _ _ (by omega)).mono ?_; rintro e w' ⟨rfl, rfl⟩))
          go_ret
          exact ⟨ret_int hF.out.symm, hA⟩
      · have hF : Hid (headerF au rd bl pl = if digF bl ≠ 0 then digF bl else if digF pl ≠ 0 then digF pl else parentsF rd pl.length) := by show _ = _; rw [headerF, if_neg (by simp [ha, hr]), if_neg hz]
        have hzI : ¬ (3 : Int) < bl.length := by omega
        have hzJ : ¬ (4 : Int) < pl.length := by omega
        go_enter Try.func38, Try.ntmps38
        go_wp2_with (go_at_call 36; first | (refine (in_true _ _ _ _ (by omega)).mono ?_; rintro e w' ⟨rfl, rfl⟩) | (refine (in_false _ _ _ _ (by omega)).mono ?_; rintro e w' ⟨rfl, rfl⟩))
        refine (digestsFault_any bl ba _ bc _ rfl (by omega) (hb.parts.below hA)).mono ?_
        rintro e w1 ⟨he, hb1⟩
        subst he
        dsimp only
        have r1 := row_new hb1
        replace hb1 := below_alloc hb1
        have c1 : w1.cell? ⟨w.heap.size, 1, none⟩ = some (.int .i64 rd) := cells_at r1 1 _ rfl
        have c3 : w1.cell? ⟨w.heap.size, 3, none⟩ = some (.slice pa pl.length pc) := cells_at r1 3 _ rfl
        by_cases h1 : digF bl = 0
        · rw [h1] at hF ⊢
          go_wp2_with fail
          refine (digestsFault_any pl pa _ pc _ rfl (by omega) (hp.parts.below hb1)).mono ?_
          rintro e w2 ⟨he, hb2⟩
          subst he
          dsimp only
          have r2 := (hb2.block _ (lt_of_heap r1)).trans r1
          have hb12 := hb1.trans (hb2.mono hb1.size)
          have c1' : w2.cell? ⟨w.heap.size, 1, none⟩ = some (.int .i64 rd) := cells_at r2 1 _ rfl
          have c3' : w2.cell? ⟨w.heap.size, 3, none⟩ = some (.slice pa pl.length pc) := cells_at r2 3 _ rfl
          clear c3 c1 r1 r2
          by_cases h2 : digF pl = 0
          · rw [h2] at hF ⊢
            by_cases k1 : rd = 1
            · subst k1
              by_cases k2 : pl.length = 0
              · have hG : Hid (headerF au 1 bl pl = 0) := by show _ = _; rw [hF.out, if_neg (by simp), if_neg (by simp), parentsF, if_neg (by omega)]
                clear hF
                rw [k2] at c3' ⊢
                go_wp2_with fail
                go_ret
                exact ⟨ret_int hG.out.symm, hb12⟩
              · have hG : Hid (headerF au 1 bl pl = 10) := by show _ = _; rw [hF.out, if_neg (by simp), if_neg (by simp), parentsF, if_pos (by omega)]
                clear hF
                have k2I : ¬ (pl.length : Int) = 0 := by omega
                go_wp2_with fail
                go_ret
                exact ⟨ret_int hG.out.symm, hb12⟩
            · have k1J : (1 : Int) < rd := by omega
              by_cases k2 : pl.length < 3
              · have hG : Hid (headerF au rd bl pl = 10) := by show _ = _; rw [hF.out, if_neg (by simp), if_neg (by simp), parentsF, if_pos (by omega)]
                clear hF
                have k2I : (pl.length : Int) < 3 := by omega
                go_wp2_with fail
                go_ret
                exact ⟨ret_int hG.out.symm, hb12⟩
              · have hG : Hid (headerF au rd bl pl = 0) := by show _ = _; rw [hF.out, if_neg (by simp), if_neg (by simp), parentsF, if_neg (by omega)]
                clear hF
                have k2I : ¬ (pl.length : Int) < 3 := by omega
                go_wp2_with fail
                go_ret
                exact ⟨ret_int hG.out.symm, hb12⟩
          · rw [if_neg (by simp), if_pos h2] at hF
            generalize digF pl = z at *
            go_wp2_with fail
            go_ret
            exact ⟨ret_int hF.out.symm, hb12⟩
        · rw [if_pos h1] at hF
          generalize digF bl = z at *
          go_wp2_with fail
          go_ret
          exact ⟨ret_int hF.out.symm, hb1⟩
    · have hF : Hid (headerF au rd bl pl = 2) := by show _ = _; simp [headerF, hr]
      go_enter Try.func38, Try.ntmps38
      go_wp2_with (go_at_call 36; first | (refine (in_true _ _ _ _ (by omega)).mono ?_; rintro e w' ⟨rfl, rfl⟩) | (refine (in_false _ _ _ _ (by omega)).mono ?_; rintro e w' ⟨rfl, rfl⟩))
      go_ret
      exact ⟨ret_int hF.out.symm, hA⟩
  · have hF : Hid (headerF au rd bl pl = 2) := by show _ = _; simp [headerF, ha]
    go_enter Try.func38, Try.ntmps38
    go_wp2_with (go_at_call 36; first | (refine (in_true _ _ _ _ (by omega)).mono ?_; rintro e w' ⟨rfl, rfl⟩) | (refine (in_false _ _ _ _ (by omega)).mono ?_; rintro e w' ⟨rfl, rfl⟩))
    go_ret
    exact ⟨ret_int hF.out.symm, hA⟩
end Go.Proofs.Ytchmfbhdnhaleaa
