/- wire.checkParents and wire.CheckHeader, for every header. -/
import Derived.Test.YtbmodfegcmaieaaDoorHeadF
import Derived.Test.YtbmodfegcmaieaaDoorDigsC
import Derived.Test.YtbmodfegcmaieaaDoorIns
namespace Go.Proofs.YtbmodfegcmaieaaDoor
open Go.RowKit

set_option maxRecDepth 100000 in
set_option maxHeartbeats 400000 in
theorem checkParents_any (rd : Int) (n : Nat) (w : World) (hn : n ≤ 1000) :
    Calls Tryd.prog 89 #[.int .i64 rd, .int .i64 n] w fun e w' => e = .returned (.int .i64 (parentsF rd n)) ∧ w = w' := by
  by_cases h1 : rd = 1
  · subst h1
    by_cases h2 : 0 < n
    · have hF : Hid (parentsF 1 n = 10) := by show _ = _; simp [parentsF, h2]
      have h2I : (0 : Int) < n := by omega
      go_enter Tryd.func89, Tryd.ntmps89
      go_wp2_with fail
      go_ret
      exact ⟨ret_int hF.out.symm, rfl⟩
    · have hF : Hid (parentsF 1 n = 0) := by show _ = _; simp [parentsF, h2]
      have h2I : ¬ (0 : Int) < n := by omega
      go_enter Tryd.func89, Tryd.ntmps89
      go_wp2_with fail
      go_ret
      exact ⟨ret_int hF.out.symm, rfl⟩
  · by_cases h2 : 1 < rd
    · by_cases h3 : n < 3
      · have hF : Hid (parentsF rd n = 10) := by show _ = _; simp [parentsF, h2, h3]
        have h3I : (n : Int) < 3 := by omega
        go_enter Tryd.func89, Tryd.ntmps89
        go_wp2_with fail
        go_ret
        exact ⟨ret_int hF.out.symm, rfl⟩
      · have hF : Hid (parentsF rd n = 0) := by show _ = _; simp [parentsF, h1, h3]
        have h3I : ¬ (n : Int) < 3 := by omega
        go_enter Tryd.func89, Tryd.ntmps89
        go_wp2_with fail
        go_ret
        exact ⟨ret_int hF.out.symm, rfl⟩
    · have hF : Hid (parentsF rd n = 0) := by show _ = _; simp [parentsF, h1, h2]
      go_enter Tryd.func89, Tryd.ntmps89
      go_wp2_with fail
      go_ret
      exact ⟨ret_int hF.out.symm, rfl⟩

set_option maxRecDepth 100000 in
set_option maxHeartbeats 1000000 in
theorem checkHeader_any (au rd : Int) (ba : Option Addr) (bc : Nat) (bl : List Part) (pa : Option Addr) (pc : Nat) (pl : List Part) (w : World) (hb : ListAt w ba bc bl) (hp : ListAt w pa pc pl) :
    Calls Tryd.prog 64 #[.agg #[.int .i64 au, .int .i64 rd, .slice ba bl.length bc, .slice pa pl.length pc]] w fun e w' => e = .returned (.int .i64 (headerF au rd bl pl)) ∧ Below w.heap.size w w' := by
  have hbl := hb.le
  have hbm := hb.max
  have hbs := hb.small
  have hpl := hp.le
  have hpm := hp.max
  have hps := hp.small
  have hA : Below w.heap.size w (w.alloc (.cells #[.int .i64 au, .int .i64 rd, .slice ba bl.length bc, .slice pa pl.length pc] 60)) := (Below.refl _ _).alloc (Nat.le_refl _) _
  by_cases ha : 0 ≤ au ∧ au < 4
  · by_cases hr : 1 ≤ rd ∧ rd ≤ 1048576
    · by_cases hz : 3 < bl.length ∨ 4 < pl.length
      · have hF : Hid (headerF au rd bl pl = 1) := by show _ = _; rw [headerF, if_neg (by simp [ha, hr]), if_pos hz]
        by_cases hz1 : 3 < bl.length
        · have hzI : (3 : Int) < bl.length := by omega
          go_enter Tryd.func64, Tryd.ntmps64
          go_wp2_with (first | (go_at_call 81; first | (refine (isNode_true _ _ (by omega)).mono ?_; rintro e w' ⟨rfl, rfl⟩) | (refine (isNode_false _ _ (by omega)).mono ?_; rintro e w' ⟨rfl, rfl⟩)) | (go_at_call 82; first | (refine (isRound_true _ _ (by omega)).mono ?_; rintro e w' ⟨rfl, rfl⟩) | (refine (isRound_false _ _ (by omega)).mono ?_; rintro e w' ⟨rfl, rfl⟩)))
          go_ret
          exact ⟨ret_int hF.out.symm, hA⟩
        · have hzI : ¬ (3 : Int) < bl.length := by omega
          have hzJ : (4 : Int) < pl.length := by omega
          go_enter Tryd.func64, Tryd.ntmps64
          go_wp2_with (first | (go_at_call 81; first | (refine (isNode_true _ _ (by omega)).mono ?_; rintro e w' ⟨rfl, rfl⟩) | (refine (isNode_false _ _ (by omega)).mono ?_; rintro e w' ⟨rfl, rfl⟩)) | (go_at_call 82; first | (refine (isRound_true _ _ (by omega)).mono ?_; rintro e w' ⟨rfl, rfl⟩) | (refine (isRound_false _ _ (by omega)).mono ?_; rintro e w' ⟨rfl, rfl⟩)))
          go_ret
          exact ⟨ret_int hF.out.symm, hA⟩
      · have hF : Hid (headerF au rd bl pl = if digF bl ≠ 0 then digF bl else if digF pl ≠ 0 then digF pl else parentsF rd pl.length) := by show _ = _; rw [headerF, if_neg (by simp [ha, hr]), if_neg hz]
        have hzI : ¬ (3 : Int) < bl.length := by omega
        have hzJ : ¬ (4 : Int) < pl.length := by omega
        go_enter Tryd.func64, Tryd.ntmps64
        go_wp2_with (first | (go_at_call 81; first | (refine (isNode_true _ _ (by omega)).mono ?_; rintro e w' ⟨rfl, rfl⟩) | (refine (isNode_false _ _ (by omega)).mono ?_; rintro e w' ⟨rfl, rfl⟩)) | (go_at_call 82; first | (refine (isRound_true _ _ (by omega)).mono ?_; rintro e w' ⟨rfl, rfl⟩) | (refine (isRound_false _ _ (by omega)).mono ?_; rintro e w' ⟨rfl, rfl⟩)))
        refine (checkDigests_any bl ba _ bc _ rfl hb.le hb.max hb.small hb.some (hb.parts.below hA)).mono ?_
        rintro e w1 ⟨he, hb1⟩
        subst he
        dsimp only
        have r1 := row_new hb1
        replace hb1 := below_alloc hb1
        have c3 : w1.cell? ⟨w.heap.size, 3, none⟩ = some (.slice pa pl.length pc) := cells_at r1 3 _ rfl
        by_cases h1 : digF bl = 0
        · rw [h1] at hF ⊢
          go_wp2_with fail
          refine (checkDigests_any pl pa _ pc _ rfl hp.le hp.max hp.small hp.some (hp.parts.below hb1)).mono ?_
          rintro e w2 ⟨he, hb2⟩
          subst he
          dsimp only
          have r2 := (hb2.block _ (lt_of_heap r1)).trans r1
          have hb12 := hb1.trans (hb2.mono hb1.size)
          have c1 : w2.cell? ⟨w.heap.size, 1, none⟩ = some (.int .i64 rd) := cells_at r2 1 _ rfl
          have c3' : w2.cell? ⟨w.heap.size, 3, none⟩ = some (.slice pa pl.length pc) := cells_at r2 3 _ rfl
          clear c3 r1 r2
          by_cases h2 : digF pl = 0
          · rw [h2] at hF ⊢
            go_wp2_with fail
            refine (checkParents_any rd pl.length w2 (by omega)).mono ?_
            rintro e w3 ⟨he, rfl⟩
            subst he
            dsimp only
            go_wp2_with fail
            go_ret
            exact ⟨ret_int (by rw [hF.out]; rfl), hb12⟩
          · rw [if_neg (by simp), if_pos h2] at hF
            generalize digF pl = z at *
            go_wp2_with fail
            go_ret
            exact ⟨ret_int hF.out.symm, hb12⟩
        · rw [if_pos h1] at hF
          generalize digF bl = z at *
          go_wp2_with fail
          go_ret
          exact ⟨ret_int hF.out.symm, hb1⟩
    · have hF : Hid (headerF au rd bl pl = 2) := by show _ = _; simp [headerF, hr]
      go_enter Tryd.func64, Tryd.ntmps64
      go_wp2_with (first | (go_at_call 81; first | (refine (isNode_true _ _ (by omega)).mono ?_; rintro e w' ⟨rfl, rfl⟩) | (refine (isNode_false _ _ (by omega)).mono ?_; rintro e w' ⟨rfl, rfl⟩)) | (go_at_call 82; first | (refine (isRound_true _ _ (by omega)).mono ?_; rintro e w' ⟨rfl, rfl⟩) | (refine (isRound_false _ _ (by omega)).mono ?_; rintro e w' ⟨rfl, rfl⟩)))
      go_ret
      exact ⟨ret_int hF.out.symm, hA⟩
  · have hF : Hid (headerF au rd bl pl = 2) := by show _ = _; simp [headerF, ha]
    go_enter Tryd.func64, Tryd.ntmps64
    go_wp2_with (first | (go_at_call 81; first | (refine (isNode_true _ _ (by omega)).mono ?_; rintro e w' ⟨rfl, rfl⟩) | (refine (isNode_false _ _ (by omega)).mono ?_; rintro e w' ⟨rfl, rfl⟩)) | (go_at_call 82; first | (refine (isRound_true _ _ (by omega)).mono ?_; rintro e w' ⟨rfl, rfl⟩) | (refine (isRound_false _ _ (by omega)).mono ?_; rintro e w' ⟨rfl, rfl⟩)))
    go_ret
    exact ⟨ret_int hF.out.symm, hA⟩
end Go.Proofs.YtbmodfegcmaieaaDoor
