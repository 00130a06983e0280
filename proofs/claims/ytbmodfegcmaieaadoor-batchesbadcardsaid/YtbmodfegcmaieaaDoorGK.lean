/- The ground of the walks over package blake: plain functions on lists of numbers, and a relation on worlds: one block is rewritten, all others that were there stay. No condition. -/
import Derived.Test.YtbmodfegcmaieaaDoorGApp
import Derived.Test.YtbmodfegcmaieaaDoorGDigsC
import Derived.WalkKit
import Derived.WalkSpells
import Derived.WalkLawsBesides
import Derived.Laws.BitsAllLaws
namespace Go.Proofs.YtbmodfegcmaieaaDoor
open Go.RowKit

set_option maxRecDepth 100000 in
theorem isNode_bool (n : Int) (r : Bool) (w : World) (h : r = decide (0 ≤ n ∧ n < 4)) : Calls Tryd.prog 81 #[.int .i64 n] w fun e w' => e = .returned (.bool r) ∧ w = w' := by
  by_cases h1 : 0 ≤ n
  · by_cases h2 : n < 4
    · obtain rfl : r = true := by simp [h, h1, h2]
      clear h
      go_enter Tryd.func81, Tryd.ntmps81
      go_wp2
      go_ret
      exact ⟨rfl, rfl⟩
    · obtain rfl : r = false := by simp [h, h2]
      clear h
      go_enter Tryd.func81, Tryd.ntmps81
      go_wp2
      go_ret
      exact ⟨rfl, rfl⟩
  · obtain rfl : r = false := by simp [h, h1]
    clear h
    go_enter Tryd.func81, Tryd.ntmps81
    go_wp2
    go_ret
    exact ⟨rfl, rfl⟩
set_option maxRecDepth 100000 in
theorem isRound_bool (n : Int) (r : Bool) (w : World) (h : r = decide (1 ≤ n ∧ n ≤ 1048576)) : Calls Tryd.prog 82 #[.int .i64 n] w fun e w' => e = .returned (.bool r) ∧ w = w' := by
  by_cases h1 : 1 ≤ n
  · by_cases h2 : n ≤ 1048576
    · obtain rfl : r = true := by simp [h, h1, h2]
      clear h
      go_enter Tryd.func82, Tryd.ntmps82
      go_wp2
      go_ret
      exact ⟨rfl, rfl⟩
    · obtain rfl : r = false := by simp [h, h2]
      clear h
      go_enter Tryd.func82, Tryd.ntmps82
      go_wp2
      go_ret
      exact ⟨rfl, rfl⟩
  · obtain rfl : r = false := by simp [h, h1]
    clear h
    go_enter Tryd.func82, Tryd.ntmps82
    go_wp2
    go_ret
    exact ⟨rfl, rfl⟩
set_option maxRecDepth 100000 in
theorem isNode_true (n : Int) (w : World) (h : 0 ≤ n ∧ n < 4) : Calls Tryd.prog 81 #[.int .i64 n] w fun e w' => e = .returned (.bool true) ∧ w = w' := isNode_bool n true w (by simp [h])
set_option maxRecDepth 100000 in
theorem isNode_false (n : Int) (w : World) (h : ¬ (0 ≤ n ∧ n < 4)) : Calls Tryd.prog 81 #[.int .i64 n] w fun e w' => e = .returned (.bool false) ∧ w = w' := isNode_bool n false w (by rw [decide_eq_false h])
set_option maxRecDepth 100000 in
theorem isRound_true (n : Int) (w : World) (h : 1 ≤ n ∧ n ≤ 1048576) : Calls Tryd.prog 82 #[.int .i64 n] w fun e w' => e = .returned (.bool true) ∧ w = w' := isRound_bool n true w (by simp [h])
set_option maxRecDepth 100000 in
theorem isRound_false (n : Int) (w : World) (h : ¬ (1 ≤ n ∧ n ≤ 1048576)) : Calls Tryd.prog 82 #[.int .i64 n] w fun e w' => e = .returned (.bool false) ∧ w = w' := isRound_bool n false w (by rw [decide_eq_false h])
end Go.Proofs.YtbmodfegcmaieaaDoor

namespace Go.Proofs.YtbmodfegcmaieaaDoor
open Go.RowKit

set_option maxRecDepth 100000 in
set_option maxHeartbeats 400000 in
theorem checkParents_any (rd : Int) (n : Nat) (w : World) (hn : n ≤ 1000) :
    Calls Tryd.prog 89 #[.int .i64 rd, .int .i64 n] w fun e w' => e = .returned (.int .i64 (parentsF rd n)) ∧ w = w' := by
  by_cases h1 : rd = 1
  · subst h1
    by_cases h2 : 0 < n
    · have hF : Hid (parentsF 1 n = 10) := by show _ = _; simp [parentsF, h2]
      have h2I : (0 : Int) < n := by omega
      go_enter Tryd.func89, Tryd.ntmps89
      go_wp2_with fail
      go_ret
      exact ⟨ret_int hF.out.symm, rfl⟩
    · have hF : Hid (parentsF 1 n = 0) := by show _ = _; simp [parentsF, h2]
      have h2I : ¬ (0 : Int) < n := by omega
      go_enter Tryd.func89, Tryd.ntmps89
      go_wp2_with fail
      go_ret
      exact ⟨ret_int hF.out.symm, rfl⟩
  · by_cases h2 : 1 < rd
    · by_cases h3 : n < 3
      · have hF : Hid (parentsF rd n = 10) := by show _ = _; simp [parentsF, h2, h3]
        have h3I : (n : Int) < 3 := by omega
        go_enter Tryd.func89, Tryd.ntmps89
        go_wp2_with fail
        go_ret
        exact ⟨ret_int hF.out.symm, rfl⟩
      · have hF : Hid (parentsF rd n = 0) := by show _ = _; simp [parentsF, h1, h3]
        have h3I : ¬ (n : Int) < 3 := by omega
        go_enter Tryd.func89, Tryd.ntmps89
        go_wp2_with fail
        go_ret
        exact ⟨ret_int hF.out.symm, rfl⟩
    · have hF : Hid (parentsF rd n = 0) := by show _ = _; simp [parentsF, h1, h2]
      go_enter Tryd.func89, Tryd.ntmps89
      go_wp2_with fail
      go_ret
      exact ⟨ret_int hF.out.symm, rfl⟩

set_option maxRecDepth 100000 in
set_option maxHeartbeats 1000000 in
theorem checkHeader_any (au rd : Int) (ba : Option Addr) (bc : Nat) (bl : List Part) (pa : Option Addr) (pc : Nat) (pl : List Part) (w : World) (hb : ListAt w ba bc bl) (hp : ListAt w pa pc pl) :
    Calls Tryd.prog 64 #[.agg #[.int .i64 au, .int .i64 rd, .slice ba bl.length bc, .slice pa pl.length pc]] w fun e w' => e = .returned (.int .i64 (headerF au rd bl pl)) ∧ Below w.heap.size w w' := by
  have hbl := hb.le
  have hbm := hb.max
  have hbs := hb.small
  have hpl := hp.le
  have hpm := hp.max
  have hps := hp.small
  have hA : Below w.heap.size w (w.alloc (.cells #[.int .i64 au, .int .i64 rd, .slice ba bl.length bc, .slice pa pl.length pc] 60)) := (Below.refl _ _).alloc (Nat.le_refl _) _
  by_cases ha : 0 ≤ au ∧ au < 4
  · by_cases hr : 1 ≤ rd ∧ rd ≤ 1048576
    · by_cases hz : 3 < bl.length ∨ 4 < pl.length
      · have hF : Hid (headerF au rd bl pl = 1) := by show _ = _; rw [headerF, if_neg (by simp [ha, hr]), if_pos hz]
        by_cases hz1 : 3 < bl.length
        · have hzI : (3 : Int) < bl.length := by omega
          go_enter Tryd.func64, Tryd.ntmps64
          go_wp2_with (first | (go_at_call 81; first | (refine (isNode_true _ _ (by omega)).mono ?_; rintro e w' ⟨rfl, rfl⟩) | (refine (isNode_false _ _ (by omega)).mono ?_; rintro e w' ⟨rfl, rfl⟩)) | (go_at_call 82; first | (refine (isRound_true _ _ (by omega)).mono ?_; rintro e w' ⟨rfl, rfl⟩) | (refine (isRound_false _ _ (by omega)).mono ?_; rintro e w' ⟨rfl, rfl⟩)))
          go_ret
          exact ⟨ret_int hF.out.symm, hA⟩
        · have hzI : ¬ (3 : Int) < bl.length := by omega
          have hzJ : (4 : Int) < pl.length := by omega
          go_enter Tryd.func64, Tryd.ntmps64
          go_wp2_with (first | (go_at_call 81; first | (refine (isNode_true _ _ (by omega)).mono ?_; rintro e w' ⟨rfl, rfl⟩) | (refine (isNode_false _ _ (by omega)).mono ?_; rintro e w' ⟨rfl, rfl⟩)) | (go_at_call 82; first | (refine (isRound_true _ _ (by omega)).mono ?_; rintro e w' ⟨rfl, rfl⟩) | (refine (isRound_false _ _ (by omega)).mono ?_; rintro e w' ⟨rfl, rfl⟩)))
          go_ret
          exact ⟨ret_int hF.out.symm, hA⟩
      · have hF : Hid (headerF au rd bl pl = if digF bl ≠ 0 then digF bl else if digF pl ≠ 0 then digF pl else parentsF rd pl.length) := by show _ = _; rw [headerF, if_neg (by simp [ha, hr]), if_neg hz]
        have hzI : ¬ (3 : Int) < bl.length := by omega
        have hzJ : ¬ (4 : Int) < pl.length := by omega
        go_enter Tryd.func64, Tryd.ntmps64
        go_wp2_with (first | (go_at_call 81; first | (refine (isNode_true _ _ (by omega)).mono ?_; rintro e w' ⟨rfl, rfl⟩) | (refine (isNode_false _ _ (by omega)).mono ?_; rintro e w' ⟨rfl, rfl⟩)) | (go_at_call 82; first | (refine (isRound_true _ _ (by omega)).mono ?_; rintro e w' ⟨rfl, rfl⟩) | (refine (isRound_false _ _ (by omega)).mono ?_; rintro e w' ⟨rfl, rfl⟩)))
        refine (checkDigests_any bl ba _ bc _ rfl hb.le hb.max hb.small hb.some (hb.parts.below hA)).mono ?_
        rintro e w1 ⟨he, hb1⟩
        subst he
        dsimp only
        have r1 := row_new hb1
        replace hb1 := below_alloc hb1
        have c3 : w1.cell? ⟨w.heap.size, 3, none⟩ = some (.slice pa pl.length pc) := cells_at r1 3 _ rfl
        by_cases h1 : digF bl = 0
        · rw [h1] at hF ⊢
          go_wp2_with fail
          refine (checkDigests_any pl pa _ pc _ rfl hp.le hp.max hp.small hp.some (hp.parts.below hb1)).mono ?_
          rintro e w2 ⟨he, hb2⟩
          subst he
          dsimp only
          have r2 := (hb2.block _ (lt_of_heap r1)).trans r1
          have hb12 := hb1.trans (hb2.mono hb1.size)
          have c1 : w2.cell? ⟨w.heap.size, 1, none⟩ = some (.int .i64 rd) := cells_at r2 1 _ rfl
          have c3' : w2.cell? ⟨w.heap.size, 3, none⟩ = some (.slice pa pl.length pc) := cells_at r2 3 _ rfl
          clear c3 r1 r2
          by_cases h2 : digF pl = 0
          · rw [h2] at hF ⊢
            go_wp2_with fail
            refine (checkParents_any rd pl.length w2 (by omega)).mono ?_
            rintro e w3 ⟨he, rfl⟩
            subst he
            dsimp only
            go_wp2_with fail
            go_ret
            exact ⟨ret_int (by rw [hF.out]; rfl), hb12⟩
          · rw [if_neg (by simp), if_pos h2] at hF
            generalize digF pl = z at *
            go_wp2_with fail
            go_ret
            exact ⟨ret_int hF.out.symm, hb12⟩
        · rw [if_pos h1] at hF
          generalize digF bl = z at *
          go_wp2_with fail
          go_ret
          exact ⟨ret_int hF.out.symm, hb1⟩
    · have hF : Hid (headerF au rd bl pl = 2) := by show _ = _; simp [headerF, hr]
      go_enter Tryd.func64, Tryd.ntmps64
      go_wp2_with (first | (go_at_call 81; first | (refine (isNode_true _ _ (by omega)).mono ?_; rintro e w' ⟨rfl, rfl⟩) | (refine (isNode_false _ _ (by omega)).mono ?_; rintro e w' ⟨rfl, rfl⟩)) | (go_at_call 82; first | (refine (isRound_true _ _ (by omega)).mono ?_; rintro e w' ⟨rfl, rfl⟩) | (refine (isRound_false _ _ (by omega)).mono ?_; rintro e w' ⟨rfl, rfl⟩)))
      go_ret
      exact ⟨ret_int hF.out.symm, hA⟩
  · have hF : Hid (headerF au rd bl pl = 2) := by show _ = _; simp [headerF, ha]
    go_enter Tryd.func64, Tryd.ntmps64
    go_wp2_with (first | (go_at_call 81; first | (refine (isNode_true _ _ (by omega)).mono ?_; rintro e w' ⟨rfl, rfl⟩) | (refine (isNode_false _ _ (by omega)).mono ?_; rintro e w' ⟨rfl, rfl⟩)) | (go_at_call 82; first | (refine (isRound_true _ _ (by omega)).mono ?_; rintro e w' ⟨rfl, rfl⟩) | (refine (isRound_false _ _ (by omega)).mono ?_; rintro e w' ⟨rfl, rfl⟩)))
    go_ret
    exact ⟨ret_int hF.out.symm, hA⟩
end Go.Proofs.YtbmodfegcmaieaaDoor

namespace Go.Proofs.YtbmodfegcmaieaaDoor
open Go.RowKit

/-- A row of words as cells. -/
def ua (vs : List Int) : Array Value := (vs.map (Value.int .u32)).toArray
set_option maxRecDepth 100000 in
theorem ua_size (vs : List Int) : (ua vs).size = vs.length := by simp [ua]
set_option maxRecDepth 100000 in
theorem ua_get (vs : List Int) (i : Nat) (h : i < vs.length) : (ua vs)[i]? = some (.int .u32 (vs.getD i 0)) := by
  simp [ua, List.getD, h]
set_option maxRecDepth 100000 in
theorem ua_set (vs : List Int) (i : Nat) (x : Int) : (ua vs).setIfInBounds i (.int .u32 x) = ua (vs.set i x) := by
  simp [ua, List.map_set]
set_option maxRecDepth 100000 in
theorem ua_one (vs : List Int) : (ua vs).all (·.oneCell') = true := by
  simp only [ua, List.all_toArray, List.all_map, List.all_eq_true]
  intro x _; rfl

set_option maxRecDepth 100000 in
theorem z16 : ua (List.replicate 16 0) = #[.int .u32 0, .int .u32 0, .int .u32 0, .int .u32 0, .int .u32 0, .int .u32 0, .int .u32 0, .int .u32 0, .int .u32 0, .int .u32 0, .int .u32 0, .int .u32 0, .int .u32 0, .int .u32 0, .int .u32 0, .int .u32 0] := rfl
/-- A word of 32 bits, turned right by n. -/
def rotI (n : Int) (x : Int) : Int := bits .or .u32 (x * 2 ^ (32 - n).toNat % 4294967296) (x / 2 ^ n.toNat)
/-- Four words, with two more: P1.2. -/
def mA1 (a b x : Int) : Int := (a + (b + x)) % 4294967296
def mD1 (a b d x : Int) : Int := rotI 16 (bits .xor .u32 d (mA1 a b x))
def mC1 (a b c d x : Int) : Int := (c + mD1 a b d x) % 4294967296
def mB1 (a b c d x : Int) : Int := rotI 12 (bits .xor .u32 b (mC1 a b c d x))
def mA (a b c d x y : Int) : Int := (a + (b + x) + (mB1 a b c d x + y)) % 4294967296
def mD (a b c d x y : Int) : Int := rotI 8 (bits .xor .u32 (mD1 a b d x) (mA a b c d x y))
def mC (a b c d x y : Int) : Int := (c + mD1 a b d x + mD a b c d x y) % 4294967296
def mB (a b c d x y : Int) : Int := rotI 7 (bits .xor .u32 (mB1 a b c d x) (mC a b c d x y))
def mixL (vs : List Int) (i j k l : Nat) (x y : Int) : List Int :=
  (((vs.set i (mA (vs.getD i 0) (vs.getD j 0) (vs.getD k 0) (vs.getD l 0) x y)).set j (mB (vs.getD i 0) (vs.getD j 0) (vs.getD k 0) (vs.getD l 0) x y)).set k (mC (vs.getD i 0) (vs.getD j 0) (vs.getD k 0) (vs.getD l 0) x y)).set l (mD (vs.getD i 0) (vs.getD j 0) (vs.getD k 0) (vs.getD l 0) x y)
set_option maxRecDepth 100000 in
theorem mixL_length (vs : List Int) (i j k l : Nat) (x y : Int) : (mixL vs i j k l x y).length = vs.length := by simp [mixL]
/-- P1.1: the first words. -/
def fw : List Int := [1779033703, 3144134277, 1013904242, 2773480762, 1359893119, 2600822924, 528734635, 1541459225]
/-- The table of the first words lies there. -/
def Words8 (w : World) : Prop := ∀ i, i < 8 → w.cell? ⟨0, i, none⟩ = some (.int .u32 (fw.getD i 0))
set_option maxRecDepth 100000 in
theorem Words8.below {w w' : World} {B : Nat} (h : Words8 w) (hb : Below B w w') (hB : 0 < B) : Words8 w' := fun i hi => (hb.cell (p := ⟨0, i, none⟩) hB).trans (h i hi)
set_option maxRecDepth 100000 in
theorem Words8.lt {w : World} (h : Words8 w) : 0 < w.heap.size := block_lt_of_cell (h 0 (by decide))
/-- P1.3: in which order words are taken, ten rows of sixteen; and which four words are mixed, eight rows of four. -/
def ordF : List Nat := [0, 1, 2, 3, 4, 5, 6, 7, 8, 9, 10, 11, 12, 13, 14, 15, 14, 10, 4, 8, 9, 15, 13, 6, 1, 12, 0, 2, 11, 7, 5, 3, 11, 8, 12, 0, 5, 2, 15, 13, 10, 14, 3, 6, 7, 1, 9, 4, 7, 9, 3, 1, 13, 12, 11, 14, 2, 6, 5, 10, 4, 0, 15, 8, 9, 0, 5, 7, 2, 4, 10, 15, 14, 1, 11, 12, 6, 8, 3, 13, 2, 12, 6, 10, 0, 11, 8, 3, 4, 13, 7, 5, 15, 14, 1, 9, 12, 5, 1, 15, 14, 13, 4, 10, 0, 7, 6, 3, 9, 2, 8, 11, 13, 11, 7, 14, 12, 1, 3, 9, 5, 0, 15, 4, 8, 6, 2, 10, 6, 15, 14, 9, 11, 3, 0, 8, 12, 2, 13, 7, 1, 4, 10, 5, 10, 2, 8, 4, 7, 6, 1, 5, 15, 11, 9, 14, 3, 12, 13, 0]
def laneF : List Nat := [0, 4, 8, 12, 1, 5, 9, 13, 2, 6, 10, 14, 3, 7, 11, 15, 0, 5, 10, 15, 1, 6, 11, 12, 2, 7, 8, 13, 3, 4, 9, 14]
def Orders (w : World) : Prop := ∀ i, i < 160 → w.cell? ⟨1, i, none⟩ = some (.int .u8 (ordF.getD i 0 : Nat))
def Lanes (w : World) : Prop := ∀ i, i < 32 → w.cell? ⟨2, i, none⟩ = some (.int .u8 (laneF.getD i 0 : Nat))
/-- The three tables lie there. -/
structure Tabs (w : World) : Prop where
  words : Words8 w
  orders : Orders w
  lanes : Lanes w
set_option maxRecDepth 100000 in
theorem Tabs.lt {w : World} (h : Tabs w) : 0 < w.heap.size ∧ 1 < w.heap.size ∧ 2 < w.heap.size :=
  ⟨h.words.lt, block_lt_of_cell (h.orders 0 (by decide)), block_lt_of_cell (h.lanes 0 (by decide))⟩
set_option maxRecDepth 100000 in
theorem Tabs.below {w w' : World} (h : Tabs w) (hb : Below w.heap.size w w') : Tabs w' :=
  ⟨h.words.below hb h.lt.1, fun i hi => (hb.cell (p := ⟨1, i, none⟩) h.lt.2.1).trans (h.orders i hi), fun i hi => (hb.cell (p := ⟨2, i, none⟩) h.lt.2.2).trans (h.lanes i hi)⟩
set_option maxRecDepth 100000 in
theorem ordF_lt (i : Nat) (h : i < 160) : ordF.getD i 0 < 16 := by
  have : ∀ i, i < 160 → ordF.getD i 0 < 16 := by decide +kernel
  exact this i h
set_option maxRecDepth 100000 in
theorem laneF_ok (i : Nat) (h : i < 8) : laneF.getD (i * 4) 0 < 16 ∧ laneF.getD (i * 4 + 1) 0 < 16 ∧ laneF.getD (i * 4 + 2) 0 < 16 ∧ laneF.getD (i * 4 + 3) 0 < 16 ∧
    ¬ laneF.getD (i * 4) 0 = laneF.getD (i * 4 + 1) 0 ∧ ¬ laneF.getD (i * 4) 0 = laneF.getD (i * 4 + 2) 0 ∧ ¬ laneF.getD (i * 4) 0 = laneF.getD (i * 4 + 3) 0 ∧
    ¬ laneF.getD (i * 4 + 1) 0 = laneF.getD (i * 4 + 2) 0 ∧ ¬ laneF.getD (i * 4 + 1) 0 = laneF.getD (i * 4 + 3) 0 ∧ ¬ laneF.getD (i * 4 + 2) 0 = laneF.getD (i * 4 + 3) 0 := by
  have : ∀ i, i < 8 → laneF.getD (i * 4) 0 < 16 ∧ laneF.getD (i * 4 + 1) 0 < 16 ∧ laneF.getD (i * 4 + 2) 0 < 16 ∧ laneF.getD (i * 4 + 3) 0 < 16 ∧
    ¬ laneF.getD (i * 4) 0 = laneF.getD (i * 4 + 1) 0 ∧ ¬ laneF.getD (i * 4) 0 = laneF.getD (i * 4 + 2) 0 ∧ ¬ laneF.getD (i * 4) 0 = laneF.getD (i * 4 + 3) 0 ∧
    ¬ laneF.getD (i * 4 + 1) 0 = laneF.getD (i * 4 + 2) 0 ∧ ¬ laneF.getD (i * 4 + 1) 0 = laneF.getD (i * 4 + 3) 0 ∧ ¬ laneF.getD (i * 4 + 2) 0 = laneF.getD (i * 4 + 3) 0 := by decide
  exact this i h
/-- The words of a block, behind k of its bytes: P1.3. -/
def wordsTo (bs : List Int) : Nat → List Int
  | 0 => List.replicate 16 0
  | k + 1 => (wordsTo bs k).set (k / 4) (bits .or .u32 ((wordsTo bs k).getD (k / 4) 0) (bs.getD k 0 % 4294967296 * 2 ^ (8 * (k % 4)) % 4294967296))
set_option maxRecDepth 100000 in
theorem wordsTo_length (bs : List Int) (k : Nat) : (wordsTo bs k).length = 16 := by
  induction k with
  | zero => rfl
  | succ k ih => simp [wordsTo, ih]
/-- A state, and the first words behind it: P1.3, behind k of them. -/
def spreadTo (s : List Int) : Nat → List Int
  | 0 => s ++ List.replicate 8 0
  | k + 1 => (spreadTo s k).set (8 + k) (fw.getD k 0)
set_option maxRecDepth 100000 in
theorem spreadTo_length (s : List Int) (hs : s.length = 8) (k : Nat) : (spreadTo s k).length = 16 := by
  induction k with
  | zero => simp [spreadTo, hs]
  | succ k ih => simp [spreadTo, ih]
/-- P1.3: sixteen words, out of a state. -/
def spreadA (s : List Int) (taken : Int) : List Int := (spreadTo s 8).set 12 (bits .xor .u32 ((spreadTo s 8).getD 12 0) (taken % 4294967296))
def spreadL (s : List Int) (taken : Int) (last : Bool) : List Int :=
  if last then (spreadA s taken).set 14 (bits .xor .u32 IntKind.u32.max ((spreadTo s 8).getD 14 0)) else spreadA s taken
set_option maxRecDepth 100000 in
theorem spreadA_length (s : List Int) (hs : s.length = 8) (taken : Int) : (spreadA s taken).length = 16 := by simp [spreadA, spreadTo_length s hs]
set_option maxRecDepth 100000 in
theorem spreadL_length (s : List Int) (hs : s.length = 8) (taken : Int) (last : Bool) : (spreadL s taken last).length = 16 := by cases last <;> simp [spreadL, spreadA_length s hs]
/-- P1.4: the state at the beginning, behind k words. -/
def beginTo : Nat → List Int
  | 0 => List.replicate 8 0
  | k + 1 => (beginTo k).set k (fw.getD k 0)
set_option maxRecDepth 100000 in
theorem beginTo_length (k : Nat) : (beginTo k).length = 8 := by
  induction k with
  | zero => rfl
  | succ k ih => simp [beginTo, ih]
def beginL : List Int := (beginTo 8).set 0 (bits .xor .u32 ((beginTo 8).getD 0 0) 16842784)
set_option maxRecDepth 100000 in
theorem beginL_length : beginL.length = 8 := by simp [beginL, beginTo_length]
set_option maxRecDepth 100000 in
theorem z8 : ua (List.replicate 8 0) = #[.int .u32 0, .int .u32 0, .int .u32 0, .int .u32 0, .int .u32 0, .int .u32 0, .int .u32 0, .int .u32 0] := rfl
/-- P1.3: one lane, k lanes, r rounds. -/
def laneStep (m : List Int) (r i : Nat) (v : List Int) : List Int :=
  mixL v (laneF.getD (i * 4) 0) (laneF.getD (i * 4 + 1) 0) (laneF.getD (i * 4 + 2) 0) (laneF.getD (i * 4 + 3) 0) (m.getD (ordF.getD (r * 16 + 2 * i) 0) 0) (m.getD (ordF.getD (r * 16 + (2 * i + 1)) 0) 0)
def lanesTo (m : List Int) (r : Nat) (v : List Int) : Nat → List Int
  | 0 => v
  | k + 1 => laneStep m r k (lanesTo m r v k)
def roundsTo (m v : List Int) : Nat → List Int
  | 0 => v
  | r + 1 => lanesTo m r (roundsTo m v r) 8
set_option maxRecDepth 100000 in
theorem lanesTo_length (m : List Int) (r : Nat) (v : List Int) (k : Nat) : (lanesTo m r v k).length = v.length := by
  induction k with
  | zero => rfl
  | succ k ih => simp [lanesTo, laneStep, mixL_length, ih]
set_option maxRecDepth 100000 in
theorem roundsTo_length (m v : List Int) (r : Nat) : (roundsTo m v r).length = v.length := by
  induction r with
  | zero => rfl
  | succ r ih => simp [roundsTo, lanesTo_length, ih]
/-- P1.3: the state behind, k words of it. -/
def foldTo (s v : List Int) : Nat → List Int
  | 0 => s
  | k + 1 => (foldTo s v k).set k (bits .xor .u32 ((foldTo s v k).getD k 0) (bits .xor .u32 (v.getD k 0) (v.getD (k + 8) 0)))
set_option maxRecDepth 100000 in
theorem foldTo_length (s v : List Int) (k : Nat) : (foldTo s v k).length = s.length := by
  induction k with
  | zero => rfl
  | succ k ih => simp [foldTo, ih]
def takeL (s bs : List Int) (taken : Int) (last : Bool) : List Int :=
  foldTo s (roundsTo (wordsTo bs bs.length) (spreadL s taken last) 10) 8
set_option maxRecDepth 100000 in
theorem takeL_length (s bs : List Int) (taken : Int) (last : Bool) : (takeL s bs taken last).length = s.length := foldTo_length _ _ _
/-- P1.4: the bytes of a state, the lowest first, behind k words. -/
def digTo (s : List Int) : Nat → List Int
  | 0 => []
  | k + 1 => digTo s k ++ [s.getD k 0 % 256, s.getD k 0 / 256 % 256, s.getD k 0 / 65536 % 256, s.getD k 0 / 16777216 % 256]
set_option maxRecDepth 100000 in
theorem digTo_length (s : List Int) (k : Nat) : (digTo s k).length = 4 * k := by
  induction k with
  | zero => rfl
  | succ k ih => simp [digTo, ih]; omega
end Go.Proofs.YtbmodfegcmaieaaDoor
