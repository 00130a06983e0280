/- sheaveskeep.Act: an act that may be, whatever the raw numbers are. -/
import Derived.Test.YtnpkpkknbflacaaDoorLnSh
import Derived.Test.YtnpkpkknbflacaaDoorPicked
import Derived.Deep.CutRange
import Derived.Deep.DeepCutAuto
namespace Go.Proofs.YtnpkpkknbflacaaDoor
open Go.RowKit

set_option maxRecDepth 100000 in
theorem cutL_any (s : ByteArray) (m : Nat) (w : World) (hs : s.size ≤ maxLen) (_hm : m ≤ 100000) :
    Calls Tryd.prog 20 #[.string s, .int .i64 (m : Int)] w fun e w' => ∃ t : ByteArray, e = .returned (.string t) ∧ t.size ≤ m ∧ w = w' := by
  have _hs := hs
  unfold maxLen at _hs
  by_cases h : s.size ≤ m
  · have hmin : min (s.size : Int) (m : Int) = s.size := by omega
    go_enter Tryd.func20, Tryd.ntmps20
    go_wp2_with fail
    go_ret
    exact ⟨s, rfl, h, rfl⟩
  · have hmin : min (s.size : Int) (m : Int) = m := by omega
    go_enter Tryd.func20, Tryd.ntmps20
    go_wp2_with fail
    go_ret
    exact ⟨s.extract 0 m, rfl, by rw [ByteArray.size_extract]; omega, rfl⟩
set_option maxRecDepth 100000 in
theorem ok_of (k n p : Int) (t : ByteArray) (hk : 1 ≤ k ∧ k ≤ 10) (hn : 0 ≤ n ∧ n < 4) (hp : 0 ≤ p ∧ p ≤ 400000) (ht : t.size ≤ 4000) (h1 : hN k = false → n = 0) (h2 : hP k = false → p = 0) (h3 : hT k = false → t.size = 0) : (⟨k, n, p, t⟩ : AV).e = 0 := by
  show actF k n p t.size = 0
  rw [actF, if_neg (by omega), if_neg (by omega), if_neg (by omega), if_neg (by omega), if_neg]
  intro h
  simp only [moreB, Bool.or_eq_true, Bool.and_eq_true, Bool.not_eq_true', decide_eq_true_eq] at h
  rcases h with (⟨x, y⟩ | ⟨x, y⟩) | ⟨x, y⟩
  · exact x (h1 y)
  · exact x (h2 y)
  · exact x (h3 y)
set_option maxRecDepth 100000 in
theorem below_three {w : World} (o1 o2 o3 : Obj) : Below w.heap.size w (((w.alloc o1).alloc o2).alloc o3) := (((Below.refl _ _).alloc (Nat.le_refl _) _).alloc (by simp) _).alloc (by simp; omega) _
/-- An act of raw numbers. -/
structure IsAct (w w' : World) (e : Ending) : Prop where
  out : ∃ a : AV, e = .returned (.agg #[.int .i64 a.k, .int .i64 a.n, .int .i64 a.p, .string a.t]) ∧ a.e = 0
  below : Below w.heap.size w w'
set_option maxRecDepth 100000 in
set_option maxHeartbeats 4000000 in
theorem act_any (fk fa fb' : Int) (ft : ByteArray) (w : World) (hk : I64 fk) (ha : I64 fa) (hb : I64 fb') (ht : ft.size ≤ maxLen) :
    Calls Tryd.prog 16 #[.agg #[.int .i64 fk, .int .i64 fa, .int .i64 fb', .string ft]] w fun e w' => IsAct w w' e := by
  obtain ⟨m0, m1⟩ := pk_bounds fk 10 (by omega)
  obtain ⟨a0, a1⟩ := pk_bounds fa 4 (by omega)
  obtain ⟨p0, p1⟩ := pk_bounds fa 400001 (by omega)
  obtain ⟨q0, q1⟩ := pk_bounds fb' 400001 (by omega)
  have HK := fun w => picked_any fk 10 w hk.1 hk.2 (by omega) (by omega)
  have HA := fun w => picked_any fa 4 w ha.1 ha.2 (by omega) (by omega)
  have HP := fun w => picked_any fa 400001 w ha.1 ha.2 (by omega) (by omega)
  have HQ := fun w => picked_any fb' 400001 w hb.1 hb.2 (by omega) (by omega)
  generalize pk fk 10 = m at *
  generalize pk fa 4 = xa at *
  generalize pk fa 400001 = xp at *
  generalize pk fb' 400001 = xq at *
  go_enter Tryd.func16, Tryd.ntmps16
  go_wp2_with fail
  refine (HK _).mono ?_
  rintro e w1 ⟨he, rfl⟩
  subst he
  dsimp only
  obtain rfl | rfl | rfl | rfl | rfl | rfl | rfl | rfl | rfl | rfl : m = 0 ∨ m = 1 ∨ m = 2 ∨ m = 3 ∨ m = 4 ∨ m = 5 ∨ m = 6 ∨ m = 7 ∨ m = 8 ∨ m = 9 := by omega
  · go_wp2_with fail
    refine (HA _).mono ?_
    rintro e w1 ⟨he, rfl⟩
    subst he
    dsimp only
    go_wp2_with fail
    refine (cutL_any ft 200 _ ht (by omega)).mono ?_
    rintro e w1 ⟨t, he, hts, rfl⟩
    subst he
    dsimp only
    go_wp2_with fail
    exact bodyPost_ret (v := .agg #[.int .i64 1, .int .i64 xa, .int .i64 0, .string t]) (by simp [results, Tryd.results16, go_sem]) rfl ⟨⟨⟨1, xa, 0, t⟩, rfl, ok_of _ _ _ _ (by omega) (by omega) (by omega) (by omega) (fun h => absurd h (by decide)) (fun _ => rfl) (fun h => absurd h (by decide))⟩, below_three _ _ _⟩
  · go_wp2_with fail
    refine (HA _).mono ?_
    rintro e w1 ⟨he, rfl⟩
    subst he
    dsimp only
    go_wp2_with fail
    exact bodyPost_ret (v := .agg #[.int .i64 2, .int .i64 xa, .int .i64 0, .string ⟨#[]⟩]) (by simp [results, Tryd.results16, go_sem]) rfl ⟨⟨⟨2, xa, 0, ⟨#[]⟩⟩, rfl, ok_of _ _ _ _ (by omega) (by omega) (by omega) (by decide) (fun h => absurd h (by decide)) (fun _ => rfl) (fun _ => rfl)⟩, below_three _ _ _⟩
  · go_wp2_with fail
    refine (HA _).mono ?_
    rintro e w1 ⟨he, rfl⟩
    subst he
    dsimp only
    go_wp2_with fail
    exact bodyPost_ret (v := .agg #[.int .i64 3, .int .i64 xa, .int .i64 0, .string ⟨#[]⟩]) (by simp [results, Tryd.results16, go_sem]) rfl ⟨⟨⟨3, xa, 0, ⟨#[]⟩⟩, rfl, ok_of _ _ _ _ (by omega) (by omega) (by omega) (by decide) (fun h => absurd h (by decide)) (fun _ => rfl) (fun _ => rfl)⟩, below_three _ _ _⟩
  · go_wp2_with fail
    refine (HP _).mono ?_
    rintro e w1 ⟨he, rfl⟩
    subst he
    dsimp only
    go_wp2_with fail
    exact bodyPost_ret (v := .agg #[.int .i64 4, .int .i64 0, .int .i64 xp, .string ⟨#[]⟩]) (by simp [results, Tryd.results16, go_sem]) rfl ⟨⟨⟨4, 0, xp, ⟨#[]⟩⟩, rfl, ok_of _ _ _ _ (by omega) (by omega) (by omega) (by decide) (fun _ => rfl) (fun h => absurd h (by decide)) (fun _ => rfl)⟩, below_three _ _ _⟩
  · go_wp2_with fail
    refine (HP _).mono ?_
    rintro e w1 ⟨he, rfl⟩
    subst he
    dsimp only
    go_wp2_with fail
    exact bodyPost_ret (v := .agg #[.int .i64 5, .int .i64 0, .int .i64 xp, .string ⟨#[]⟩]) (by simp [results, Tryd.results16, go_sem]) rfl ⟨⟨⟨5, 0, xp, ⟨#[]⟩⟩, rfl, ok_of _ _ _ _ (by omega) (by omega) (by omega) (by decide) (fun _ => rfl) (fun h => absurd h (by decide)) (fun _ => rfl)⟩, below_three _ _ _⟩
  · go_wp2_with fail
    refine (HP _).mono ?_
    rintro e w1 ⟨he, rfl⟩
    subst he
    dsimp only
    go_wp2_with fail
    exact bodyPost_ret (v := .agg #[.int .i64 6, .int .i64 0, .int .i64 xp, .string ⟨#[]⟩]) (by simp [results, Tryd.results16, go_sem]) rfl ⟨⟨⟨6, 0, xp, ⟨#[]⟩⟩, rfl, ok_of _ _ _ _ (by omega) (by omega) (by omega) (by decide) (fun _ => rfl) (fun h => absurd h (by decide)) (fun _ => rfl)⟩, below_three _ _ _⟩
  · go_wp2_with fail
    refine (HA _).mono ?_
    rintro e w1 ⟨he, rfl⟩
    subst he
    dsimp only
    go_wp2_with fail
    refine (HQ _).mono ?_
    rintro e w1 ⟨he, rfl⟩
    subst he
    dsimp only
    go_wp2_with fail
    exact bodyPost_ret (v := .agg #[.int .i64 7, .int .i64 xa, .int .i64 xq, .string ⟨#[]⟩]) (by simp [results, Tryd.results16, go_sem]) rfl ⟨⟨⟨7, xa, xq, ⟨#[]⟩⟩, rfl, ok_of _ _ _ _ (by omega) (by omega) (by omega) (by decide) (fun h => absurd h (by decide)) (fun h => absurd h (by decide)) (fun _ => rfl)⟩, below_three _ _ _⟩
  · go_wp2_with fail
    refine (HA _).mono ?_
    rintro e w1 ⟨he, rfl⟩
    subst he
    dsimp only
    go_wp2_with fail
    exact bodyPost_ret (v := .agg #[.int .i64 8, .int .i64 xa, .int .i64 0, .string ⟨#[]⟩]) (by simp [results, Tryd.results16, go_sem]) rfl ⟨⟨⟨8, xa, 0, ⟨#[]⟩⟩, rfl, ok_of _ _ _ _ (by omega) (by omega) (by omega) (by decide) (fun h => absurd h (by decide)) (fun _ => rfl) (fun _ => rfl)⟩, below_three _ _ _⟩
  · go_wp2_with fail
    refine (HA _).mono ?_
    rintro e w1 ⟨he, rfl⟩
    subst he
    dsimp only
    go_wp2_with fail
    refine (cutL_any ft 200 _ ht (by omega)).mono ?_
    rintro e w1 ⟨t, he, hts, rfl⟩
    subst he
    dsimp only
    go_wp2_with fail
    exact bodyPost_ret (v := .agg #[.int .i64 9, .int .i64 xa, .int .i64 0, .string t]) (by simp [results, Tryd.results16, go_sem]) rfl ⟨⟨⟨9, xa, 0, t⟩, rfl, ok_of _ _ _ _ (by omega) (by omega) (by omega) (by omega) (fun h => absurd h (by decide)) (fun _ => rfl) (fun h => absurd h (by decide))⟩, below_three _ _ _⟩
  · go_wp2_with fail
    exact bodyPost_ret (v := .agg #[.int .i64 10, .int .i64 0, .int .i64 0, .string ⟨#[]⟩]) (by simp [results, Tryd.results16, go_sem]) rfl ⟨⟨⟨10, 0, 0, ⟨#[]⟩⟩, rfl, ok_of _ _ _ _ (by omega) (by omega) (by omega) (by decide) (fun _ => rfl) (fun _ => rfl) (fun _ => rfl)⟩, below_three _ _ _⟩
end Go.Proofs.YtnpkpkknbflacaaDoor
