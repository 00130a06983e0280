/- lines.readNext: for every line. -/
import Derived.Test.YtnpkpkknbflacaaDoorLnR4
import Derived.Test.YtnpkpkknbflacaaDoorLnC
import Derived.Test.YtnpkpkknbflacaaDoorCalls
namespace Go.Proofs.YtnpkpkknbflacaaDoor
open Go.RowKit

/-- P9.3: what is told of a line that has so many ahead of it. -/
def nextE (k : Nat) (l : List UInt8) (ended : Bool) : Int := if 3000 ≤ k then 1 else if ended = false then 4 else if rdB l = false then 4 else (rdV l).e
set_option maxRecDepth 100000 in
theorem below_setRow {w : World} {B b : Nat} {cs old : Array Value} {t : TypeId} {a : World} (h : Below B a w) (hB : B ≤ w.heap.size) (q : w.heap[b]? = some (.cells old t (0, 0))) (hb : B ≤ b) : Below B a (w.setRow b cs) := (Upd.setRow q).below h hB hb
set_option maxRecDepth 100000 in
theorem rdV_text (l : List UInt8) (h : l.length ≤ 140737488355328) : (rdV l).t.size ≤ maxLen := by
  show (⟨(stJ (kindL (bfC 32 l)) l 3).t.toArray⟩ : ByteArray).size ≤ maxLen
  rw [mk_size]
  have hT : ∀ (x : List UInt8), (txtA x).length ≤ x.length := by
    intro x
    have : ∀ (n : Nat) (x y : List UInt8), x.length ≤ n → unhex x = some y → y.length ≤ x.length := by
      intro n
      induction n with
      | zero =>
        intro x y hx hy
        obtain rfl : x = [] := List.eq_nil_of_length_eq_zero (by omega)
        simp [unhex] at hy
        subst hy
        simp
      | succ n ih =>
        intro x y hx hy
        match x, hx, hy with
        | [], _, hy => simp [unhex] at hy; subst hy; simp
        | [_], _, hy => simp [unhex] at hy
        | a :: b :: x, hx, hy =>
          rw [unhex] at hy
          split at hy
          · cases hy
          · cases hu : unhex x with
            | none => rw [hu] at hy; cases hy
            | some z =>
              rw [hu] at hy
              simp at hy
              subst hy
              have := ih x z (by simp at hx; omega) hu
              simp
              omega
    unfold txtA
    cases hu : unhex x with
    | none => simp
    | some y => exact this x.length x y (Nat.le_refl _) hu
  have h0 := stJ_le (kindL (bfC 32 l)) l 2
  have ht : ∀ j, j ≤ 2 → (stJ (kindL (bfC 32 l)) l j).t = [] := by
    have t0 : (stJ (kindL (bfC 32 l)) l 0).t = [] := rfl
    have t1 : (stJ (kindL (bfC 32 l)) l 1).t = [] := by
      rw [stJ1, st1]
      split
      · exact t0
      · exact t0
    have t2 : (stJ (kindL (bfC 32 l)) l 2).t = [] := by
      rw [stJ2, st2]
      split
      · exact t1
      · exact t1
    intro j hj
    match j, hj with
    | 0, _ => exact t0
    | 1, _ => exact t1
    | 2, _ => exact t2
  rw [stJ3, st3]
  split
  · have h1 := hT (bfC 32 (stJ (kindL (bfC 32 l)) l 2).r)
    have h2 := bfC_le 32 (stJ (kindL (bfC 32 l)) l 2).r
    show (txtA (bfC 32 (stJ (kindL (bfC 32 l)) l 2).r)).length ≤ maxLen
    unfold maxLen
    omega
  · rw [ht 2 (Nat.le_refl _)]
    decide
/-- What readNext answers. -/
structure IsNext (w w' : World) (e : Ending) (k : Nat) (l : List UInt8) (ended : Bool) : Prop where
  out : ∃ a : AV, e = .returned (.tuple #[.agg #[.int .i64 a.k, .int .i64 a.n, .int .i64 a.p, .string a.t], .int .i64 (nextE k l ended)]) ∧ (nextE k l ended = 0 → a = rdV l)
  below : Below w.heap.size w w'
set_option maxRecDepth 100000 in
set_option maxHeartbeats 4000000 in
theorem readNext_any (k : Nat) (s : ByteArray) (ended : Bool) (w : World) (hk : k ≤ 1000000) (hs : s.size ≤ 140737488355328) (hT : LTabs w) :
    Calls Tryd.prog 22 #[.int .i64 k, .string s, .bool ended] w fun e w' => IsNext w w' e k s.data.toList ended := by
  have hZ : Below w.heap.size w (w.alloc (.cells #[.int .i64 0, .int .i64 0, .int .i64 0, .string ⟨#[]⟩] 30)) := (Below.refl _ _).alloc (Nat.le_refl _) _
  have qZ := heap_alloc_new w (.cells #[.int .i64 0, .int .i64 0, .int .i64 0, .string ⟨#[]⟩] 30)
  have HR := readAct_any s (w.alloc (.cells #[.int .i64 0, .int .i64 0, .int .i64 0, .string ⟨#[]⟩] 30)) hs (hT.below hZ)
  have hvt := rdV_text s.data.toList (by rw [show s.data.toList.length = s.size from Array.length_toList]; exact hs)
  have HN : Hid (nextE k s.data.toList ended = if 3000 ≤ k then 1 else if ended = false then 4 else if rdB s.data.toList = false then 4 else (rdV s.data.toList).e) := rfl
  have hTz := hT.below hZ
  by_cases h1 : 3000 ≤ k
  · have hE : Hid (nextE k s.data.toList ended = 1) := by show _ = _; rw [HN.out, if_pos h1]
    have h1I : (3000 : Int) ≤ k := by omega
    clear HR HN
    go_enter Tryd.func22, Tryd.ntmps22
    go_upto_region 2 with fail
    generalize w.alloc (.cells #[.int .i64 0, .int .i64 0, .int .i64 0, .string ⟨#[]⟩] 30) = W0 at *
    go_wp2_with (refine wpList_store_row rfl 30 _ _ rfl w.heap.size #[.int .i64 0, .int .i64 0, .int .i64 0, .string ⟨#[]⟩] rfl rfl 30 _ qZ sAct rfl (by simp [Value.oneCell']) ?_)
    exact bodyPost_ret (v := .tuple #[.agg #[.int .i64 0, .int .i64 0, .int .i64 0, .string ⟨#[]⟩], .int .i64 1]) (results_two (fn := Tryd.f22) (p := 6) (q := 7) (ty := 30) rfl _ _ w.heap.size 30 _ (0, 0) _ (.int .i64 1) ⟨rfl, rfl⟩ (setRow_heap _ _ _ _ _ _ qZ) Tryd.underlying30 rfl sAct) rfl ⟨⟨⟨0, 0, 0, ⟨#[]⟩⟩, by rw [hE.out], fun h => by rw [hE.out] at h; cases h⟩, below_setRow hZ hZ.size qZ (Nat.le_refl _)⟩
  have h1I : ¬ (3000 : Int) ≤ k := by omega
  cases ended
  · have hE : Hid (nextE k s.data.toList false = 4) := by show _ = _; rw [HN.out, if_neg h1, if_pos rfl]
    clear HR HN
    go_enter Tryd.func22, Tryd.ntmps22
    go_upto_region 4 with fail
    generalize w.alloc (.cells #[.int .i64 0, .int .i64 0, .int .i64 0, .string ⟨#[]⟩] 30) = W0 at *
    go_wp2_with (refine wpList_store_row rfl 30 _ _ rfl w.heap.size #[.int .i64 0, .int .i64 0, .int .i64 0, .string ⟨#[]⟩] rfl rfl 30 _ qZ sAct rfl (by simp [Value.oneCell']) ?_)
    exact bodyPost_ret (v := .tuple #[.agg #[.int .i64 0, .int .i64 0, .int .i64 0, .string ⟨#[]⟩], .int .i64 4]) (results_two (fn := Tryd.f22) (p := 6) (q := 7) (ty := 30) rfl _ _ w.heap.size 30 _ (0, 0) _ (.int .i64 4) ⟨rfl, rfl⟩ (setRow_heap _ _ _ _ _ _ qZ) Tryd.underlying30 rfl sAct) rfl ⟨⟨⟨0, 0, 0, ⟨#[]⟩⟩, by rw [hE.out], fun h => by rw [hE.out] at h; cases h⟩, below_setRow hZ hZ.size qZ (Nat.le_refl _)⟩
  · generalize hl : s.data.toList = l at *
    clear hl
    go_enter Tryd.func22, Tryd.ntmps22
    go_wp2_with fail
    generalize w.alloc (.cells #[.int .i64 0, .int .i64 0, .int .i64 0, .string ⟨#[]⟩] 30) = W0 at *
    refine HR.mono ?_
    rintro e w1 ⟨⟨a, he, hav⟩, hb1⟩
    subst he
    dsimp only
    have q1 := (hb1.block _ (lt_of_heap qZ)).trans qZ
    have hB1 := hZ.trans (hb1.mono hZ.size)
    have q2 : (w1.alloc (.cells #[.int .i64 a.k, .int .i64 a.n, .int .i64 a.p, .string a.t] 30)).heap[w.heap.size]? = some (.cells #[.int .i64 0, .int .i64 0, .int .i64 0, .string ⟨#[]⟩] 30 (0, 0)) := heap_keep q1
    have qA := heap_alloc_new w1 (.cells #[.int .i64 a.k, .int .i64 a.n, .int .i64 a.p, .string a.t] 30)
    have hB2 := hB1.alloc hB1.size (.cells #[.int .i64 a.k, .int .i64 a.n, .int .i64 a.p, .string a.t] 30)
    have hne : w1.heap.size ≠ w.heap.size := by have := lt_of_heap q1; omega
    clear HR qZ hZ hb1
    rcases hrb : rdB l with _ | _
    · have hE : Hid (nextE k l true = 4) := by show _ = _; rw [HN.out, if_neg h1, if_neg (by simp), if_pos hrb]
      clear hav HN
      go_upto_region 7 with fail
      generalize w1.alloc (.cells #[.int .i64 a.k, .int .i64 a.n, .int .i64 a.p, .string a.t] 30) = W2 at *
      go_wp2_with (refine wpList_store_row rfl 30 _ _ rfl w.heap.size #[.int .i64 0, .int .i64 0, .int .i64 0, .string ⟨#[]⟩] rfl rfl 30 _ q2 sAct rfl (by simp [Value.oneCell']) ?_)
      exact bodyPost_ret (v := .tuple #[.agg #[.int .i64 0, .int .i64 0, .int .i64 0, .string ⟨#[]⟩], .int .i64 4]) (results_two (fn := Tryd.f22) (p := 6) (q := 7) (ty := 30) rfl _ _ w.heap.size 30 _ (0, 0) _ (.int .i64 4) ⟨rfl, rfl⟩ (setRow_heap _ _ _ _ _ _ q2) Tryd.underlying30 rfl sAct) rfl ⟨⟨⟨0, 0, 0, ⟨#[]⟩⟩, by rw [hE.out], fun h => by rw [hE.out] at h; cases h⟩, below_setRow hB2 hB2.size q2 (Nat.le_refl _)⟩
    · have hav' := hav hrb
      have hat : a.t.size ≤ maxLen := by rw [hav']; exact hvt
      have hE : Hid (nextE k l true = a.e) := by show _ = _; rw [HN.out, if_neg h1, if_neg (by simp), if_neg (by rw [hrb]; simp), ← hav']
      have Hav : Hid (a = rdV l) := hav'
      clear hav HN hav'
      go_upto_region 8 with fail
      have hK2 := (hT.below hB2).k
      generalize w1.alloc (.cells #[.int .i64 a.k, .int .i64 a.n, .int .i64 a.p, .string a.t] 30) = W2 at *
      generalize hPA : w1.heap.size = PA at *
      clear hPA
      have c0 := cells_at qA 0 _ rfl
      have c1 := cells_at qA 1 _ rfl
      have c2 := cells_at qA 2 _ rfl
      have c3 := cells_at qA 3 _ rfl
      have z0 := cells_at q2 0 _ rfl
      have z1 := cells_at q2 1 _ rfl
      have z2 := cells_at q2 2 _ rfl
      have z3 := cells_at q2 3 _ rfl
      have zf0 := frozen_at q2 0
      have zf1 := frozen_at q2 1
      have zf2 := frozen_at q2 2
      have zf3 := frozen_at q2 3
      have HCk := fun W (h : Below W2.heap.size W2 W) => actCheck_any a.k a.n a.p a.t W hat (hK2.below h hK2.lt)
      have hEe : actF a.k a.n a.p a.t.size = a.e := rfl
      rw [hEe] at HCk
      clear hEe
      generalize hge : a.e = E at *
      clear hge
      have hlA := lt_of_heap qA
      have hlZ := lt_of_heap q2
      go_wp2_with fail
      refine wp_region_held_drew (S := fun w' => w'.cell? ⟨PA, 0, none⟩ = some (.int .i64 a.k) ∧ w'.cell? ⟨PA, 1, none⟩ = some (.int .i64 a.n) ∧ w'.cell? ⟨PA, 2, none⟩ = some (.int .i64 a.p) ∧ w'.cell? ⟨PA, 3, none⟩ = some (.string a.t)) (by kernel_rfl) ⟨c0, c1, c2, c3⟩ (fun hHeld => ?_)
      refine take_dst (i := 0) (d := 24) (v := .agg #[.int .i64 a.k, .int .i64 a.n, .int .i64 a.p, .string a.t]) rfl rfl (by kernel_rfl) (by kernel_rfl) (by kernel_rfl) (fun _ _ _ h => h) (Or.inl ⟨by rfl, ?_⟩) hHeld ?_
      · (intro w0 hSw; (try dsimp only at hSw); go_simp)
      simp only [Act.put, List.setIfInBounds_toArray, List.set_cons_zero, List.set_cons_succ]
      refine take_dst (i := 1) (d := 25) (v := .agg #[.int .i64 a.k, .int .i64 a.n, .int .i64 a.p, .string a.t]) rfl rfl (by kernel_rfl) (by kernel_rfl) (by kernel_rfl) (fun _ _ _ h => h) (Or.inl ⟨by rfl, ?_⟩) hHeld ?_
      · (intro w0 hSw; (try dsimp only at hSw); go_simp)
      simp only [Act.put, List.setIfInBounds_toArray, List.set_cons_zero, List.set_cons_succ]
      refine wpAnyH_ready (rs := [2]) (by kernel_rfl) (by simp) (AllReadyH.cons rfl (fun K hK => ?_) AllReadyH.nil)
      refine step_calls_dst rfl 26 rfl 19 [.tmp 25] #[30] rfl [.agg #[.int .i64 a.k, .int .i64 a.n, .int .i64 a.p, .string a.t]] rfl (enters_of Tryd.func19 (by kernel_rfl) rfl) (fun v w' => v = .int .i64 E ∧ Below W2.heap.size W2 w') ((HCk W2.drew (Below.refl _ _).drew).mono (fun e w9 ⟨he, h9⟩ => ⟨_, he, rfl, below_drew h9⟩)) ?_
      rintro v w7 ⟨rfl, hb7⟩
      have qA7 := (hb7.block _ hlA).trans qA
      have qZ7 := (hb7.block _ hlZ).trans q2
      have hB7 := hB2.trans (hb7.mono hB2.size)
      refine hK.out _ _ ⟨cells_at qA7 0 _ rfl, cells_at qA7 1 _ rfl, cells_at qA7 2 _ rfl, cells_at qA7 3 _ rfl⟩ (fun hHeld => ?_)
      simp only [Act.put, List.setIfInBounds_toArray, List.set_cons_zero, List.set_cons_succ]
      refine wpAnyH_ready (rs := [3]) (by kernel_rfl) (by simp) (AllReadyH.cons rfl (fun K hK => ?_) AllReadyH.nil)
      refine step_store_one rfl rfl 30 _ _ rfl w.heap.size #[.int .i64 a.k, .int .i64 a.n, .int .i64 a.p, .string a.t] rfl rfl 30 _ qZ7 sAct rfl (by simp [Value.oneCell']) ?_
      have qA8 : (w7.setRow w.heap.size #[.int .i64 a.k, .int .i64 a.n, .int .i64 a.p, .string a.t]).heap[PA]? = _ := (setRow_other w7 w.heap.size PA #[.int .i64 a.k, .int .i64 a.n, .int .i64 a.p, .string a.t] hne).trans qA7
      refine hK.out _ _ ⟨cells_at qA8 0 _ rfl, cells_at qA8 1 _ rfl, cells_at qA8 2 _ rfl, cells_at qA8 3 _ rfl⟩ (fun hHeld => ?_)
      refine take_dst (i := 4) (d := 7) (v := .int .i64 E) rfl rfl (by kernel_rfl) (by kernel_rfl) (by kernel_rfl) (fun _ _ _ h => h) (Or.inl ⟨by rfl, ?_⟩) hHeld ?_
      · (intro w0 hSw; (try dsimp only at hSw); go_simp)
      simp only [Act.put, List.setIfInBounds_toArray, List.set_cons_zero, List.set_cons_succ]
      refine wpAnyH_done (by kernel_rfl) ?_ _
      go_wp2_with fail
      exact bodyPost_ret (v := .tuple #[.agg #[.int .i64 a.k, .int .i64 a.n, .int .i64 a.p, .string a.t], .int .i64 E]) (results_two (fn := Tryd.f22) (p := 6) (q := 7) (ty := 30) rfl _ _ w.heap.size 30 _ (0, 0) _ (.int .i64 E) ⟨rfl, rfl⟩ (setRow_heap _ _ _ _ _ _ qZ7) Tryd.underlying30 rfl sAct) rfl ⟨⟨a, by rw [hE.out], fun _ => Hav.out⟩, below_setRow hB7 hB7.size qZ7 (Nat.le_refl _)⟩
end Go.Proofs.YtnpkpkknbflacaaDoor
