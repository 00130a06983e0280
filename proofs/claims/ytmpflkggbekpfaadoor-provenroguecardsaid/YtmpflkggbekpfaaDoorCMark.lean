/- A sign that may be, as a key of a map: unlike signs have unlike keys; how many unlike ones there are. -/
import Derived.Test.YtmpflkggbekpfaaDoorSignsL
import Derived.DeepKeys4
import Derived.Maps.OwnSet
namespace Go.Proofs.YtmpflkggbekpfaaDoor
open Go.RowKit Go.Maps Go.WideMaps

set_option maxRecDepth 100000 in
theorem mapM_some9 {α β : Type} {f : α → Option β} : ∀ (L : List α), (∀ x ∈ L, ∃ y, f x = some y) → ∃ ys, L.mapM f = some ys
  | [], _ => ⟨[], rfl⟩
  | x :: r, h => by
    obtain ⟨y, hy⟩ := h x (by simp)
    obtain ⟨ys, hys⟩ := mapM_some9 r (fun z hz => h z (by simp [hz]))
    exact ⟨y :: ys, by rw [List.mapM_cons, hy, hys]; rfl⟩
set_option maxRecDepth 100000 in
theorem laidM : laidOutB Tryd.prog = true := by kernel_rfl
set_option maxRecDepth 100000 in
theorem rowM : (90 : TypeId) < Tryd.prog.types.size := of_decide_eq_true (by kernel_rfl)
set_option maxRecDepth 100000 in
theorem cellsM : Tryd.prog.cellsOf 90 = 35 := by kernel_rfl
set_option maxRecDepth 100000 in
theorem cellsD : Tryd.prog.cellsOf 88 = 32 := by kernel_rfl
set_option maxRecDepth 100000 in
theorem cellsI : Tryd.prog.cellsOf 3 = 1 := by kernel_rfl
set_option maxRecDepth 100000 in
theorem cellsU : Tryd.prog.cellsOf 5 = 1 := by kernel_rfl
set_option maxRecDepth 100000 in
theorem keyTypeM : Tryd.prog.keyType 90 = true := by kernel_rfl
set_option maxRecDepth 100000 in
theorem wideM : (match Tryd.prog.underlying 90 with | some (.array _ _) | some (.struct _) => true | _ => false) = true := by kernel_rfl
set_option maxRecDepth 100000 in
theorem lawM0 : KeyLaw Tryd.prog 90 := deep_law_laid laidM (m := 3) (by omega) rowM (by kernel_rfl) wideM
set_option maxRecDepth 100000 in
theorem lawM : Keyed Tryd.prog 90 := Keyed.of_law lawM0
/-- A mark's cells. -/
def mkv (g : GV) : List Value := .int .i64 g.1 :: .int .i64 g.2.1 :: .int .i64 g.2.2.1 :: ub g.2.2.2
set_option maxRecDepth 100000 in
theorem mkv_inj {g h : GV} (e : mkv g = mkv h) : g = h := by
  obtain ⟨a, b, c, l⟩ := g
  obtain ⟨a', b', c', l'⟩ := h
  simp only [mkv, List.cons.injEq, Value.int.injEq, true_and] at e
  obtain ⟨rfl, rfl, rfl, e⟩ := e
  have hi : ∀ (x y : List Int), ub x = ub y → x = y := by
    intro x
    induction x with
    | nil => intro y h; cases y with
      | nil => rfl
      | cons _ _ => simp [ub] at h
    | cons p x ih => intro y h; cases y with
      | nil => simp [ub] at h
      | cons q y =>
        simp only [ub, List.map_cons, List.cons.injEq, Value.int.injEq, true_and] at h
        rw [h.1, ih y h.2]
  rw [hi _ _ e]
set_option maxRecDepth 100000 in
theorem good_g {g : GV} (h : gF g = 0) : (0 ≤ g.1 ∧ g.1 < 4) ∧ (0 ≤ g.2.1 ∧ g.2.1 < 4) ∧ (1 ≤ g.2.2.1 ∧ g.2.2.1 ≤ 1048576) ∧ g.2.2.2.length = 32 := by
  unfold gF signF at h
  split at h
  · cases h
  · rename_i h1
    unfold slotF at h
    split at h
    · cases h
    · rename_i h2
      split at h
      · cases h
      · rename_i h3
        omega
set_option maxRecDepth 100000 in
theorem wf9 {a : Int} (h : -9223372036854775808 ≤ a ∧ a ≤ 9223372036854775807) : (Lit.int .i64 a).wf = true := WalkArith.wf_i64 h
set_option maxRecDepth 100000 in
theorem lits_int (d : Nat) (a : Int) (h : 0 ≤ a ∧ a ≤ 1048576) : Tryd.prog.keyLits (d + 1) 3 [.int .i64 a] = some [.int .i64 a] := by
  have hw : (Lit.int .i64 a).wf = true := WalkArith.wf_i64 (by omega)
  simp [Program.keyLits, Tryd.underlying3, hw]
set_option maxRecDepth 100000 in
theorem lits_u8 (d : Nat) (a : Int) (h : 0 ≤ a ∧ a ≤ 255) : Tryd.prog.keyLits (d + 1) 5 [.int .u8 a] = some [.int .u8 a] := by
  have hw : (Lit.int .u8 a).wf = true := by rw [Lit.wf, Bool.and_eq_true, decide_eq_true_eq, decide_eq_true_eq]; exact ⟨h.1, h.2⟩
  simp [Program.keyLits, Tryd.underlying5, hw]
set_option maxRecDepth 100000 in
theorem lits_dig (d : Nat) (l : List Int) (hl : l.length = 32) (hu : AllU8 l) : ∃ ls, Tryd.prog.keyLits (d + 2) 88 (ub l) = some ls := by
  have hl2 : (ub l).length = 32 := by simp [ub, hl]
  obtain ⟨ys, hys⟩ := mapM_some9 (f := fun i => Tryd.prog.keyLits (d + 1) 5 (((ub l).drop (i * Tryd.prog.cellsOf 5)).take (Tryd.prog.cellsOf 5))) (List.range 32) (fun i hi => by
    have hi2 : i < l.length := by rw [hl]; exact List.mem_range.1 hi
    refine ⟨[.int .u8 (l[i])], ?_⟩
    have e : ((ub l).drop (i * Tryd.prog.cellsOf 5)).take (Tryd.prog.cellsOf 5) = [.int .u8 (l[i])] := by
      rw [cellsU, Nat.mul_one, List.drop_eq_getElem_cons (by rw [hl2, ← hl]; exact hi2)]
      simp [ub]
    show Tryd.prog.keyLits (d + 1) _ _ = _
    rw [e]
    exact lits_u8 d _ (hu _ (List.getElem_mem hi2)))
  refine ⟨ys.flatten, ?_⟩
  unfold Program.keyLits
  simp only [Tryd.underlying88]
  rw [if_pos (by rw [hl2, cellsD]), hys]
  rfl
set_option maxRecDepth 100000 in
theorem key_some (g : GV) (h : gF g = 0) (hu : AllU8 g.2.2.2) : ∃ kl, keyOf Tryd.prog 90 (.agg (mkv g).toArray) = some kl := by
  obtain ⟨h1, h2, h3, h4⟩ := good_g h
  obtain ⟨a, b, c, l⟩ := g
  dsimp only at h1 h2 h3 h4 hu
  have hl2 : (ub l).length = 32 := by simpa [ub] using h4
  have hlen : (mkv (a, b, c, l)).length = 35 := by simp [mkv, hl2]
  have hsz : 52 - 49 ≤ Tryd.prog.types.size + 1 := of_decide_eq_true (by kernel_rfl)
  obtain ⟨d, hd⟩ : ∃ d, Tryd.prog.types.size + 1 = d + 3 := ⟨Tryd.prog.types.size + 1 - 3, by omega⟩
  have hform : (Value.agg (mkv (a, b, c, l)).toArray).formed Tryd.prog 90 = true := by
    simp [Value.formed, Tryd.underlying90, cellsM, hlen]
  obtain ⟨ls, hls⟩ : ∃ ls, Tryd.prog.keyLits (d + 3) 90 (mkv (a, b, c, l)) = some ls := by
    unfold Program.keyLits
    simp only [Tryd.underlying90]
    rw [if_pos ⟨by rw [hlen, cellsM], by simp⟩]
    obtain ⟨ds, hds⟩ := lits_dig d l h4 hu
    have H : ∀ L : List Field, (∀ f ∈ L, ∃ y, Tryd.prog.keyLits (d + 2) f.type (((mkv (a, b, c, l)).drop f.offset).take (Tryd.prog.cellsOf f.type)) = some y) → ∃ ls, (L.mapM fun f : Field => Tryd.prog.keyLits (d + 2) f.type (((mkv (a, b, c, l)).drop f.offset).take (Tryd.prog.cellsOf f.type))).map List.flatten = some ls := by
      intro L hL
      obtain ⟨ys, hys⟩ := mapM_some9 L hL
      rw [hys]
      exact ⟨_, rfl⟩
    refine H _ (fun f hf => ?_)
    simp at hf
    rcases hf with rfl | rfl | rfl | rfl
    · exact ⟨_, by simpa [cellsI, mkv] using lits_int (d + 1) a (by omega)⟩
    · exact ⟨_, by simpa [cellsI, mkv] using lits_int (d + 1) b (by omega)⟩
    · exact ⟨_, by simpa [cellsI, mkv] using lits_int (d + 1) c (by omega)⟩
    · refine ⟨ds, ?_⟩
      simp only [cellsD, mkv, List.drop_succ_cons, List.drop_zero]
      rw [List.take_of_length_le (by rw [hl2]; exact Nat.le_refl _)]
      exact hds
  refine ⟨.string (keyBytes ls), ?_⟩
  have hc : (Value.agg (mkv (a, b, c, l)).toArray).cells.toList = mkv (a, b, c, l) := by simp [Value.cells]
  unfold keyOf
  rw [hc, hd, hls, hform, keyTypeM]
  simp [Tryd.underlying90]
/-- Marks' keys. -/
def IsKeyG (K : GV → Lit) : Prop := ∀ g : GV, gF g = 0 → AllU8 g.2.2.2 → keyOf Tryd.prog 90 (.agg (mkv g).toArray) = some (K g)
set_option maxRecDepth 100000 in
theorem exists_keyG : ∃ K : GV → Lit, IsKeyG K := by
  refine ⟨fun g => (keyOf Tryd.prog 90 (.agg (mkv g).toArray)).getD (.bool true), fun g h hu => ?_⟩
  obtain ⟨kl, hk⟩ := key_some g h hu
  show _ = some ((keyOf Tryd.prog 90 (.agg (mkv g).toArray)).getD (.bool true))
  rw [hk]; rfl
set_option maxRecDepth 100000 in
theorem keyG_inj {K : GV → Lit} (hK : IsKeyG K) {g h : GV} (hg : gF g = 0) (hu : AllU8 g.2.2.2) (hh : gF h = 0) (hv : AllU8 h.2.2.2) (e : K g = K h) : g = h := by
  have h1 := hK g hg hu
  have h2 := hK h hh hv
  rw [e] at h1
  have h3 := lawM.inj h1 h2
  simp only [Value.agg.injEq] at h3
  have h4 : (mkv g) = (mkv h) := by simpa using h3
  exact mkv_inj h4
set_option maxRecDepth 100000 in
theorem fold_le : ∀ (xs L : List Lit), (xs.foldl addKey L).length ≤ L.length + xs.length
  | [], L => by simp
  | x :: r, L => by
    have := fold_le r (addKey L x)
    have h2 : (addKey L x).length ≤ L.length + 1 := by unfold addKey; split <;> simp
    simp only [List.foldl_cons, List.length_cons]
    omega
set_option maxRecDepth 100000 in
theorem fold_len : ∀ (xs L : List Lit), (∀ x ∈ xs, WideAt.IsKeyLit x) → ((xs.foldl addKey L).length = L.length + xs.length ↔ xs.Nodup ∧ ∀ x ∈ xs, x ∉ L)
  | [], L, _ => by simp
  | x :: r, L, hk => by
    have hx := hk x (by simp)
    simp only [List.foldl_cons, List.length_cons, List.nodup_cons]
    by_cases h : L.any (fun y => y.sameKey x) = true
    · have e : addKey L x = L := by unfold addKey; rw [if_pos h]
      rw [e]
      have h1 := fold_le r L
      obtain ⟨y, hy, hs⟩ := List.any_eq_true.1 h
      have hyx : y = x := WideAt.sameKey_eq hs
      subst hyx
      constructor
      · intro h9; omega
      · intro h9; exact absurd hy (h9.2 y (by simp))
    · have e : addKey L x = L ++ [x] := by unfold addKey; rw [if_neg h]
      rw [e, show L.length + (r.length + 1) = (L ++ [x]).length + r.length by simp; omega, fold_len r (L ++ [x]) (fun y hy => hk y (by simp [hy]))]
      have hxL : x ∉ L := fun hm => h (List.any_eq_true.2 ⟨x, hm, WideAt.sameKey_self hx⟩)
      constructor
      · rintro ⟨h1, h2⟩
        refine ⟨⟨fun hm => h2 x hm (by simp), h1⟩, fun y hy => ?_⟩
        rcases List.mem_cons.1 hy with rfl | hy
        · exact hxL
        · exact fun hm => h2 y hy (by simp [hm])
      · rintro ⟨⟨h1, h2⟩, h3⟩
        refine ⟨h2, fun y hy hm => ?_⟩
        rcases List.mem_append.1 hm with hm | hm
        · exact h3 y (by simp [hy]) hm
        · obtain rfl : y = x := by simpa using hm
          exact h1 hy
set_option maxRecDepth 100000 in
theorem nodup_map_iff {K : GV → Lit} (hK : IsKeyG K) {l : List GV} (hg : ∀ g ∈ l, gF g = 0 ∧ AllU8 g.2.2.2) : (l.map K).Nodup ↔ l.Nodup := by
  rw [List.nodup_iff_pairwise_ne, List.nodup_iff_pairwise_ne, List.pairwise_map]
  constructor
  · intro h
    exact h.imp (fun {a b} hne e => hne (by rw [e]))
  · intro h
    exact List.Pairwise.imp_of_mem (fun {a b} ha hb hne e => hne (keyG_inj hK (hg a ha).1 (hg a ha).2 (hg b hb).1 (hg b hb).2 e)) h
set_option maxRecDepth 100000 in
/-- As many unlike marks as there are signs: no sign stands there twice. -/
theorem size_marks {K : GV → Lit} (hK : IsKeyG K) {l : List GV} (hg : ∀ g ∈ l, gF g = 0 ∧ AllU8 g.2.2.2) : Maps.size (setOf (H := Unit) (.agg []) (l.map K)) = l.length ↔ l.Nodup := by
  have hk : ∀ x ∈ l.map K, WideAt.IsKeyLit x := by
    intro x hx
    obtain ⟨g, hm, rfl⟩ := List.mem_map.1 hx
    exact lawM.key (hK g (hg g hm).1 (hg g hm).2)
  rw [size_setOf _ _ hk]
  have h := fold_len (l.map K) [] hk
  simp only [List.length_nil, Nat.zero_add, List.length_map, List.not_mem_nil, not_false_eq_true, implies_true, and_true] at h
  rw [h, nodup_map_iff hK hg]
end Go.Proofs.YtmpflkggbekpfaaDoor
