/- slices.SortFunc of no signs; slices.Clone of signs. -/
import Derived.Test.YteeiomcgdgehfaaDoorSortG
import Derived.Test.YteeiomcgdgehfaaDoorGOwn
import Derived.Deep.RegionHeld3
import Derived.Test.YteeiomcgdgehfaaDoorClone
import Derived.Test.YteeiomcgdgehfaaDoorCSig
namespace Go.Proofs.YteeiomcgdgehfaaDoor
open Go.RowKit Go.Sort

set_option maxRecDepth 100000 in
theorem bitsLen_any (x : Nat) (w : World) (h : x < 4611686018427387904) : Calls Tryd.prog 83 #[.int .u64 (x : Int)] w fun e w' => (∃ l : Int, e = .returned (.int .i64 l)) ∧ w = w' := by
  have hc := Any.bits_Len (SlLaysF0.n15.bits (P := Tryd.prog) (ρ := sortG_ren) { sortG with }) (x : Int) w (by omega) (by omega)
  exact hc.mono fun e w' h => ⟨⟨_, h.1⟩, h.2.symm⟩
set_option maxRecDepth 100000 in
set_option maxHeartbeats 1000000 in
theorem insertE_any (sa : Option Addr) (cap g : Nat) (w : World) : Calls Tryd.prog 91 #[.slice sa 0 cap, .int .i64 0, .int .i64 0, .func (.func g) #[] #[]] w fun e w' => e = .returned (.tuple #[]) ∧ w = w' := by
  go_enter Tryd.func91, Tryd.ntmps91
  go_wp2_with fail
  go_loop [8] (fun i => i = .int .i64 1) (fun _ => 0)
  case atStart => rfl
  case round =>
    subst hrel
    go_wp2_with fail
    go_end0
    exact ⟨rfl, rfl⟩
set_option maxRecDepth 100000 in
set_option maxHeartbeats 1000000 in
theorem pdqE_any (sa : Option Addr) (cap g : Nat) (l : Int) (w : World) : Calls Tryd.prog 82 #[.slice sa 0 cap, .int .i64 0, .int .i64 0, .int .i64 l, .func (.func g) #[] #[]] w fun e w' => e = .returned (.tuple #[]) ∧ w = w' := by
  go_enter Tryd.func82, Tryd.ntmps82
  go_wp2_with fail
  go_loop [1, 2] (fun i j => i = .int .i64 0 ∧ j = .int .i64 0) (fun _ _ => 0)
  case atStart => exact ⟨rfl, rfl⟩
  case round =>
    obtain ⟨rfl, rfl⟩ := hrel
    go_wp2_with (go_at_call 91; refine (insertE_any _ _ _ _).mono ?_; rintro e w' ⟨rfl, rfl⟩)
    (try simp only [Exit.inBlock, Exit.then]); refine bodyPost_ret (results_none rfl _ _ _) rfl ?_
    exact ⟨rfl, rfl⟩
set_option maxRecDepth 100000 in
set_option maxHeartbeats 1000000 in
theorem sortE_any (sa : Option Addr) (cap g : Nat) (w : World) : Calls Tryd.prog 71 #[.slice sa 0 cap, .func (.func g) #[] #[]] w fun e w' => e = .returned (.tuple #[]) ∧ w = w' := by
  go_enter Tryd.func71, Tryd.ntmps71
  go_wp2_with (first | (go_at_call 83; refine (bitsLen_any 0 _ (by decide)).mono ?_; rintro e w' ⟨⟨l, rfl⟩, rfl⟩) | (go_at_call 82; refine (pdqE_any _ _ _ _ _).mono ?_; rintro e w' ⟨rfl, rfl⟩))
  go_end0
  exact ⟨rfl, rfl⟩
set_option maxRecDepth 100000 in
/-- The cells of signs in a slice of signs. -/
theorem signs_cells {w : World} {ad : Addr} {ls : List Sg} (h : SignsAt w (some ad) ls) : ∀ j u, (gv ls)[j]? = some u → w.cell? (ad.add j) = some u := by
  intro j u hu
  have hj : j < ls.length * 4 := by
    rcases Nat.lt_or_ge j (ls.length * 4) with h | h
    · exact h
    · rw [List.getElem?_eq_none (by rw [gv_length]; exact h)] at hu; cases hu
  rcases h.cells with h | ⟨sb, so, e, hc⟩
  · rw [h] at hj; simp at hj
  · cases e
    have hq : j / 4 < ls.length := by omega
    obtain ⟨c0, c1, c2, c3⟩ := hc (j / 4) hq
    have hg := gv_get ls (j / 4) (j % 4) hq (by omega)
    have ej : j / 4 * 4 + j % 4 = j := by omega
    rw [ej, hu] at hg
    rw [add_off, ← ej, ← Nat.add_assoc]
    have h4 : j % 4 < 4 := by omega
    generalize j % 4 = r at *
    match r, h4 with
    | 0, _ => simp [Sg.cs] at hg; rw [hg]; exact c0
    | 1, _ => simp [Sg.cs] at hg; rw [hg]; exact c1
    | 2, _ => simp [Sg.cs] at hg; rw [hg]; exact c2
    | 3, _ => simp [Sg.cs] at hg; rw [hg]; exact c3
set_option maxRecDepth 100000 in
theorem gv_one (ls : List Sg) : ∀ u ∈ gv ls, u.oneCell' = true := by
  induction ls with
  | nil => intro u hu; cases hu
  | cons x r ih =>
    intro u hu
    rcases List.mem_append.1 hu with h | h
    · simp [Sg.cs] at h; rcases h with rfl | rfl | rfl | rfl <;> rfl
    · exact ih u h
set_option maxRecDepth 100000 in
set_option maxHeartbeats 1000000 in
theorem cloneSigns_any (ls : List Sg) (sa : Option Addr) (n cap : Nat) (w : World) (hn : n = ls.length) (hl : ls.length ≤ 2932031007400) (hs : SignsAt w sa ls) :
    Calls Tryd.prog 70 #[.slice sa n cap] w fun e w' => ∃ v, e = .returned v ∧ w'.ownsRow w.heap.size 52 4 v ls.length (gv ls) ∧ Below w.heap.size w w' := by
  subst hn
  obtain ⟨i, hi, hz0, hz1, hz2⟩ := info_parts infoSign
  cases sa with
  | none =>
    have hb : ls = [] := by
      rcases hs.cells with h | ⟨_, _, h, _⟩
      · exact h
      · cases h
    subst hb
    have he : ∀ w : World, (binOp .eql 22 (.slice none 0 cap) (.slice none 0 0)).run Tryd.prog w = .ok (.bool true) w := fun _ => rfl
    go_enter Tryd.func70, Tryd.ntmps70
    go_wp2_with fail
    go_ret
    exact ⟨_, rfl, World.ownsRow_nil _ _ _ _, Below.refl _ _⟩
  | some ad =>
    have he : ∀ w : World, (binOp .eql 22 (.slice (some ad) ls.length cap) (.slice none 0 0)).run Tryd.prog w = .ok (.bool false) w := fun _ => rfl
    have hA : Below w.heap.size w (w.alloc (.cells #[] 52)) := (Below.refl _ _).alloc (Nat.le_refl _) _
    have hcells := signs_cells (hs.below hA)
    go_enter Tryd.func70, Tryd.ntmps70
    go_wp2_with (at_builtin; refine wpList_append_own_at _ rfl _ _ 22 rfl w.heap.size 52 i (.agg #[.int .i64 0, .int .i64 0, .int .i64 0, .slice none 0 0]) 4 48 Tryd.underlying22 hi hz0 hz1 hz2 rfl (by decide) _ 0 [] rfl (World.ownsRow_made _ _ 0 (Nat.le_refl _) (by decide) rfl) ad ls.length cap (gv ls) rfl (gv_length ls) hcells (gv_one ls) (by unfold maxLen; omega) (by omega) hA.size ?_; intro v1 w1 ho1 hg1 _ hat)
    rw [List.nil_append, Nat.zero_add] at ho1
    go_ret
    exact ⟨v1, rfl, ho1, Below.grown hA hg1 hA.size (fun q e => (World.ownsRow.lt (World.ownsRow_made (e := 52) (size := 4) w #[] 0 (Nat.le_refl _) (by decide) rfl) q e).1)⟩
end Go.Proofs.YteeiomcgdgehfaaDoor
