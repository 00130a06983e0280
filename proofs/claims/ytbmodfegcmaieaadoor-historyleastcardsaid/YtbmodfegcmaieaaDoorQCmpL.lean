/- An order of rounds and authors; cmp.Compare, cmp.Or. -/
import Derived.Test.YtbmodfegcmaieaaDoorGAppR
import Derived.Test.YtbmodfegcmaieaaDoorGCalls
import Derived.Deep.RegionHeld3
import Derived.Laws.Externs
import Derived.Sort.Grow
import Derived.Sort.Statements
import Derived.Shelf.SlSortCmp.Insertion
namespace Go.Proofs.YtbmodfegcmaieaaDoor
open Go.RowKit

def cI (x y : Int) : Int := if x < y then -1 else if y < x then 1 else 0
/-- A comparison by which just what is the same is even. -/
structure Lin {α : Type} (c : α → α → Int) : Prop where
  refl : ∀ x, c x x = 0
  eq : ∀ x y, c x y = 0 → x = y
  neg : ∀ x y, c x y < 0 → 0 < c y x
  pos : ∀ x y, 0 < c x y → c y x < 0
  trans : ∀ x y z, c x y < 0 → c y z < 0 → c x z < 0
set_option maxRecDepth 100000 in
theorem cI_lt {x y : Int} (h : x < y) : cI x y = -1 := by simp [cI, h]
set_option maxRecDepth 100000 in
theorem cI_gt {x y : Int} (h : y < x) : cI x y = 1 := by have h2 : ¬ x < y := by omega
                                                         simp [cI, h, h2]
set_option maxRecDepth 100000 in
theorem cI_eq (x : Int) : cI x x = 0 := by simp [cI]
set_option maxRecDepth 100000 in
theorem cI_or (x y : Int) : (x < y ∧ cI x y = -1) ∨ (y < x ∧ cI x y = 1) ∨ (x = y ∧ cI x y = 0) := by
  rcases Int.lt_trichotomy x y with h | h | h
  · exact .inl ⟨h, cI_lt h⟩
  · subst h; exact .inr (.inr ⟨rfl, cI_eq _⟩)
  · exact .inr (.inl ⟨h, cI_gt h⟩)
set_option maxRecDepth 100000 in
theorem lin_cI : Lin cI := by
  refine ⟨fun x => cI_eq x, fun x y h => ?_, fun x y h => ?_, fun x y h => ?_, fun x y z h1 h2 => ?_⟩
  · rcases cI_or x y with g | g | g <;> omega
  · rcases cI_or x y with g | g | g <;> rcases cI_or y x with k | k | k <;> omega
  · rcases cI_or x y with g | g | g <;> rcases cI_or y x with k | k | k <;> omega
  · rcases cI_or x y with g | g | g <;> rcases cI_or y z with k | k | k <;> rcases cI_or x z with l | l | l <;> omega
/-- One behind the other. -/
def lexC {α β : Type} (c : α → α → Int) (d : β → β → Int) (x y : α × β) : Int := if c x.1 y.1 ≠ 0 then c x.1 y.1 else d x.2 y.2
set_option maxRecDepth 100000 in
theorem lin_lex {α β : Type} {c : α → α → Int} {d : β → β → Int} (hc : Lin c) (hd : Lin d) : Lin (lexC c d) := by
  refine ⟨fun x => ?_, fun x y h => ?_, fun x y h => ?_, fun x y h => ?_, fun x y z h1 h2 => ?_⟩
  · simp [lexC, hc.refl, hd.refl]
  · unfold lexC at h
    split at h
    · contradiction
    · rename_i g
      have g : c x.1 y.1 = 0 := by simpa using g
      exact Prod.ext (hc.eq _ _ g) (hd.eq _ _ h)
  · unfold lexC at h ⊢
    split at h
    · have := hc.neg _ _ h
      rw [if_pos (by omega)]; exact this
    · rename_i g
      have g : c x.1 y.1 = 0 := by simpa using g
      have e := hc.eq _ _ g
      rw [e, if_neg (by simp [hc.refl])]; exact hd.neg _ _ h
  · unfold lexC at h ⊢
    split at h
    · have := hc.pos _ _ h
      rw [if_pos (by omega)]; exact this
    · rename_i g
      have g : c x.1 y.1 = 0 := by simpa using g
      have e := hc.eq _ _ g
      rw [e, if_neg (by simp [hc.refl])]; exact hd.pos _ _ h
  · unfold lexC at h1 h2 ⊢
    by_cases g1 : c x.1 y.1 = 0
    · have e := hc.eq _ _ g1
      rw [if_neg (by simpa using g1)] at h1
      rw [e]
      by_cases g2 : c y.1 z.1 = 0
      · rw [if_neg (by simpa using g2)] at h2 ⊢
        exact hd.trans _ _ _ h1 h2
      · rw [if_pos g2] at h2 ⊢
        exact h2
    · rw [if_pos g1] at h1
      by_cases g2 : c y.1 z.1 = 0
      · have e := hc.eq _ _ g2
        rw [← e, if_pos g1]; exact h1
      · rw [if_pos g2] at h2
        have := hc.trans _ _ _ h1 h2
        rw [if_pos (by omega)]; exact this
set_option maxRecDepth 100000 in
theorem Lin.swo {α β : Type} {c : α → α → Int} (h : Lin c) (k : β → α) : Go.Sort.SWO (Go.Proofs.ltOf fun x y : β => c (k x) (k y)) := by
  refine ⟨fun x => ?_, fun x y z h1 h2 => ?_, fun x y z h1 h2 => ?_⟩
  · simp [Go.Proofs.ltOf, h.refl]
  · simp only [Go.Proofs.ltOf, decide_eq_true_eq] at *
    exact h.trans _ _ _ h1 h2
  · simp only [Go.Proofs.ltOf, decide_eq_false_iff_not] at *
    intro h3
    rcases Int.lt_trichotomy (c (k x) (k y)) 0 with g | g | g
    · exact h1 g
    · rw [h.eq _ _ g] at h3; exact h2 h3
    · rcases Int.lt_trichotomy (c (k y) (k z)) 0 with g2 | g2 | g2
      · exact h2 g2
      · rw [← h.eq _ _ g2] at h3; exact h1 h3
      · have a := h.trans _ _ _ (h.pos _ _ g2) (h.pos _ _ g)
        have b := h.neg _ _ a
        omega
/-- The first that is not nought. -/
def orF : List Int → Int
  | [] => 0
  | x :: r => if x ≠ 0 then x else orF r
/-- Rounds, then authors. -/
def cmpRA (x y : Int × Int) : Int := lexC cI cI x y
set_option maxRecDepth 100000 in
theorem lin_cmpRA : Lin cmpRA := lin_lex lin_cI lin_cI
set_option maxRecDepth 100000 in
theorem cmpRA_or (a b c d : Int) : cmpRA (a, b) (c, d) = orF [cI a c, cI b d] := by
  simp only [cmpRA, lexC, orF]
  by_cases h0 : cI a c = 0
  · by_cases h1 : cI b d = 0 <;> simp [h0, h1]
  · simp [h0]
set_option maxRecDepth 100000 in
theorem cmpRA_neg {x y : Int × Int} : cmpRA x y < 0 ↔ (x.1 < y.1 ∨ (x.1 = y.1 ∧ x.2 < y.2)) := by
  unfold cmpRA lexC
  rcases cI_or x.1 y.1 with h | h | h <;> rcases cI_or x.2 y.2 with g | g | g <;> rw [h.2, g.2] <;> simp <;> omega
set_option maxRecDepth 100000 in
theorem isNaN_any (x : Int) (w : World) : Calls Tryd.prog 98 #[.int .i64 x] w fun e w' => e = .returned (.bool false) ∧ w = w' := by
  go_enter Tryd.func98, Tryd.ntmps98
  go_wp2
  go_ret
  exact ⟨by simp, rfl⟩
set_option maxRecDepth 100000 in
set_option maxHeartbeats 1000000 in
theorem compareInt_any (x y : Int) (w : World) : Calls Tryd.prog 77 #[.int .i64 x, .int .i64 y] w fun e w' => e = .returned (.int .i64 (cI x y)) ∧ w = w' := by
  rcases Int.lt_trichotomy x y with h | h | h
  · have hF : Hid (cI x y = -1) := cI_lt h
    go_enter Tryd.func77, Tryd.ntmps77
    go_wp2_with (go_at_call 98; refine (isNaN_any _ _).mono ?_; rintro e w' ⟨rfl, rfl⟩)
    go_ret
    exact ⟨ret_int hF.out.symm, rfl⟩
  · subst h
    have hF : Hid (cI x x = 0) := cI_eq x
    go_enter Tryd.func77, Tryd.ntmps77
    go_wp2_with (go_at_call 98; refine (isNaN_any _ _).mono ?_; rintro e w' ⟨rfl, rfl⟩)
    go_ret
    exact ⟨ret_int hF.out.symm, rfl⟩
  · have hF : Hid (cI x y = 1) := cI_gt h
    have h2 : ¬ x < y := by omega
    go_enter Tryd.func77, Tryd.ntmps77
    go_wp2_with (go_at_call 98; refine (isNaN_any _ _).mono ?_; rintro e w' ⟨rfl, rfl⟩)
    go_ret
    exact ⟨ret_int hF.out.symm, rfl⟩
/-- Nothing but draws and new blocks. -/
def Gr (w w' : World) : Prop := ∃ q os, w' = Go.Sort.grow (w.drewN q) os
set_option maxRecDepth 100000 in
theorem Gr.refl (w : World) : Gr w w := ⟨0, #[], by simp [Go.Sort.grow, World.drewN]⟩
set_option maxRecDepth 100000 in
theorem Gr.trans {a b c : World} (h : Gr a b) (k : Gr b c) : Gr a c := by
  obtain ⟨q, os, rfl⟩ := h
  obtain ⟨q', os', rfl⟩ := k
  exact ⟨q + q', os ++ os', by simp [Go.Sort.grow, World.drewN, Array.append_assoc, Nat.add_assoc]⟩
set_option maxRecDepth 100000 in
theorem Gr.alloc {a b : World} (h : Gr a b) (o : Obj) : Gr a (b.alloc o) := h.trans ⟨0, #[o], by rw [Go.Sort.alloc_eq_grow]; rfl⟩
set_option maxRecDepth 100000 in
theorem Gr.drew {a b : World} (h : Gr a b) : Gr a b.drew := h.trans ⟨1, #[], by unfold Go.Sort.grow; rw [Array.append_empty]; rfl⟩
set_option maxRecDepth 100000 in
theorem Gr.below {a b : World} (h : Gr a b) : Below a.heap.size a b := by
  obtain ⟨q, os, rfl⟩ := h
  refine ⟨rfl, rfl, rfl, by simp [Go.Sort.grow, World.drewN], fun k hk => ?_⟩
  show (a.heap ++ os)[k]? = _
  rw [Array.getElem?_append_left hk]
set_option maxRecDepth 100000 in
set_option maxHeartbeats 1000000 in
theorem cmpOr_any (l : List Int) (sb so cap : Nat) (w : World) (hl : l.length ≤ 1000) (h : ∀ j (h : j < l.length), w.cell? ⟨sb, so + j, none⟩ = some (.int .i64 (l[j]))) :
    Calls Tryd.prog 76 #[.slice (some ⟨sb, so, none⟩) l.length cap] w fun e w' => e = .returned (.int .i64 (orF l)) ∧ w = w' := by
  have HH : Hid (∀ j (h : j < l.length), w.cell? ⟨sb, so + j, none⟩ = some (.int .i64 (l[j]))) := h
  clear h
  go_enter Tryd.func76, Tryd.ntmps76
  go_wp2_with fail
  go_loop [8] (fun i => ∃ m : Nat, m ≤ l.length ∧ i = .int .i64 m ∧ orF l = orF (l.drop m)) (fun i => l.length - (intOf i).toNat)
  case atStart => exact ⟨0, Nat.zero_le _, rfl, rfl⟩
  case round =>
    obtain ⟨m, hm, rfl, hno⟩ := hrel
    by_cases hlt : m < l.length
    · have c0 := HH.out m hlt
      have hd : Hid (l.drop m = l[m] :: l.drop (m + 1)) := List.drop_eq_getElem_cons hlt
      have HN : Hid (orF l = orF (l.drop m)) := hno
      clear hno
      have hltI : (m : Int) < l.length := by omega
      generalize l[m] = x at *
      by_cases hx : x = 0
      · have h2 : Hid (orF l = orF (l.drop (m + 1))) := by show _ = _; rw [HN.out, hd.out, orF, if_neg (by simp [hx])]
        clear HN hd
        go_wp2_with fail
        go_round
        case rel => exact ⟨m + 1, by omega, by go_num, h2.out⟩
        case measure => simp [intOf]; omega
      · have h2 : Hid (orF l = x) := by show _ = _; rw [HN.out, hd.out, orF, if_pos hx]
        clear HN hd
        go_wp2_with fail
        go_ret
        exact ⟨ret_int h2.out.symm, rfl⟩
    · obtain rfl : m = l.length := by omega
      have h2 : Hid (orF l = 0) := by show _ = _; rw [hno, List.drop_length]; rfl
      clear hno
      go_wp2_with fail
      go_ret
      exact ⟨ret_int h2.out.symm, rfl⟩
end Go.Proofs.YtbmodfegcmaieaaDoor
