/- wire's reader.number and round. -/
import Derived.Test.YthlknldicpeobaaRdA
import Derived.Deep.CutRange
import Derived.Deep.DeepCutAuto
namespace Go.Proofs.Ythlknldicpeobaa
open Go.RowKit

set_option maxRecDepth 100000 in
theorem i64_andor (a b : Nat) (ha : a < 9223372036854775808) (hb : b < 9223372036854775808) :
    bits .and .i64 (a : Int) (b : Int) = ((a &&& b : Nat) : Int) ∧ bits .or .i64 (a : Int) (b : Int) = ((a ||| b : Nat) : Int) := by
  refine bits_nat .i64 63 (by decide) (fun n h0 h1 => ?_) a b (by omega) (by omega)
  rw [IntKind.wrap_i64]
  have : n < 9223372036854775808 := by simpa using h1
  omega
set_option maxRecDepth 100000 in
theorem or_byte (y x : Int) (hy0 : 0 ≤ y) (hy1 : y ≤ 65535) (hx0 : 0 ≤ x) (hx1 : x ≤ 255) : bits .or .i64 (y * 256) x = 256 * y + x := by
  obtain ⟨a, rfl⟩ := Int.eq_ofNat_of_zero_le hy0
  obtain ⟨b, rfl⟩ := Int.eq_ofNat_of_zero_le hx0
  have h := (i64_andor (a * 256) b (by omega) (by omega)).2
  rw [show ((a : Int) * 256) = ((a * 256 : Nat) : Int) by omega, h]
  have e : a * 256 ||| b = a * 256 + b := by
    have := Nat.shiftLeft_add_eq_or_of_lt (i := 8) (b := b) (by omega) a
    rw [Nat.shiftLeft_eq] at this
    exact this.symm
  rw [e]
  omega
/-- A number, the highest byte first. -/
def numB (l : List Int) : Int := l.foldl (fun n x => 256 * n + x) 0
set_option maxRecDepth 100000 in
theorem numB_snoc (l : List Int) (x : Int) : numB (l ++ [x]) = 256 * numB l + x := by simp [numB]
def U8s (l : List Int) : Prop := ∀ x ∈ l, 0 ≤ x ∧ x ≤ 255
set_option maxRecDepth 100000 in
theorem numB_bounds (l : List Int) (h : U8s l) (hl : l.length ≤ 3) : 0 ≤ numB l ∧ numB l ≤ 16777215 := by
  match l, hl with
  | [], _ => decide
  | [a], _ => have := h a (by simp); simp [numB]; omega
  | [a, b], _ => have := h a (by simp); have := h b (by simp); simp [numB]; omega
  | [a, b, c], _ => have := h a (by simp); have := h b (by simp); have := h c (by simp); simp [numB]; omega
set_option maxRecDepth 100000 in
theorem U8s.tkT {n : Nat} {l : List Int} {sh : Bool} (h : U8s l) : U8s (tkT n l sh) := by
  unfold Go.Proofs.Ythlknldicpeobaa.tkT
  split
  · intro x hx; cases hx
  · intro x hx; exact h x (List.mem_of_mem_take hx)
set_option maxRecDepth 100000 in
theorem U8s.tkL {n : Nat} {l : List Int} {sh : Bool} (h : U8s l) : U8s (tkL n l sh) := by
  unfold Go.Proofs.Ythlknldicpeobaa.tkL
  split
  · exact h
  · intro x hx; exact h x (List.mem_of_mem_drop hx)
set_option maxRecDepth 100000 in
theorem tkT_len {n : Nat} {l : List Int} {sh : Bool} : (tkT n l sh).length ≤ n := by
  unfold tkT
  split
  · simp
  · rw [List.length_take]; omega
structure NumIs (w w' : World) (e : Ending) (R : Nat) (x : Int) (l : List Int) (sh : Bool) : Prop where
  out : e = .returned (.int .i64 x) ∧ RdrAt w' R l sh ∧ Only R w w'
set_option maxRecDepth 100000 in
set_option maxHeartbeats 1000000 in
theorem number_any (R n : Nat) (l : List Int) (sh : Bool) (w : World) (hR : RdrAt w R l sh) (hl : l.length ≤ 100000) (hn : n ≤ 3) (hu : U8s l) :
    Calls Try.prog 49 #[.pointer (some ⟨R, 0, none⟩), .int .i64 (n : Int)] w fun e w' => NumIs w w' e R (numB (tkT n l sh)) (tkL n l sh) (tkS n l sh) := by
  have hT := take_any R n l sh w hR hl (by omega)
  have hut := hu.tkT (n := n) (sh := sh)
  have htl := tkT_len (n := n) (l := l) (sh := sh)
  generalize tkT n l sh = t at *
  generalize tkL n l sh = l2 at *
  generalize tkS n l sh = s2 at *
  go_enter Try.func49, Try.ntmps49
  go_wp2_with fail
  refine hT.mono ?_
  rintro e w1 ⟨ta, tc, he, hs, -, hR1, ho⟩
  subst he
  dsimp only
  clear hT
  have htI : (t.length : Int) ≤ 3 := by omega
  go_upto_region 3 with fail
  go_loopw [12, 5] (fun j v wr => ∃ (k : Nat), k ≤ t.length ∧ j = .int .i64 k ∧ v = .int .i64 (numB (t.take k)) ∧ wr = w1) (fun j _ _ => t.length - (intOf j).toNat)
  case atStart => exact ⟨0, Nat.zero_le _, rfl, rfl, rfl⟩
  case round =>
    obtain ⟨k, hk, rfl, rfl, rfl⟩ := hrel
    by_cases hlt : k < t.length
    · have hltI : (k : Int) < t.length := by omega
      obtain ⟨sb, so, rfl, hc⟩ : ∃ sb so, ta = some ⟨sb, so, none⟩ ∧ ∀ j, j < t.length → wr.cell? ⟨sb, so + j, none⟩ = some (.int .u8 (t.getD j 0)) := by
        rcases hs.bytes with h | h
        · rw [h] at hlt; simp at hlt
        · exact h
      have ck := hc k hlt
      obtain ⟨hx0, hx1⟩ := hut (t.getD k 0) (by simp [List.getD, hlt])
      have hst : Hid (t.take (k + 1) = t.take k ++ [t.getD k 0]) := by
        show _ = _
        rw [List.take_succ_eq_append_getElem hlt]
        simp [List.getD, hlt]
      obtain ⟨hb0, hb1⟩ := numB_bounds (t.take k) (fun x hx => hut x (List.mem_of_mem_take hx)) (by rw [List.length_take]; omega)
      have hb2 : numB (t.take k) ≤ 65535 := by
        match k, hlt with
        | 0, _ => simp [numB]
        | 1, _ =>
          match t, hut with
          | [], _ => simp [numB]
          | a :: r, hu' => have := hu' a (by simp); simp [numB]; omega
        | 2, _ =>
          match t, hut with
          | [], _ => simp [numB]
          | [a], hu' => have := hu' a (by simp); simp [numB]; omega
          | a :: b :: r, hu' => have := hu' a (by simp); have := hu' b (by simp); simp [numB]; omega
        | k + 3, h => omega
      clear hc
      have hS : Hid (numB (t.take (k + 1)) = 256 * numB (t.take k) + t.getD k 0) := by show _ = _; rw [hst.out, numB_snoc]
      clear hst
      generalize t.getD k 0 = X at *
      generalize numB (t.take k) = Y at *
      have hOr : Hid (bits .or .i64 (Y * 256) X = 256 * Y + X) := or_byte Y X hb0 hb2 hx0 hx1
      go_wp2_with fail
      go_roundw
      case rel =>
        have hR : ∃ (k' : Nat), k' ≤ t.length ∧ (Value.int .i64 ((k : Int) + 1)) = .int .i64 k' ∧ Value.int .i64 (bits .or .i64 (Y * 256) X) = .int .i64 (numB (t.take k')) ∧ wr = wr :=
          ⟨k + 1, by omega, by go_num, by rw [hS.out, hOr.out], rfl⟩
        first | exact hR | simpa using hR
      case measure => simp [intOf]; omega
    · obtain rfl : k = t.length := by omega
      have hltI : ¬ (t.length : Int) < t.length := by omega
      go_wp2_with fail
      go_ret
      exact ⟨rfl, hR1, ho⟩
set_option maxRecDepth 100000 in
set_option maxHeartbeats 400000 in
theorem round_any (R : Nat) (l : List Int) (sh : Bool) (w : World) (hR : RdrAt w R l sh) (hl : l.length ≤ 100000) (hu : U8s l) :
    Calls Try.prog 54 #[.pointer (some ⟨R, 0, none⟩)] w fun e w' => NumIs w w' e R (numB (tkT 3 l sh)) (tkL 3 l sh) (tkS 3 l sh) := by
  have hN := number_any R 3 l sh w hR hl (by omega) hu
  go_enter Try.func54, Try.ntmps54
  go_wp2_with fail
  refine hN.mono ?_
  rintro e w1 ⟨he, h1, h2⟩
  subst he
  dsimp only
  go_wp2_with fail
  go_ret
  exact ⟨rfl, h1, h2⟩
end Go.Proofs.Ythlknldicpeobaa
