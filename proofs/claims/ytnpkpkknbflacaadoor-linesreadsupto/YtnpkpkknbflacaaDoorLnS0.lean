/- lines.showText: two digits a byte. -/
import Derived.Test.YtnpkpkknbflacaaDoorAppT
import Derived.Test.YtnpkpkknbflacaaDoorBstr
import Derived.BigRegion
import Derived.Shelf.Strings.BuilderK
namespace Go.Proofs.YtnpkpkknbflacaaDoor
open Go.RowKit

/-- A digit of sixteen. -/
def hxd (n : Nat) : UInt8 := if n < 10 then UInt8.ofNat (48 + n) else UInt8.ofNat (87 + n)
/-- Bytes as digits. -/
def hexU (l : List UInt8) : List UInt8 := l.flatMap fun b => [hxd (b.toNat / 16), hxd (b.toNat % 16)]
set_option maxRecDepth 100000 in
theorem hexU_length (l : List UInt8) : (hexU l).length = 2 * l.length := by
  induction l with
  | nil => rfl
  | cons a l ih => simp only [hexU, List.flatMap_cons, List.length_append, List.length_cons, List.length_nil] at ih ⊢; omega
set_option maxRecDepth 100000 in
theorem hexU_snoc (l : List UInt8) (b : UInt8) : hexU (l ++ [b]) = hexU l ++ [hxd (b.toNat / 16), hxd (b.toNat % 16)] := by simp [hexU]
/-- Bytes as numbers. -/
def n8 (l : List UInt8) : List Int := l.map fun b => (b.toNat : Int)
set_option maxRecDepth 100000 in
theorem n8_length (l : List UInt8) : (n8 l).length = l.length := by simp [n8]
set_option maxRecDepth 100000 in
theorem n8_append (a b : List UInt8) : n8 (a ++ b) = n8 a ++ n8 b := by simp [n8]
set_option maxRecDepth 100000 in
theorem ub_n8 (l : List UInt8) : ub (n8 l) = Lib.byteCells l := by simp [ub, n8, Lib.byteCells]
set_option maxRecDepth 100000 in
theorem bstr_n8 (l : List UInt8) : bstr (n8 l) = ⟨l.toArray⟩ := by
  apply ba_ext
  rw [ByteArray.toList_eq, ByteArray.toList_eq, bstr_data, n8, List.map_map]
  have : ((fun n : Int => UInt8.ofNat n.toNat) ∘ fun b : UInt8 => (b.toNat : Int)) = id := by
    funext b; simp
  rw [this]; simp
set_option maxRecDepth 100000 in
theorem hxd_index (x : Nat) (h1 : x < 16) (w : World) :
    (Instr.index 9 (.string ⟨#[48, 49, 50, 51, 52, 53, 54, 55, 56, 57, 97, 98, 99, 100, 101, 102]⟩) (.int .u8 (x : Int))).run Tryd.prog w = .ok (.int .u8 ((hxd x).toNat : Int)) w := by
  have hk' : x = 0 ∨ x = 1 ∨ x = 2 ∨ x = 3 ∨ x = 4 ∨ x = 5 ∨ x = 6 ∨ x = 7 ∨ x = 8 ∨ x = 9 ∨ x = 10 ∨ x = 11 ∨ x = 12 ∨ x = 13 ∨ x = 14 ∨ x = 15 := by omega
  clear h1
  rcases hk' with rfl | rfl | rfl | rfl | rfl | rfl | rfl | rfl | rfl | rfl | rfl | rfl | rfl | rfl | rfl | rfl <;> rfl
set_option maxRecDepth 100000 in
theorem take_snocU (s : ByteArray) (k : Nat) (h : k < s.size) : s.data.toList.take (k + 1) = s.data.toList.take k ++ [s[k]] := by
  rw [List.take_succ_eq_append_getElem (by simpa using h)]; rfl
set_option maxRecDepth 100000 in
set_option maxHeartbeats 1000000 in
theorem showText_any (s : ByteArray) (w : World) (hs : s.size ≤ 1099511627776) :
    Calls Tryd.prog 41 #[.string s] w fun e w' => e = .returned (.string ⟨(hexU s.data.toList).toArray⟩) ∧ Below w.heap.size w w' := by
  obtain ⟨i, hi, hz0, hz1, hz2⟩ := info_parts infoU8
  have hmk : ∃ C : Array Value, (Instr.makeSlice 43 (.int .i64 0) (.int .i64 (2 * (s.size : Int)))).run Tryd.prog w = .ok (.slice (some ⟨w.heap.size, 0, none⟩) 0 (2 * s.size)) (w.alloc (.cells C 5)) ∧ (w.alloc (.cells C 5)).ownsRow w.heap.size 5 1 (.slice (some ⟨w.heap.size, 0, none⟩) 0 (2 * s.size)) 0 [] := by
    refine ⟨madeCells (Value.int .u8 0).cells (2 * s.size * 1), ?_, ?_⟩
    · have h := run_make (P := Tryd.prog) w 43 5 i (.int .u8 0) Tryd.underlying43 hi hz0 .i64 .i64 0 (2 * (s.size : Int)) (by omega) (by omega) (by rw [hz2]; omega) (by omega)
      have e : (2 * (s.size : Int)).toNat = 2 * s.size := by omega
      simpa [hz1, e] using h
    · refine ⟨rfl, .inr ⟨w.heap.size, 2 * s.size, _, rfl, Nat.le_refl _, heap_alloc_new _ _, by omega, by unfold maxLen; omega, size_madeCells _ _, by simp⟩⟩
  obtain ⟨C, hmk1, hmk2⟩ := hmk
  go_enter Tryd.func41, Tryd.ntmps41
  go_wp2_with fail
  have hB0 : Below w.heap.size w (w.alloc (.cells C 5)) := (Below.refl _ _).alloc (Nat.le_refl _) _
  generalize w.alloc (.cells C 5) = W0 at *
  go_loopw [11, 3] (fun j v wr => ∃ k : Nat, k ≤ s.size ∧ j = .int .i64 k ∧ Below w.heap.size w wr ∧ wr.ownsRow w.heap.size 5 1 v (2 * k) (ub (n8 (hexU (s.data.toList.take k))))) (fun j _ _ => s.size - (intOf j).toNat)
  case atStart => exact ⟨0, Nat.zero_le _, rfl, hB0, hmk2⟩
  case round =>
    clear hmk1 hmk2 hB0
    obtain ⟨k, hk, rfl, hb, ho⟩ := hrel
    by_cases hlt : k < s.size
    · have hltI : (k : Int) < s.size := by omega
      have hst : Hid (n8 (hexU (s.data.toList.take (k + 1))) = n8 (hexU (s.data.toList.take k)) ++ [((hxd (s[k].toNat / 16)).toNat : Int), ((hxd (s[k].toNat % 16)).toNat : Int)]) := by
        show _ = _
        rw [take_snocU s k hlt, hexU_snoc, n8_append]; rfl
      have hx1 : s[k].toNat < 256 := s[k].toNat_lt
      have hix : ∀ w : World, (Instr.index 9 (.string s) (.int .i64 (k : Int))).run Tryd.prog w = .ok (.int .u8 (s[k].toNat : Int)) w := by
        intro w
        have e : s[k]? = some s[k] := getElem?_pos s k hlt
        simp [Instr.index, asIntOf, e]
      generalize hgx : s[k].toNat = x at *
      clear hgx
      have i1 := hxd_index (x / 16) (by omega)
      have i2 := hxd_index (x % 16) (by omega)
      rw [show ((x / 16 : Nat) : Int) = (x : Int) / 16 by omega] at i1
      rw [show ((x % 16 : Nat) : Int) = (x : Int) % 16 by omega] at i2
      have h15 : bits .and .u8 (x : Int) 15 = (x : Int) % 16 := u8_and15 x (by omega) (by omega)
      generalize ((hxd (x / 16)).toNat : Int) = c1 at i1 hst
      generalize ((hxd (x % 16)).toNat : Int) = c2 at i2 hst
      obtain ⟨y, hy⟩ : ∃ y : Int, (x : Int) = y := ⟨_, rfl⟩
      have hy0 : 0 ≤ y := by omega
      have hy1 : y < 256 := by omega
      rw [hy] at i1 i2 h15 hix
      clear hy hx1
      go_wp2_with fail
      go_region_law (refine step_append_own rfl _ _ 43 rfl w.heap.size 5 i (.int .u8 0) 1 1 Tryd.underlying43 hi hz0 hz1 hz2 rfl (by decide) _ (2 * k) _ rfl (World.ownsRow.alloc ho.drew _) ⟨wr.heap.size, 0, none⟩ 2 2 [.int .u8 c1, .int .u8 c2] rfl rfl (cells_new _ _ _) (u8_one [_, _]) (by unfold maxLen; omega) (by omega) (le_alloc hb.size _) ?_; intro v' w1 ho1 hg1)
      all_goals
        go_wp2_with fail
        go_roundw
        case rel =>
          refine ⟨k + 1, by omega, by go_num, Below.grown (hb.drew.alloc hb.size _) hg1 (le_alloc hb.size _) (fun q e => (ho.lt q e).1), ?_⟩
          rw [hst.out, show 2 * (k + 1) = 2 * k + 2 by omega]
          simpa [ub] using ho1
        case measure => simp [intOf]; omega
    · obtain rfl : k = s.size := by omega
      obtain ⟨sa', cap', hv, hlen, hsl⟩ := owns_form ho
      subst hv
      have hcv := run_text wr sa' (2 * s.size) cap' _ hlen hsl
      rw [List.take_of_length_le (by simp), bstr_n8] at hcv
      clear hlen hsl ho
      go_wp2_with fail
      go_ret
      exact ⟨rfl, hb⟩
end Go.Proofs.YtnpkpkknbflacaaDoor
