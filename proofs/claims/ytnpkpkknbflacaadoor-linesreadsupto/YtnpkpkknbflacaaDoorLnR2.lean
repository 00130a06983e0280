/- lines.readText: for every text. -/
import Derived.Test.YtnpkpkknbflacaaDoorLnR1
namespace Go.Proofs.YtnpkpkknbflacaaDoor
open Go.RowKit

def hexL : List UInt8 := [48, 49, 50, 51, 52, 53, 54, 55, 56, 57, 97, 98, 99, 100, 101, 102]
/-- The value of a digit of sixteen; -1: it is none. -/
def hxv (c : UInt8) : Int := Lib.indexByte hexL c
set_option maxRecDepth 100000 in
theorem hxv_bounds (c : UInt8) : -1 ≤ hxv c ∧ hxv c < 16 := by
  unfold hxv
  rcases cut_cases c hexL with ⟨h, _⟩ | ⟨o, h, h2, _⟩
  · omega
  · have : hexL.length = 16 := rfl
    omega
/-- The bytes of digits. -/
def unhex : List UInt8 → Option (List UInt8)
  | [] => some []
  | [_] => none
  | a :: b :: l => if hxv a < 0 ∨ hxv b < 0 then none else (unhex l).map fun r => UInt8.ofNat (16 * (hxv a).toNat + (hxv b).toNat) :: r
set_option maxRecDepth 100000 in
theorem unhex_odd : ∀ l : List UInt8, l.length % 2 ≠ 0 → unhex l = none
  | [], h => by simp at h
  | [_], _ => rfl
  | a :: b :: l, h => by
    have := unhex_odd l (by simp at h ⊢; omega)
    rw [unhex, this]
    split <;> rfl
def txtB (l : List UInt8) : Bool := (unhex l).isSome
def txtA (l : List UInt8) : List UInt8 := (unhex l).getD []
set_option maxRecDepth 100000 in
theorem drop_two {l : List UInt8} {k : Nat} (h : k + 1 < l.length) : l.drop k = l[k] :: l[k + 1] :: l.drop (k + 2) := by
  rw [List.drop_eq_getElem_cons (by omega), List.drop_eq_getElem_cons h]
set_option maxRecDepth 100000 in
theorem or_half (h l : Int) (h0 : 0 ≤ h ∧ h < 16) (l0 : 0 ≤ l ∧ l < 16) : bits .or .i64 (h * 16) l = h * 16 + l := by
  obtain ⟨a, rfl⟩ := Int.eq_ofNat_of_zero_le h0.1
  obtain ⟨b, rfl⟩ := Int.eq_ofNat_of_zero_le l0.1
  have key : ∀ a : Fin 16, ∀ b : Fin 16, bits .or .i64 (((a : Nat) : Int) * 16) ((b : Nat) : Int) = ((a : Nat) : Int) * 16 + ((b : Nat) : Int) := by decide +kernel
  exact key ⟨a, by omega⟩ ⟨b, by omega⟩
set_option maxRecDepth 100000 in
theorem ret_txt {a a' : List UInt8} {b b' : Bool} (h1 : a' = a) (h2 : b' = b) : Ending.returned (.tuple #[.string ⟨a.toArray⟩, .bool b]) = .returned (.tuple #[.string ⟨a'.toArray⟩, .bool b']) := by rw [h1, h2]
set_option maxRecDepth 100000 in
set_option maxHeartbeats 4000000 in
theorem readText_any (s : ByteArray) (w : World) (hs : s.size ≤ 140737488355328) :
    Calls Tryd.prog 54 #[.string s] w fun e w' => e = .returned (.tuple #[.string ⟨(txtA s.data.toList).toArray⟩, .bool (txtB s.data.toList)]) ∧ Below w.heap.size w w' := by
  have hlen : s.data.toList.length = s.size := Array.length_toList
  by_cases hodd : s.size % 2 = 0
  · obtain ⟨i, hi, hz0, hz1, hz2⟩ := info_parts infoU8
    obtain ⟨m, hm⟩ : ∃ m, s.size = 2 * m := ⟨s.size / 2, by omega⟩
    have hI : (s.size : Int) % 2 = 0 := by omega
    have hq : (s.size : Int) / 2 = m := by omega
    have hmk : ∃ C : Array Value, (Instr.makeSlice 43 (.int .i64 0) (.int .i64 (m : Int))).run Tryd.prog w = .ok (.slice (some ⟨w.heap.size, 0, none⟩) 0 m) (w.alloc (.cells C 5)) ∧ (w.alloc (.cells C 5)).ownsRow w.heap.size 5 1 (.slice (some ⟨w.heap.size, 0, none⟩) 0 m) 0 [] := by
      refine ⟨madeCells (Value.int .u8 0).cells (m * 1), ?_, ?_⟩
      · have h := run_make (P := Tryd.prog) w 43 5 i (.int .u8 0) Tryd.underlying43 hi hz0 .i64 .i64 0 (m : Int) (by omega) (by omega) (by rw [hz2]; omega) (by omega)
        simpa [hz1] using h
      · refine ⟨rfl, .inr ⟨w.heap.size, m, _, rfl, Nat.le_refl _, heap_alloc_new _ _, by omega, by unfold maxLen; omega, size_madeCells _ _, by simp⟩⟩
    obtain ⟨C, hmk1, hmk2⟩ := hmk
    have Hm : Hid (s.size = 2 * m) := hm
    have hm2 : m ≤ 70368744177664 := by omega
    clear hm hodd
    go_enter Tryd.func54, Tryd.ntmps54
    go_wp2_with fail
    have hB0 : Below w.heap.size w (w.alloc (.cells C 5)) := (Below.refl _ _).alloc (Nat.le_refl _) _
    generalize w.alloc (.cells C 5) = W0 at *
    clear hI hq
    go_loopw [5, 4] (fun j v wr => ∃ (k : Nat) (out : List UInt8), k ≤ m ∧ j = .int .i64 (2 * (k : Int)) ∧ Hid (out.length = k) ∧ Below w.heap.size w wr ∧ wr.ownsRow w.heap.size 5 1 v k (ub (n8 out)) ∧ Hid (unhex s.data.toList = (unhex (s.data.toList.drop (2 * k))).map fun r => out ++ r)) (fun j _ _ => s.size - (intOf j).toNat)
    case atStart => exact ⟨0, [], Nat.zero_le _, rfl, rfl, hB0, hmk2, by show _ = _; simp⟩
    case round =>
      clear hmk1 hmk2 hB0
      obtain ⟨k, out, hk, rfl, hol, hb, ho, hun⟩ := hrel
      by_cases hlt : k < m
      · have hs1 : 2 * k < s.size := by have := Hm.out; omega
        have hs2 : 2 * k + 1 < s.size := by have := Hm.out; omega
        have l1 : (2 * (k : Int)) < s.size := by omega
        have l2 : (2 * (k : Int)) + 1 < s.size := by omega
        have ix1 : ∀ w : World, (Instr.index 9 (.string s) (.int .i64 (2 * (k : Int)))).run Tryd.prog w = .ok (.int .u8 (s[2 * k].toNat : Int)) w := by
          intro w
          have e : s[2 * k]? = some s[2 * k] := getElem?_pos s (2 * k) hs1
          have e2 : (2 * (k : Int)).toNat = 2 * k := by omega
          have e3 : (0 : Int) ≤ 2 * (k : Int) := by omega
          simp [Instr.index, asIntOf, e, e2, e3]
        have ix2 : ∀ w : World, (Instr.index 9 (.string s) (.int .i64 (2 * (k : Int) + 1))).run Tryd.prog w = .ok (.int .u8 (s[2 * k + 1].toNat : Int)) w := by
          intro w
          have e : s[2 * k + 1]? = some s[2 * k + 1] := getElem?_pos s (2 * k + 1) hs2
          have e2 : (2 * (k : Int) + 1).toNat = 2 * k + 1 := by omega
          have e3 : (0 : Int) ≤ 2 * (k : Int) + 1 := by omega
          simp [Instr.index, asIntOf, e, e2, e3]
        have hdr : s.data.toList.drop (2 * k) = s[2 * k] :: s[2 * k + 1] :: s.data.toList.drop (2 * k + 2) := drop_two (by rw [hlen]; exact hs2)
        rw [hdr] at hun
        have C1 := sIndexByte_any ⟨#[48, 49, 50, 51, 52, 53, 54, 55, 56, 57, 97, 98, 99, 100, 101, 102]⟩ s[2 * k] wr
        have C2 := fun W => sIndexByte_any ⟨#[48, 49, 50, 51, 52, 53, 54, 55, 56, 57, 97, 98, 99, 100, 101, 102]⟩ s[2 * k + 1] W
        rw [show Lib.indexByte (⟨#[48, 49, 50, 51, 52, 53, 54, 55, 56, 57, 97, 98, 99, 100, 101, 102]⟩ : ByteArray).data.toList s[2 * k] = hxv s[2 * k] from rfl] at C1
        have C3 : ∀ W, Calls Tryd.prog 61 #[.string ⟨#[48, 49, 50, 51, 52, 53, 54, 55, 56, 57, 97, 98, 99, 100, 101, 102]⟩, .int .u8 (s[2 * k + 1].toNat : Int)] W fun e w' => e = .returned (.int .i64 (hxv s[2 * k + 1])) ∧ W = w' := C2
        clear C2 hdr
        have b1 := hxv_bounds s[2 * k]
        have b2 := hxv_bounds s[2 * k + 1]
        generalize s[2 * k] = ca at *
        generalize s[2 * k + 1] = cb at *
        have HU : Hid (unhex (ca :: cb :: s.data.toList.drop (2 * k + 2)) = if hxv ca < 0 ∨ hxv cb < 0 then none else (unhex (s.data.toList.drop (2 * k + 2))).map fun r => UInt8.ofNat (16 * (hxv ca).toNat + (hxv cb).toNat) :: r) := by show _ = _; rw [unhex]
        generalize hxv ca = xa at *
        generalize hxv cb = xb at *
        generalize (ca.toNat : Int) = na at *
        generalize (cb.toNat : Int) = nb at *
        go_wp2_with fail
        refine C1.mono ?_
        rintro e w1 ⟨he, rfl⟩
        subst he
        dsimp only
        go_wp2_with fail
        refine (C3 _).mono ?_
        rintro e w1 ⟨he, rfl⟩
        subst he
        dsimp only
        clear C1 C3
        by_cases hbad : xa < 0 ∨ xb < 0
        · have H0 : Hid (unhex s.data.toList = none) := by show _ = _; rw [hun.out, HU.out, if_pos hbad]; rfl
          have H1 : Hid (txtA s.data.toList = []) := by show _ = _; rw [txtA, H0.out]; rfl
          have H2 : Hid (txtB s.data.toList = false) := by show _ = _; rw [txtB, H0.out]; rfl
          clear hun HU H0
          rcases Int.lt_or_le xa 0 with g | g
          · go_wp2_with fail
            go_ret2
            exact ⟨ret_txt H1.out H2.out, hb⟩
          · have g2 : xb < 0 := by omega
            go_wp2_with fail
            go_ret2
            exact ⟨ret_txt H1.out H2.out, hb⟩
        · have g1 : ¬ xa < 0 := by omega
          have g2 : ¬ xb < 0 := by omega
          have hor := or_half xa xb (by omega) (by omega)
          have hun2 : Hid (unhex s.data.toList = (unhex (s.data.toList.drop (2 * (k + 1)))).map fun r => (out ++ [UInt8.ofNat (16 * xa.toNat + xb.toNat)]) ++ r) := by
            show _ = _
            rw [hun.out, HU.out, if_neg hbad, Option.map_map, show 2 * (k + 1) = 2 * k + 2 by omega]
            congr 1
            funext r
            simp
          have hcv : IntKind.u8.wrap (xa * 16 + xb) = xa * 16 + xb := by
            simp only [IntKind.wrap, IntKind.signed, IntKind.bits]
            simp
            omega
          have hby : Hid (n8 [UInt8.ofNat (16 * xa.toNat + xb.toNat)] = [xa * 16 + xb]) := by
            show _ = _
            simp [n8]
            omega
          clear hun HU hbad
          generalize UInt8.ofNat (16 * xa.toNat + xb.toNat) = cc at *
          generalize xa * 16 + xb = xc at *
          go_wp2_with (at_builtin; refine wpList_append_own_at _ rfl _ _ 43 rfl w.heap.size 5 i (.int .u8 0) 1 1 Tryd.underlying43 hi hz0 hz1 hz2 rfl (by decide) _ k _ rfl (World.ownsRow.alloc ho _) ⟨wr.heap.size, 0, none⟩ 1 1 [.int .u8 xc] rfl rfl (cells_new _ _ _) (u8_one [_]) (by unfold maxLen; omega) (by omega) (le_alloc hb.size _) ?_)
          intro v' w2 ho2 hg2 _ _
          go_wp2_with fail
          go_roundw
          case rel =>
            refine ⟨k + 1, out ++ [cc], by omega, by go_num, by show _ = _; rw [List.length_append, hol.out]; rfl, Below.grown (hb.alloc hb.size _) hg2 (le_alloc hb.size _) (fun q e => (ho.lt q e).1), ?_, hun2⟩
            rw [n8_append, hby.out]
            simpa [ub] using ho2
          case measure => simp [intOf]; omega
      · obtain rfl : k = m := by omega
        have hl2 : ¬ (2 * (k : Int)) < s.size := by have := Hm.out; omega
        have H0 : Hid (unhex s.data.toList = some out) := by
          show _ = _
          rw [hun.out, List.drop_of_length_le (by rw [hlen, Hm.out]; omega)]
          simp [unhex]
        have H1 : Hid (txtA s.data.toList = out) := by show _ = _; rw [txtA, H0.out]; rfl
        have H2 : Hid (txtB s.data.toList = true) := by show _ = _; rw [txtB, H0.out]; rfl
        clear hun H0
        obtain ⟨sa', cap', hv, hln, hsl⟩ := owns_form ho
        subst hv
        have hcv := run_text wr sa' k cap' _ hln hsl
        rw [bstr_n8] at hcv
        clear hln hsl ho
        go_wp2_with fail
        go_ret2
        exact ⟨ret_txt H1.out H2.out, hb⟩
  · have hI : ¬ (s.size : Int) % 2 = 0 := by omega
    have H1 : Hid (txtA s.data.toList = []) := by show _ = _; rw [txtA, unhex_odd _ (by rw [hlen]; omega)]; rfl
    have H2 : Hid (txtB s.data.toList = false) := by show _ = _; rw [txtB, unhex_odd _ (by rw [hlen]; omega)]; rfl
    clear hodd hlen
    go_enter Tryd.func54, Tryd.ntmps54
    go_wp2_with fail
    go_ret2
    exact ⟨ret_txt H1.out H2.out, Below.refl _ _⟩
end Go.Proofs.YtnpkpkknbflacaaDoor
