/- The document's bytesOfHex, for every text. -/
import Derived.Test.YtnpkpkknbflacaaDoorLrA
namespace Go.Proofs.YtnpkpkknbflacaaDoor
open Go.RowKit

set_option maxRecDepth 100000 in
set_option maxHeartbeats 4000000 in
theorem bytesOfHex_any (s : ByteArray) (w : World) (hs : s.size ≤ 140737488355328) :
    Calls Tryd.prog 37 #[.string s] w fun e w' => ∃ t : List UInt8, (txtB s.data.toList = true → t = txtA s.data.toList) ∧ t.length ≤ s.size ∧ e = .returned (.tuple #[.string ⟨t.toArray⟩, .bool (txtB s.data.toList)]) ∧ Below w.heap.size w w' := by
  have hlen : s.data.toList.length = s.size := Array.length_toList
  obtain ⟨i, hi, hz0, hz1, hz2⟩ := info_parts infoU8
  go_enter Tryd.func37, Tryd.ntmps37
  go_wp2_with fail
  go_loopw [5, 4] (fun j v wr => ∃ (k : Nat) (out : List UInt8), 2 * k ≤ s.size ∧ j = .int .i64 (2 * (k : Int)) ∧ Hid (out.length = k) ∧ Below w.heap.size w wr ∧ wr.ownsRow w.heap.size 5 1 v k (ub (n8 out)) ∧ Hid (unhex s.data.toList = (unhex (s.data.toList.drop (2 * k))).map fun r => out ++ r)) (fun j _ _ => s.size - (intOf j).toNat)
  case atStart => exact ⟨0, [], Nat.zero_le _, rfl, rfl, Below.refl _ _, World.ownsRow_nil _ _ _ _, by show _ = _; simp⟩
  case round =>
    obtain ⟨k, out, hk, rfl, hol, hb, ho, hun⟩ := hrel
    by_cases hlt : 2 * k + 1 < s.size
    · have hs1 : 2 * k < s.size := by omega
      have l1 : (2 * (k : Int)) < s.size := by omega
      have l2 : (2 * (k : Int)) + 1 < s.size := by omega
      have ix1 : ∀ w : World, (Instr.index 9 (.string s) (.int .i64 (2 * (k : Int)))).run Tryd.prog w = .ok (.int .u8 (s[2 * k].toNat : Int)) w := by
        intro w
        have e : s[2 * k]? = some s[2 * k] := getElem?_pos s (2 * k) hs1
        have e2 : (2 * (k : Int)).toNat = 2 * k := by omega
        have e3 : (0 : Int) ≤ 2 * (k : Int) := by omega
        simp [Instr.index, asIntOf, e, e2, e3]
      have ix2 : ∀ w : World, (Instr.index 9 (.string s) (.int .i64 (2 * (k : Int) + 1))).run Tryd.prog w = .ok (.int .u8 (s[2 * k + 1].toNat : Int)) w := by
        intro w
        have e : s[2 * k + 1]? = some s[2 * k + 1] := getElem?_pos s (2 * k + 1) hlt
        have e2 : (2 * (k : Int) + 1).toNat = 2 * k + 1 := by omega
        have e3 : (0 : Int) ≤ 2 * (k : Int) + 1 := by omega
        simp [Instr.index, asIntOf, e, e2, e3]
      have hdr : s.data.toList.drop (2 * k) = s[2 * k] :: s[2 * k + 1] :: s.data.toList.drop (2 * k + 2) := drop_two (by rw [hlen]; exact hlt)
      rw [hdr] at hun
      have C1 := valueOf_any s[2 * k] wr
      have C3 := fun W => valueOf_any s[2 * k + 1] W
      clear hdr
      have b1 := hxv_bounds s[2 * k]
      have b2 := hxv_bounds s[2 * k + 1]
      generalize s[2 * k] = ca at *
      generalize s[2 * k + 1] = cb at *
      have HU : Hid (unhex (ca :: cb :: s.data.toList.drop (2 * k + 2)) = if hxv ca < 0 ∨ hxv cb < 0 then none else (unhex (s.data.toList.drop (2 * k + 2))).map fun r => UInt8.ofNat (16 * (hxv ca).toNat + (hxv cb).toNat) :: r) := by show _ = _; rw [unhex]
      generalize hxv ca = xa at *
      generalize hxv cb = xb at *
      generalize (ca.toNat : Int) = na at *
      generalize (cb.toNat : Int) = nb at *
      go_wp2_with fail
      refine C1.mono ?_
      rintro e w1 ⟨he, rfl⟩
      subst he
      dsimp only
      go_wp2_with fail
      refine (C3 _).mono ?_
      rintro e w1 ⟨he, rfl⟩
      subst he
      dsimp only
      clear C1 C3 ix1 ix2
      by_cases hbad : xa < 0 ∨ xb < 0
      · have H0 : Hid (unhex s.data.toList = none) := by show _ = _; rw [hun.out, HU.out, if_pos hbad]; rfl
        have H2 : Hid (txtB s.data.toList = false) := by show _ = _; rw [txtB, H0.out]; rfl
        clear hun HU H0
        rcases Int.lt_or_le xa 0 with g | g
        · go_wp2_with fail
          go_ret2
          exact ⟨[], fun h => absurd (H2.out.symm.trans h) (by decide), Nat.zero_le _, ret_txt rfl H2.out, hb⟩
        · have g2 : xb < 0 := by omega
          go_wp2_with fail
          go_ret2
          exact ⟨[], fun h => absurd (H2.out.symm.trans h) (by decide), Nat.zero_le _, ret_txt rfl H2.out, hb⟩
      · have g1 : ¬ xa < 0 := by omega
        have g2 : ¬ xb < 0 := by omega
        have hun2 : Hid (unhex s.data.toList = (unhex (s.data.toList.drop (2 * (k + 1)))).map fun r => (out ++ [UInt8.ofNat (16 * xa.toNat + xb.toNat)]) ++ r) := by
          show _ = _
          rw [hun.out, HU.out, if_neg hbad, Option.map_map, show 2 * (k + 1) = 2 * k + 2 by omega]
          congr 1
          funext r
          simp
        have hcv : IntKind.u8.wrap (16 * xa + xb) = 16 * xa + xb := by
          simp only [IntKind.wrap, IntKind.signed, IntKind.bits]
          simp
          omega
        have hby : Hid (n8 [UInt8.ofNat (16 * xa.toNat + xb.toNat)] = [16 * xa + xb]) := by
          show _ = _
          simp [n8]
          omega
        clear hun HU hbad
        generalize UInt8.ofNat (16 * xa.toNat + xb.toNat) = cc at *
        go_wp2_with (at_builtin; refine wpList_append_own_at _ rfl _ _ 43 rfl w.heap.size 5 i (.int .u8 0) 1 1 Tryd.underlying43 hi hz0 hz1 hz2 rfl (by decide) _ k _ rfl (World.ownsRow.alloc ho _) ⟨wr.heap.size, 0, none⟩ 1 1 [.int .u8 (16 * xa + xb)] rfl rfl (cells_new _ _ _) (u8_one [_]) (by unfold maxLen; omega) (by omega) (le_alloc hb.size _) ?_)
        intro v' w2 ho2 hg2 _ _
        go_wp2_with fail
        go_roundw
        case rel =>
          refine ⟨k + 1, out ++ [cc], by omega, by go_num, by show _ = _; rw [List.length_append, hol.out]; rfl, Below.grown (hb.alloc hb.size _) hg2 (le_alloc hb.size _) (fun q e => (ho.lt q e).1), ?_, hun2⟩
          rw [n8_append, hby.out]
          simpa [ub] using ho2
        case measure => simp [intOf]; omega
    · have hl2 : ¬ (2 * (k : Int)) + 1 < s.size := by omega
      obtain ⟨sa', cap', hv, hln, hsl⟩ := owns_form ho
      subst hv
      have hcv := run_text wr sa' k cap' _ hln hsl
      rw [bstr_n8] at hcv
      clear hln hsl ho
      have Hhk : Hid (2 * k ≤ s.size) := hk
      by_cases hodd : s.size % 2 = 0
      · have H0 : Hid (unhex s.data.toList = some out) := by
          show _ = _
          rw [hun.out, List.drop_of_length_le (by rw [hlen]; omega)]
          simp [unhex]
        have H1 : Hid (txtA s.data.toList = out) := by show _ = _; rw [txtA, H0.out]; rfl
        have H2 : Hid (txtB s.data.toList = true) := by show _ = _; rw [txtB, H0.out]; rfl
        have hI : (s.size : Int) % 2 = 0 := by omega
        clear hun H0 hodd
        go_wp2_with fail
        go_ret2
        exact ⟨out, fun _ => H1.out.symm, by have := hol.out; have := Hhk.out; omega, ret_txt rfl H2.out, hb⟩
      · have H2 : Hid (txtB s.data.toList = false) := by show _ = _; rw [txtB, unhex_odd _ (by rw [hlen]; omega)]; rfl
        have hI : ¬ (s.size : Int) % 2 = 0 := by omega
        clear hun hodd
        go_wp2_with fail
        go_ret2
        exact ⟨out, fun h => absurd (H2.out.symm.trans h) (by decide), by have := hol.out; have := Hhk.out; omega, ret_txt rfl (by rw [H2.out]; symm; simpa using hI), hb⟩
end Go.Proofs.YtnpkpkknbflacaaDoor
