/- The document's answer, package sheavesref: wordsOf and turnsOf. -/
import Derived.Test.YtcecjdoabnhcgaaDoorRWords
namespace Go.Proofs.YtcecjdoabnhcgaaDoor
open Go.RowKit

set_option maxRecDepth 100000 in
theorem makeWords (w : World) : (Instr.makeSlice 45 (.int .i64 16) (.int .i64 16)).run Tryd.prog w = .ok (.slice (some ⟨w.heap.size, 0, none⟩) 16 16) (w.alloc (.cells (ia (List.replicate 16 0)).toArray 3)) := by kernel_rfl

set_option maxRecDepth 100000 in
set_option maxHeartbeats 2000000 in
theorem wordsOf_any (bs : List Int) (sa : Option Addr) (n cap : Nat) (w : World) (hn : n = bs.length) (hl : bs.length ≤ 64) (hs : BytesAt w sa bs) (hu : ∀ j, 0 ≤ bs.getD j 0 ∧ bs.getD j 0 ≤ 255) :
    Calls Tryd.prog 76 #[.slice sa n cap] w fun e w' => e = .returned (.slice (some ⟨w.heap.size, 0, none⟩) 16 16) ∧ Below w.heap.size w w' ∧ w'.ownsRow w.heap.size 3 1 (.slice (some ⟨w.heap.size, 0, none⟩) 16 16) 16 (ia (wordsTo bs bs.length)) := by
  subst hn
  have hmk := fun w => makeWords w
  have hown := World.ownsRow_lit (base := w.heap.size) (e := 3) (size := 1) w (ia (List.replicate 16 0)).toArray 16 (Nat.le_refl _) (by decide) rfl
  go_enter Tryd.func76, Tryd.ntmps76
  go_wp2_with fail
  go_loopw [4] (fun j wr => ∃ k : Nat, k ≤ bs.length ∧ j = .int .i64 k ∧ Below w.heap.size w wr ∧ wr.ownsRow w.heap.size 3 1 (.slice (some ⟨w.heap.size, 0, none⟩) 16 16) 16 (ia (wordsTo bs k))) (fun j _ => bs.length - (intOf j).toNat)
  case atStart => exact ⟨0, Nat.zero_le _, rfl, (Below.refl _ _).alloc (Nat.le_refl _) _, hown⟩
  case round =>
    clear hmk hown
    obtain ⟨k, hk, rfl, hb, ho⟩ := hrel
    by_cases hlt : k < bs.length
    · rcases hs with hc | ⟨sb, so, rfl, hc⟩
      · subst hc; simp at hlt
      have hltI : (k : Int) < bs.length := by omega
      have ck := (hb.cell (p := ⟨sb, so + k, none⟩) (block_lt_of_cell (hc k hlt))).trans (hc k hlt)
      have cm := (World.ownsRow.cellAt ho (k / 4) (by omega)).trans (ia_get _ _ (by rw [wordsTo_length]; omega))
      have fm := World.ownsRow.frozenAt ho (k / 4)
      have hv := wordsTo_bound bs hu k (by omega) (k / 4)
      rw [show min 4 (k - 4 * (k / 4)) = k % 4 by omega] at hv
      have hx := hu k
      have hj := (join_sum _ _ (k % 4) (by omega) hv.1 hv.2 hx.1 hx.2)
      have hst : Hid ((wr.setCell ⟨w.heap.size, k / 4, none⟩ (.int .i64 ((wordsTo bs k).getD (k / 4) 0 + bs.getD k 0 * 2 ^ (8 * (k % 4))))).ownsRow w.heap.size 3 1 (.slice (some ⟨w.heap.size, 0, none⟩) 16 16) 16 (ia (wordsTo bs (k + 1)))) := by
        have := (World.ownsRow.stored ho (k / 4) (.int .i64 ((wordsTo bs k).getD (k / 4) 0 + bs.getD k 0 * 2 ^ (8 * (k % 4))))).1
        rw [ia_set] at this
        rw [wordsTo, hj.1]
        exact this
      obtain ⟨hv0, hv1⟩ := hv
      obtain ⟨hx0, hx1⟩ := hx
      clear hj
      generalize (wordsTo bs k).getD (k / 4) 0 = m at cm hst hv0 hv1
      generalize bs.getD k 0 = x at ck hst hx0 hx1
      have hr : k % 4 = 0 ∨ k % 4 = 1 ∨ k % 4 = 2 ∨ k % 4 = 3 := by omega
      rcases hr with hr | hr | hr | hr
      all_goals
        have hrI : (k : Int) % 4 = ((k % 4 : Nat) : Int) := by omega
        rw [hr] at hrI hst hv1
        simp only [Nat.reduceMul, Int.reducePow] at hst hv1
        try rw [Int.mul_one] at hst
        clear hr
        go_wp2_with fail
        go_region
        go_wp2_with fail
        go_roundw
        case rel => exact ⟨k + 1, by omega, by go_num, (hb.setCell (p := ⟨w.heap.size, k / 4, none⟩) (Nat.le_refl _) _).drew, hst.out⟩
        case measure => simp [intOf]; omega
    · obtain rfl : k = bs.length := by omega
      go_wp2_with fail
      go_ret
      exact ⟨rfl, hb, ho⟩
set_option maxRecDepth 100000 in
theorem in_yes (n a b : Int) (w : World) (h1 : a ≤ n) (h2 : n ≤ b) : Calls Tryd.prog 45 #[.int .i64 n, .int .i64 a, .int .i64 b] w fun e w' => e = .returned (.bool true) ∧ w = w' := by
  go_enter Tryd.func45, Tryd.ntmps45
  go_wp2
  go_ret
  exact ⟨rfl, rfl⟩
set_option maxRecDepth 100000 in
theorem in_no (n a b : Int) (w : World) (h1 : a ≤ n) (h2 : ¬ n ≤ b) : Calls Tryd.prog 45 #[.int .i64 n, .int .i64 a, .int .i64 b] w fun e w' => e = .returned (.bool false) ∧ w = w' := by
  go_enter Tryd.func45, Tryd.ntmps45
  go_wp2
  go_ret
  exact ⟨rfl, rfl⟩
set_option maxRecDepth 100000 in
theorem i64_one (bs : List Int) : ∀ u ∈ bs.map (Value.int .i64), u.oneCell' = true := by
  intro u hu; simp at hu; obtain ⟨x, _, rfl⟩ := hu; rfl
/-- P1.3: the orders, as the document's text writes them. -/
def rowS : List ByteArray := [⟨#[48, 49, 50, 51, 52, 53, 54, 55, 56, 57, 97, 98, 99, 100, 101, 102]⟩, ⟨#[101, 97, 52, 56, 57, 102, 100, 54, 49, 99, 48, 50, 98, 55, 53, 51]⟩, ⟨#[98, 56, 99, 48, 53, 50, 102, 100, 97, 101, 51, 54, 55, 49, 57, 52]⟩, ⟨#[55, 57, 51, 49, 100, 99, 98, 101, 50, 54, 53, 97, 52, 48, 102, 56]⟩, ⟨#[57, 48, 53, 55, 50, 52, 97, 102, 101, 49, 98, 99, 54, 56, 51, 100]⟩, ⟨#[50, 99, 54, 97, 48, 98, 56, 51, 52, 100, 55, 53, 102, 101, 49, 57]⟩, ⟨#[99, 53, 49, 102, 101, 100, 52, 97, 48, 55, 54, 51, 57, 50, 56, 98]⟩, ⟨#[100, 98, 55, 101, 99, 49, 51, 57, 53, 48, 102, 52, 56, 54, 50, 97]⟩, ⟨#[54, 102, 101, 57, 98, 51, 48, 56, 99, 50, 100, 55, 49, 52, 97, 53]⟩, ⟨#[97, 50, 56, 52, 55, 54, 49, 53, 102, 98, 57, 101, 51, 99, 100, 48]⟩]
set_option maxRecDepth 100000 in
theorem rowS_size : ∀ r, r < 10 → (rowS.getD r ByteArray.empty).size = 16 := by decide
set_option maxRecDepth 100000 in
theorem rowS_code : ∀ r, r < 10 → ∀ k, k < 16 → ((rowS.getD r ByteArray.empty).data.toList.getD k 0).toNat = (if ordF.getD (r * 16 + k) 0 < 10 then 48 + ordF.getD (r * 16 + k) 0 else 87 + ordF.getD (r * 16 + k) 0) := by decide +kernel
set_option maxRecDepth 100000 in
theorem row_index (r k : Nat) (hr : r < 10) (hk : k < 16) (w : World) :
    (Instr.index 9 (.string (rowS.getD r ByteArray.empty)) (.int .i64 k)).run Tryd.prog w = .ok (.int .u8 ((if ordF.getD (r * 16 + k) 0 < 10 then 48 + ordF.getD (r * 16 + k) 0 else 87 + ordF.getD (r * 16 + k) 0 : Nat) : Int)) w := by
  have h1 := rowS_size r hr
  have h2 := rowS_code r hr k hk
  generalize rowS.getD r ByteArray.empty = S at h1 h2 ⊢
  have hk2 : k < S.size := by omega
  have hd : (0 : Int) ≤ (k : Int) ∧ (k : Int) < S.size := by omega
  rw [run_index_string w _ S .i64 k Tryd.underlying9, dif_pos hd, ← h2]
  have hk3 : k < S.data.toList.length := by simpa using hk2
  have e : S.data.toList.getD k 0 = S[(k : Int).toNat]'(by simpa using hk2) := by
    rw [List.getD, List.getElem?_eq_getElem hk3]
    rfl
  rw [e]
set_option maxRecDepth 100000 in
theorem rows_cell (W : World) (r : Nat) (hr : r < 10) : (W.alloc (.cells #[.string ⟨#[48, 49, 50, 51, 52, 53, 54, 55, 56, 57, 97, 98, 99, 100, 101, 102]⟩, .string ⟨#[101, 97, 52, 56, 57, 102, 100, 54, 49, 99, 48, 50, 98, 55, 53, 51]⟩, .string ⟨#[98, 56, 99, 48, 53, 50, 102, 100, 97, 101, 51, 54, 55, 49, 57, 52]⟩, .string ⟨#[55, 57, 51, 49, 100, 99, 98, 101, 50, 54, 53, 97, 52, 48, 102, 56]⟩, .string ⟨#[57, 48, 53, 55, 50, 52, 97, 102, 101, 49, 98, 99, 54, 56, 51, 100]⟩, .string ⟨#[50, 99, 54, 97, 48, 98, 56, 51, 52, 100, 55, 53, 102, 101, 49, 57]⟩, .string ⟨#[99, 53, 49, 102, 101, 100, 52, 97, 48, 55, 54, 51, 57, 50, 56, 98]⟩, .string ⟨#[100, 98, 55, 101, 99, 49, 51, 57, 53, 48, 102, 52, 56, 54, 50, 97]⟩, .string ⟨#[54, 102, 101, 57, 98, 51, 48, 56, 99, 50, 100, 55, 49, 52, 97, 53]⟩, .string ⟨#[97, 50, 56, 52, 55, 54, 49, 53, 102, 98, 57, 101, 51, 99, 100, 48]⟩] 9)).cell? ⟨W.heap.size, r, none⟩ = some (.string (rowS.getD r ByteArray.empty)) := by
  rw [World.cell?_alloc_at _ _ _ _ rfl]
  have h : r = 0 ∨ r = 1 ∨ r = 2 ∨ r = 3 ∨ r = 4 ∨ r = 5 ∨ r = 6 ∨ r = 7 ∨ r = 8 ∨ r = 9 := by omega
  clear hr
  rcases h with rfl | rfl | rfl | rfl | rfl | rfl | rfl | rfl | rfl | rfl <;> rfl

set_option maxRecDepth 100000 in
set_option maxHeartbeats 2000000 in
theorem turnsOf_any (r : Nat) (hr : r < 10) (w : World) :
    Calls Tryd.prog 77 #[.int .i64 r] w fun e w' => ∃ g cap, e = .returned (.slice (some ⟨g, 0, none⟩) 16 cap) ∧ w.heap.size ≤ g ∧ Below w.heap.size w w' ∧ w'.ownsRow w.heap.size 3 1 (.slice (some ⟨g, 0, none⟩) 16 cap) 16 (ia ((ordF.drop (r * 16)).take 16 |>.map Int.ofNat)) := by
  obtain ⟨i, hi, hz0, hz1, hz2⟩ := info_parts infoInt
  have hrI : (r : Int) < 10 := by omega
  have hrow := rows_cell w r hr
  go_enter Tryd.func77, Tryd.ntmps77
  go_wp2_with fail
  go_loopw [5, 4] (fun j v wr => ∃ k : Nat, k ≤ 16 ∧ j = .int .i64 k ∧ Below w.heap.size w wr ∧ wr.cell? ⟨w.heap.size, r, none⟩ = some (.string (rowS.getD r ByteArray.empty)) ∧ wr.ownsRow (w.heap.size + 1) 3 1 v k (ia ((ordF.drop (r * 16)).take k |>.map Int.ofNat))) (fun j _ _ => 16 - (intOf j).toNat)
  case atStart => exact ⟨0, Nat.zero_le _, rfl, (Below.refl _ _).alloc (Nat.le_refl _) _, hrow, World.ownsRow_nil _ _ _ _⟩
  case round =>
    clear hrow
    obtain ⟨k, hk, rfl, hb, hc, ho⟩ := hrel
    by_cases hlt : k < 16
    · have hltI : (k : Int) < 16 := by omega
      have hix := row_index r k hr hlt
      have hlen : r * 16 + k < ordF.length := by have : ordF.length = 160 := rfl; omega
      have ho16 := ordF_lt (r * 16 + k) (by omega)
      have hst : Hid (((ordF.drop (r * 16)).take (k + 1)).map Int.ofNat = ((ordF.drop (r * 16)).take k).map Int.ofNat ++ [((ordF.getD (r * 16 + k) 0 : Nat) : Int)]) := by
        show _ = _
        rw [List.take_succ_eq_append_getElem (by simp; omega), List.map_append]
        simp [List.getD, hlen]
      have hsz : w.heap.size + 1 ≤ wr.heap.size := by have := block_lt_of_cell hc; simp at this; omega
      clear hlen
      generalize ordF.getD (r * 16 + k) 0 = o at hix hst ho16
      by_cases h10 : o < 10
      · have hi2 : ∀ w, (Instr.index 9 (.string (rowS.getD r ByteArray.empty)) (.int .i64 k)).run Tryd.prog w = .ok (.int .u8 (48 + (o : Int))) w := fun w => by rw [hix w, if_pos h10]; simp
        clear hix
        have Hc : Hid (wr.cell? ⟨w.heap.size, r, none⟩ = some (.string (rowS.getD r ByteArray.empty))) := hc
        generalize rowS.getD r ByteArray.empty = S at *
        have hoI : (o : Int) < 10 := by omega
        go_wp2_with fail
        refine (in_yes _ _ _ _ (by omega) (by omega)).mono ?_
        rintro e w' ⟨rfl, rfl⟩
        go_wp2_with (at_builtin; refine wpList_append_own _ rfl _ _ 45 rfl (w.heap.size + 1) 3 i (.int .i64 0) 1 8 Tryd.underlying45 hi hz0 hz1 hz2 rfl (by decide) _ k _ rfl (ho.alloc _) ⟨wr.heap.size, 0, none⟩ 1 1 [.int .i64 (48 + (o : Int) - 48)] rfl rfl (cells_new _ _ _) (i64_one [_]) (by unfold maxLen; omega) (by omega) (le_alloc hsz _) ?_; intro v1 w1 ho1 hg1 _)
        rw [show (48 : Int) + o - 48 = o by omega] at ho1
        have hb1 := Below.grown (hb.alloc hb.size _) hg1 (le_alloc hb.size _) (fun q e => Nat.le_of_succ_le (ho.lt q e).1)
        have hcc : w1.cell? ⟨w.heap.size, r, none⟩ = some (.string S) := by
          refine hg1.cell (a := ⟨w.heap.size, r, none⟩) ?_ ?_
          · exact (World.cell?_alloc_past _ _ _ (by omega)).trans Hc.out
          · intro e; have := (ho.lt _ e.symm).1; simp at this; omega
        go_roundw
        case rel =>
          refine ⟨k + 1, by omega, by go_num, hb1, hcc, ?_⟩
          rw [hst.out]
          simpa [ia] using ho1
        case measure => simp [intOf]; omega
      · have hi2 : ∀ w, (Instr.index 9 (.string (rowS.getD r ByteArray.empty)) (.int .i64 k)).run Tryd.prog w = .ok (.int .u8 (87 + (o : Int))) w := fun w => by rw [hix w, if_neg h10]; simp
        clear hix
        have Hc : Hid (wr.cell? ⟨w.heap.size, r, none⟩ = some (.string (rowS.getD r ByteArray.empty))) := hc
        generalize rowS.getD r ByteArray.empty = S at *
        have hoI : (o : Int) < 16 := by omega
        go_wp2_with fail
        refine (in_no _ _ _ _ (by omega) (by omega)).mono ?_
        rintro e w' ⟨rfl, rfl⟩
        go_wp2_with (at_builtin; refine wpList_append_own _ rfl _ _ 45 rfl (w.heap.size + 1) 3 i (.int .i64 0) 1 8 Tryd.underlying45 hi hz0 hz1 hz2 rfl (by decide) _ k _ rfl (ho.alloc _) ⟨wr.heap.size, 0, none⟩ 1 1 [.int .i64 (87 + (o : Int) - 97 + 10)] rfl rfl (cells_new _ _ _) (i64_one [_]) (by unfold maxLen; omega) (by omega) (le_alloc hsz _) ?_; intro v1 w1 ho1 hg1 _)
        rw [show (87 : Int) + o - 97 + 10 = o by omega] at ho1
        have hb1 := Below.grown (hb.alloc hb.size _) hg1 (le_alloc hb.size _) (fun q e => Nat.le_of_succ_le (ho.lt q e).1)
        have hcc : w1.cell? ⟨w.heap.size, r, none⟩ = some (.string S) := by
          refine hg1.cell (a := ⟨w.heap.size, r, none⟩) ?_ ?_
          · exact (World.cell?_alloc_past _ _ _ (by omega)).trans Hc.out
          · intro e; have := (ho.lt _ e.symm).1; simp at this; omega
        go_roundw
        case rel =>
          refine ⟨k + 1, by omega, by go_num, hb1, hcc, ?_⟩
          rw [hst.out]
          simpa [ia] using ho1
        case measure => simp [intOf]; omega
    · obtain rfl : k = 16 := by omega
      have hf : ∃ g cap, u4 = .slice (some ⟨g, 0, none⟩) 16 cap ∧ w.heap.size ≤ g := by
        rcases ho.2 with ⟨_, h0⟩ | ⟨g, cap, cur, rfl, hg, _⟩
        · cases h0
        · exact ⟨g, cap, rfl, by omega⟩
      obtain ⟨g, cap, hv, hg⟩ := hf
      subst hv
      go_wp2_with fail
      go_ret
      exact ⟨g, cap, rfl, hg, hb, ownsRow_base ho (Nat.le_succ _)⟩
end Go.Proofs.YtcecjdoabnhcgaaDoor
