/- sheaveskeep.hexed: two digits a byte, for every slice of at most 2^40 bytes. -/
import Derived.Test.YtkldpdekicljaaaDoorApp
import Derived.Test.YtkldpdekicljaaaDoorOpen
import Derived.BigRegion
namespace Go.Proofs.YtkldpdekicljaaaDoor
open Go.RowKit

def hexD : List Int := [48, 49, 50, 51, 52, 53, 54, 55, 56, 57, 97, 98, 99, 100, 101, 102]
def hexTo (bs : List Int) : Nat → List Int
  | 0 => []
  | k + 1 => hexTo bs k ++ [hexD.getD (bs.getD k 0 / 16).toNat 0, hexD.getD (bs.getD k 0 % 16).toNat 0]
theorem hexTo_length (bs : List Int) (k : Nat) : (hexTo bs k).length = 2 * k := by
  induction k with
  | zero => rfl
  | succ k ih => simp [hexTo, ih]; omega

theorem hex_index (x : Int) (h0 : 0 ≤ x) (h1 : x < 16) (w : World) :
    (Instr.index 9 (.string ⟨#[48, 49, 50, 51, 52, 53, 54, 55, 56, 57, 97, 98, 99, 100, 101, 102]⟩) (.int .u8 x)).run Tryd.prog w = .ok (.int .u8 (hexD.getD x.toNat 0)) w := by
  obtain ⟨k, rfl⟩ := Int.eq_ofNat_of_zero_le h0
  have hk : k < 16 := by omega
  have hk' : k = 0 ∨ k = 1 ∨ k = 2 ∨ k = 3 ∨ k = 4 ∨ k = 5 ∨ k = 6 ∨ k = 7 ∨ k = 8 ∨ k = 9 ∨ k = 10 ∨ k = 11 ∨ k = 12 ∨ k = 13 ∨ k = 14 ∨ k = 15 := by omega
  clear h0 h1 hk
  rcases hk' with rfl | rfl | rfl | rfl | rfl | rfl | rfl | rfl | rfl | rfl | rfl | rfl | rfl | rfl | rfl | rfl <;> rfl

set_option maxRecDepth 100000 in
set_option maxHeartbeats 1000000 in
theorem hexed_any (bs : List Int) (sa : Option Addr) (n cap : Nat) (w : World) (t : ByteArray) (hn : n = bs.length) (hl : bs.length ≤ 1099511627776) (hs : SliceAt w sa cap bs) (hu : AllU8 bs) (ht : bstr (hexTo bs bs.length) = t) :
    Calls Tryd.prog 15 #[.slice sa n cap] w fun e w' => e = .returned (.string t) ∧ Below w.heap.size w w' := by
  subst hn
  have Ht : Hid (bstr (hexTo bs bs.length) = t) := ht
  clear ht
  obtain ⟨i, hi, hz0, hz1, hz2⟩ := info_parts infoU8
  go_enter Tryd.func15, Tryd.ntmps15
  go_wp2_with fail
  go_loopw [4, 3] (fun j v wr => ∃ k : Nat, k ≤ bs.length ∧ j = .int .i64 k ∧ Below w.heap.size w wr ∧ wr.ownsRow w.heap.size 5 1 v (2 * k) (ub (hexTo bs k))) (fun j _ _ => bs.length - (intOf j).toNat)
  case atStart => exact ⟨0, Nat.zero_le _, rfl, Below.refl _ _, World.ownsRow_nil _ _ _ _⟩
  case round =>
    obtain ⟨k, hk, rfl, hb, ho⟩ := hrel
    by_cases hlt : k < bs.length
    · have hb' := hs.bytes
      rcases hb' with hc | ⟨sb, so, rfl, hc⟩
      · subst hc; simp at hlt
      have ck := (hb.cell (p := ⟨sb, so + k, none⟩) (block_lt_of_cell (hc k hlt))).trans (hc k hlt)
      have hx := hu (bs.getD k 0) (by simp [hlt])
      have hxk : Hid (bs.getD k 0 = bs.getD k 0) := rfl
      generalize hgx : bs.getD k 0 = x at ck hx
      replace hxk : Hid (bs.getD k 0 = x) := hgx
      clear hgx
      obtain ⟨hx0, hx1⟩ := hx
      have q1 : 0 ≤ x / 16 ∧ x / 16 < 16 := by omega
      have q2 : 0 ≤ x % 16 ∧ x % 16 < 16 := by omega
      have i1 := hex_index (x / 16) q1.1 q1.2
      have i2 := hex_index (x % 16) q2.1 q2.2
      have h15 : bits .and .u8 x 15 = x % 16 := u8_and15 x hx0 (by omega)
      have hst : Hid (hexTo bs (k + 1) = hexTo bs k ++ [hexD.getD (x / 16).toNat 0, hexD.getD (x % 16).toNat 0]) := by rw [← hxk.out]; rfl
      generalize hexD.getD (x / 16).toNat 0 = c1 at i1 hst
      generalize hexD.getD (x % 16).toNat 0 = c2 at i2 hst
      go_wp2_with fail
      go_region_law (refine step_append_own rfl _ _ 22 rfl w.heap.size 5 i (.int .u8 0) 1 1 Tryd.underlying22 hi hz0 hz1 hz2 rfl (by decide) _ (2 * k) _ rfl (World.ownsRow.alloc ho.drew _) ⟨wr.heap.size, 0, none⟩ 2 2 [.int .u8 c1, .int .u8 c2] rfl rfl (cells_new _ _ _) (u8_one [_, _]) (by unfold maxLen; omega) (by omega) (le_alloc hb.size _) ?_; intro v' w1 ho1 hg1)
      all_goals
        go_wp2_with fail
        go_roundw
        case rel =>
          refine ⟨k + 1, by omega, by go_num, Below.grown (hb.drew.alloc hb.size _) hg1 (le_alloc hb.size _) (fun q e => (ho.lt q e).1), ?_⟩
          rw [hst.out, show 2 * (k + 1) = 2 * k + 2 by omega]
          simpa [ub] using ho1
        case measure => simp [intOf]; omega
    · obtain rfl : k = bs.length := by omega
      obtain ⟨sa', cap', hv, hlen, hsl, hno⟩ := owns_form ho
      subst hv
      have hcv := run_text wr sa' (2 * bs.length) cap' _ hlen hsl hno
      rw [Ht.out] at hcv
      clear hlen hno hsl ho
      go_wp2_with fail
      go_ret
      exact ⟨rfl, hb⟩
end Go.Proofs.YtkldpdekicljaaaDoor
