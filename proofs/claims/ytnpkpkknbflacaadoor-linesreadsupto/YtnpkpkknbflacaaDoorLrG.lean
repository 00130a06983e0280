/- The law's sameActs where both are one. -/
import Derived.Test.YtnpkpkknbflacaaDoorLnL
namespace Go.Proofs.YtnpkpkknbflacaaDoor
open Go.RowKit

set_option maxRecDepth 100000 in
set_option maxHeartbeats 2000000 in
theorem sameActs_any (l : List AV) (pa pb : Option Addr) (n ca cb : Nat) (w : World) (hn : l.length = n) (hn2 : n ≤ 1000000) (hA : ActsAt w pa l) (hB : ActsAt w pb l) :
    Calls Tryd.prog 15 #[.slice pa n ca, .slice pb n cb] w fun e w' => e = .returned (.bool true) ∧ Below w.heap.size w w' := by
  go_enter Tryd.func15, Tryd.ntmps15
  go_wp2_with fail
  go_loopw [5] (fun i wr => ∃ k : Nat, k ≤ n ∧ i = .int .i64 k ∧ Below w.heap.size w wr) (fun i _ => n - (intOf i).toNat)
  case atStart => exact ⟨0, Nat.zero_le _, rfl, Below.refl _ _⟩
  case round =>
    obtain ⟨k, hk, rfl, hbk⟩ := hrel
    by_cases hlt : k < n
    · have hltI : (k : Int) < n := by omega
      have hkl : k < l.length := by rw [hn]; exact hlt
      rcases (hA.below hbk).cells with hc | ⟨sb, so, hsa, hc⟩
      · rw [hc] at hkl; simp at hkl
      rcases (hB.below hbk).cells with hd | ⟨tb, to', hta, hd⟩
      · rw [hd] at hkl; simp at hkl
      obtain ⟨c0, c1, c2, c3⟩ := hc k hkl
      obtain ⟨d0, d1, d2, d3⟩ := hd k hkl
      have HA : Hid _ := hA
      have HB : Hid _ := hB
      clear hc hd hA hB hn
      generalize l.getD k AV.z = a at *
      obtain ⟨ak, an, ap, at'⟩ := a
      dsimp only at c0 c1 c2 c3 d0 d1 d2 d3
      subst hsa hta
      go_wp2_with fail
      go_region
      all_goals
        go_wp2_with fail
        go_roundw
        case rel => exact ⟨k + 1, by omega, by go_num, hbk.drew⟩
        case measure => simp [intOf]; omega
    · have hlt2 : ¬ (k : Int) < n := by omega
      go_wp2_with fail
      go_ret
      exact ⟨rfl, hbk⟩
end Go.Proofs.YtnpkpkknbflacaaDoor
