/- The walk of BlakeSums. -/
import Derived.Test.YtibfgihiihibjaaDoorRSum
namespace Go.Proofs.YtibfgihiihibjaaDoor
open Go.RowKit

set_option maxRecDepth 100000 in
set_option maxHeartbeats 1000000 in
theorem blakeSums_walk (bs : List Int) (sa : Option Addr) (cap : Nat) (w : World) (hs : SliceAt w sa cap bs) (hu : AllU8 bs) (hr : cap ≤ 140737488351232) (hT : Tabs w) :
    Calls Tryd.prog 3 #[.slice sa bs.length cap] w fun e w' => e = .returned (.bool true) ∧ Below w.heap.size w w' := by
  have hle := hs.le
  by_cases hl : bs.length ≤ 4000
  · go_enter Tryd.func3, Tryd.ntmps3
    go_wp2_with fail
    refine (octets_any bs sa _ cap w rfl hs hr).mono ?_
    rintro e w1 ⟨ra, rc, rfl, hs1, hb1⟩
    go_wp2_with fail
    refine (sum_ok bs ra _ rc w1 rfl hl hs1 (hT.below hb1)).mono ?_
    rintro e w2 ⟨b, rfl, hb, hb2, hs2⟩
    have hB2 := hb1.trans (hb2.mono hb1.size)
    go_wp2_with fail
    refine (sumOf_ok bs sa _ cap w2 rfl hl (hs.below hB2) hu).mono ?_
    rintro e w3 ⟨g, c, rfl, hb3, hs3⟩
    have t1 := run_text w3 (some ⟨b, 0, none⟩) 32 32 (sumL bs) (sumL_length bs).symm (hs2.below hb3)
    have t2 := run_text w3 (some ⟨g, 0, none⟩) 32 c (sumL bs) (sumL_length bs).symm hs3
    have hB3 := hB2.trans (hb3.mono hB2.size)
    clear hs3 hs2 hs1 hs hT hu
    generalize bstr (sumL bs) = T at *
    go_wp2_with fail
    go_ret
    exact ⟨by simp, hB3⟩
  · go_enter Tryd.func3, Tryd.ntmps3
    go_wp2_with fail
    refine (octets_any bs sa _ cap w rfl hs hr).mono ?_
    rintro e w1 ⟨ra, rc, rfl, hs1, hb1⟩
    go_wp2_with fail
    refine (sum_big bs.length ra rc w1 (by omega) (by unfold maxLen; omega)).mono ?_
    rintro e w2 ⟨rfl, rfl⟩
    go_wp2_with fail
    refine (sumOf_big bs.length sa cap w1 (by omega) (by omega)).mono ?_
    rintro e w3 ⟨rfl, rfl⟩
    have t1 := run_text w1 none 0 0 [] rfl ⟨Nat.le_refl _, by decide, .inl rfl, fun _ => rfl, .inl rfl⟩
    go_wp2_with fail
    go_ret
    exact ⟨by simp, hb1⟩
end Go.Proofs.YtibfgihiihibjaaDoor
