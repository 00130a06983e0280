/- The walk of BlakeTags. -/
import Derived.Test.YtibfgihiihibjaaDoorRTag
import Derived.Test.YtibfgihiihibjaaDoorRLists
import Derived.Test.YtibfgihiihibjaaDoorOpenLs
namespace Go.Proofs.YtibfgihiihibjaaDoor
open Go.RowKit

set_option maxRecDepth 100000 in
set_option maxHeartbeats 1000000 in
theorem blakeTags_walk (tag : Int) (ps : List Part) (sa : Option Addr) (cap : Nat) (w : World) (t0 : 0 ≤ tag) (t1 : tag ≤ 255) (hR : ReadAt w sa cap ps) (hu : ∀ p ∈ ps, AllU8 p.bs) (hT : Tabs w) :
    Calls Tryd.prog 4 #[.int .u8 tag, .slice sa ps.length cap] w fun e w' => e = .returned (.bool true) ∧ Below w.heap.size w w' := by
  by_cases hs : 1 + psz ps ps.length ≤ 4000
  · go_enter Tryd.func4, Tryd.ntmps4
    go_wp2_with fail
    refine (lists_any ps sa _ cap w rfl hR.reach hR.each hR.list.parts).mono ?_
    rintro e w1 ⟨ra, rc, qs, he, hS, hL, hb1⟩
    subst he
    dsimp only
    have hC := tagged_ok tag qs ra _ rc w1 rfl hL.parts (by rw [psz_same hS, hS.length]; exact hs) (hT.below hb1)
    rw [tagTo_same tag hS, hS.length] at hC
    go_wp2_with fail
    refine hC.mono ?_
    rintro e w2 ⟨b, he, hbb, hb2, hs2⟩
    subst he
    dsimp only
    have hB2 := hb1.trans (hb2.mono hb1.size)
    go_wp2_with fail
    refine (taggedOf_any tag ps sa _ cap w2 ⟨t0, t1⟩ rfl hR.list.small (hR.list.parts.below hB2) hu).mono ?_
    rintro e w3 ⟨hb3, h3⟩
    rcases h3 with ⟨h3, _⟩ | ⟨_, g, c, he, hs3⟩
    · omega
    subst he
    dsimp only
    have x1 := run_text w3 (some ⟨b, 0, none⟩) 32 32 _ (sumL_length _).symm (hs2.below hb3)
    have x2 := run_text w3 (some ⟨g, 0, none⟩) 32 c _ (sumL_length _).symm hs3
    have hB3 := hB2.trans (hb3.mono hB2.size)
    clear hC hs3 hs2 hT hu hR hL
    generalize bstr (sumL (tagTo tag ps ps.length)) = T at *
    go_wp2_with fail
    go_ret
    exact ⟨by simp, hB3⟩
  · go_enter Tryd.func4, Tryd.ntmps4
    go_wp2_with fail
    refine (lists_any ps sa _ cap w rfl hR.reach hR.each hR.list.parts).mono ?_
    rintro e w1 ⟨ra, rc, qs, he, hS, hL, hb1⟩
    subst he
    dsimp only
    have hC := tagged_big tag qs ra _ rc w1 rfl (by have := hL.small; unfold maxLen; omega) hL.parts (by rw [psz_same hS, hS.length]; omega)
    rw [hS.length] at hC
    go_wp2_with fail
    refine hC.mono ?_
    rintro e w2 ⟨he, rfl⟩
    subst he
    dsimp only
    go_wp2_with fail
    refine (taggedOf_any tag ps sa _ cap w1 ⟨t0, t1⟩ rfl hR.list.small (hR.list.parts.below hb1) hu).mono ?_
    rintro e w3 ⟨hb3, h3⟩
    rcases h3 with ⟨_, he⟩ | ⟨h3, _⟩
    · subst he
      dsimp only
      have x1 := run_text w3 none 0 0 [] rfl (nilSlice _)
      have hB3 := hb1.trans (hb3.mono hb1.size)
      clear hC hT hu hR hL
      go_wp2_with fail
      go_ret
      exact ⟨by simp, hB3⟩
    · omega
end Go.Proofs.YtibfgihiihibjaaDoor
