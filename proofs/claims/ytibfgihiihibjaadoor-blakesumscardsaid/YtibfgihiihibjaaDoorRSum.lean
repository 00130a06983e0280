/- The document's answer, package sheavesref: SumOf; the copy that the statements make: octets. -/
import Derived.Test.YtibfgihiihibjaaDoorRDig
namespace Go.Proofs.YtibfgihiihibjaaDoor
open Go.RowKit

set_option maxHeartbeats 400000 in
theorem octets_any (bs : List Int) (sa : Option Addr) (n cap : Nat) (w : World) (hn : n = bs.length) (hs : SliceAt w sa cap bs) (hr : cap ≤ 140737488351232) :
    Calls Tryd.prog 6 #[.slice sa n cap] w fun e w' => ∃ ra rc, e = .returned (.slice ra bs.length rc) ∧ SliceAt w' ra rc bs ∧ Below w.heap.size w w' := by
  have hle := hs.le
  go_enter Tryd.func6, Tryd.ntmps6
  go_wp2_with (at_builtin; refine wpList_append_part rfl _ _ rfl w.heap.size _ 0 [] rfl (World.ownsRow_nil _ _ _ _) sa n cap bs rfl hn hs (by omega) (Nat.le_refl _) ?_; intro v1 w1 ho1 hg1)
  obtain ⟨ra, rc, hv, hl, hsl⟩ := owns_form ho1
  subst hv
  go_ret
  refine ⟨ra, rc, ?_, by simpa using hsl, grown_none hg1⟩
  simp [hn]
set_option maxHeartbeats 400000 in
theorem sumOf_big (n : Nat) (sa : Option Addr) (cap : Nat) (w : World) (hn : 4000 < n) (hm : n ≤ 140737488351232) :
    Calls Tryd.prog 7 #[.slice sa n cap] w fun e w' => e = .returned (.tuple #[.slice none 0 0, .int .i64 1]) ∧ w = w' := by
  have h1 : (4000 : Int) < n := by omega
  go_enter Tryd.func7, Tryd.ntmps7
  go_wp2
  go_ret2
  exact ⟨rfl, rfl⟩
set_option maxHeartbeats 400000 in
theorem sumOf_ok (bs : List Int) (sa : Option Addr) (n cap : Nat) (w : World) (hn : n = bs.length) (hl : bs.length ≤ 4000) (hs : SliceAt w sa cap bs) (hu : AllU8 bs) :
    Calls Tryd.prog 7 #[.slice sa n cap] w fun e w' => ∃ g c, e = .returned (.tuple #[.slice (some ⟨g, 0, none⟩) 32 c, .int .i64 0]) ∧ Below w.heap.size w w' ∧ SliceAt w' (some ⟨g, 0, none⟩) c (sumL bs) := by
  subst hn
  have h1 : ¬ (4000 : Int) < bs.length := by omega
  go_enter Tryd.func7, Tryd.ntmps7
  go_wp2_with fail
  refine (digested_any bs sa _ cap w rfl hl hs hu).mono ?_
  rintro e w1 ⟨g, c, rfl, hb, ho⟩
  go_wp2_with fail
  go_ret2
  exact ⟨g, c, rfl, hb, (sliceAt_of_owns ho).2⟩
end Go.Proofs.YtibfgihiihibjaaDoor
