/- The document's three: a round as three bytes. -/
import Derived.Test.YtcecjdoabnhcgaaDoorAppR
import Derived.Test.YtcecjdoabnhcgaaDoorSx
namespace Go.Proofs.YtcecjdoabnhcgaaDoor
open Go.RowKit

set_option maxRecDepth 100000 in
set_option maxHeartbeats 400000 in
theorem three_any (n : Int) (w : World) (hn : 0 ≤ n ∧ n ≤ 1048576) :
    Calls Tryd.prog 62 #[.int .i64 n] w fun e w' => e = .returned (.slice (some ⟨w.heap.size, 0, none⟩) 3 3) ∧ w'.ownsRow w.heap.size 5 1 (.slice (some ⟨w.heap.size, 0, none⟩) 3 3) 3 (ub (rd3 n)) ∧ Below w.heap.size w w' := by
  obtain ⟨hn0, hn1⟩ := hn
  have hO := World.ownsRow_lit (base := w.heap.size) (e := 5) (size := 1) w (ub (rd3 n)).toArray 3 (Nat.le_refl _) (by decide) rfl
  have HO : Hid _ := hO
  clear hO
  go_enter Tryd.func62, Tryd.ntmps62
  go_wp2_with fail
  go_ret
  exact ⟨rfl, HO.out, (Below.refl _ _).alloc (Nat.le_refl _) _⟩
end Go.Proofs.YtcecjdoabnhcgaaDoor
