/- The document's answer, package sheavesref: turned: a word, turned. -/
import Derived.Test.YtcecjdoabnhcgaaDoorBit
import Derived.Test.YtcecjdoabnhcgaaDoorLib
import Derived.Deep.QuietTactic
import Derived.BigQuiet
import Derived.BigRegion
import Derived.Deep.DeepCutAuto
import Derived.Deep.RegionWith
namespace Go.Proofs.YtcecjdoabnhcgaaDoor
open Go.RowKit

set_option maxRecDepth 100000 in
set_option maxHeartbeats 1000000 in
theorem turned_any (x n : Int) (w : World) (h : n = 16 ∨ n = 12 ∨ n = 8 ∨ n = 7) (hx : W1 x) :
    Calls Tryd.prog 80 #[.int .i64 x, .int .i64 n] w fun e w' => e = .returned (.int .i64 (rotI n x)) ∧ ∃ k, w' = w.drewN k := by
  have h0 := hx.1
  have h1 := hx.2
  rcases h with rfl | rfl | rfl | rfl
  · have e : Hid (bits .and .i64 (bits .or .i64 (x / 65536) (x * 65536)) 4294967295 = rotI 16 x) := turned_eq x hx 16 (by decide) (by decide) _ _ rfl rfl
    go_enter Tryd.func80, Tryd.ntmps80
    go_wp2
    go_quiet (fail)
    go_wp2
    go_ret
    exact ⟨ret_int e.out, _, rfl⟩
  · have e : Hid (bits .and .i64 (bits .or .i64 (x / 4096) (x * 1048576)) 4294967295 = rotI 12 x) := turned_eq x hx 12 (by decide) (by decide) _ _ rfl rfl
    go_enter Tryd.func80, Tryd.ntmps80
    go_wp2
    go_quiet (fail)
    go_wp2
    go_ret
    exact ⟨ret_int e.out, _, rfl⟩
  · have e : Hid (bits .and .i64 (bits .or .i64 (x / 256) (x * 16777216)) 4294967295 = rotI 8 x) := turned_eq x hx 8 (by decide) (by decide) _ _ rfl rfl
    go_enter Tryd.func80, Tryd.ntmps80
    go_wp2
    go_quiet (fail)
    go_wp2
    go_ret
    exact ⟨ret_int e.out, _, rfl⟩
  · have e : Hid (bits .and .i64 (bits .or .i64 (x / 128) (x * 33554432)) 4294967295 = rotI 7 x) := turned_eq x hx 7 (by decide) (by decide) _ _ rfl rfl
    go_enter Tryd.func80, Tryd.ntmps80
    go_wp2
    go_quiet (fail)
    go_wp2
    go_ret
    exact ⟨ret_int e.out, _, rfl⟩
end Go.Proofs.YtcecjdoabnhcgaaDoor
