/- A message that is a batch and nothing more: wire.Check says what wire.CheckBatch says; its bytes. -/
import Derived.Test.YtcecjdoabnhcgaaDoorCarryA
import Derived.Test.YtcecjdoabnhcgaaDoorEncU
import Derived.Test.YtcecjdoabnhcgaaDoorBunF
namespace Go.Proofs.YtcecjdoabnhcgaaDoor
open Go.RowKit

def bundleM (fr tt au nu : Int) (sa : Option Addr) (n c : Nat) : Msg := ⟨fr, tt, 1, au, nu, 0, 0, 0, 0, 0, 0, 0, sa, none, none, none, none, none, none, n, c, 0, 0, 0, 0, 0, 0, 0, 0, 0, 0, 0, 0⟩
set_option maxRecDepth 100000 in
theorem bundleM_check (fr tt au nu : Int) (sa : Option Addr) (n c : Nat) (e : Int) (hf : 0 ≤ fr ∧ fr < 4) (ht : 0 ≤ tt ∧ tt < 4) : checkF (bundleM fr tt au nu sa n c) e = e := by
  by_cases h : e = 0
  · simp [checkF, strip, msgEmpty, bundleM, hf, ht, h]
  · simp [checkF, bundleM, hf, ht, h]
set_option maxRecDepth 100000 in
theorem check_bundle (fr tt au nu : Int) (sa : Option Addr) (n c : Nat) (ss : List ByteArray) (w : World) (hf : 0 ≤ fr ∧ fr < 4) (ht : 0 ≤ tt ∧ tt < 4) (hn : n = ss.length) (hm : n ≤ maxLen) (hs : StrsAt w sa ss) :
    Calls Tryd.prog 35 #[.agg #[.int .i64 fr, .int .i64 tt, .int .i64 1, .int .i64 au, .int .i64 nu, .slice sa n c, .int .i64 0, .int .i64 0, .slice none 0 0, .slice none 0 0, .int .i64 0, .int .i64 0, .slice none 0 0, .int .i64 0, .int .i64 0, .slice none 0 0, .slice none 0 0, .slice none 0 0, .int .i64 0]] w fun e w' => e = .returned (.int .i64 (batchF au nu ss)) ∧ Below w.heap.size w w' := by
  have h := check_of (bundleM fr tt au nu sa n c) (batchF au nu ss) w (fun _ => by simp [bundleM]) (fun w1 hb => carry_bundle (bundleM fr tt au nu sa n c) ss w1 rfl hn hm (hs.below hb))
  rw [bundleM_check _ _ _ _ _ _ _ _ hf ht] at h
  exact h
set_option maxRecDepth 100000 in
/-- The bytes of a batch that may be, as a message has them. -/
theorem encode_b (fr tt au nu : Int) (sa : Option Addr) (n c : Nat) (ss : List ByteArray) (w : World) (hf : 0 ≤ fr ∧ fr < 4) (ht : 0 ≤ tt ∧ tt < 4) (hn : n = ss.length) (hs : StrsAt w sa ss) (hsb : ∀ sb so, sa = some ⟨sb, so, none⟩ → sb < w.heap.size) (hF : batchF au nu ss = 0) :
    Calls Tryd.prog 17 #[.agg #[.int .i64 fr, .int .i64 tt, .int .i64 1, .int .i64 au, .int .i64 nu, .slice sa n c, .int .i64 0, .int .i64 0, .slice none 0 0, .slice none 0 0, .int .i64 0, .int .i64 0, .slice none 0 0, .int .i64 0, .int .i64 0, .slice none 0 0, .slice none 0 0, .slice none 0 0, .int .i64 0]] w fun e w' => ∃ v, e = .returned (.tuple #[v, .int .i64 0]) ∧ w'.ownsRow w.heap.size 5 1 v (3 + (batchB au nu ss).length) (ub ([1, fr, tt] ++ batchB au nu ss)) ∧ Below w.heap.size w w' := by
  obtain ⟨h1, h2, h3, h4⟩ := batchF_ok hF
  have h := encode_bundle (bundleM fr tt au nu sa n c) ss w rfl hf ht h1 ⟨by show 0 ≤ nu; omega, h2.2⟩ hn h3.2 (fun s hs => (h4 s hs).2) hs hsb (fun w1 hb => by
    have := check_bundle fr tt au nu sa n c ss w1 hf ht hn (by rw [hn]; unfold maxLen; omega) (hs.below hb)
    rw [hF] at this
    exact this)
  exact h
end Go.Proofs.YtcecjdoabnhcgaaDoor
