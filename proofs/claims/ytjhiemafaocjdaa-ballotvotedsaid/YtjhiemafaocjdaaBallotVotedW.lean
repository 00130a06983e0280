/- The walk of BallotVoted. -/
import Derived.Test.YtjhiemafaocjdaaCVote
import Derived.Test.YtjhiemafaocjdaaOpenTb
namespace Go.Proofs.Ytjhiemafaocjdaa
open Go.RowKit

set_option maxRecDepth 100000 in
set_option maxHeartbeats 1000000 in
theorem ballotVoted_walk (sa : Option Addr) (cap : Nat) (ls : List Sl) (au rd : Int) (w : World) (ht : TableAt w sa cap ls) (_h : ∀ s ∈ ls, I64 s.au ∧ I64 s.rd ∧ AllU8 s.p.bs) (_l1 : -9223372036854775808 ≤ au) (_u1 : au ≤ 9223372036854775807) (_l2 : -9223372036854775808 ≤ rd) (_u2 : rd ≤ 9223372036854775807) :
    Calls Try.prog 3 #[.slice sa ls.length cap, .int .i64 au, .int .i64 rd] w fun e w' => e = .returned (.bool true) ∧ Below w.heap.size w w' := by
  go_enter Try.func3, Try.ntmps3
  go_wp2_with fail
  refine (slotsCopy_any ls sa _ cap w rfl ht).mono ?_
  rintro e w1 ⟨ra, rc, ks, rfl, hS, hT1, hb1, _⟩
  have hlen : ls.length = ks.length := by have := congrArg List.length hS; rw [vs_length, vs_length] at this; exact this.symm
  rw [hlen]
  go_wp2_with fail
  refine (voted_any ks ra _ rc au rd w1 rfl hT1).mono ?_
  rintro e w2 ⟨xa, xc, xs, er, rfl, hV1, hs1, _, hb2⟩
  have hb12 := hb1.trans (hb2.mono hb1.size)
  go_wp2_with fail
  refine (votedFor_any ls sa _ cap au rd w2 (by first | rfl | exact hlen.symm) (ht.tab.below hb12)).mono ?_
  rintro e w3 ⟨ya, yc, ys, er2, rfl, hV2, hs2, hb3⟩
  rw [hS] at hV1
  obtain ⟨rfl, rfl⟩ := hV1.one hV2
  have t1 := run_text w3 xa _ xc xs rfl (hs1.below hb3)
  have t2 := run_text w3 ya _ yc xs rfl hs2
  clear hV1 hV2
  generalize bstr xs = A at *
  go_wp2_with fail
  go_ret
  exact ⟨by simp, hb12.trans (hb3.mono hb12.size)⟩
end Go.Proofs.Ytjhiemafaocjdaa
