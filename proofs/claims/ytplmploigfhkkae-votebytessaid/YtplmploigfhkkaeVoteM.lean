/- A message that is a vote and nothing more: wire.Check says what wire.CheckSlot says. -/
import Derived.Test.YtplmploigfhkkaeCarryV
namespace Go.Proofs.Ytplmploigfhkkae
open Go.RowKit

def voteM (fr tt au rd : Int) (sa : Option Addr) (n c : Nat) : Msg := ⟨fr, tt, 3, 0, 0, 0, 0, au, rd, 0, 0, 0, none, none, none, sa, none, none, none, 0, 0, 0, 0, 0, 0, n, c, 0, 0, 0, 0, 0, 0⟩
theorem voteM_check (fr tt au rd : Int) (sa : Option Addr) (n c : Nat) (e : Int) (hf : 0 ≤ fr ∧ fr < 4) (ht : 0 ≤ tt ∧ tt < 4) : checkF (voteM fr tt au rd sa n c) e = e := by
  by_cases h : e = 0
  · simp [checkF, strip, msgEmpty, voteM, hf, ht, h]
  · simp [checkF, voteM, hf, ht, h]
theorem check_vote (fr tt au rd : Int) (sa : Option Addr) (n c : Nat) (w : World) (hf : 0 ≤ fr ∧ fr < 4) (ht : 0 ≤ tt ∧ tt < 4) :
    Calls Try.prog 14 #[.agg #[.int .i64 fr, .int .i64 tt, .int .i64 3, .int .i64 0, .int .i64 0, .slice none 0 0, .int .i64 0, .int .i64 0, .slice none 0 0, .slice none 0 0, .int .i64 au, .int .i64 rd, .slice sa n c, .int .i64 0, .int .i64 0, .slice none 0 0, .slice none 0 0, .slice none 0 0, .int .i64 0]] w fun e w' => e = .returned (.int .i64 (slotF au rd n)) ∧ Below w.heap.size w w' := by
  have h := check_of (voteM fr tt au rd sa n c) (slotF au rd n) w (fun _ => by simp [voteM]) (fun w1 _ => carry_vote (voteM fr tt au rd sa n c) w1 rfl)
  rw [voteM_check _ _ _ _ _ _ _ _ hf ht] at h
  exact h
end Go.Proofs.Ytplmploigfhkkae
