/- The document's inTexts: for every argument. -/
import Derived.Test.YtikolpdedmhljaaPTx
namespace Go.Proofs.Ytikolpdedmhljaa
open Go.RowKit

set_option maxRecDepth 100000 in
set_option maxHeartbeats 1000000 in
theorem inTexts_any (ss : List ByteArray) (sa : Option Addr) (n cap : Nat) (s : ByteArray) (w : World) (hn : n = ss.length) (hm : n ≤ maxLen) (hs : StrsAt w sa ss) :
    Calls Try.prog 31 #[.slice sa n cap, .string s] w fun e w' => e = .returned (.bool (inS s ss)) ∧ w = w' := by
  subst hn
  unfold maxLen at hm
  go_enter Try.func31, Try.ntmps31
  go_wp2_with fail
  go_loop [5] (fun i => ∃ k : Nat, k ≤ ss.length ∧ i = .int .i64 k ∧ Hid (s ∉ ss.take k)) (fun i => ss.length - (intOf i).toNat)
  case atStart => exact ⟨0, Nat.zero_le _, rfl, by show ¬ _; simp⟩
  case round =>
    obtain ⟨k, hk, rfl, hno⟩ := hrel
    by_cases hlt : k < ss.length
    · rcases hs.cells with hc | ⟨sb, so, rfl, hc⟩
      · subst hc; simp at hlt
      have hltI : (k : Int) < ss.length := by omega
      have ck := hc k hlt
      have hst : Hid (ss.take (k + 1) = ss.take k ++ [ss.getD k ByteArray.empty]) := take_more hlt
      have hin : Hid (ss.getD k ByteArray.empty ∈ ss) := by show _ ∈ _; rw [getD_at hlt]; exact List.getElem_mem hlt
      clear hc hs
      generalize ss.getD k ByteArray.empty = x at *
      by_cases he : x.toList = s.toList
      · have hsx : Hid (x = s) := ba_ext he
        have heb : (x.toList == s.toList) = true := by simp [he]
        clear he
        go_wp2_with fail
        go_ret
        exact ⟨ret_bool (inS_true (by rw [← hsx.out]; exact hin.out)).symm, rfl⟩
      · have hsx : Hid (s ∉ ss.take (k + 1)) := by
          show ¬ _
          rw [hst.out]
          intro h
          rcases List.mem_append.1 h with g | g
          · exact hno.out g
          · exact he (by rw [show s = x by simpa using g])
        have heb : (x.toList == s.toList) = false := by simp [he]
        clear he
        go_wp2_with fail
        go_round
        case rel => exact ⟨k + 1, by omega, by go_num, hsx⟩
        case measure => simp [intOf]; omega
    · obtain rfl : k = ss.length := by omega
      have hno2 : Hid (s ∉ ss) := by have := hno.out; rwa [List.take_of_length_le (Nat.le_refl _)] at this
      go_wp2_with fail
      go_ret
      exact ⟨ret_bool (inS_false hno2.out).symm, rfl⟩
end Go.Proofs.Ytikolpdedmhljaa
