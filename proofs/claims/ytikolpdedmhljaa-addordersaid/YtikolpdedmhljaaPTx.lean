/- pool.isTx, slices.Contains over texts, and the document's inTexts: for every argument. -/
import Derived.Test.YtikolpdedmhljaaPoolF
namespace Go.Proofs.Ytikolpdedmhljaa
open Go.RowKit

set_option maxRecDepth 100000 in
theorem isTx_any (s : ByteArray) (w : World) (hs : s.size ≤ maxLen) :
    Calls Try.prog 27 #[.string s] w fun e w' => e = .returned (.bool (txOk s)) ∧ w = w' := by
  unfold maxLen at hs
  by_cases h1 : 1 ≤ s.size
  · have h1I : (1 : Int) ≤ s.size := by omega
    by_cases h2 : s.size ≤ 20
    · have h2I : (s.size : Int) ≤ 20 := by omega
      have hF : Hid (txOk s = true) := by show _ = _; simp [txOk, h1, h2]
      go_enter Try.func27, Try.ntmps27
      go_wp2_with fail
      go_ret
      exact ⟨ret_bool hF.out.symm, rfl⟩
    · have h2I : ¬ (s.size : Int) ≤ 20 := by omega
      have hF : Hid (txOk s = false) := by show _ = _; simp [txOk, h2]
      go_enter Try.func27, Try.ntmps27
      go_wp2_with fail
      go_ret
      exact ⟨ret_bool hF.out.symm, rfl⟩
  · have h1I : ¬ (1 : Int) ≤ s.size := by omega
    have hF : Hid (txOk s = false) := by show _ = _; simp [txOk, h1]
    go_enter Try.func27, Try.ntmps27
    go_wp2_with fail
    go_ret
    exact ⟨ret_bool hF.out.symm, rfl⟩
set_option maxRecDepth 100000 in
theorem take_more {ss : List ByteArray} {k : Nat} (h : k < ss.length) : ss.take (k + 1) = ss.take k ++ [ss.getD k ByteArray.empty] := by
  rw [List.take_succ_eq_append_getElem h]; simp [List.getD, h]
set_option maxRecDepth 100000 in
set_option maxHeartbeats 1000000 in
theorem index_any (ss : List ByteArray) (sa : Option Addr) (n cap : Nat) (s : ByteArray) (w : World) (hn : n = ss.length) (hm : n ≤ maxLen) (hs : StrsAt w sa ss) :
    Calls Try.prog 40 #[.slice sa n cap, .string s] w fun e w' => ∃ r : Int, e = .returned (.int .i64 r) ∧ (0 ≤ r ↔ s ∈ ss) ∧ w = w' := by
  subst hn
  unfold maxLen at hm
  go_enter Try.func40, Try.ntmps40
  go_wp2_with fail
  go_loop [8] (fun i => ∃ k : Nat, k ≤ ss.length ∧ i = .int .i64 k ∧ Hid (s ∉ ss.take k)) (fun i => ss.length - (intOf i).toNat)
  case atStart => exact ⟨0, Nat.zero_le _, rfl, by show ¬ _; simp⟩
  case round =>
    obtain ⟨k, hk, rfl, hno⟩ := hrel
    by_cases hlt : k < ss.length
    · rcases hs.cells with hc | ⟨sb, so, rfl, hc⟩
      · subst hc; simp at hlt
      have hltI : (k : Int) < ss.length := by omega
      have ck := hc k hlt
      have hst : Hid (ss.take (k + 1) = ss.take k ++ [ss.getD k ByteArray.empty]) := take_more hlt
      have hin : Hid (ss.getD k ByteArray.empty ∈ ss) := by show _ ∈ _; rw [getD_at hlt]; exact List.getElem_mem hlt
      clear hc hs
      generalize ss.getD k ByteArray.empty = x at *
      by_cases he : s.toList = x.toList
      · have hsx : Hid (s = x) := ba_ext he
        have heb : (s.toList == x.toList) = true := by simp [he]
        clear he
        go_wp2_with fail
        go_ret
        exact ⟨(k : Int), rfl, ⟨fun _ => by rw [hsx.out]; exact hin.out, fun _ => by omega⟩, rfl⟩
      · have hsx : Hid (s ∉ ss.take (k + 1)) := by
          show ¬ _
          rw [hst.out]
          intro h
          rcases List.mem_append.1 h with g | g
          · exact hno.out g
          · exact he (by rw [show s = x by simpa using g])
        have heb : (s.toList == x.toList) = false := by simp [he]
        clear he
        go_wp2_with fail
        go_round
        case rel => exact ⟨k + 1, by omega, by go_num, hsx⟩
        case measure => simp [intOf]; omega
    · obtain rfl : k = ss.length := by omega
      have hno2 : Hid (s ∉ ss) := by have := hno.out; rwa [List.take_of_length_le (Nat.le_refl _)] at this
      go_wp2_with fail
      go_ret
      exact ⟨-1, rfl, ⟨fun h => by omega, fun h => absurd h hno2.out⟩, rfl⟩
set_option maxRecDepth 100000 in
set_option maxHeartbeats 400000 in
theorem contains_any (ss : List ByteArray) (sa : Option Addr) (n cap : Nat) (s : ByteArray) (w : World) (hn : n = ss.length) (hm : n ≤ maxLen) (hs : StrsAt w sa ss) :
    Calls Try.prog 28 #[.slice sa n cap, .string s] w fun e w' => e = .returned (.bool (inS s ss)) ∧ w = w' := by
  have HI := index_any ss sa n cap s w hn hm hs
  clear hn hm hs
  by_cases h : s ∈ ss
  · have hF : Hid (inS s ss = true) := inS_true h
    go_enter Try.func28, Try.ntmps28
    go_wp2_with fail
    refine HI.mono ?_
    rintro e w1 ⟨r, he, hr, rfl⟩
    subst he
    dsimp only
    have hr2 : 0 ≤ r := hr.2 h
    clear hr
    go_wp2_with fail
    go_ret
    exact ⟨ret_bool hF.out.symm, rfl⟩
  · have hF : Hid (inS s ss = false) := inS_false h
    go_enter Try.func28, Try.ntmps28
    go_wp2_with fail
    refine HI.mono ?_
    rintro e w1 ⟨r, he, hr, rfl⟩
    subst he
    dsimp only
    have hr2 : ¬ 0 ≤ r := fun g => h (hr.1 g)
    clear hr
    go_wp2_with fail
    go_ret
    exact ⟨ret_bool hF.out.symm, rfl⟩
end Go.Proofs.Ytikolpdedmhljaa
