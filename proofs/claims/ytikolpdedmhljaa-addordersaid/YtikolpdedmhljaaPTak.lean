/- pool.takes and pool.seals: for every argument. -/
import Derived.Test.YtikolpdedmhljaaPTx
namespace Go.Proofs.Ytikolpdedmhljaa
open Go.RowKit

/-- P7.2: what is wrong with a transaction. -/
def takesF (ss : List ByteArray) (t : ByteArray) : Int := if txOk t = false then 1 else if inS t ss = true then 7 else if 40 ≤ ss.length then 6 else 0
/-- P7.3: what is wrong with an author, or a pool that is to be sealed. -/
def sealsF (nx : Int) (ss : List ByteArray) (au : Int) : Int := if ¬ (0 ≤ au ∧ au < 4) then 2 else if ss.length = 0 then 8 else if 1048576 < nx then 6 else 0
set_option maxRecDepth 100000 in
set_option maxHeartbeats 1000000 in
theorem takes_any (nx : Int) (sa : Option Addr) (n cap : Nat) (ss : List ByteArray) (t : ByteArray) (w : World) (hn : n = ss.length) (hs : TxsAt w sa cap ss) (ht : t.size ≤ maxLen) :
    Calls Try.prog 32 #[.agg #[.int .i64 nx, .slice sa n cap], .string t] w fun e w' => e = .returned (.int .i64 (takesF ss t)) ∧ Below w.heap.size w w' := by
  have hle := hs.le
  have hmx := hs.max
  have hB := (Below.refl w.heap.size w).alloc (Nat.le_refl _) (.cells #[.int .i64 nx, .slice sa n cap] 24)
  have HI := isTx_any t (w.alloc (.cells #[.int .i64 nx, .slice sa n cap] 24)) ht
  have HC := contains_any ss sa n cap t (w.alloc (.cells #[.int .i64 nx, .slice sa n cap] 24)) hn (by omega) (hs.strs.below hB)
  unfold maxLen at hmx
  cases h1 : txOk t with
  | false =>
    have hF : Hid (takesF ss t = 1) := by show _ = _; rw [takesF, if_pos h1]
    rw [h1] at HI
    clear h1 hn
    go_enter Try.func32, Try.ntmps32
    go_wp2_with (go_at_call 27; refine HI.mono ?_; rintro e w1 ⟨rfl, rfl⟩)
    go_ret
    exact ⟨ret_int hF.out.symm, hB⟩
  | true =>
    rw [h1] at HI
    cases h2 : inS t ss with
    | true =>
      have hF : Hid (takesF ss t = 7) := by show _ = _; rw [takesF, if_neg (by simp [h1]), if_pos h2]
      rw [h2] at HC
      clear h1 h2 hn
      go_enter Try.func32, Try.ntmps32
      go_wp2_with (first | (go_at_call 27; refine HI.mono ?_; rintro e w1 ⟨rfl, rfl⟩) | (go_at_call 28; refine HC.mono ?_; rintro e w1 ⟨rfl, rfl⟩))
      go_ret
      exact ⟨ret_int hF.out.symm, hB⟩
    | false =>
      rw [h2] at HC
      by_cases h3 : 40 ≤ n
      · have hF : Hid (takesF ss t = 6) := by show _ = _; rw [takesF, if_neg (by simp [h1]), if_neg (by simp [h2]), if_pos (by omega)]
        have h3I : (40 : Int) ≤ n := by omega
        clear h1 h2 hn
        go_enter Try.func32, Try.ntmps32
        go_wp2_with (first | (go_at_call 27; refine HI.mono ?_; rintro e w1 ⟨rfl, rfl⟩) | (go_at_call 28; refine HC.mono ?_; rintro e w1 ⟨rfl, rfl⟩))
        go_ret
        exact ⟨ret_int hF.out.symm, hB⟩
      · have hF : Hid (takesF ss t = 0) := by show _ = _; rw [takesF, if_neg (by simp [h1]), if_neg (by simp [h2]), if_neg (by omega)]
        have h3I : ¬ (40 : Int) ≤ n := by omega
        clear h1 h2 hn
        go_enter Try.func32, Try.ntmps32
        go_wp2_with (first | (go_at_call 27; refine HI.mono ?_; rintro e w1 ⟨rfl, rfl⟩) | (go_at_call 28; refine HC.mono ?_; rintro e w1 ⟨rfl, rfl⟩))
        go_ret
        exact ⟨ret_int hF.out.symm, hB⟩
set_option maxRecDepth 100000 in
set_option maxHeartbeats 400000 in
theorem seals_any (nx : Int) (sa : Option Addr) (n cap : Nat) (ss : List ByteArray) (au : Int) (w : World) (hn : n = ss.length) (hm : n ≤ maxLen) :
    Calls Try.prog 36 #[.agg #[.int .i64 nx, .slice sa n cap], .int .i64 au] w fun e w' => e = .returned (.int .i64 (sealsF nx ss au)) ∧ Below w.heap.size w w' := by
  have hB := (Below.refl w.heap.size w).alloc (Nat.le_refl _) (.cells #[.int .i64 nx, .slice sa n cap] 24)
  unfold maxLen at hm
  by_cases h0 : au < 0
  · have hF : Hid (sealsF nx ss au = 2) := by show _ = _; rw [sealsF, if_pos (by omega)]
    clear hn
    go_enter Try.func36, Try.ntmps36
    go_wp2_with fail
    go_ret
    exact ⟨ret_int hF.out.symm, hB⟩
  · by_cases h1 : 4 ≤ au
    · have hF : Hid (sealsF nx ss au = 2) := by show _ = _; rw [sealsF, if_pos (by omega)]
      clear hn
      go_enter Try.func36, Try.ntmps36
      go_wp2_with fail
      go_ret
      exact ⟨ret_int hF.out.symm, hB⟩
    · by_cases h2 : n = 0
      · have hF : Hid (sealsF nx ss au = 8) := by show _ = _; rw [sealsF, if_neg (by omega), if_pos (by omega)]
        clear hn
        subst h2
        go_enter Try.func36, Try.ntmps36
        go_wp2_with fail
        go_ret
        exact ⟨ret_int hF.out.symm, hB⟩
      · have h2I : ((n : Int) == 0) = false := beq_eq_false_iff_ne.2 (by omega)
        by_cases h3 : 1048576 < nx
        · have hF : Hid (sealsF nx ss au = 6) := by show _ = _; rw [sealsF, if_neg (by omega), if_neg (by omega), if_pos h3]
          clear hn
          go_enter Try.func36, Try.ntmps36
          go_wp2_with fail
          go_ret
          exact ⟨ret_int hF.out.symm, hB⟩
        · have hF : Hid (sealsF nx ss au = 0) := by show _ = _; rw [sealsF, if_neg (by omega), if_neg (by omega), if_neg h3]
          clear hn
          go_enter Try.func36, Try.ntmps36
          go_wp2_with fail
          go_ret
          exact ⟨ret_int hF.out.symm, hB⟩
end Go.Proofs.Ytikolpdedmhljaa
