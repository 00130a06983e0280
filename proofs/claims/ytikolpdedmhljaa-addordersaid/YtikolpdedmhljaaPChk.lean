/- pool.Check: what it answers, for every pool. -/
import Derived.Test.YtikolpdedmhljaaPTx
namespace Go.Proofs.Ytikolpdedmhljaa
open Go.RowKit

set_option maxRecDepth 100000 in
theorem good_more {ss : List ByteArray} {k : Nat} (hall : ∀ q, q < k → txOk (ss.getD q ByteArray.empty) = true ∧ ss.getD q ByteArray.empty ∉ ss.take q) (h1 : txOk (ss.getD k ByteArray.empty) = true) (h2 : ss.getD k ByteArray.empty ∉ ss.take k) :
    ∀ q, q < k + 1 → txOk (ss.getD q ByteArray.empty) = true ∧ ss.getD q ByteArray.empty ∉ ss.take q := by
  intro q hq
  rcases Nat.lt_or_ge q k with g | g
  · exact hall q g
  · obtain rfl : q = k := by omega
    exact ⟨h1, h2⟩
set_option maxRecDepth 100000 in
set_option maxHeartbeats 1000000 in
theorem poolCheck_any (nx : Int) (sa : Option Addr) (n cap : Nat) (ss : List ByteArray) (w : World) (hn : n = ss.length) (hs : TxsAt w sa cap ss) :
    Calls Try.prog 13 #[.agg #[.int .i64 nx, .slice sa n cap]] w fun e w' => e = .returned (.int .i64 (poolF nx ss)) ∧ Below w.heap.size w w' := by
  subst hn
  have hle := hs.le
  have hmx := hs.max
  unfold maxLen at hmx
  by_cases ha : 1 ≤ nx
  · have haI : ¬ nx < 1 := by omega
    by_cases hb : nx ≤ 1048577
    · have hbI : ¬ 1048577 < nx := by omega
      by_cases hl : 40 < ss.length
      · have hF : Hid (poolF nx ss = 12) := by show _ = _; rw [poolF, if_pos (.inr hl)]
        have hlI : (40 : Int) < ss.length := by omega
        go_enter Try.func13, Try.ntmps13
        go_wp2_with fail
        go_ret
        exact ⟨ret_int hF.out.symm, (Below.refl _ _).alloc (Nat.le_refl _) _⟩
      · have hF : Hid (poolF nx ss = if poolOk ss = true then 0 else 12) := by show _ = _; rw [poolF, if_neg (by simp [ha, hb]; omega)]
        have hlI : ¬ (40 : Int) < ss.length := by omega
        go_enter Try.func13, Try.ntmps13
        go_wp2_with fail
        go_loop [22] (fun i => ∃ k : Nat, k ≤ ss.length ∧ i = .int .i64 k ∧ Hid (∀ q, q < k → txOk (ss.getD q ByteArray.empty) = true ∧ ss.getD q ByteArray.empty ∉ ss.take q)) (fun i => ss.length - (intOf i).toNat)
        case atStart => exact ⟨0, Nat.zero_le _, rfl, by show ∀ _, _; intro q hq; omega⟩
        case round =>
          obtain ⟨k, hk, rfl, hall⟩ := hrel
          by_cases hlt : k < ss.length
          · rcases hs.strs.cells with hc | ⟨sb, so, rfl, hc⟩
            · subst hc; simp at hlt
            have hltI : (k : Int) < ss.length := by omega
            have hkc : k ≤ cap := by omega
            have h0 : (0 : Int) ≤ k := by omega
            have hB := (Below.refl w.heap.size w).alloc (Nat.le_refl _) (.cells #[.int .i64 nx, .slice (some ⟨sb, so, none⟩) ss.length cap] 24)
            have ck := (hB.cell (p := ⟨sb, so + k, none⟩) (block_lt_of_cell (hc k hlt))).trans (hc k hlt)
            have hz : (ss.getD k ByteArray.empty).size ≤ maxLen := hs.strs.size _ (by simp [List.getD, hlt])
            have hst : Hid (txOk (ss.getD k ByteArray.empty) = true → ss.getD k ByteArray.empty ∉ ss.take k → ∀ q, q < k + 1 → txOk (ss.getD q ByteArray.empty) = true ∧ ss.getD q ByteArray.empty ∉ ss.take q) := good_more hall.out
            have hno1 : Hid (txOk (ss.getD k ByteArray.empty) = false → poolOk ss = false) := poolOk_no_tx hlt
            have hno2 : Hid (ss.getD k ByteArray.empty ∈ ss.take k → poolOk ss = false) := poolOk_no_in hlt
            have HC : Hid (∀ s, Calls Try.prog 28 #[.slice (some ⟨sb, so, none⟩) k cap, .string s] (w.alloc (.cells #[.int .i64 nx, .slice (some ⟨sb, so, none⟩) ss.length cap] 24)) fun e w' => e = .returned (.bool (inS s (ss.take k))) ∧ (w.alloc (.cells #[.int .i64 nx, .slice (some ⟨sb, so, none⟩) ss.length cap] 24)) = w') := by
              show ∀ _, _
              intro s
              exact contains_any (ss.take k) _ k cap s _ (by simp; omega) (by unfold maxLen; omega) ((hs.strs.below hB).take k)
            clear hall hc hs
            generalize ss.getD k ByteArray.empty = x at *
            cases hx : txOk x with
            | false =>
              have hp := hno1.out hx
              rw [hp] at hF
              clear hst hno1 hno2
              go_wp2_with (go_at_call 27; refine (isTx_any _ _ hz).mono ?_; rintro e w1 ⟨he, rfl⟩; rw [hx] at he; subst he)
              go_ret
              exact ⟨ret_int (by rw [hF.out]; rfl), (Below.refl _ _).alloc (Nat.le_refl _) _⟩
            | true =>
              by_cases hi : x ∈ ss.take k
              · have hp := hno2.out hi
                rw [hp] at hF
                have hd := inS_true hi
                clear hst hno1 hno2 hi
                go_wp2_with (first | (go_at_call 27; refine (isTx_any _ _ hz).mono ?_; rintro e w1 ⟨he, rfl⟩; rw [hx] at he; subst he) | (go_at_call 28; refine (HC.out x).mono ?_; rintro e w1 ⟨he, rfl⟩; rw [hd] at he; subst he))
                go_ret
                exact ⟨ret_int (by rw [hF.out]; rfl), (Below.refl _ _).alloc (Nat.le_refl _) _⟩
              · have hp : Hid _ := hst.out hx hi
                have hd := inS_false hi
                clear hst hno1 hno2 hi
                go_wp2_with (first | (go_at_call 27; refine (isTx_any _ _ hz).mono ?_; rintro e w1 ⟨he, rfl⟩; rw [hx] at he; subst he) | (go_at_call 28; refine (HC.out x).mono ?_; rintro e w1 ⟨he, rfl⟩; rw [hd] at he; subst he))
                go_round
                case rel => exact ⟨k + 1, by omega, by go_num, hp⟩
                case measure => simp [intOf]; omega
          · obtain rfl : k = ss.length := by omega
            have hp := poolOk_of hall.out
            rw [hp] at hF
            go_wp2_with fail
            go_ret
            exact ⟨ret_int (by rw [hF.out]; rfl), (Below.refl _ _).alloc (Nat.le_refl _) _⟩
    · have hbI : 1048577 < nx := by omega
      have hF : Hid (poolF nx ss = 12) := by show _ = _; simp [poolF, hb]
      go_enter Try.func13, Try.ntmps13
      go_wp2_with fail
      go_ret
      exact ⟨ret_int hF.out.symm, (Below.refl _ _).alloc (Nat.le_refl _) _⟩
  · have haI : nx < 1 := by omega
    have hF : Hid (poolF nx ss = 12) := by show _ = _; simp [poolF, ha]
    go_enter Try.func13, Try.ntmps13
    go_wp2_with fail
    go_ret
    exact ⟨ret_int hF.out.symm, (Below.refl _ _).alloc (Nat.le_refl _) _⟩
end Go.Proofs.Ytikolpdedmhljaa
