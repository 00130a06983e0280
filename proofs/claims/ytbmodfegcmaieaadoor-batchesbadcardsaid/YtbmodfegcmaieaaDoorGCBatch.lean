/- wire.CheckBatch: what it answers, for every batch. -/
import Derived.Test.YtbmodfegcmaieaaDoorGAppB
import Derived.Test.YtbmodfegcmaieaaDoorGK
import Derived.Test.YtbmodfegcmaieaaDoorGAppR
namespace Go.Proofs.YtbmodfegcmaieaaDoor
open Go.RowKit

set_option maxRecDepth 100000 in
theorem all_false {α : Type} (l : List α) (p : α → Bool) (d : α) (k : Nat) (hk : k < l.length) (h : p (l.getD k d) = false) : l.all p = false := by
  rw [List.all_eq_false]
  refine ⟨l[k], List.getElem_mem hk, ?_⟩
  rw [List.getD, List.getElem?_eq_getElem hk] at h
  simpa using h
set_option maxRecDepth 100000 in
theorem all_true {α : Type} (l : List α) (p : α → Bool) (d : α) (h : ∀ j, j < l.length → p (l.getD j d) = true) : l.all p = true := by
  rw [List.all_eq_true]
  intro x hx
  obtain ⟨j, hj, rfl⟩ := List.getElem_of_mem hx
  have := h j hj
  rwa [List.getD, List.getElem?_eq_getElem hj] at this
/-- A transaction that may be. -/
def txOk (s : ByteArray) : Bool := decide (1 ≤ s.size ∧ s.size ≤ 20)
/-- P2.2 -/
def batchF (au nu : Int) (ss : List ByteArray) : Int := if ¬ (0 ≤ au ∧ au < 4) ∨ ¬ (1 ≤ nu ∧ nu ≤ 1048576) then 2 else if ss.length < 1 ∨ 4 < ss.length then 1 else if ss.all txOk then 0 else 1
end Go.Proofs.YtbmodfegcmaieaaDoor


namespace Go.Proofs.YtbmodfegcmaieaaDoor
open Go.RowKit

set_option maxRecDepth 100000 in
set_option maxHeartbeats 1000000 in
theorem checkBatch_any (au nu : Int) (sa : Option Addr) (n cap : Nat) (ss : List ByteArray) (w : World) (hn : n = ss.length) (hm : n ≤ maxLen) (hs : StrsAt w sa ss) :
    Calls Tryd.prog 60 #[.agg #[.int .i64 au, .int .i64 nu, .slice sa n cap]] w fun e w' => e = .returned (.int .i64 (batchF au nu ss)) ∧ Below w.heap.size w w' := by
  subst hn
  unfold maxLen at hm
  by_cases ha : 0 ≤ au ∧ au < 4
  · by_cases hr : 1 ≤ nu ∧ nu ≤ 1048576
    · by_cases hl : ss.length < 1 ∨ 4 < ss.length
      · have hF : Hid (batchF au nu ss = 1) := by show _ = _; rw [batchF, if_neg (by simp [ha, hr]), if_pos hl]
        have hlI : ¬ (1 ≤ (ss.length : Int) ∧ (ss.length : Int) ≤ 4) := by omega
        rcases hl with hl | hl
        · have hl0 : ss.length = 0 := by omega
          rw [hl0]
          go_enter Tryd.func60, Tryd.ntmps60
          go_wp2_with (first | (go_at_call 81; first | (refine (isNode_true _ _ (by omega)).mono ?_; rintro e w' ⟨rfl, rfl⟩) | (refine (isNode_false _ _ (by omega)).mono ?_; rintro e w' ⟨rfl, rfl⟩)) | (go_at_call 82; first | (refine (isRound_true _ _ (by omega)).mono ?_; rintro e w' ⟨rfl, rfl⟩) | (refine (isRound_false _ _ (by omega)).mono ?_; rintro e w' ⟨rfl, rfl⟩)))
          go_ret
          exact ⟨ret_int hF.out.symm, (Below.refl _ _).alloc (Nat.le_refl _) _⟩
        · have hl1 : (4 : Int) < ss.length := by omega
          have hl2 : ¬ (ss.length : Int) < 1 := by omega
          go_enter Tryd.func60, Tryd.ntmps60
          go_wp2_with (first | (go_at_call 81; first | (refine (isNode_true _ _ (by omega)).mono ?_; rintro e w' ⟨rfl, rfl⟩) | (refine (isNode_false _ _ (by omega)).mono ?_; rintro e w' ⟨rfl, rfl⟩)) | (go_at_call 82; first | (refine (isRound_true _ _ (by omega)).mono ?_; rintro e w' ⟨rfl, rfl⟩) | (refine (isRound_false _ _ (by omega)).mono ?_; rintro e w' ⟨rfl, rfl⟩)))
          go_ret
          exact ⟨ret_int hF.out.symm, (Below.refl _ _).alloc (Nat.le_refl _) _⟩
      · have hF : Hid (batchF au nu ss = if ss.all txOk then 0 else 1) := by show _ = _; rw [batchF, if_neg (by simp [ha, hr]), if_neg hl]
        have hl1 : ¬ (4 : Int) < ss.length := by omega
        have hl2 : ¬ (ss.length : Int) < 1 := by omega
        go_enter Tryd.func60, Tryd.ntmps60
        go_wp2_with (first | (go_at_call 81; first | (refine (isNode_true _ _ (by omega)).mono ?_; rintro e w' ⟨rfl, rfl⟩) | (refine (isNode_false _ _ (by omega)).mono ?_; rintro e w' ⟨rfl, rfl⟩)) | (go_at_call 82; first | (refine (isRound_true _ _ (by omega)).mono ?_; rintro e w' ⟨rfl, rfl⟩) | (refine (isRound_false _ _ (by omega)).mono ?_; rintro e w' ⟨rfl, rfl⟩)))
        go_loop [28] (fun i => ∃ k : Nat, k ≤ ss.length ∧ i = .int .i64 k ∧ ∀ q, q < k → txOk (ss.getD q ByteArray.empty) = true) (fun i => ss.length - (intOf i).toNat)
        case atStart => exact ⟨0, Nat.zero_le _, rfl, fun q hq => by omega⟩
        case round =>
          obtain ⟨k, hk, rfl, hall⟩ := hrel
          by_cases hlt : k < ss.length
          · rcases hs.cells with hc | ⟨sb, so, rfl, hc⟩
            · subst hc; simp at hlt
            have hltI : (k : Int) < ss.length := by omega
            have ck := hc k hlt
            have ck2 := (((Below.refl w.heap.size w).alloc (Nat.le_refl _) (.cells #[.int .i64 au, .int .i64 nu, .slice (some ⟨sb, so, none⟩) ss.length cap] 42)).cell (p := ⟨sb, so + k, none⟩) (block_lt_of_cell ck)).trans ck
            have hz : (ss.getD k ByteArray.empty).size ≤ 9223372036854775807 := hs.size _ (by simp [List.getD, hlt])
            have hT : txOk (ss.getD k ByteArray.empty) = decide (1 ≤ (ss.getD k ByteArray.empty).size ∧ (ss.getD k ByteArray.empty).size ≤ 20) := rfl
            have hstep : Hid (txOk (ss.getD k ByteArray.empty) = true → ∀ q, q < k + 1 → txOk (ss.getD q ByteArray.empty) = true) := by
              show _ → _
              intro h q hq
              rcases Nat.lt_or_ge q k with g | g
              · exact hall q g
              · obtain rfl : q = k := by omega
                exact h
            have hno : Hid (txOk (ss.getD k ByteArray.empty) = false → ss.all txOk = false) := by
              show _ → _
              exact all_false ss txOk ByteArray.empty k hlt
            clear hall hc ck
            generalize ss.getD k ByteArray.empty = s at *
            by_cases h1 : 1 ≤ s.size
            · have h1I : ¬ (s.size : Int) < 1 := by omega
              by_cases h2 : s.size ≤ 20
              · have h2I : ¬ (20 : Int) < s.size := by omega
                have hst := hstep.out (by rw [hT]; simp [h1, h2])
                clear hT hstep hno
                go_wp2_with fail
                go_round
                case rel => exact ⟨k + 1, by omega, by go_num, hst⟩
                case measure => simp [intOf]; omega
              · have h2I : (20 : Int) < s.size := by omega
                have hst := hno.out (by rw [hT]; simp [h2])
                clear hT hstep hno
                rw [hst] at hF
                go_wp2_with fail
                go_ret
                exact ⟨ret_int (by rw [hF.out]; rfl), (Below.refl _ _).alloc (Nat.le_refl _) _⟩
            · have h1I : (s.size : Int) < 1 := by omega
              have hst := hno.out (by rw [hT]; simp [h1])
              clear hT hstep hno
              rw [hst] at hF
              go_wp2_with fail
              go_ret
              exact ⟨ret_int (by rw [hF.out]; rfl), (Below.refl _ _).alloc (Nat.le_refl _) _⟩
          · obtain rfl : k = ss.length := by omega
            have hst := all_true ss txOk ByteArray.empty hall
            rw [hst] at hF
            go_wp2_with fail
            go_ret
            exact ⟨ret_int (by rw [hF.out]; rfl), (Below.refl _ _).alloc (Nat.le_refl _) _⟩
    · have hF : Hid (batchF au nu ss = 2) := by show _ = _; simp [batchF, hr]
      go_enter Tryd.func60, Tryd.ntmps60
      go_wp2_with (first | (go_at_call 81; first | (refine (isNode_true _ _ (by omega)).mono ?_; rintro e w' ⟨rfl, rfl⟩) | (refine (isNode_false _ _ (by omega)).mono ?_; rintro e w' ⟨rfl, rfl⟩)) | (go_at_call 82; first | (refine (isRound_true _ _ (by omega)).mono ?_; rintro e w' ⟨rfl, rfl⟩) | (refine (isRound_false _ _ (by omega)).mono ?_; rintro e w' ⟨rfl, rfl⟩)))
      go_ret
      exact ⟨ret_int hF.out.symm, (Below.refl _ _).alloc (Nat.le_refl _) _⟩
  · have hF : Hid (batchF au nu ss = 2) := by show _ = _; simp [batchF, ha]
    go_enter Tryd.func60, Tryd.ntmps60
    go_wp2_with (first | (go_at_call 81; first | (refine (isNode_true _ _ (by omega)).mono ?_; rintro e w' ⟨rfl, rfl⟩) | (refine (isNode_false _ _ (by omega)).mono ?_; rintro e w' ⟨rfl, rfl⟩)) | (go_at_call 82; first | (refine (isRound_true _ _ (by omega)).mono ?_; rintro e w' ⟨rfl, rfl⟩) | (refine (isRound_false _ _ (by omega)).mono ?_; rintro e w' ⟨rfl, rfl⟩)))
    go_ret
    exact ⟨ret_int hF.out.symm, (Below.refl _ _).alloc (Nat.le_refl _) _⟩
end Go.Proofs.YtbmodfegcmaieaaDoor
