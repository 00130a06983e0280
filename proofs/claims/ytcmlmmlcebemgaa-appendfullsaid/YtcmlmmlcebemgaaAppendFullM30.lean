/- tape.mayBe and tape.cut. -/
import Derived.Test.YtcmlmmlcebemgaaAppendFullM24
import Derived.Test.YtcmlmmlcebemgaaAppR
import Derived.Test.YtcmlmmlcebemgaaAppendFullM6
import Derived.Test.YtcmlmmlcebemgaaAppendFullM12
import Derived.Test.YtcmlmmlcebemgaaAppendFullM18
import Derived.Test.YtcmlmmlcebemgaaApp
import Derived.Test.YtcmlmmlcebemgaaSx
import Derived.Deep.RegionHeld2
namespace Go.Proofs.Ytcmlmmlcebemgaa
open Go.RowKit

set_option maxRecDepth 100000 in
set_option maxHeartbeats 1000000 in
theorem encode_want (m : Msg) (w : World) (hk : m.ki = 5) (hf : 0 ≤ m.fr ∧ m.fr < 4) (ht : 0 ≤ m.tt ∧ m.tt < 4) (hr : 0 ≤ m.ro ∧ m.ro ≤ 1048576)
    (hc : ∀ w1, Below w.heap.size w w1 → Calls Try.prog 35 #[.agg #[.int .i64 m.fr, .int .i64 m.tt, .int .i64 m.ki, .int .i64 m.bau, .int .i64 m.bnu, .slice m.bta m.btn m.btc, .int .i64 m.hau, .int .i64 m.hrd, .slice m.hba m.hbn m.hbc, .slice m.hpa m.hpn m.hpc, .int .i64 m.sau, .int .i64 m.srd, .slice m.sda m.sdn m.sdc, .int .i64 m.cau, .int .i64 m.crd, .slice m.cba m.cbn m.cbc, .slice m.cpa m.cpn m.cpc, .slice m.cva m.cvn m.cvc, .int .i64 m.ro]] w1 fun e w' => e = .returned (.int .i64 0) ∧ Below w1.heap.size w1 w') :
    Calls Try.prog 25 #[.agg #[.int .i64 m.fr, .int .i64 m.tt, .int .i64 m.ki, .int .i64 m.bau, .int .i64 m.bnu, .slice m.bta m.btn m.btc, .int .i64 m.hau, .int .i64 m.hrd, .slice m.hba m.hbn m.hbc, .slice m.hpa m.hpn m.hpc, .int .i64 m.sau, .int .i64 m.srd, .slice m.sda m.sdn m.sdc, .int .i64 m.cau, .int .i64 m.crd, .slice m.cba m.cbn m.cbc, .slice m.cpa m.cpn m.cpc, .slice m.cva m.cvn m.cvc, .int .i64 m.ro]] w fun e w' => ∃ v, e = .returned (.tuple #[v, .int .i64 0]) ∧ w'.ownsRow w.heap.size 5 1 v 6 (ub ([5, m.fr, m.tt] ++ rd3 m.ro)) ∧ Below w.heap.size w w' := by
  rw [hk] at hc ⊢
  obtain ⟨hf0, hf1⟩ := hf
  obtain ⟨ht0, ht1⟩ := ht
  have hq := heap_alloc_new w (.cells #[.int .i64 m.fr, .int .i64 m.tt, .int .i64 5, .int .i64 m.bau, .int .i64 m.bnu, .slice m.bta m.btn m.btc, .int .i64 m.hau, .int .i64 m.hrd, .slice m.hba m.hbn m.hbc, .slice m.hpa m.hpn m.hpc, .int .i64 m.sau, .int .i64 m.srd, .slice m.sda m.sdn m.sdc, .int .i64 m.cau, .int .i64 m.crd, .slice m.cba m.cbn m.cbc, .slice m.cpa m.cpn m.cpc, .slice m.cva m.cvn m.cvc, .int .i64 m.ro] 47)
  have hB : Below w.heap.size w (w.alloc (.cells #[.int .i64 m.fr, .int .i64 m.tt, .int .i64 5, .int .i64 m.bau, .int .i64 m.bnu, .slice m.bta m.btn m.btc, .int .i64 m.hau, .int .i64 m.hrd, .slice m.hba m.hbn m.hbc, .slice m.hpa m.hpn m.hpc, .int .i64 m.sau, .int .i64 m.srd, .slice m.sda m.sdn m.sdc, .int .i64 m.cau, .int .i64 m.crd, .slice m.cba m.cbn m.cbc, .slice m.cpa m.cpn m.cpc, .slice m.cva m.cvn m.cvc, .int .i64 m.ro] 47)) := (Below.refl _ _).alloc (Nat.le_refl _) _
  go_enter Try.func25, Try.ntmps25
  go_wp2_with (refine wpList_load_row rfl 47 _ rfl w.heap.size rfl 47 #[.int .i64 m.fr, .int .i64 m.tt, .int .i64 5, .int .i64 m.bau, .int .i64 m.bnu, .slice m.bta m.btn m.btc, .int .i64 m.hau, .int .i64 m.hrd, .slice m.hba m.hbn m.hbc, .slice m.hpa m.hpn m.hpc, .int .i64 m.sau, .int .i64 m.srd, .slice m.sda m.sdn m.sdc, .int .i64 m.cau, .int .i64 m.crd, .slice m.cba m.cbn m.cbc, .slice m.cpa m.cpn m.cpc, .slice m.cva m.cvn m.cvc, .int .i64 m.ro] (0, 0) _ hq Try.underlying47 rfl sMsg ?_)
  refine (hc _ hB).mono ?_
  rintro e w1 ⟨rfl, hb1⟩
  have r1 := row_new hb1
  replace hb1 := below_alloc hb1
  have c0 := cells_at r1 0 _ rfl
  have c1 := cells_at r1 1 _ rfl
  have c2 := cells_at r1 2 _ rfl
  have c18 := cells_at r1 18 _ rfl
  have hlt : w.heap.size < w1.heap.size := lt_of_heap r1
  have hlit := World.ownsRow_lit (base := w1.heap.size) (e := 5) (size := 1) w1 (ub [5, m.fr, m.tt]).toArray 3 (Nat.le_refl _) (by decide) rfl
  go_wp2_with fail
  refine (appendRound_any w1.heap.size _ 3 [5, m.fr, m.tt] m.ro _ hr ?_ (le_alloc (Nat.le_refl _) _) (by decide)).mono ?_
  · exact hlit
  rintro e w2 ⟨v2, rfl, ho2, hG⟩
  have hb2 := hG.below (base := w1.heap.size) (le_alloc (Nat.le_refl _) _) (fun q e => by cases e; exact Nat.le_refl _)
  clear hG
  go_wp2_with fail
  go_ret2
  refine ⟨v2, rfl, ownsRow_base' ho2 hb1.size, ?_⟩
  exact (hb1.alloc hb1.size _).trans (hb2.mono hb1.size)
end Go.Proofs.Ytcmlmmlcebemgaa

namespace Go.Proofs.Ytcmlmmlcebemgaa
open Go.RowKit

/-- P2.9: the bytes that are told. -/
def encB (m : Msg) (R : Int) (ss : List ByteArray) (bl pl cbl cpl : List Part) (ds vl : List Int) : List Int := if R = 0 then msgB m ss bl pl cbl cpl ds vl else []
set_option maxRecDepth 100000 in
theorem encode_any (m : Msg) (ss : List ByteArray) (bl pl cbl cpl : List Part) (ds vl : List Int) (w : World) (H : MsgAt w m ss bl pl cbl cpl vl) (hd : SliceAt w m.sda m.sdc ds) (h7 : m.sdn = ds.length) :
    Calls Try.prog 25 #[.agg #[.int .i64 m.fr, .int .i64 m.tt, .int .i64 m.ki, .int .i64 m.bau, .int .i64 m.bnu, .slice m.bta m.btn m.btc, .int .i64 m.hau, .int .i64 m.hrd, .slice m.hba m.hbn m.hbc, .slice m.hpa m.hpn m.hpc, .int .i64 m.sau, .int .i64 m.srd, .slice m.sda m.sdn m.sdc, .int .i64 m.cau, .int .i64 m.crd, .slice m.cba m.cbn m.cbc, .slice m.cpa m.cpn m.cpc, .slice m.cva m.cvn m.cvc, .int .i64 m.ro]] w fun e w' => ∃ v, e = .returned (.tuple #[v, .int .i64 (checkF m (carriedF m ss bl pl cbl cpl vl))]) ∧ w'.ownsRow w.heap.size 5 1 v (encB m (checkF m (carriedF m ss bl pl cbl cpl vl)) ss bl pl cbl cpl ds vl).length (ub (encB m (checkF m (carriedF m ss bl pl cbl cpl vl)) ss bl pl cbl cpl ds vl)) ∧ Below w.heap.size w w' := by
  have hC : ∀ w1, Below w.heap.size w w1 → Calls Try.prog 35 #[.agg #[.int .i64 m.fr, .int .i64 m.tt, .int .i64 m.ki, .int .i64 m.bau, .int .i64 m.bnu, .slice m.bta m.btn m.btc, .int .i64 m.hau, .int .i64 m.hrd, .slice m.hba m.hbn m.hbc, .slice m.hpa m.hpn m.hpc, .int .i64 m.sau, .int .i64 m.srd, .slice m.sda m.sdn m.sdc, .int .i64 m.cau, .int .i64 m.crd, .slice m.cba m.cbn m.cbc, .slice m.cpa m.cpn m.cpc, .slice m.cva m.cvn m.cvc, .int .i64 m.ro]] w1 fun e w' => e = .returned (.int .i64 (checkF m (carriedF m ss bl pl cbl cpl vl))) ∧ Below w1.heap.size w1 w' := fun w1 hb => check_any m ss bl pl cbl cpl vl w1 (H.below hb)
  by_cases hR : checkF m (carriedF m ss bl pl cbl cpl vl) = 0
  · rw [hR] at hC ⊢
    obtain ⟨hf, ht, hc, _⟩ := checkF_ok hR
    have hE : encB m 0 ss bl pl cbl cpl ds vl = [m.ki, m.fr, m.tt] ++ bodyB m ss bl pl cbl cpl ds vl := rfl
    rw [hE]
    rcases carriedF_kind hc with k | k | k | k | k
    · rw [bodyB1 k]
      rw [carried1 k] at hc
      obtain ⟨g1, g2, g3, g4⟩ := batchF_ok hc
      refine (encode_bundle m ss w k hf ht g1 ⟨by omega, g2.2⟩ H.e1 g3.2 (fun s hs => (g4 s hs).2) H.txs (fun sb so e => ?_) hC).mono ?_
      · rcases H.txs.cells with h | ⟨b, o, e', h⟩
        · rw [h] at g3; simp at g3
        · rw [e] at e'
          simp at e'
          rw [e'.1]
          exact block_lt_of_cell (h 0 (by omega))
      · rintro e w' ⟨v, he, ho, hb⟩
        refine ⟨v, he, ?_, hb⟩
        rw [k, List.length_append]
        exact ho
    · rw [bodyB2 k]
      rw [carried2 k] at hc
      obtain ⟨g1, g2, g3, g4, g5, g6⟩ := headerF_ok hc
      refine (encode_offer_w m bl pl w k hf ht g1 ⟨by omega, g2.2⟩ H.e2 H.e3 (by omega) g4 g5 g6 H.bat H.par hC).mono ?_
      rintro e w' ⟨v, he, ho, hb⟩
      refine ⟨v, he, ?_, hb⟩
      rw [k, List.length_append]
      exact ho
    · rw [bodyB3 k]
      rw [carried3 k] at hc
      obtain ⟨g1, g2, g3⟩ := slotF_ok hc
      refine (encode_vote m ds w k hf ht g1 ⟨by omega, g2.2⟩ h7 (by omega) hd (fun sb so e => ?_) hC).mono ?_
      · rcases hd.bytes with h | ⟨b, o, e', h⟩
        · rw [h] at h7; simp at h7; omega
        · rw [e] at e'
          simp at e'
          rw [e'.1]
          exact block_lt_of_cell (h 0 (by omega))
      · rintro e w' ⟨v, he, ho, hb⟩
        refine ⟨v, he, ?_, hb⟩
        rw [k, show ([3, m.fr, m.tt] ++ ([m.sau] ++ rd3 m.srd ++ ds)).length = 3 + 1 + 3 + m.sdn by simp [rd3, h7]; omega, ← List.append_assoc, ← List.append_assoc]
        exact ho
    · rw [bodyB4 k]
      rw [carried4 k] at hc
      obtain ⟨c1, c2, c3, c4⟩ := certF_ok hc
      obtain ⟨g1, g2, g3, g4, g5, g6⟩ := headerF_ok c1
      refine (encode_proof_w m cbl cpl vl w k hf ht g1 ⟨by omega, g2.2⟩ H.e4 H.e5 (by omega) g4 g5 g6 H.cbat H.cpar H.e6 c2 c4 H.vot (fun sb so e => ?_) hC).mono ?_
      · rcases H.vot.cells with h | ⟨b, o, e', h⟩
        · rw [h] at c3; simp at c3
        · rw [e] at e'
          simp at e'
          rw [e'.1]
          exact block_lt_of_cell (h 0 (by omega))
      · rintro e w' ⟨v, he, ho, hb⟩
        refine ⟨v, he, ?_, hb⟩
        rw [k, List.length_append]
        exact ho
    · rw [bodyB5 k]
      rw [carried5 k] at hc
      have hro : 1 ≤ m.ro ∧ m.ro ≤ 1048576 := by
        rcases Decidable.em (1 ≤ m.ro ∧ m.ro ≤ 1048576) with g | g
        · exact g
        · rw [if_neg g] at hc; cases hc
      refine (encode_want m w k hf ht ⟨by omega, hro.2⟩ hC).mono ?_
      rintro e w' ⟨v, he, ho, hb⟩
      refine ⟨v, he, ?_, hb⟩
      rw [k]
      exact ho
  · refine (encode_bad m _ w hR hC).mono ?_
    rintro e w' ⟨he, hb⟩
    refine ⟨_, he, ?_, hb⟩
    rw [encB, if_neg hR]
    exact World.ownsRow_nil _ _ _ _
end Go.Proofs.Ytcmlmmlcebemgaa

namespace Go.Proofs.Ytcmlmmlcebemgaa
open Go.RowKit

/-- P8.3: a record's bytes. -/
def recB (m : Msg) (X : Int) (ss : List ByteArray) (bl pl cbl cpl : List Part) (ds vl : List Int) : List Int := if X = 0 then msgB m ss bl pl cbl cpl ds vl else []
set_option maxRecDepth 100000 in
set_option maxHeartbeats 1000000 in
theorem tEnc_any (m : Msg) (ss : List ByteArray) (bl pl cbl cpl : List Part) (ds vl : List Int) (w : World) (H : MsgAt w m ss bl pl cbl cpl vl) (hd : SliceAt w m.sda m.sdc ds) (h7 : m.sdn = ds.length) :
    Calls Try.prog 28 #[.agg #[.int .i64 m.fr, .int .i64 m.tt, .int .i64 m.ki, .int .i64 m.bau, .int .i64 m.bnu, .slice m.bta m.btn m.btc, .int .i64 m.hau, .int .i64 m.hrd, .slice m.hba m.hbn m.hbc, .slice m.hpa m.hpn m.hpc, .int .i64 m.sau, .int .i64 m.srd, .slice m.sda m.sdn m.sdc, .int .i64 m.cau, .int .i64 m.crd, .slice m.cba m.cbn m.cbc, .slice m.cpa m.cpn m.cpc, .slice m.cva m.cvn m.cvc, .int .i64 m.ro]] w fun e w' => ∃ v, e = .returned (.tuple #[v, .int .i64 (recF m (checkF m (carriedF m ss bl pl cbl cpl vl)))]) ∧ w'.ownsRow w.heap.size 5 1 v (recB m (recF m (checkF m (carriedF m ss bl pl cbl cpl vl))) ss bl pl cbl cpl ds vl).length (ub (recB m (recF m (checkF m (carriedF m ss bl pl cbl cpl vl))) ss bl pl cbl cpl ds vl)) ∧ Below w.heap.size w w' := by
  have hA : Below w.heap.size w (w.alloc (.cells #[.int .i64 m.fr, .int .i64 m.tt, .int .i64 m.ki, .int .i64 m.bau, .int .i64 m.bnu, .slice m.bta m.btn m.btc, .int .i64 m.hau, .int .i64 m.hrd, .slice m.hba m.hbn m.hbc, .slice m.hpa m.hpn m.hpc, .int .i64 m.sau, .int .i64 m.srd, .slice m.sda m.sdn m.sdc, .int .i64 m.cau, .int .i64 m.crd, .slice m.cba m.cbn m.cbc, .slice m.cpa m.cpn m.cpc, .slice m.cva m.cvn m.cvc, .int .i64 m.ro] 47)) := (Below.refl _ _).alloc (Nat.le_refl _) _
  have q0 := heap_alloc_new w (.cells #[.int .i64 m.fr, .int .i64 m.tt, .int .i64 m.ki, .int .i64 m.bau, .int .i64 m.bnu, .slice m.bta m.btn m.btc, .int .i64 m.hau, .int .i64 m.hrd, .slice m.hba m.hbn m.hbc, .slice m.hpa m.hpn m.hpc, .int .i64 m.sau, .int .i64 m.srd, .slice m.sda m.sdn m.sdc, .int .i64 m.cau, .int .i64 m.crd, .slice m.cba m.cbn m.cbc, .slice m.cpa m.cpn m.cpc, .slice m.cva m.cvn m.cvc, .int .i64 m.ro] 47)
  have hC := tapeCheck_any m ss bl pl cbl cpl vl _ (H.below hA)
  have HE : Hid (∀ W : World, Below w.heap.size w W → checkF m (carriedF m ss bl pl cbl cpl vl) = 0 → Calls Try.prog 25 #[.agg #[.int .i64 m.fr, .int .i64 m.tt, .int .i64 m.ki, .int .i64 m.bau, .int .i64 m.bnu, .slice m.bta m.btn m.btc, .int .i64 m.hau, .int .i64 m.hrd, .slice m.hba m.hbn m.hbc, .slice m.hpa m.hpn m.hpc, .int .i64 m.sau, .int .i64 m.srd, .slice m.sda m.sdn m.sdc, .int .i64 m.cau, .int .i64 m.crd, .slice m.cba m.cbn m.cbc, .slice m.cpa m.cpn m.cpc, .slice m.cva m.cvn m.cvc, .int .i64 m.ro]] W fun e w' => ∃ v, e = .returned (.tuple #[v, .int .i64 0]) ∧ w'.ownsRow W.heap.size 5 1 v (msgB m ss bl pl cbl cpl ds vl).length (ub (msgB m ss bl pl cbl cpl ds vl)) ∧ Below W.heap.size W w') := by
    show ∀ _, _
    intro W hW h0
    have := encode_any m ss bl pl cbl cpl ds vl W (H.below hW) (hd.below hW) h7
    rw [h0] at this
    exact this
  clear H hd h7
  generalize hR : checkF m (carriedF m ss bl pl cbl cpl vl) = R at hC HE ⊢
  have hB0 : Hid (∀ X, X ≠ 0 → recB m X ss bl pl cbl cpl ds vl = []) := by show ∀ _, _; intro X h; rw [recB, if_neg h]
  have hB1 : Hid (recB m 0 ss bl pl cbl cpl ds vl = msgB m ss bl pl cbl cpl ds vl) := by show _ = _; rw [recB, if_pos rfl]
  have hX0 : Hid (recF m R = 0 → R = 0) := by
    show _ → _
    intro h
    by_cases hr : R = 0
    · exact hr
    · rw [recF, if_pos hr] at h; exact absurd h hr
  clear hR
  generalize recF m R = X at hC hX0 ⊢
  generalize msgB m ss bl pl cbl cpl ds vl = MB at HE hB1
  go_enter Try.func28, Try.ntmps28
  go_wp2_with (refine wpList_load_row rfl 47 _ rfl w.heap.size rfl 47 _ (0, 0) _ q0 Try.underlying47 rfl sMsg ?_)
  generalize w.alloc (.cells #[.int .i64 m.fr, .int .i64 m.tt, .int .i64 m.ki, .int .i64 m.bau, .int .i64 m.bnu, .slice m.bta m.btn m.btc, .int .i64 m.hau, .int .i64 m.hrd, .slice m.hba m.hbn m.hbc, .slice m.hpa m.hpn m.hpc, .int .i64 m.sau, .int .i64 m.srd, .slice m.sda m.sdn m.sdc, .int .i64 m.cau, .int .i64 m.crd, .slice m.cba m.cbn m.cbc, .slice m.cpa m.cpn m.cpc, .slice m.cva m.cvn m.cvc, .int .i64 m.ro] 47) = W0 at hA q0 hC ⊢
  refine hC.mono ?_
  rintro e w1 ⟨he, hb1⟩
  subst he
  dsimp only
  have q1 := (hb1.block _ (lt_of_heap q0)).trans q0
  have hB := hA.trans (hb1.mono hA.size)
  clear q0 hb1 hC hA
  by_cases hX : X = 0
  · subst hX
    have h0 : Hid (R = 0) := hX0.out rfl
    go_wp2_with (refine wpList_load_row rfl 47 _ rfl w.heap.size rfl 47 _ (0, 0) _ q1 Try.underlying47 rfl sMsg ?_)
    refine (HE.out w1 hB h0.out).mono ?_
    rintro e w2 ⟨v, he, ho, hb2⟩
    subst he
    dsimp only
    go_wp2_with fail
    go_ret2
    refine ⟨v, rfl, ?_, hB.trans (hb2.mono hB.size)⟩
    rw [hB1.out]
    exact ownsRow_base' ho hB.size
  · go_wp2_with fail
    go_ret2
    refine ⟨_, rfl, ?_, hB⟩
    rw [hB0.out X hX]
    exact World.ownsRow_nil _ _ _ _
end Go.Proofs.Ytcmlmmlcebemgaa

namespace Go.Proofs.Ytcmlmmlcebemgaa
open Go.RowKit

/-- P8.1. -/
def tapeOk (n : Nat) (sy : Int) : Bool := decide (n ≤ 400000 ∧ 0 ≤ sy ∧ sy ≤ n)
/-- P8.5: so many bytes are left. -/
def leftN (n : Nat) (sy keep : Int) : Nat := if keep < n - sy then (sy + keep).toNat else n
def crashF (n : Nat) (sy keep : Int) : Int := if tapeOk n sy then (if keep < 0 then 2 else 0) else 12
def crashN (n : Nat) (sy keep : Int) : Nat := if tapeOk n sy ∧ 0 ≤ keep then leftN n sy keep else 0
def syncF (n : Nat) (sy : Int) : Int := if tapeOk n sy then 0 else 12
def syncN (n : Nat) (sy : Int) : Nat := if tapeOk n sy then n else 0
set_option maxRecDepth 100000 in
theorem tapeOk_iff {n : Nat} {sy : Int} : tapeOk n sy = true ↔ n ≤ 400000 ∧ 0 ≤ sy ∧ sy ≤ n := by simp [tapeOk]
set_option maxRecDepth 100000 in
theorem tapeOk_not {n : Nat} {sy : Int} (h : ¬ (n ≤ 400000 ∧ 0 ≤ sy ∧ sy ≤ n)) : tapeOk n sy = false := decide_eq_false h
set_option maxRecDepth 100000 in
theorem leftN_le {n : Nat} {sy keep : Int} (h : 0 ≤ sy) : leftN n sy keep ≤ n := by
  unfold leftN
  split
  · have := h; omega
  · exact Nat.le_refl _
set_option maxRecDepth 100000 in
theorem SliceAt.takeT {w : World} {sa : Option Addr} {cap : Nat} {bs : List Int} (h : SliceAt w sa cap bs) (m c : Nat) (hm : m ≤ bs.length) (hc1 : m ≤ c) (hc2 : c ≤ cap) (hn : sa = Option.none → c = 0) : SliceAt w sa c (bs.take m) := by
  refine ⟨by simp; omega, by have := h.max; omega, ?_, hn, ?_⟩
  · rcases h.some with e | e
    · exact .inl (by omega)
    · exact .inr e
  · rcases h.bytes with hb | ⟨sb, so, rfl, hb⟩
    · exact .inl (by rw [hb]; simp)
    · refine .inr ⟨sb, so, rfl, fun j hj => ?_⟩
      rw [List.length_take] at hj
      rw [hb j (by omega)]
      simp [List.getD, show j < m by omega]
/-- An answer that is a tape and an error: new memory with these bytes. -/
structure TapeIs (w w' : World) (e : Ending) (bs : List Int) (sy er : Int) : Prop where
  out : ∃ ra rc, e = .returned (.tuple #[.agg #[.slice ra bs.length rc, .int .i64 sy], .int .i64 er]) ∧ SliceAt w' ra rc bs ∧ (∀ sb so, ra = some ⟨sb, so, none⟩ → w.heap.size ≤ sb ∧ sb < w'.heap.size) ∧ Below w.heap.size w w'
set_option maxRecDepth 100000 in
theorem nilSliceT (w : World) : SliceAt w none 0 [] := ⟨Nat.le_refl _, by decide, .inl rfl, fun _ => rfl, .inl rfl⟩
set_option maxRecDepth 100000 in
theorem TapeIs.bad {w w' : World} (er : Int) (hb : Below w.heap.size w w') : TapeIs w w' (.returned (.tuple #[.agg #[.slice none 0 0, .int .i64 0], .int .i64 er])) [] 0 er :=
  ⟨none, 0, rfl, nilSliceT _, (fun _ _ e => by cases e), hb⟩
set_option maxRecDepth 100000 in
/-- A store into a block that is older than a slice's leaves it as it is. -/
theorem SliceAt.setCellT {w : World} {sa : Option Addr} {cap : Nat} {bs : List Int} (h : SliceAt w sa cap bs) (b j : Nat) (v : Value) (hne : ∀ sb so, sa = Option.some ⟨sb, so, Option.none⟩ → b ≠ sb) : SliceAt (w.setCell ⟨b, j, Option.none⟩ v) sa cap bs := by
  refine ⟨h.le, h.max, h.some, h.nil, ?_⟩
  rcases h.bytes with hb | ⟨sb, so, rfl, hc⟩
  · exact .inl hb
  · exact .inr ⟨sb, so, rfl, fun k hk => (World.cell?_setCell_far _ _ _ _ (hne sb so rfl)).trans (hc k hk)⟩
end Go.Proofs.Ytcmlmmlcebemgaa

namespace Go.Proofs.Ytcmlmmlcebemgaa
open Go.RowKit

set_option maxRecDepth 100000 in
set_option maxHeartbeats 400000 in
theorem clone_any (bs : List Int) (sa : Option Addr) (n cap : Nat) (w : World) (hn : n = bs.length) (hs : SliceAt w sa cap bs) (hl : bs.length ≤ 140737488355328) :
    Calls Try.prog 41 #[.slice sa n cap] w fun e w' => ∃ ra rc, e = .returned (.slice ra bs.length rc) ∧ SliceAt w' ra rc bs ∧ (∀ sb so, ra = some ⟨sb, so, none⟩ → w.heap.size ≤ sb ∧ sb < w'.heap.size) ∧ Below w.heap.size w w' := by
  subst hn
  have hle := hs.le
  cases sa with
  | none =>
    have hc := hs.nil rfl
    have hb : bs = [] := List.eq_nil_of_length_eq_zero (by omega)
    subst hc hb
    have he : ∀ w : World, (binOp .eql 26 (.slice none 0 0) (.slice none 0 0)).run Try.prog w = .ok (.bool true) w := fun _ => rfl
    go_enter Try.func41, Try.ntmps41
    go_wp2_with fail
    go_ret
    exact ⟨none, 0, rfl, hs, (fun _ _ e => by cases e), Below.refl _ _⟩
  | some ad =>
    have he : ∀ w : World, (binOp .eql 26 (.slice (some ad) bs.length cap) (.slice none 0 0)).run Try.prog w = .ok (.bool false) w := fun _ => rfl
    have hA : Below w.heap.size w (w.alloc (.cells #[] 5)) := (Below.refl _ _).alloc (Nat.le_refl _) _
    go_enter Try.func41, Try.ntmps41
    go_wp2_with (at_builtin; refine wpList_append_part rfl _ _ rfl w.heap.size _ 0 [] rfl (World.ownsRow_made _ _ 0 (Nat.le_refl _) (by decide) rfl) (some ad) _ cap bs rfl rfl (hs.below hA) (by omega) hA.size ?_; intro v1 w1 ho1 hg1)
    obtain ⟨ra, rc, hv, hl, hsl⟩ := owns_form ho1
    have hlt := ho1.lt
    subst hv
    go_ret
    refine ⟨ra, rc, ?_, by simpa using hsl, (fun sb so e => hlt sb (by rw [e]; rfl)), ?_⟩
    · simp
    · exact Below.grown hA hg1 hA.size (fun q e => (World.ownsRow.lt (World.ownsRow_made (e := 5) (size := 1) w #[] 0 (Nat.le_refl _) (by decide) rfl) q e).1)
end Go.Proofs.Ytcmlmmlcebemgaa

namespace Go.Proofs.Ytcmlmmlcebemgaa
open Go.RowKit

set_option maxRecDepth 100000 in
set_option maxHeartbeats 400000 in
theorem mayBe_any (sa : Option Addr) (n cap : Nat) (sy : Int) (w : World) (hn : n ≤ 140737488355328) :
    Calls Try.prog 26 #[.agg #[.slice sa n cap, .int .i64 sy]] w fun e w' => e = .returned (.bool (tapeOk n sy)) ∧ Below w.heap.size w w' := by
  have hA : Below w.heap.size w (w.alloc (.cells #[.slice sa n cap, .int .i64 sy] 28)) := (Below.refl _ _).alloc (Nat.le_refl _) _
  by_cases h1 : (n : Int) ≤ 400000
  · by_cases h2 : 0 ≤ sy
    · by_cases h3 : sy ≤ n
      · have hF : Hid (tapeOk n sy = true) := tapeOk_iff.2 ⟨by omega, h2, h3⟩
        go_enter Try.func26, Try.ntmps26
        go_wp2_with fail
        go_ret
        exact ⟨by rw [hF.out]; rfl, hA⟩
      · have hF : Hid (tapeOk n sy = false) := tapeOk_not (by omega)
        go_enter Try.func26, Try.ntmps26
        go_wp2_with fail
        go_ret
        exact ⟨by rw [hF.out]; rfl, hA⟩
    · have hF : Hid (tapeOk n sy = false) := tapeOk_not (by omega)
      go_enter Try.func26, Try.ntmps26
      go_wp2_with fail
      go_ret
      exact ⟨by rw [hF.out]; rfl, hA⟩
  · have hF : Hid (tapeOk n sy = false) := tapeOk_not (by omega)
    go_enter Try.func26, Try.ntmps26
    go_wp2_with fail
    go_ret
    exact ⟨by rw [hF.out]; rfl, hA⟩
set_option maxRecDepth 100000 in
set_option maxHeartbeats 400000 in
theorem tapeCut_any (bs : List Int) (sa : Option Addr) (n cap k : Nat) (s0 sy : Int) (w : World) (hn : n = bs.length) (hs : SliceAt w sa cap bs) (hk : k ≤ bs.length) (hl : bs.length ≤ 140737488355328) :
    Calls Try.prog 27 #[.agg #[.slice sa n cap, .int .i64 s0], .int .i64 k, .int .i64 sy] w fun e w' => ∃ ra rc, e = .returned (.agg #[.slice ra k rc, .int .i64 sy]) ∧ SliceAt w' ra rc (bs.take k) ∧ (∀ sb so, ra = some ⟨sb, so, none⟩ → w.heap.size ≤ sb ∧ sb < w'.heap.size) ∧ Below w.heap.size w w' := by
  subst hn
  have hle := hs.le
  have hA : Below w.heap.size w ((w.alloc (.cells #[.slice sa bs.length cap, .int .i64 s0] 28)).alloc (.cells #[.slice none 0 0, .int .i64 0] 28)) := ((Below.refl _ _).alloc (Nat.le_refl _) _).alloc (by simp) _
  have r0 := heap_alloc2_old w (.cells #[.slice sa bs.length cap, .int .i64 s0] 28) (.cells #[.slice none 0 0, .int .i64 0] 28)
  have r1 := heap_alloc2_new w (.cells #[.slice sa bs.length cap, .int .i64 s0] 28) (.cells #[.slice none 0 0, .int .i64 0] 28)
  have hkn : sa = none → k = 0 := fun h => by have := hs.nil h; omega
  have hT := clone_any (bs.take k) sa k k _ (by simp; omega) ((hs.below hA).takeT k k hk (Nat.le_refl _) (by omega) hkn) (by rw [List.length_take]; omega)
  have hL : Hid ((bs.take k).length = k) := by show _ = _; rw [List.length_take]; omega
  rw [hL.out] at hT
  have hkc : (k : Int) ≤ cap := by omega
  have hk0 : (0 : Int) ≤ k := by omega
  clear hkn hs
  go_enter Try.func27, Try.ntmps27
  go_wp2_with fail
  generalize (w.alloc (.cells #[.slice sa bs.length cap, .int .i64 s0] 28)).alloc (.cells #[.slice none 0 0, .int .i64 0] 28) = W0 at hA r0 r1 hT ⊢
  refine hT.mono ?_
  rintro e w1 ⟨ra, rc, he, hs1, hfr, hb1⟩
  subst he
  dsimp only
  have p1 := (hb1.block _ (lt_of_heap r1)).trans r1
  have d0 : w1.cell? ⟨w.heap.size + 1, 0, none⟩ = some (.slice none 0 0) := cells_at p1 0 _ rfl
  have d1 : w1.cell? ⟨w.heap.size + 1, 1, none⟩ = some (.int .i64 0) := cells_at p1 1 _ rfl
  have f0 := frozen_at p1 0
  have f1 := frozen_at p1 1
  have hlt := lt_of_heap r1
  go_wp2_with fail
  refine bodyPost_ret (v := .agg #[.slice ra k rc, .int .i64 sy]) (by simp [results, Try.results27, go_sem, d0, d1]) rfl ⟨ra, rc, rfl, ?_, ?_, ?_⟩
  · exact (hs1.setCellT _ _ _ (fun sb so e => by have := (hfr sb so e).1; omega)).setCellT _ _ _ (fun sb so e => by have := (hfr sb so e).1; omega)
  · intro sb so e
    obtain ⟨g1, g2⟩ := hfr sb so e
    exact ⟨by omega, by simpa using g2⟩
  · exact ((hA.trans (hb1.mono hA.size)).setCell (by simp) _).setCell (by simp) _
end Go.Proofs.Ytcmlmmlcebemgaa
