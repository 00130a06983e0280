/- wire.Encode: what it answers, for every message. -/
import Derived.Test.YthijfhbmkpfnkaaMsgB
import Derived.Test.YthijfhbmkpfnkaaCheckAny
import Derived.Test.YthijfhbmkpfnkaaEncU
import Derived.Test.YthijfhbmkpfnkaaEncO
import Derived.Test.YthijfhbmkpfnkaaEncV
import Derived.Test.YthijfhbmkpfnkaaEncP
import Derived.Test.YthijfhbmkpfnkaaEncW
namespace Go.Proofs.Ythijfhbmkpfnkaa
open Go.RowKit

/-- P2.9: the bytes that are told. -/
def encB (m : Msg) (R : Int) (ss : List ByteArray) (bl pl cbl cpl : List Part) (ds vl : List Int) : List Int := if R = 0 then msgB m ss bl pl cbl cpl ds vl else []
set_option maxRecDepth 100000 in
theorem encode_any (m : Msg) (ss : List ByteArray) (bl pl cbl cpl : List Part) (ds vl : List Int) (w : World) (H : MsgAt w m ss bl pl cbl cpl vl) (hd : SliceAt w m.sda m.sdc ds) (h7 : m.sdn = ds.length) :
    Calls Try.prog 9 #[.agg #[.int .i64 m.fr, .int .i64 m.tt, .int .i64 m.ki, .int .i64 m.bau, .int .i64 m.bnu, .slice m.bta m.btn m.btc, .int .i64 m.hau, .int .i64 m.hrd, .slice m.hba m.hbn m.hbc, .slice m.hpa m.hpn m.hpc, .int .i64 m.sau, .int .i64 m.srd, .slice m.sda m.sdn m.sdc, .int .i64 m.cau, .int .i64 m.crd, .slice m.cba m.cbn m.cbc, .slice m.cpa m.cpn m.cpc, .slice m.cva m.cvn m.cvc, .int .i64 m.ro]] w fun e w' => ∃ v, e = .returned (.tuple #[v, .int .i64 (checkF m (carriedF m ss bl pl cbl cpl vl))]) ∧ w'.ownsRow w.heap.size 5 1 v (encB m (checkF m (carriedF m ss bl pl cbl cpl vl)) ss bl pl cbl cpl ds vl).length (ub (encB m (checkF m (carriedF m ss bl pl cbl cpl vl)) ss bl pl cbl cpl ds vl)) ∧ Below w.heap.size w w' := by
  have hC : ∀ w1, Below w.heap.size w w1 → Calls Try.prog 12 #[.agg #[.int .i64 m.fr, .int .i64 m.tt, .int .i64 m.ki, .int .i64 m.bau, .int .i64 m.bnu, .slice m.bta m.btn m.btc, .int .i64 m.hau, .int .i64 m.hrd, .slice m.hba m.hbn m.hbc, .slice m.hpa m.hpn m.hpc, .int .i64 m.sau, .int .i64 m.srd, .slice m.sda m.sdn m.sdc, .int .i64 m.cau, .int .i64 m.crd, .slice m.cba m.cbn m.cbc, .slice m.cpa m.cpn m.cpc, .slice m.cva m.cvn m.cvc, .int .i64 m.ro]] w1 fun e w' => e = .returned (.int .i64 (checkF m (carriedF m ss bl pl cbl cpl vl))) ∧ Below w1.heap.size w1 w' := fun w1 hb => check_any m ss bl pl cbl cpl vl w1 (H.below hb)
  by_cases hR : checkF m (carriedF m ss bl pl cbl cpl vl) = 0
  · rw [hR] at hC ⊢
    obtain ⟨hf, ht, hc, _⟩ := checkF_ok hR
    have hE : encB m 0 ss bl pl cbl cpl ds vl = [m.ki, m.fr, m.tt] ++ bodyB m ss bl pl cbl cpl ds vl := rfl
    rw [hE]
    rcases carriedF_kind hc with k | k | k | k | k
    · rw [bodyB1 k]
      rw [carried1 k] at hc
      obtain ⟨g1, g2, g3, g4⟩ := batchF_ok hc
      refine (encode_bundle m ss w k hf ht g1 ⟨by omega, g2.2⟩ H.e1 g3.2 (fun s hs => (g4 s hs).2) H.txs (fun sb so e => ?_) hC).mono ?_
      · rcases H.txs.cells with h | ⟨b, o, e', h⟩
        · rw [h] at g3; simp at g3
        · rw [e] at e'
          simp at e'
          rw [e'.1]
          exact block_lt_of_cell (h 0 (by omega))
      · rintro e w' ⟨v, he, ho, hb⟩
        refine ⟨v, he, ?_, hb⟩
        rw [k, List.length_append]
        exact ho
    · rw [bodyB2 k]
      rw [carried2 k] at hc
      obtain ⟨g1, g2, g3, g4, g5, g6⟩ := headerF_ok hc
      refine (encode_offer_w m bl pl w k hf ht g1 ⟨by omega, g2.2⟩ H.e2 H.e3 (by omega) g4 g5 g6 H.bat H.par hC).mono ?_
      rintro e w' ⟨v, he, ho, hb⟩
      refine ⟨v, he, ?_, hb⟩
      rw [k, List.length_append]
      exact ho
    · rw [bodyB3 k]
      rw [carried3 k] at hc
      obtain ⟨g1, g2, g3⟩ := slotF_ok hc
      refine (encode_vote m ds w k hf ht g1 ⟨by omega, g2.2⟩ h7 (by omega) hd (fun sb so e => ?_) hC).mono ?_
      · rcases hd.bytes with h | ⟨b, o, e', h⟩
        · rw [h] at h7; simp at h7; omega
        · rw [e] at e'
          simp at e'
          rw [e'.1]
          exact block_lt_of_cell (h 0 (by omega))
      · rintro e w' ⟨v, he, ho, hb⟩
        refine ⟨v, he, ?_, hb⟩
        rw [k, show ([3, m.fr, m.tt] ++ ([m.sau] ++ rd3 m.srd ++ ds)).length = 3 + 1 + 3 + m.sdn by simp [rd3, h7]; omega, ← List.append_assoc, ← List.append_assoc]
        exact ho
    · rw [bodyB4 k]
      rw [carried4 k] at hc
      obtain ⟨c1, c2, c3, c4⟩ := certF_ok hc
      obtain ⟨g1, g2, g3, g4, g5, g6⟩ := headerF_ok c1
      refine (encode_proof_w m cbl cpl vl w k hf ht g1 ⟨by omega, g2.2⟩ H.e4 H.e5 (by omega) g4 g5 g6 H.cbat H.cpar H.e6 c2 c4 H.vot (fun sb so e => ?_) hC).mono ?_
      · rcases H.vot.cells with h | ⟨b, o, e', h⟩
        · rw [h] at c3; simp at c3
        · rw [e] at e'
          simp at e'
          rw [e'.1]
          exact block_lt_of_cell (h 0 (by omega))
      · rintro e w' ⟨v, he, ho, hb⟩
        refine ⟨v, he, ?_, hb⟩
        rw [k, List.length_append]
        exact ho
    · rw [bodyB5 k]
      rw [carried5 k] at hc
      have hro : 1 ≤ m.ro ∧ m.ro ≤ 1048576 := by
        rcases Decidable.em (1 ≤ m.ro ∧ m.ro ≤ 1048576) with g | g
        · exact g
        · rw [if_neg g] at hc; cases hc
      refine (encode_want m w k hf ht ⟨by omega, hro.2⟩ hC).mono ?_
      rintro e w' ⟨v, he, ho, hb⟩
      refine ⟨v, he, ?_, hb⟩
      rw [k]
      exact ho
  · refine (encode_bad m _ w hR hC).mono ?_
    rintro e w' ⟨he, hb⟩
    refine ⟨_, he, ?_, hb⟩
    rw [encB, if_neg hR]
    exact World.ownsRow_nil _ _ _ _
end Go.Proofs.Ythijfhbmkpfnkaa
