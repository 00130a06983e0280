/- wire.Encode of a vote. -/
import Derived.Test.YtnfcaonmfkbofaaGreatDoorMsgF
import Derived.Test.YtnfcaonmfkbofaaGreatDoorCheckM
import Derived.Test.YtnfcaonmfkbofaaGreatDoorTopRefusedM12
import Derived.Test.YtnfcaonmfkbofaaGreatDoorTopRefusedM6
import Derived.Test.YtnfcaonmfkbofaaGreatDoorAppR
namespace Go.Proofs.YtnfcaonmfkbofaaGreatDoor
open Go.RowKit

set_option maxRecDepth 100000 in
theorem check_any (m : Msg) (ss : List ByteArray) (bl pl cbl cpl : List Part) (vl : List Int) (w : World) (H : MsgAt w m ss bl pl cbl cpl vl) :
    Calls Tryz.prog 38 #[.agg #[.int .i64 m.fr, .int .i64 m.tt, .int .i64 m.ki, .int .i64 m.bau, .int .i64 m.bnu, .slice m.bta m.btn m.btc, .int .i64 m.hau, .int .i64 m.hrd, .slice m.hba m.hbn m.hbc, .slice m.hpa m.hpn m.hpc, .int .i64 m.sau, .int .i64 m.srd, .slice m.sda m.sdn m.sdc, .int .i64 m.cau, .int .i64 m.crd, .slice m.cba m.cbn m.cbc, .slice m.cpa m.cpn m.cpc, .slice m.cva m.cvn m.cvc, .int .i64 m.ro]] w fun e w' => e = .returned (.int .i64 (checkF m (carriedF m ss bl pl cbl cpl vl))) ∧ Below w.heap.size w w' := by
  refine check_of m (carriedF m ss bl pl cbl cpl vl) w (fun h => ?_) (fun w1 hb1 => ?_)
  · rcases Decidable.em (1 ≤ m.ki ∧ m.ki ≤ 5) with g | g
    · exact g
    · rw [carriedF, if_neg (by omega), if_neg (by omega), if_neg (by omega), if_neg (by omega), if_neg (by omega)] at h
      cases h
  · have H1 := H.below hb1
    by_cases k1 : m.ki = 1
    · rw [carriedF, if_pos k1]
      exact carry_bundle m ss w1 k1 H.e1 (by have := H.s1; have := H.e1; unfold maxLen; omega) H1.txs
    by_cases k2 : m.ki = 2
    · rw [carriedF, if_neg k1, if_pos k2]
      exact carry_offer m bl pl w1 k2 H.e2 H.e3 H1.bat H1.par
    by_cases k3 : m.ki = 3
    · rw [carriedF, if_neg k1, if_neg k2, if_pos k3]
      exact carry_vote m w1 k3
    by_cases k4 : m.ki = 4
    · rw [carriedF, if_neg k1, if_neg k2, if_neg k3, if_pos k4]
      exact carry_proof m cbl cpl vl w1 k4 H.e4 H.e5 H.e6 H.s6 H1.cbat H1.cpar H1.vot
    by_cases k5 : m.ki = 5
    · rw [carriedF, if_neg k1, if_neg k2, if_neg k3, if_neg k4, if_pos k5]
      have hw := carry_want m w1 k5
      rw [wantF] at hw
      exact hw
    · rw [carriedF, if_neg k1, if_neg k2, if_neg k3, if_neg k4, if_neg k5]
      exact carry_none m w1 (by omega)
end Go.Proofs.YtnfcaonmfkbofaaGreatDoor

namespace Go.Proofs.YtnfcaonmfkbofaaGreatDoor
open Go.RowKit

set_option maxRecDepth 100000 in
set_option maxHeartbeats 1000000 in
theorem encode_bad (m : Msg) (ec : Int) (w : World) (he : ec ≠ 0)
    (hc : ∀ w1, Below w.heap.size w w1 → Calls Tryz.prog 38 #[.agg #[.int .i64 m.fr, .int .i64 m.tt, .int .i64 m.ki, .int .i64 m.bau, .int .i64 m.bnu, .slice m.bta m.btn m.btc, .int .i64 m.hau, .int .i64 m.hrd, .slice m.hba m.hbn m.hbc, .slice m.hpa m.hpn m.hpc, .int .i64 m.sau, .int .i64 m.srd, .slice m.sda m.sdn m.sdc, .int .i64 m.cau, .int .i64 m.crd, .slice m.cba m.cbn m.cbc, .slice m.cpa m.cpn m.cpc, .slice m.cva m.cvn m.cvc, .int .i64 m.ro]] w1 fun e w' => e = .returned (.int .i64 ec) ∧ Below w1.heap.size w1 w') :
    Calls Tryz.prog 23 #[.agg #[.int .i64 m.fr, .int .i64 m.tt, .int .i64 m.ki, .int .i64 m.bau, .int .i64 m.bnu, .slice m.bta m.btn m.btc, .int .i64 m.hau, .int .i64 m.hrd, .slice m.hba m.hbn m.hbc, .slice m.hpa m.hpn m.hpc, .int .i64 m.sau, .int .i64 m.srd, .slice m.sda m.sdn m.sdc, .int .i64 m.cau, .int .i64 m.crd, .slice m.cba m.cbn m.cbc, .slice m.cpa m.cpn m.cpc, .slice m.cva m.cvn m.cvc, .int .i64 m.ro]] w fun e w' => e = .returned (.tuple #[.slice none 0 0, .int .i64 ec]) ∧ Below w.heap.size w w' := by
  have hq := heap_alloc_new w (.cells #[.int .i64 m.fr, .int .i64 m.tt, .int .i64 m.ki, .int .i64 m.bau, .int .i64 m.bnu, .slice m.bta m.btn m.btc, .int .i64 m.hau, .int .i64 m.hrd, .slice m.hba m.hbn m.hbc, .slice m.hpa m.hpn m.hpc, .int .i64 m.sau, .int .i64 m.srd, .slice m.sda m.sdn m.sdc, .int .i64 m.cau, .int .i64 m.crd, .slice m.cba m.cbn m.cbc, .slice m.cpa m.cpn m.cpc, .slice m.cva m.cvn m.cvc, .int .i64 m.ro] 78)
  have hB : Below w.heap.size w (w.alloc (.cells #[.int .i64 m.fr, .int .i64 m.tt, .int .i64 m.ki, .int .i64 m.bau, .int .i64 m.bnu, .slice m.bta m.btn m.btc, .int .i64 m.hau, .int .i64 m.hrd, .slice m.hba m.hbn m.hbc, .slice m.hpa m.hpn m.hpc, .int .i64 m.sau, .int .i64 m.srd, .slice m.sda m.sdn m.sdc, .int .i64 m.cau, .int .i64 m.crd, .slice m.cba m.cbn m.cbc, .slice m.cpa m.cpn m.cpc, .slice m.cva m.cvn m.cvc, .int .i64 m.ro] 78)) := (Below.refl _ _).alloc (Nat.le_refl _) _
  go_enter Tryz.func23, Tryz.ntmps23
  go_wp2_with (refine wpList_load_row rfl 78 _ rfl w.heap.size rfl 78 #[.int .i64 m.fr, .int .i64 m.tt, .int .i64 m.ki, .int .i64 m.bau, .int .i64 m.bnu, .slice m.bta m.btn m.btc, .int .i64 m.hau, .int .i64 m.hrd, .slice m.hba m.hbn m.hbc, .slice m.hpa m.hpn m.hpc, .int .i64 m.sau, .int .i64 m.srd, .slice m.sda m.sdn m.sdc, .int .i64 m.cau, .int .i64 m.crd, .slice m.cba m.cbn m.cbc, .slice m.cpa m.cpn m.cpc, .slice m.cva m.cvn m.cvc, .int .i64 m.ro] (0, 0) _ hq Tryz.underlying78 rfl sMsg ?_)
  refine (hc _ hB).mono ?_
  rintro e w1 ⟨rfl, hb1⟩
  go_wp2_with fail
  go_ret2
  exact ⟨rfl, below_alloc hb1⟩
end Go.Proofs.YtnfcaonmfkbofaaGreatDoor

namespace Go.Proofs.YtnfcaonmfkbofaaGreatDoor
open Go.RowKit

set_option maxRecDepth 100000 in
set_option maxHeartbeats 1000000 in
theorem encode_bundle (m : Msg) (ss : List ByteArray) (w : World) (hk : m.ki = 1) (hf : 0 ≤ m.fr ∧ m.fr < 4) (ht : 0 ≤ m.tt ∧ m.tt < 4) (ha : 0 ≤ m.bau ∧ m.bau < 4) (hr : 0 ≤ m.bnu ∧ m.bnu ≤ 1048576) (hn : m.btn = ss.length) (hl : ss.length ≤ 4) (hz : ∀ s ∈ ss, s.size ≤ 20) (hs : StrsAt w m.bta ss) (hsb : ∀ sb so, m.bta = some ⟨sb, so, none⟩ → sb < w.heap.size)
    (hc : ∀ w1, Below w.heap.size w w1 → Calls Tryz.prog 38 #[.agg #[.int .i64 m.fr, .int .i64 m.tt, .int .i64 m.ki, .int .i64 m.bau, .int .i64 m.bnu, .slice m.bta m.btn m.btc, .int .i64 m.hau, .int .i64 m.hrd, .slice m.hba m.hbn m.hbc, .slice m.hpa m.hpn m.hpc, .int .i64 m.sau, .int .i64 m.srd, .slice m.sda m.sdn m.sdc, .int .i64 m.cau, .int .i64 m.crd, .slice m.cba m.cbn m.cbc, .slice m.cpa m.cpn m.cpc, .slice m.cva m.cvn m.cvc, .int .i64 m.ro]] w1 fun e w' => e = .returned (.int .i64 0) ∧ Below w1.heap.size w1 w') :
    Calls Tryz.prog 23 #[.agg #[.int .i64 m.fr, .int .i64 m.tt, .int .i64 m.ki, .int .i64 m.bau, .int .i64 m.bnu, .slice m.bta m.btn m.btc, .int .i64 m.hau, .int .i64 m.hrd, .slice m.hba m.hbn m.hbc, .slice m.hpa m.hpn m.hpc, .int .i64 m.sau, .int .i64 m.srd, .slice m.sda m.sdn m.sdc, .int .i64 m.cau, .int .i64 m.crd, .slice m.cba m.cbn m.cbc, .slice m.cpa m.cpn m.cpc, .slice m.cva m.cvn m.cvc, .int .i64 m.ro]] w fun e w' => ∃ v, e = .returned (.tuple #[v, .int .i64 0]) ∧ w'.ownsRow w.heap.size 5 1 v (3 + (batchB m.bau m.bnu ss).length) (ub ([1, m.fr, m.tt] ++ batchB m.bau m.bnu ss)) ∧ Below w.heap.size w w' := by
  have hq := heap_alloc_new w (.cells #[.int .i64 m.fr, .int .i64 m.tt, .int .i64 m.ki, .int .i64 m.bau, .int .i64 m.bnu, .slice m.bta m.btn m.btc, .int .i64 m.hau, .int .i64 m.hrd, .slice m.hba m.hbn m.hbc, .slice m.hpa m.hpn m.hpc, .int .i64 m.sau, .int .i64 m.srd, .slice m.sda m.sdn m.sdc, .int .i64 m.cau, .int .i64 m.crd, .slice m.cba m.cbn m.cbc, .slice m.cpa m.cpn m.cpc, .slice m.cva m.cvn m.cvc, .int .i64 m.ro] 78)
  have hB : Below w.heap.size w (w.alloc (.cells #[.int .i64 m.fr, .int .i64 m.tt, .int .i64 m.ki, .int .i64 m.bau, .int .i64 m.bnu, .slice m.bta m.btn m.btc, .int .i64 m.hau, .int .i64 m.hrd, .slice m.hba m.hbn m.hbc, .slice m.hpa m.hpn m.hpc, .int .i64 m.sau, .int .i64 m.srd, .slice m.sda m.sdn m.sdc, .int .i64 m.cau, .int .i64 m.crd, .slice m.cba m.cbn m.cbc, .slice m.cpa m.cpn m.cpc, .slice m.cva m.cvn m.cvc, .int .i64 m.ro] 78)) := (Below.refl _ _).alloc (Nat.le_refl _) _
  rw [hk] at hc hq hB ⊢
  obtain ⟨hf0, hf1⟩ := hf
  obtain ⟨ht0, ht1⟩ := ht
  have Hn : Hid (m.btn = ss.length) := hn
  clear hn hk
  go_enter Tryz.func23, Tryz.ntmps23
  go_wp2_with (refine wpList_load_row rfl 78 _ rfl w.heap.size rfl 78 _ (0, 0) _ hq Tryz.underlying78 rfl sMsg ?_)
  refine (hc _ hB).mono ?_
  rintro e w1 ⟨rfl, hb1⟩
  have r1 := row_new hb1
  replace hb1 := below_alloc hb1
  have c0 : w1.cell? ⟨w.heap.size, 0, none⟩ = some (.int .i64 m.fr) := cells_at r1 0 _ rfl
  have c1 : w1.cell? ⟨w.heap.size, 1, none⟩ = some (.int .i64 m.tt) := cells_at r1 1 _ rfl
  have c2 : w1.cell? ⟨w.heap.size, 2, none⟩ = some (.int .i64 1) := cells_at r1 2 _ rfl
  have c3 : w1.cell? ⟨w.heap.size, 3, none⟩ = some (.int .i64 m.bau) := cells_at r1 3 _ rfl
  have c4 : w1.cell? ⟨w.heap.size, 4, none⟩ = some (.int .i64 m.bnu) := cells_at r1 4 _ rfl
  have c5 : w1.cell? ⟨w.heap.size, 5, none⟩ = some (.slice m.bta m.btn m.btc) := cells_at r1 5 _ rfl
  have hlt : w.heap.size < w1.heap.size := lt_of_heap r1
  have hlit := World.ownsRow_lit (base := w1.heap.size) (e := 5) (size := 1) w1 (ub [1, m.fr, m.tt]).toArray 3 (Nat.le_refl _) (by decide) rfl
  go_wp2_with fail
  refine (appendBatch_any w1.heap.size _ 3 [1, m.fr, m.tt] m.bau m.bnu m.bta m.btn m.btc ss _ ha hr Hn.out hl hz ?_ ?_ ?_ (le_alloc (Nat.le_refl _) _) (by decide)).mono ?_
  · exact (hs.below hb1).below ((Below.refl _ _).alloc (Nat.le_refl _) _)
  · intro sb so e
    have := hsb sb so e
    refine ⟨by rw [size_alloc]; omega, fun h => ?_⟩
    simp [Value.ownBlock] at h
    omega
  · exact hlit
  rintro e w2 ⟨v2, rfl, ho2, hG⟩
  have hb2 := hG.below (base := w1.heap.size) (le_alloc (Nat.le_refl _) _) (fun q e => by cases e; exact Nat.le_refl _)
  clear hG
  go_wp2_with fail
  go_ret2
  refine ⟨v2, rfl, ownsRow_base' ho2 hb1.size, ?_⟩
  exact (hb1.alloc hb1.size _).trans (hb2.mono hb1.size)
end Go.Proofs.YtnfcaonmfkbofaaGreatDoor

namespace Go.Proofs.YtnfcaonmfkbofaaGreatDoor
open Go.RowKit

set_option maxRecDepth 100000 in
set_option maxHeartbeats 1000000 in
theorem encode_offer_w (m : Msg) (bl pl : List Part) (w : World) (hk : m.ki = 2) (hf : 0 ≤ m.fr ∧ m.fr < 4) (ht : 0 ≤ m.tt ∧ m.tt < 4) (ha : 0 ≤ m.hau ∧ m.hau < 4) (hr : 0 ≤ m.hrd ∧ m.hrd ≤ 1048576) (hbn : m.hbn = bl.length) (hpn : m.hpn = pl.length) (hbl : bl.length ≤ 4) (hpl : pl.length ≤ 4) (hb32 : ∀ p ∈ bl, p.bs.length = 32) (hp32 : ∀ p ∈ pl, p.bs.length = 32) (hLb : ListAt w m.hba m.hbc bl) (hLp : ListAt w m.hpa m.hpc pl)
    (hc : ∀ w1, Below w.heap.size w w1 → Calls Tryz.prog 38 #[.agg #[.int .i64 m.fr, .int .i64 m.tt, .int .i64 m.ki, .int .i64 m.bau, .int .i64 m.bnu, .slice m.bta m.btn m.btc, .int .i64 m.hau, .int .i64 m.hrd, .slice m.hba m.hbn m.hbc, .slice m.hpa m.hpn m.hpc, .int .i64 m.sau, .int .i64 m.srd, .slice m.sda m.sdn m.sdc, .int .i64 m.cau, .int .i64 m.crd, .slice m.cba m.cbn m.cbc, .slice m.cpa m.cpn m.cpc, .slice m.cva m.cvn m.cvc, .int .i64 m.ro]] w1 fun e w' => e = .returned (.int .i64 0) ∧ Below w1.heap.size w1 w') :
    Calls Tryz.prog 23 #[.agg #[.int .i64 m.fr, .int .i64 m.tt, .int .i64 m.ki, .int .i64 m.bau, .int .i64 m.bnu, .slice m.bta m.btn m.btc, .int .i64 m.hau, .int .i64 m.hrd, .slice m.hba m.hbn m.hbc, .slice m.hpa m.hpn m.hpc, .int .i64 m.sau, .int .i64 m.srd, .slice m.sda m.sdn m.sdc, .int .i64 m.cau, .int .i64 m.crd, .slice m.cba m.cbn m.cbc, .slice m.cpa m.cpn m.cpc, .slice m.cva m.cvn m.cvc, .int .i64 m.ro]] w fun e w' => ∃ v, e = .returned (.tuple #[v, .int .i64 0]) ∧ w'.ownsRow w.heap.size 5 1 v (3 + (headB m.hau m.hrd bl pl).length) (ub ([2, m.fr, m.tt] ++ headB m.hau m.hrd bl pl)) ∧ Below w.heap.size w w' := by
  have hq := heap_alloc_new w (.cells #[.int .i64 m.fr, .int .i64 m.tt, .int .i64 m.ki, .int .i64 m.bau, .int .i64 m.bnu, .slice m.bta m.btn m.btc, .int .i64 m.hau, .int .i64 m.hrd, .slice m.hba m.hbn m.hbc, .slice m.hpa m.hpn m.hpc, .int .i64 m.sau, .int .i64 m.srd, .slice m.sda m.sdn m.sdc, .int .i64 m.cau, .int .i64 m.crd, .slice m.cba m.cbn m.cbc, .slice m.cpa m.cpn m.cpc, .slice m.cva m.cvn m.cvc, .int .i64 m.ro] 78)
  have hB : Below w.heap.size w (w.alloc (.cells #[.int .i64 m.fr, .int .i64 m.tt, .int .i64 m.ki, .int .i64 m.bau, .int .i64 m.bnu, .slice m.bta m.btn m.btc, .int .i64 m.hau, .int .i64 m.hrd, .slice m.hba m.hbn m.hbc, .slice m.hpa m.hpn m.hpc, .int .i64 m.sau, .int .i64 m.srd, .slice m.sda m.sdn m.sdc, .int .i64 m.cau, .int .i64 m.crd, .slice m.cba m.cbn m.cbc, .slice m.cpa m.cpn m.cpc, .slice m.cva m.cvn m.cvc, .int .i64 m.ro] 78)) := (Below.refl _ _).alloc (Nat.le_refl _) _
  rw [hk] at hc hq hB ⊢
  obtain ⟨hf0, hf1⟩ := hf
  obtain ⟨ht0, ht1⟩ := ht
  have Hn : Hid (m.hbn = bl.length) := hbn
  have Hp : Hid (m.hpn = pl.length) := hpn
  clear hbn hpn hk
  go_enter Tryz.func23, Tryz.ntmps23
  go_wp2_with (refine wpList_load_row rfl 78 _ rfl w.heap.size rfl 78 _ (0, 0) _ hq Tryz.underlying78 rfl sMsg ?_)
  refine (hc _ hB).mono ?_
  rintro e w1 ⟨rfl, hb1⟩
  have r1 := row_new hb1
  replace hb1 := below_alloc hb1
  have c0 : w1.cell? ⟨w.heap.size, 0, none⟩ = some (.int .i64 m.fr) := cells_at r1 0 _ rfl
  have c1 : w1.cell? ⟨w.heap.size, 1, none⟩ = some (.int .i64 m.tt) := cells_at r1 1 _ rfl
  have c2 : w1.cell? ⟨w.heap.size, 2, none⟩ = some (.int .i64 2) := cells_at r1 2 _ rfl
  have c6 : w1.cell? ⟨w.heap.size, 6, none⟩ = some (.int .i64 m.hau) := cells_at r1 6 _ rfl
  have c7 : w1.cell? ⟨w.heap.size, 7, none⟩ = some (.int .i64 m.hrd) := cells_at r1 7 _ rfl
  have c8 : w1.cell? ⟨w.heap.size, 8, none⟩ = some (.slice m.hba m.hbn m.hbc) := cells_at r1 8 _ rfl
  have c9 : w1.cell? ⟨w.heap.size, 9, none⟩ = some (.slice m.hpa m.hpn m.hpc) := cells_at r1 9 _ rfl
  have hlt : w.heap.size < w1.heap.size := lt_of_heap r1
  have hlit := World.ownsRow_lit (base := w1.heap.size) (e := 5) (size := 1) w1 (ub [2, m.fr, m.tt]).toArray 3 (Nat.le_refl _) (by decide) rfl
  have hA1 : Below w1.heap.size w1 (w1.alloc (.cells (ub [2, m.fr, m.tt]).toArray 5)) := (Below.refl _ _).alloc (Nat.le_refl _) _
  have oo : ∀ (ra : Option Addr) (rc : Nat) (qs : List Part), ListAt w ra rc qs → OffW (w1.alloc (.cells (ub [2, m.fr, m.tt]).toArray 5)) (.slice (some ⟨w1.heap.size, 0, none⟩) 3 3) ra qs := fun ra rc qs h =>
    offW_of_list (h.below hb1) (le_alloc (Nat.le_refl _) _) (fun sb hl e => by have e' : w1.heap.size = sb := (by simpa [Value.ownBlock] using e); omega)
  have hH := appendHeader_w w1.heap.size (.slice (some ⟨w1.heap.size, 0, none⟩) 3 3) 3 [2, m.fr, m.tt] m.hau m.hrd m.hba m.hbn m.hbc bl m.hpa m.hpn m.hpc pl _ ha hr Hn.out Hp.out hbl hpl hb32 hp32 ((hLb.below hb1).below hA1) (oo _ _ _ hLb) ((hLp.below hb1).below hA1) (oo _ _ _ hLp) hlit (le_alloc (Nat.le_refl _) _) (by decide)
  clear oo
  go_wp2_with fail
  refine hH.mono ?_
  rintro e w2 ⟨v2, rfl, ho2, hG⟩
  have hb2 := hG.below (base := w1.heap.size) (le_alloc (Nat.le_refl _) _) (fun q e => by cases e; exact Nat.le_refl _)
  clear hG hH
  go_wp2_with fail
  go_ret2
  refine ⟨v2, rfl, ownsRow_base' ho2 hb1.size, ?_⟩
  exact (hb1.alloc hb1.size _).trans (hb2.mono hb1.size)
set_option maxRecDepth 100000 in
theorem encode_offer (m : Msg) (bl pl : List Part) (w : World) (hk : m.ki = 2) (hf : 0 ≤ m.fr ∧ m.fr < 4) (ht : 0 ≤ m.tt ∧ m.tt < 4) (ha : 0 ≤ m.hau ∧ m.hau < 4) (hr : 0 ≤ m.hrd ∧ m.hrd ≤ 1048576) (hbn : m.hbn = bl.length) (hpn : m.hpn = pl.length) (hbl : bl.length ≤ 4) (hpl : pl.length ≤ 4) (hb32 : ∀ p ∈ bl, p.bs.length = 32) (hp32 : ∀ p ∈ pl, p.bs.length = 32) (hLb : ListAt w m.hba m.hbc bl) (hLp : ListAt w m.hpa m.hpc pl) (_hOb : Off w (.slice none 0 0) m.hba bl) (_hOp : Off w (.slice none 0 0) m.hpa pl)
    (hc : ∀ w1, Below w.heap.size w w1 → Calls Tryz.prog 38 #[.agg #[.int .i64 m.fr, .int .i64 m.tt, .int .i64 m.ki, .int .i64 m.bau, .int .i64 m.bnu, .slice m.bta m.btn m.btc, .int .i64 m.hau, .int .i64 m.hrd, .slice m.hba m.hbn m.hbc, .slice m.hpa m.hpn m.hpc, .int .i64 m.sau, .int .i64 m.srd, .slice m.sda m.sdn m.sdc, .int .i64 m.cau, .int .i64 m.crd, .slice m.cba m.cbn m.cbc, .slice m.cpa m.cpn m.cpc, .slice m.cva m.cvn m.cvc, .int .i64 m.ro]] w1 fun e w' => e = .returned (.int .i64 0) ∧ Below w1.heap.size w1 w') :
    Calls Tryz.prog 23 #[.agg #[.int .i64 m.fr, .int .i64 m.tt, .int .i64 m.ki, .int .i64 m.bau, .int .i64 m.bnu, .slice m.bta m.btn m.btc, .int .i64 m.hau, .int .i64 m.hrd, .slice m.hba m.hbn m.hbc, .slice m.hpa m.hpn m.hpc, .int .i64 m.sau, .int .i64 m.srd, .slice m.sda m.sdn m.sdc, .int .i64 m.cau, .int .i64 m.crd, .slice m.cba m.cbn m.cbc, .slice m.cpa m.cpn m.cpc, .slice m.cva m.cvn m.cvc, .int .i64 m.ro]] w fun e w' => ∃ v, e = .returned (.tuple #[v, .int .i64 0]) ∧ w'.ownsRow w.heap.size 5 1 v (3 + (headB m.hau m.hrd bl pl).length) (ub ([2, m.fr, m.tt] ++ headB m.hau m.hrd bl pl)) ∧ Below w.heap.size w w' :=
  encode_offer_w m bl pl w hk hf ht ha hr hbn hpn hbl hpl hb32 hp32 hLb hLp hc
end Go.Proofs.YtnfcaonmfkbofaaGreatDoor

namespace Go.Proofs.YtnfcaonmfkbofaaGreatDoor
open Go.RowKit

set_option maxRecDepth 100000 in
set_option maxHeartbeats 1000000 in
theorem appendSlot_any (base : Nat) (v : Value) (k : Nat) (bs : List Int) (au rd : Int) (sa : Option Addr) (n cap : Nat) (ds : List Int) (w : World) (ha : 0 ≤ au ∧ au < 4) (hr : 0 ≤ rd ∧ rd ≤ 1048576) (hn : n = ds.length) (hs : SliceAt w sa cap ds) (hne : ∀ sb so, sa = some ⟨sb, so, none⟩ → sb < w.heap.size ∧ v.ownBlock ≠ some sb)
    (ho : w.ownsRow base 5 1 v k (ub bs)) (hB : base ≤ w.heap.size) (hk : k ≤ 90000) (hn2 : n ≤ 4000) :
    Calls Tryz.prog 41 #[v, .agg #[.int .i64 au, .int .i64 rd, .slice sa n cap]] w fun e w' => ∃ v', e = .returned v' ∧ w'.ownsRow base 5 1 v' (k + 1 + 3 + n) (ub (bs ++ [au] ++ rd3 rd ++ ds)) ∧ Grew w v w' v' := by
  subst hn
  obtain ⟨i, hi, hz0, hz1, hz2⟩ := info_parts infoU8
  obtain ⟨ha0, ha1⟩ := ha
  have hvne : v.ownBlock ≠ some w.heap.size := fun e => by have := (ho.lt _ e).2; omega
  go_enter Tryz.func41, Tryz.ntmps41
  go_wp2_with (at_builtin; refine wpList_append_own_at _ rfl _ _ 51 rfl base 5 i (.int .u8 0) 1 1 Tryz.underlying51 hi hz0 hz1 hz2 rfl (by decide) _ k _ rfl (World.ownsRow.alloc (World.ownsRow.alloc ho _) _) ⟨w.heap.size + 1, 0, none⟩ 1 1 [.int .u8 au] rfl rfl (by have := cells_new (w.alloc (.cells #[.int .i64 au, .int .i64 rd, .slice sa ds.length cap] 53)) [.int .u8 au] 5; rw [size_alloc] at this; exact this) (u8_one [_]) (by unfold maxLen; omega) (by omega) (le_alloc (le_alloc hB _) _) ?_; intro v1 w1 ho1 hg1 _ hat; have G1 := Grew.of hg1 hat; have r1 := G1.row (heap_alloc2_old w _ _) hvne; have c1 : w1.cell? ⟨w.heap.size, 1, none⟩ = some (.int .i64 rd) := cells_at r1 1 _ rfl)
  have ho1' : w1.ownsRow base 5 1 v1 (k + 1) (ub (bs ++ [au])) := by simpa [ub] using ho1
  have hw1 : w.heap.size < w1.heap.size := lt_of_heap r1
  have hv1ne : v1.ownBlock ≠ some w.heap.size := fun e => by
    rcases G1.fresh _ e with g | g
    · exact hvne g
    · rw [size_alloc, size_alloc] at g; omega
  have hs1 : SliceAt w1 sa cap ds := G1.slice (hs.below (((Below.refl _ _).alloc (Nat.le_refl _) _).alloc (by simp) _)) (fun sb so e => (hne sb so e).2)
  have hsne1 : ∀ sb so, sa = some ⟨sb, so, none⟩ → v1.ownBlock ≠ some sb := fun sb so e h => by
    rcases G1.fresh _ h with g | g
    · exact (hne sb so e).2 g
    · have := (hne sb so e).1; rw [size_alloc, size_alloc] at g; omega
  have G0 := G1.alloc.alloc
  clear ho1 hg1 hat G1
  refine (appendRound_any base v1 (k + 1) _ rd _ hr ho1' (Nat.le_trans hB G0.grown.size) (by omega)).mono ?_
  rintro e w2 ⟨v2, rfl, ho2, G2⟩
  have r2 := G2.row r1 hv1ne
  have c2 : w2.cell? ⟨w.heap.size, 2, none⟩ = some (.slice sa ds.length cap) := cells_at r2 2 _ rfl
  have hs2 := G2.slice hs1 hsne1
  have G02 := G0.trans G2
  clear r1 c1
  go_wp2_with (at_builtin; refine wpList_append_part_at rfl _ _ rfl base v2 (k + 1 + 3) _ rfl ho2 sa ds.length cap ds rfl rfl hs2 (by omega) (Nat.le_trans hB G02.grown.size) ?_; intro v3 w3 ho3 G3)
  go_ret
  exact ⟨v3, rfl, ho3, G02.trans G3⟩
end Go.Proofs.YtnfcaonmfkbofaaGreatDoor

namespace Go.Proofs.YtnfcaonmfkbofaaGreatDoor
open Go.RowKit

set_option maxRecDepth 100000 in
set_option maxHeartbeats 1000000 in
theorem encode_vote (m : Msg) (ds : List Int) (w : World) (hk : m.ki = 3) (hf : 0 ≤ m.fr ∧ m.fr < 4) (ht : 0 ≤ m.tt ∧ m.tt < 4) (ha : 0 ≤ m.sau ∧ m.sau < 4) (hr : 0 ≤ m.srd ∧ m.srd ≤ 1048576) (hn : m.sdn = ds.length) (hn2 : m.sdn ≤ 4000) (hs : SliceAt w m.sda m.sdc ds) (hsb : ∀ sb so, m.sda = some ⟨sb, so, none⟩ → sb < w.heap.size)
    (hc : ∀ w1, Below w.heap.size w w1 → Calls Tryz.prog 38 #[.agg #[.int .i64 m.fr, .int .i64 m.tt, .int .i64 m.ki, .int .i64 m.bau, .int .i64 m.bnu, .slice m.bta m.btn m.btc, .int .i64 m.hau, .int .i64 m.hrd, .slice m.hba m.hbn m.hbc, .slice m.hpa m.hpn m.hpc, .int .i64 m.sau, .int .i64 m.srd, .slice m.sda m.sdn m.sdc, .int .i64 m.cau, .int .i64 m.crd, .slice m.cba m.cbn m.cbc, .slice m.cpa m.cpn m.cpc, .slice m.cva m.cvn m.cvc, .int .i64 m.ro]] w1 fun e w' => e = .returned (.int .i64 0) ∧ Below w1.heap.size w1 w') :
    Calls Tryz.prog 23 #[.agg #[.int .i64 m.fr, .int .i64 m.tt, .int .i64 m.ki, .int .i64 m.bau, .int .i64 m.bnu, .slice m.bta m.btn m.btc, .int .i64 m.hau, .int .i64 m.hrd, .slice m.hba m.hbn m.hbc, .slice m.hpa m.hpn m.hpc, .int .i64 m.sau, .int .i64 m.srd, .slice m.sda m.sdn m.sdc, .int .i64 m.cau, .int .i64 m.crd, .slice m.cba m.cbn m.cbc, .slice m.cpa m.cpn m.cpc, .slice m.cva m.cvn m.cvc, .int .i64 m.ro]] w fun e w' => ∃ v, e = .returned (.tuple #[v, .int .i64 0]) ∧ w'.ownsRow w.heap.size 5 1 v (3 + 1 + 3 + m.sdn) (ub ([3, m.fr, m.tt] ++ [m.sau] ++ rd3 m.srd ++ ds)) ∧ Below w.heap.size w w' := by
  rw [hk] at hc ⊢
  obtain ⟨hf0, hf1⟩ := hf
  obtain ⟨ht0, ht1⟩ := ht
  have hq := heap_alloc_new w (.cells #[.int .i64 m.fr, .int .i64 m.tt, .int .i64 3, .int .i64 m.bau, .int .i64 m.bnu, .slice m.bta m.btn m.btc, .int .i64 m.hau, .int .i64 m.hrd, .slice m.hba m.hbn m.hbc, .slice m.hpa m.hpn m.hpc, .int .i64 m.sau, .int .i64 m.srd, .slice m.sda m.sdn m.sdc, .int .i64 m.cau, .int .i64 m.crd, .slice m.cba m.cbn m.cbc, .slice m.cpa m.cpn m.cpc, .slice m.cva m.cvn m.cvc, .int .i64 m.ro] 78)
  have hB : Below w.heap.size w (w.alloc (.cells #[.int .i64 m.fr, .int .i64 m.tt, .int .i64 3, .int .i64 m.bau, .int .i64 m.bnu, .slice m.bta m.btn m.btc, .int .i64 m.hau, .int .i64 m.hrd, .slice m.hba m.hbn m.hbc, .slice m.hpa m.hpn m.hpc, .int .i64 m.sau, .int .i64 m.srd, .slice m.sda m.sdn m.sdc, .int .i64 m.cau, .int .i64 m.crd, .slice m.cba m.cbn m.cbc, .slice m.cpa m.cpn m.cpc, .slice m.cva m.cvn m.cvc, .int .i64 m.ro] 78)) := (Below.refl _ _).alloc (Nat.le_refl _) _
  have Hn : Hid (m.sdn = ds.length) := hn
  clear hn
  go_enter Tryz.func23, Tryz.ntmps23
  go_wp2_with (refine wpList_load_row rfl 78 _ rfl w.heap.size rfl 78 #[.int .i64 m.fr, .int .i64 m.tt, .int .i64 3, .int .i64 m.bau, .int .i64 m.bnu, .slice m.bta m.btn m.btc, .int .i64 m.hau, .int .i64 m.hrd, .slice m.hba m.hbn m.hbc, .slice m.hpa m.hpn m.hpc, .int .i64 m.sau, .int .i64 m.srd, .slice m.sda m.sdn m.sdc, .int .i64 m.cau, .int .i64 m.crd, .slice m.cba m.cbn m.cbc, .slice m.cpa m.cpn m.cpc, .slice m.cva m.cvn m.cvc, .int .i64 m.ro] (0, 0) _ hq Tryz.underlying78 rfl sMsg ?_)
  refine (hc _ hB).mono ?_
  rintro e w1 ⟨rfl, hb1⟩
  have r1 := row_new hb1
  replace hb1 := below_alloc hb1
  have c0 : w1.cell? ⟨w.heap.size, 0, none⟩ = some (.int .i64 m.fr) := cells_at r1 0 _ rfl
  have c1 : w1.cell? ⟨w.heap.size, 1, none⟩ = some (.int .i64 m.tt) := cells_at r1 1 _ rfl
  have c2 : w1.cell? ⟨w.heap.size, 2, none⟩ = some (.int .i64 3) := cells_at r1 2 _ rfl
  have c10 : w1.cell? ⟨w.heap.size, 10, none⟩ = some (.int .i64 m.sau) := cells_at r1 10 _ rfl
  have c11 : w1.cell? ⟨w.heap.size, 11, none⟩ = some (.int .i64 m.srd) := cells_at r1 11 _ rfl
  have c12 : w1.cell? ⟨w.heap.size, 12, none⟩ = some (.slice m.sda m.sdn m.sdc) := cells_at r1 12 _ rfl
  have hlt : w.heap.size < w1.heap.size := lt_of_heap r1
  have hlit := World.ownsRow_lit (base := w1.heap.size) (e := 5) (size := 1) w1 (ub [3, m.fr, m.tt]).toArray 3 (Nat.le_refl _) (by decide) rfl
  go_wp2_with fail
  refine (appendSlot_any w1.heap.size _ 3 [3, m.fr, m.tt] m.sau m.srd m.sda m.sdn m.sdc ds _ ha hr Hn.out ?_ ?_ ?_ (le_alloc (Nat.le_refl _) _) (by decide) hn2).mono ?_
  · exact (hs.below hb1).below ((Below.refl _ _).alloc (Nat.le_refl _) _)
  · intro sb so e
    have := hsb sb so e
    refine ⟨by rw [size_alloc]; omega, fun h => ?_⟩
    simp [Value.ownBlock] at h
    omega
  · exact hlit
  rintro e w2 ⟨v2, rfl, ho2, hG⟩
  have hb2 := hG.below (base := w1.heap.size) (le_alloc (Nat.le_refl _) _) (fun q e => by cases e; exact Nat.le_refl _)
  clear hG
  go_wp2_with fail
  go_ret2
  refine ⟨v2, rfl, ownsRow_base' ho2 hb1.size, ?_⟩
  exact (hb1.alloc hb1.size _).trans (hb2.mono hb1.size)
end Go.Proofs.YtnfcaonmfkbofaaGreatDoor
