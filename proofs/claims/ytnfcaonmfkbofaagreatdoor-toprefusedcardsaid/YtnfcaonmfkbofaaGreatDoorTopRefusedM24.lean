/- Gears (raw acts of sheavestop) that are read; the argument that is one, and the one that is a list of them. -/
import Derived.Test.YtnfcaonmfkbofaaGreatDoorTopRefusedM18
import Derived.Test.YtnfcaonmfkbofaaGreatDoorTopRefusedM6
import Derived.Test.YtnfcaonmfkbofaaGreatDoorAppR
import Derived.Test.YtnfcaonmfkbofaaGreatDoorCalls
import Derived.Test.YtnfcaonmfkbofaaGreatDoorTpAv
import Derived.Test.YtnfcaonmfkbofaaGreatDoorLnC
import Derived.Test.YtnfcaonmfkbofaaGreatDoorPicked
import Derived.Test.YtnfcaonmfkbofaaGreatDoorTopRefusedM0
import Derived.Deep.RegionHeld3
import Derived.Test.YtnfcaonmfkbofaaGreatDoorOpenB
import Derived.Deep.Strs
import Derived.Deep.Slices
namespace Go.Proofs.YtnfcaonmfkbofaaGreatDoor
open Go.RowKit

set_option maxRecDepth 100000 in
set_option maxHeartbeats 1000000 in
theorem encode_proof_w (m : Msg) (bl pl : List Part) (vl : List Int) (w : World) (hk : m.ki = 4) (hf : 0 ≤ m.fr ∧ m.fr < 4) (ht : 0 ≤ m.tt ∧ m.tt < 4) (ha : 0 ≤ m.cau ∧ m.cau < 4) (hr : 0 ≤ m.crd ∧ m.crd ≤ 1048576) (hbn : m.cbn = bl.length) (hpn : m.cpn = pl.length) (hbl : bl.length ≤ 4) (hpl : pl.length ≤ 4) (hb32 : ∀ p ∈ bl, p.bs.length = 32) (hp32 : ∀ p ∈ pl, p.bs.length = 32) (hLb : ListAt w m.cba m.cbc bl) (hLp : ListAt w m.cpa m.cpc pl) (hvn : m.cvn = vl.length) (hvl : vl.length ≤ 4) (hv4 : ∀ x ∈ vl, 0 ≤ x ∧ x < 4) (hI : IntsAt w m.cva vl) (hvb : ∀ sb so, m.cva = some ⟨sb, so, none⟩ → sb < w.heap.size)
    (hc : ∀ w1, Below w.heap.size w w1 → Calls Tryz.prog 38 #[.agg #[.int .i64 m.fr, .int .i64 m.tt, .int .i64 m.ki, .int .i64 m.bau, .int .i64 m.bnu, .slice m.bta m.btn m.btc, .int .i64 m.hau, .int .i64 m.hrd, .slice m.hba m.hbn m.hbc, .slice m.hpa m.hpn m.hpc, .int .i64 m.sau, .int .i64 m.srd, .slice m.sda m.sdn m.sdc, .int .i64 m.cau, .int .i64 m.crd, .slice m.cba m.cbn m.cbc, .slice m.cpa m.cpn m.cpc, .slice m.cva m.cvn m.cvc, .int .i64 m.ro]] w1 fun e w' => e = .returned (.int .i64 0) ∧ Below w1.heap.size w1 w') :
    Calls Tryz.prog 23 #[.agg #[.int .i64 m.fr, .int .i64 m.tt, .int .i64 m.ki, .int .i64 m.bau, .int .i64 m.bnu, .slice m.bta m.btn m.btc, .int .i64 m.hau, .int .i64 m.hrd, .slice m.hba m.hbn m.hbc, .slice m.hpa m.hpn m.hpc, .int .i64 m.sau, .int .i64 m.srd, .slice m.sda m.sdn m.sdc, .int .i64 m.cau, .int .i64 m.crd, .slice m.cba m.cbn m.cbc, .slice m.cpa m.cpn m.cpc, .slice m.cva m.cvn m.cvc, .int .i64 m.ro]] w fun e w' => ∃ v, e = .returned (.tuple #[v, .int .i64 0]) ∧ w'.ownsRow w.heap.size 5 1 v (3 + (certB m.cau m.crd bl pl vl).length) (ub ([4, m.fr, m.tt] ++ certB m.cau m.crd bl pl vl)) ∧ Below w.heap.size w w' := by
  have hq := heap_alloc_new w (.cells #[.int .i64 m.fr, .int .i64 m.tt, .int .i64 m.ki, .int .i64 m.bau, .int .i64 m.bnu, .slice m.bta m.btn m.btc, .int .i64 m.hau, .int .i64 m.hrd, .slice m.hba m.hbn m.hbc, .slice m.hpa m.hpn m.hpc, .int .i64 m.sau, .int .i64 m.srd, .slice m.sda m.sdn m.sdc, .int .i64 m.cau, .int .i64 m.crd, .slice m.cba m.cbn m.cbc, .slice m.cpa m.cpn m.cpc, .slice m.cva m.cvn m.cvc, .int .i64 m.ro] 78)
  have hB : Below w.heap.size w (w.alloc (.cells #[.int .i64 m.fr, .int .i64 m.tt, .int .i64 m.ki, .int .i64 m.bau, .int .i64 m.bnu, .slice m.bta m.btn m.btc, .int .i64 m.hau, .int .i64 m.hrd, .slice m.hba m.hbn m.hbc, .slice m.hpa m.hpn m.hpc, .int .i64 m.sau, .int .i64 m.srd, .slice m.sda m.sdn m.sdc, .int .i64 m.cau, .int .i64 m.crd, .slice m.cba m.cbn m.cbc, .slice m.cpa m.cpn m.cpc, .slice m.cva m.cvn m.cvc, .int .i64 m.ro] 78)) := (Below.refl _ _).alloc (Nat.le_refl _) _
  rw [hk] at hc hq hB ⊢
  obtain ⟨hf0, hf1⟩ := hf
  obtain ⟨ht0, ht1⟩ := ht
  have Hn : Hid (m.cbn = bl.length) := hbn
  have Hp : Hid (m.cpn = pl.length) := hpn
  have Hv : Hid (m.cvn = vl.length) := hvn
  clear hbn hpn hvn hk
  go_enter Tryz.func23, Tryz.ntmps23
  go_wp2_with (refine wpList_load_row rfl 78 _ rfl w.heap.size rfl 78 _ (0, 0) _ hq Tryz.underlying78 rfl sMsg ?_)
  refine (hc _ hB).mono ?_
  rintro e w1 ⟨rfl, hb1⟩
  have r1 := row_new hb1
  replace hb1 := below_alloc hb1
  have c0 : w1.cell? ⟨w.heap.size, 0, none⟩ = some (.int .i64 m.fr) := cells_at r1 0 _ rfl
  have c1 : w1.cell? ⟨w.heap.size, 1, none⟩ = some (.int .i64 m.tt) := cells_at r1 1 _ rfl
  have c2 : w1.cell? ⟨w.heap.size, 2, none⟩ = some (.int .i64 4) := cells_at r1 2 _ rfl
  have c13 : w1.cell? ⟨w.heap.size, 13, none⟩ = some (.int .i64 m.cau) := cells_at r1 13 _ rfl
  have c14 : w1.cell? ⟨w.heap.size, 14, none⟩ = some (.int .i64 m.crd) := cells_at r1 14 _ rfl
  have c15 : w1.cell? ⟨w.heap.size, 15, none⟩ = some (.slice m.cba m.cbn m.cbc) := cells_at r1 15 _ rfl
  have c16 : w1.cell? ⟨w.heap.size, 16, none⟩ = some (.slice m.cpa m.cpn m.cpc) := cells_at r1 16 _ rfl
  have c17 : w1.cell? ⟨w.heap.size, 17, none⟩ = some (.slice m.cva m.cvn m.cvc) := cells_at r1 17 _ rfl
  have hlt : w.heap.size < w1.heap.size := lt_of_heap r1
  have hlit := World.ownsRow_lit (base := w1.heap.size) (e := 5) (size := 1) w1 (ub [4, m.fr, m.tt]).toArray 3 (Nat.le_refl _) (by decide) rfl
  have hA1 : Below w1.heap.size w1 (w1.alloc (.cells (ub [4, m.fr, m.tt]).toArray 5)) := (Below.refl _ _).alloc (Nat.le_refl _) _
  have oo : ∀ (ra : Option Addr) (rc : Nat) (qs : List Part), ListAt w ra rc qs → OffW (w1.alloc (.cells (ub [4, m.fr, m.tt]).toArray 5)) (.slice (some ⟨w1.heap.size, 0, none⟩) 3 3) ra qs := fun ra rc qs h =>
    offW_of_list (h.below hb1) (le_alloc (Nat.le_refl _) _) (fun sb hl e => by have e' : w1.heap.size = sb := (by simpa [Value.ownBlock] using e); omega)
  have hH := appendCert_w w1.heap.size (.slice (some ⟨w1.heap.size, 0, none⟩) 3 3) 3 [4, m.fr, m.tt] m.cau m.crd m.cba m.cbn m.cbc bl m.cpa m.cpn m.cpc pl m.cva m.cvn m.cvc vl _ ha hr Hn.out Hp.out Hv.out hbl hpl hvl hb32 hp32 hv4 ((hLb.below hb1).below hA1) (oo _ _ _ hLb) ((hLp.below hb1).below hA1) (oo _ _ _ hLp) ((hI.below hb1).below hA1) (fun sb so e => by have g := hvb sb so e; refine ⟨by rw [size_alloc]; omega, fun h => ?_⟩; have h' : w1.heap.size = sb := (by simpa [Value.ownBlock] using h); omega) hlit (le_alloc (Nat.le_refl _) _) (by decide)
  clear oo
  go_wp2_with fail
  refine hH.mono ?_
  rintro e w2 ⟨v2, rfl, ho2, hG⟩
  have hb2 := hG.below (base := w1.heap.size) (le_alloc (Nat.le_refl _) _) (fun q e => by cases e; exact Nat.le_refl _)
  clear hG hH
  go_wp2_with fail
  go_ret2
  refine ⟨v2, rfl, ownsRow_base' ho2 hb1.size, ?_⟩
  exact (hb1.alloc hb1.size _).trans (hb2.mono hb1.size)
set_option maxRecDepth 100000 in
theorem encode_proof (m : Msg) (bl pl : List Part) (vl : List Int) (w : World) (hk : m.ki = 4) (hf : 0 ≤ m.fr ∧ m.fr < 4) (ht : 0 ≤ m.tt ∧ m.tt < 4) (ha : 0 ≤ m.cau ∧ m.cau < 4) (hr : 0 ≤ m.crd ∧ m.crd ≤ 1048576) (hbn : m.cbn = bl.length) (hpn : m.cpn = pl.length) (hbl : bl.length ≤ 4) (hpl : pl.length ≤ 4) (hb32 : ∀ p ∈ bl, p.bs.length = 32) (hp32 : ∀ p ∈ pl, p.bs.length = 32) (hLb : ListAt w m.cba m.cbc bl) (hLp : ListAt w m.cpa m.cpc pl) (_hOb : Off w (.slice none 0 0) m.cba bl) (_hOp : Off w (.slice none 0 0) m.cpa pl) (hvn : m.cvn = vl.length) (hvl : vl.length ≤ 4) (hv4 : ∀ x ∈ vl, 0 ≤ x ∧ x < 4) (hI : IntsAt w m.cva vl) (hvb : ∀ sb so, m.cva = some ⟨sb, so, none⟩ → sb < w.heap.size)
    (hc : ∀ w1, Below w.heap.size w w1 → Calls Tryz.prog 38 #[.agg #[.int .i64 m.fr, .int .i64 m.tt, .int .i64 m.ki, .int .i64 m.bau, .int .i64 m.bnu, .slice m.bta m.btn m.btc, .int .i64 m.hau, .int .i64 m.hrd, .slice m.hba m.hbn m.hbc, .slice m.hpa m.hpn m.hpc, .int .i64 m.sau, .int .i64 m.srd, .slice m.sda m.sdn m.sdc, .int .i64 m.cau, .int .i64 m.crd, .slice m.cba m.cbn m.cbc, .slice m.cpa m.cpn m.cpc, .slice m.cva m.cvn m.cvc, .int .i64 m.ro]] w1 fun e w' => e = .returned (.int .i64 0) ∧ Below w1.heap.size w1 w') :
    Calls Tryz.prog 23 #[.agg #[.int .i64 m.fr, .int .i64 m.tt, .int .i64 m.ki, .int .i64 m.bau, .int .i64 m.bnu, .slice m.bta m.btn m.btc, .int .i64 m.hau, .int .i64 m.hrd, .slice m.hba m.hbn m.hbc, .slice m.hpa m.hpn m.hpc, .int .i64 m.sau, .int .i64 m.srd, .slice m.sda m.sdn m.sdc, .int .i64 m.cau, .int .i64 m.crd, .slice m.cba m.cbn m.cbc, .slice m.cpa m.cpn m.cpc, .slice m.cva m.cvn m.cvc, .int .i64 m.ro]] w fun e w' => ∃ v, e = .returned (.tuple #[v, .int .i64 0]) ∧ w'.ownsRow w.heap.size 5 1 v (3 + (certB m.cau m.crd bl pl vl).length) (ub ([4, m.fr, m.tt] ++ certB m.cau m.crd bl pl vl)) ∧ Below w.heap.size w w' :=
  encode_proof_w m bl pl vl w hk hf ht ha hr hbn hpn hbl hpl hb32 hp32 hLb hLp hvn hvl hv4 hI hvb hc
end Go.Proofs.YtnfcaonmfkbofaaGreatDoor

namespace Go.Proofs.YtnfcaonmfkbofaaGreatDoor
open Go.RowKit

set_option maxRecDepth 100000 in
set_option maxHeartbeats 1000000 in
theorem encode_want (m : Msg) (w : World) (hk : m.ki = 5) (hf : 0 ≤ m.fr ∧ m.fr < 4) (ht : 0 ≤ m.tt ∧ m.tt < 4) (hr : 0 ≤ m.ro ∧ m.ro ≤ 1048576)
    (hc : ∀ w1, Below w.heap.size w w1 → Calls Tryz.prog 38 #[.agg #[.int .i64 m.fr, .int .i64 m.tt, .int .i64 m.ki, .int .i64 m.bau, .int .i64 m.bnu, .slice m.bta m.btn m.btc, .int .i64 m.hau, .int .i64 m.hrd, .slice m.hba m.hbn m.hbc, .slice m.hpa m.hpn m.hpc, .int .i64 m.sau, .int .i64 m.srd, .slice m.sda m.sdn m.sdc, .int .i64 m.cau, .int .i64 m.crd, .slice m.cba m.cbn m.cbc, .slice m.cpa m.cpn m.cpc, .slice m.cva m.cvn m.cvc, .int .i64 m.ro]] w1 fun e w' => e = .returned (.int .i64 0) ∧ Below w1.heap.size w1 w') :
    Calls Tryz.prog 23 #[.agg #[.int .i64 m.fr, .int .i64 m.tt, .int .i64 m.ki, .int .i64 m.bau, .int .i64 m.bnu, .slice m.bta m.btn m.btc, .int .i64 m.hau, .int .i64 m.hrd, .slice m.hba m.hbn m.hbc, .slice m.hpa m.hpn m.hpc, .int .i64 m.sau, .int .i64 m.srd, .slice m.sda m.sdn m.sdc, .int .i64 m.cau, .int .i64 m.crd, .slice m.cba m.cbn m.cbc, .slice m.cpa m.cpn m.cpc, .slice m.cva m.cvn m.cvc, .int .i64 m.ro]] w fun e w' => ∃ v, e = .returned (.tuple #[v, .int .i64 0]) ∧ w'.ownsRow w.heap.size 5 1 v 6 (ub ([5, m.fr, m.tt] ++ rd3 m.ro)) ∧ Below w.heap.size w w' := by
  rw [hk] at hc ⊢
  obtain ⟨hf0, hf1⟩ := hf
  obtain ⟨ht0, ht1⟩ := ht
  have hq := heap_alloc_new w (.cells #[.int .i64 m.fr, .int .i64 m.tt, .int .i64 5, .int .i64 m.bau, .int .i64 m.bnu, .slice m.bta m.btn m.btc, .int .i64 m.hau, .int .i64 m.hrd, .slice m.hba m.hbn m.hbc, .slice m.hpa m.hpn m.hpc, .int .i64 m.sau, .int .i64 m.srd, .slice m.sda m.sdn m.sdc, .int .i64 m.cau, .int .i64 m.crd, .slice m.cba m.cbn m.cbc, .slice m.cpa m.cpn m.cpc, .slice m.cva m.cvn m.cvc, .int .i64 m.ro] 78)
  have hB : Below w.heap.size w (w.alloc (.cells #[.int .i64 m.fr, .int .i64 m.tt, .int .i64 5, .int .i64 m.bau, .int .i64 m.bnu, .slice m.bta m.btn m.btc, .int .i64 m.hau, .int .i64 m.hrd, .slice m.hba m.hbn m.hbc, .slice m.hpa m.hpn m.hpc, .int .i64 m.sau, .int .i64 m.srd, .slice m.sda m.sdn m.sdc, .int .i64 m.cau, .int .i64 m.crd, .slice m.cba m.cbn m.cbc, .slice m.cpa m.cpn m.cpc, .slice m.cva m.cvn m.cvc, .int .i64 m.ro] 78)) := (Below.refl _ _).alloc (Nat.le_refl _) _
  go_enter Tryz.func23, Tryz.ntmps23
  go_wp2_with (refine wpList_load_row rfl 78 _ rfl w.heap.size rfl 78 #[.int .i64 m.fr, .int .i64 m.tt, .int .i64 5, .int .i64 m.bau, .int .i64 m.bnu, .slice m.bta m.btn m.btc, .int .i64 m.hau, .int .i64 m.hrd, .slice m.hba m.hbn m.hbc, .slice m.hpa m.hpn m.hpc, .int .i64 m.sau, .int .i64 m.srd, .slice m.sda m.sdn m.sdc, .int .i64 m.cau, .int .i64 m.crd, .slice m.cba m.cbn m.cbc, .slice m.cpa m.cpn m.cpc, .slice m.cva m.cvn m.cvc, .int .i64 m.ro] (0, 0) _ hq Tryz.underlying78 rfl sMsg ?_)
  refine (hc _ hB).mono ?_
  rintro e w1 ⟨rfl, hb1⟩
  have r1 := row_new hb1
  replace hb1 := below_alloc hb1
  have c0 := cells_at r1 0 _ rfl
  have c1 := cells_at r1 1 _ rfl
  have c2 := cells_at r1 2 _ rfl
  have c18 := cells_at r1 18 _ rfl
  have hlt : w.heap.size < w1.heap.size := lt_of_heap r1
  have hlit := World.ownsRow_lit (base := w1.heap.size) (e := 5) (size := 1) w1 (ub [5, m.fr, m.tt]).toArray 3 (Nat.le_refl _) (by decide) rfl
  go_wp2_with fail
  refine (appendRound_any w1.heap.size _ 3 [5, m.fr, m.tt] m.ro _ hr ?_ (le_alloc (Nat.le_refl _) _) (by decide)).mono ?_
  · exact hlit
  rintro e w2 ⟨v2, rfl, ho2, hG⟩
  have hb2 := hG.below (base := w1.heap.size) (le_alloc (Nat.le_refl _) _) (fun q e => by cases e; exact Nat.le_refl _)
  clear hG
  go_wp2_with fail
  go_ret2
  refine ⟨v2, rfl, ownsRow_base' ho2 hb1.size, ?_⟩
  exact (hb1.alloc hb1.size _).trans (hb2.mono hb1.size)
end Go.Proofs.YtnfcaonmfkbofaaGreatDoor

namespace Go.Proofs.YtnfcaonmfkbofaaGreatDoor
open Go.RowKit

/-- P2.9: the bytes that are told. -/
def encB (m : Msg) (R : Int) (ss : List ByteArray) (bl pl cbl cpl : List Part) (ds vl : List Int) : List Int := if R = 0 then msgB m ss bl pl cbl cpl ds vl else []
set_option maxRecDepth 100000 in
theorem encode_any (m : Msg) (ss : List ByteArray) (bl pl cbl cpl : List Part) (ds vl : List Int) (w : World) (H : MsgAt w m ss bl pl cbl cpl vl) (hd : SliceAt w m.sda m.sdc ds) (h7 : m.sdn = ds.length) :
    Calls Tryz.prog 23 #[.agg #[.int .i64 m.fr, .int .i64 m.tt, .int .i64 m.ki, .int .i64 m.bau, .int .i64 m.bnu, .slice m.bta m.btn m.btc, .int .i64 m.hau, .int .i64 m.hrd, .slice m.hba m.hbn m.hbc, .slice m.hpa m.hpn m.hpc, .int .i64 m.sau, .int .i64 m.srd, .slice m.sda m.sdn m.sdc, .int .i64 m.cau, .int .i64 m.crd, .slice m.cba m.cbn m.cbc, .slice m.cpa m.cpn m.cpc, .slice m.cva m.cvn m.cvc, .int .i64 m.ro]] w fun e w' => ∃ v, e = .returned (.tuple #[v, .int .i64 (checkF m (carriedF m ss bl pl cbl cpl vl))]) ∧ w'.ownsRow w.heap.size 5 1 v (encB m (checkF m (carriedF m ss bl pl cbl cpl vl)) ss bl pl cbl cpl ds vl).length (ub (encB m (checkF m (carriedF m ss bl pl cbl cpl vl)) ss bl pl cbl cpl ds vl)) ∧ Below w.heap.size w w' := by
  have hC : ∀ w1, Below w.heap.size w w1 → Calls Tryz.prog 38 #[.agg #[.int .i64 m.fr, .int .i64 m.tt, .int .i64 m.ki, .int .i64 m.bau, .int .i64 m.bnu, .slice m.bta m.btn m.btc, .int .i64 m.hau, .int .i64 m.hrd, .slice m.hba m.hbn m.hbc, .slice m.hpa m.hpn m.hpc, .int .i64 m.sau, .int .i64 m.srd, .slice m.sda m.sdn m.sdc, .int .i64 m.cau, .int .i64 m.crd, .slice m.cba m.cbn m.cbc, .slice m.cpa m.cpn m.cpc, .slice m.cva m.cvn m.cvc, .int .i64 m.ro]] w1 fun e w' => e = .returned (.int .i64 (checkF m (carriedF m ss bl pl cbl cpl vl))) ∧ Below w1.heap.size w1 w' := fun w1 hb => check_any m ss bl pl cbl cpl vl w1 (H.below hb)
  by_cases hR : checkF m (carriedF m ss bl pl cbl cpl vl) = 0
  · rw [hR] at hC ⊢
    obtain ⟨hf, ht, hc, _⟩ := checkF_ok hR
    have hE : encB m 0 ss bl pl cbl cpl ds vl = [m.ki, m.fr, m.tt] ++ bodyB m ss bl pl cbl cpl ds vl := rfl
    rw [hE]
    rcases carriedF_kind hc with k | k | k | k | k
    · rw [bodyB1 k]
      rw [carried1 k] at hc
      obtain ⟨g1, g2, g3, g4⟩ := batchF_ok hc
      refine (encode_bundle m ss w k hf ht g1 ⟨by omega, g2.2⟩ H.e1 g3.2 (fun s hs => (g4 s hs).2) H.txs (fun sb so e => ?_) hC).mono ?_
      · rcases H.txs.cells with h | ⟨b, o, e', h⟩
        · rw [h] at g3; simp at g3
        · rw [e] at e'
          simp at e'
          rw [e'.1]
          exact block_lt_of_cell (h 0 (by omega))
      · rintro e w' ⟨v, he, ho, hb⟩
        refine ⟨v, he, ?_, hb⟩
        rw [k, List.length_append]
        exact ho
    · rw [bodyB2 k]
      rw [carried2 k] at hc
      obtain ⟨g1, g2, g3, g4, g5, g6⟩ := headerF_ok hc
      refine (encode_offer_w m bl pl w k hf ht g1 ⟨by omega, g2.2⟩ H.e2 H.e3 (by omega) g4 g5 g6 H.bat H.par hC).mono ?_
      rintro e w' ⟨v, he, ho, hb⟩
      refine ⟨v, he, ?_, hb⟩
      rw [k, List.length_append]
      exact ho
    · rw [bodyB3 k]
      rw [carried3 k] at hc
      obtain ⟨g1, g2, g3⟩ := slotF_ok hc
      refine (encode_vote m ds w k hf ht g1 ⟨by omega, g2.2⟩ h7 (by omega) hd (fun sb so e => ?_) hC).mono ?_
      · rcases hd.bytes with h | ⟨b, o, e', h⟩
        · rw [h] at h7; simp at h7; omega
        · rw [e] at e'
          simp at e'
          rw [e'.1]
          exact block_lt_of_cell (h 0 (by omega))
      · rintro e w' ⟨v, he, ho, hb⟩
        refine ⟨v, he, ?_, hb⟩
        rw [k, show ([3, m.fr, m.tt] ++ ([m.sau] ++ rd3 m.srd ++ ds)).length = 3 + 1 + 3 + m.sdn by simp [rd3, h7]; omega, ← List.append_assoc, ← List.append_assoc]
        exact ho
    · rw [bodyB4 k]
      rw [carried4 k] at hc
      obtain ⟨c1, c2, c3, c4⟩ := certF_ok hc
      obtain ⟨g1, g2, g3, g4, g5, g6⟩ := headerF_ok c1
      refine (encode_proof_w m cbl cpl vl w k hf ht g1 ⟨by omega, g2.2⟩ H.e4 H.e5 (by omega) g4 g5 g6 H.cbat H.cpar H.e6 c2 c4 H.vot (fun sb so e => ?_) hC).mono ?_
      · rcases H.vot.cells with h | ⟨b, o, e', h⟩
        · rw [h] at c3; simp at c3
        · rw [e] at e'
          simp at e'
          rw [e'.1]
          exact block_lt_of_cell (h 0 (by omega))
      · rintro e w' ⟨v, he, ho, hb⟩
        refine ⟨v, he, ?_, hb⟩
        rw [k, List.length_append]
        exact ho
    · rw [bodyB5 k]
      rw [carried5 k] at hc
      have hro : 1 ≤ m.ro ∧ m.ro ≤ 1048576 := by
        rcases Decidable.em (1 ≤ m.ro ∧ m.ro ≤ 1048576) with g | g
        · exact g
        · rw [if_neg g] at hc; cases hc
      refine (encode_want m w k hf ht ⟨by omega, hro.2⟩ hC).mono ?_
      rintro e w' ⟨v, he, ho, hb⟩
      refine ⟨v, he, ?_, hb⟩
      rw [k]
      exact ho
  · refine (encode_bad m _ w hR hC).mono ?_
    rintro e w' ⟨he, hb⟩
    refine ⟨_, he, ?_, hb⟩
    rw [encB, if_neg hR]
    exact World.ownsRow_nil _ _ _ _
end Go.Proofs.YtnfcaonmfkbofaaGreatDoor

namespace Go.Proofs.YtnfcaonmfkbofaaGreatDoor
open Go.RowKit

set_option maxRecDepth 100000 in
theorem step_append_on {ops : Array Oper} {o : Oper} {a : Act} {w : World} {K : Act → World → Prop} {Q : Exit → Act → World → Prop} {E : Prop}
    (hw : Region.wanted o (yielded ops a.tmps) = true) (d : Nat) (hd : o.dst = some d) (s x : Operand) (t : TypeId) (ho : o.op = .call { callee := .builtin .append, args := #[s, x], argTypes := #[t, t] })
    (base : Nat) (e : TypeId) (i : TypeInfo) (z : Value) (size bytes : Nat) (ht : Tryz.prog.underlying t = some (.slice e)) (hi : Tryz.prog.info? e = some i) (hz : i.zero = some z)
    (hsize : i.size = size) (hby : i.bytes = bytes) (hzs : z.cells.size = size) (hsz : 0 < size)
    (v : Value) (n : Nat) (xs : List Value) (hs : a.eval s = v) (hown : w.ownsRow base e size v n xs)
    (ad : Addr) (m c : Nat) (news : List Value) (hx : a.eval x = .slice (some ad) m c) (hl : news.length = m * size) (hnews : ∀ j u, news[j]? = some u → w.cell? (ad.add j) = some u) (h1 : ∀ u ∈ news, u.oneCell' = true)
    (h63 : n + m ≤ maxLen) (hbytes : (n + m) * bytes ≤ 140737488355328) (hbase : base ≤ w.heap.size)
    (hK : ∀ v' w', w'.ownsRow base e size v' (n + m) (xs ++ news) → Grew w v w' v' → K (a.put (some d) v') w') :
    if Region.wanted o (yielded ops a.tmps) = true then Oper.wp Tryz.prog o a w K Q else E := by
  rw [if_pos hw]
  obtain ⟨v', w', hr, h2, h3, _, h5⟩ := run_append_own_at (P := Tryz.prog) w base t o.type e i z size bytes ht hi hz hsize hby hzs hsz v n xs hown ad m c news hl hnews h1 h63 hbytes hbase
  unfold Oper.wp execOp
  simp only [ho, resolve, invoke, builtin, Sem.run_bind, Sem.run_pure, Result.andThen_ok, List.map_toArray, List.map_cons, List.map_nil, hs, hx, hr]
  rw [Oper.upon_value, hd]
  exact hK v' w' h2 (Grew.of h3 h5)
set_option maxRecDepth 100000 in
/-- An operation behind a guard that is no call, and that turns the world. -/
theorem step_run_on {ops : Array Oper} {o : Oper} {a : Act} {w : World} {K : Act → World → Prop} {Q : Exit → Act → World → Prop} {E : Prop}
    (hw : Region.wanted o (yielded ops a.tmps) = true) (d : Nat) (hd : o.dst = some d) (v : Value) (w' : World) (hr : (execOp a.eval o).run Tryz.prog w = .ok (.value v) w') (hK : K (a.put (some d) v) w') :
    if Region.wanted o (yielded ops a.tmps) = true then Oper.wp Tryz.prog o a w K Q else E := by
  rw [if_pos hw]
  unfold Oper.wp
  rw [hr, Oper.upon_value, hd]
  exact hK
set_option maxRecDepth 100000 in
/-- A store as the operation that comes up. -/
theorem step_store {ops : Array Oper} {o : Oper} {a : Act} {w : World} {K : Act → World → Prop} {Q : Exit → Act → World → Prop} {E : Prop}
    (hg : o.guard = none) (hd : o.dst = none) (w' : World) (hr : (execOp a.eval o).run Tryz.prog w = .ok .skip w') (hK : K a w') :
    if Region.wanted o (yielded ops a.tmps) = true then Oper.wp Tryz.prog o a w K Q else E := by
  have hw : Region.wanted o (yielded ops a.tmps) = true := by simp [Region.wanted, hg]
  rw [if_pos hw]
  unfold Oper.wp
  rw [hr, Oper.upon_skip, hd]
  exact hK
end Go.Proofs.YtnfcaonmfkbofaaGreatDoor

namespace Go.Proofs.YtnfcaonmfkbofaaGreatDoor
open Go.RowKit

set_option maxRecDepth 100000 in
theorem picked_out (n m : Int) (w : World) (h0 : -9223372036854775808 ≤ n) (h1 : n ≤ 9223372036854775807) (hm : 0 < m) (hm2 : m ≤ 9223372036854775807) :
    Calls Tryz.prog 8 #[.int .i64 n, .int .i64 m] w fun e w' => e = .returned (.int .i64 (pk n m)) ∧ w = w' := by
  go_enter Tryz.func8, Tryz.ntmps8
  go_wp2_with fail
  refine (picked_any n m w h0 h1 hm hm2).mono ?_
  rintro e w1 ⟨he, hw⟩
  subst he hw
  dsimp only
  go_wp2_with fail
  go_ret
  exact ⟨rfl, rfl⟩
set_option maxRecDepth 100000 in
theorem row_slice {w : World} {b n : Nat} {l : List Int} (h : w.heap[b]? = some (.cells (ub l).toArray 5 (0, 0))) (hn : n = l.length) (hm : n ≤ maxLen) : SliceAt w (some ⟨b, 0, none⟩) n l := by
  subst hn
  refine ⟨Nat.le_refl _, hm, .inr ⟨b, 0, rfl⟩, (fun e => by cases e), .inr ⟨b, 0, rfl, fun j hj => ?_⟩⟩
  rw [cell_of_row w b _ _ _ _ h, Nat.zero_add]
  simp [ub, hj]
set_option maxRecDepth 100000 in
theorem bstr_size (bs : List Int) : (bstr bs).size = bs.length := by
  have h : ∀ (l : List Int) (r : ByteArray), (l.foldl (fun r n => r.push (UInt8.ofNat n.toNat)) r).size = r.size + l.length := by
    intro l
    induction l with
    | nil => intro r; simp
    | cons x l ih => intro r; simp only [List.foldl_cons, List.length_cons]; rw [ih, ByteArray.size_push]; omega
  rw [bstr, h]
  simp
set_option maxRecDepth 100000 in
set_option maxHeartbeats 1000000 in
theorem word_any (k a b : Int) (t : ByteArray) (w : World) (ha : I64 a) (hb : I64 b) :
    Calls Tryz.prog 10 #[.agg #[.int .i64 k, .int .i64 a, .int .i64 b, .string t]] w fun e w' => (∃ s : ByteArray, e = .returned (.string s) ∧ s.size = 3) ∧ Below w.heap.size w w' := by
  obtain ⟨pa0, pa1⟩ := pk_bounds a 20 (by decide)
  obtain ⟨pb0, pb1⟩ := pk_bounds b 20 (by decide)
  have HP : Hid (∀ W : World, Calls Tryz.prog 8 #[.int .i64 a, .int .i64 20] W fun e w' => ∃ v, e = .returned v ∧ (v = .int .i64 (pk a 20) ∧ W = w')) := by
    show ∀ _, _
    intro W
    exact (picked_out a 20 W ha.1 ha.2 (by decide) (by decide)).mono (fun e w' h => ⟨_, h.1, rfl, h.2⟩)
  have HQ : Hid (∀ W : World, Calls Tryz.prog 8 #[.int .i64 b, .int .i64 20] W fun e w' => ∃ v, e = .returned v ∧ (v = .int .i64 (pk b 20) ∧ W = w')) := by
    show ∀ _, _
    intro W
    exact (picked_out b 20 W hb.1 hb.2 (by decide) (by decide)).mono (fun e w' h => ⟨_, h.1, rfl, h.2⟩)
  generalize pk a 20 = A at *
  generalize pk b 20 = B at *
  have hA : Below w.heap.size w (w.alloc (.cells #[.int .i64 k, .int .i64 a, .int .i64 b, .string t] 38)) := (Below.refl _ _).alloc (Nat.le_refl _) _
  have q0 := heap_alloc_new w (.cells #[.int .i64 k, .int .i64 a, .int .i64 b, .string t] 38)
  have hw1 : IntKind.i64.wrap (97 + A) = 97 + A := by rw [IntKind.wrap_i64]; omega
  have hw2 : IntKind.i64.wrap (97 + B) = 97 + B := by rw [IntKind.wrap_i64]; omega
  have hu1 : IntKind.u8.wrap (97 + A) = 97 + A := by simp [IntKind.wrap, IntKind.signed, IntKind.bits]; omega
  have hu2 : IntKind.u8.wrap (97 + B) = 97 + B := by simp [IntKind.wrap, IntKind.signed, IntKind.bits]; omega
  go_enter Tryz.func10, Tryz.ntmps10
  go_upto_region 1 with fail
  generalize w.alloc (.cells #[.int .i64 k, .int .i64 a, .int .i64 b, .string t] 38) = W0 at hA q0 ⊢
  have c1 : W0.drew.cell? ⟨w.heap.size, 1, none⟩ = some (.int .i64 a) := cells_at q0 1 _ rfl
  have c2 : W0.drew.cell? ⟨w.heap.size, 2, none⟩ = some (.int .i64 b) := cells_at q0 2 _ rfl
  have hB := hA.drew
  have hlt : w.heap.size < W0.drew.heap.size := lt_of_heap (w := W0.drew) q0
  refine wp_region_held_drew (S := fun w' => w'.cell? ⟨w.heap.size, 1, none⟩ = some (.int .i64 a) ∧ w'.cell? ⟨w.heap.size, 2, none⟩ = some (.int .i64 b)) (by kernel_rfl) ⟨c1, c2⟩ (fun hHeld => ?_)
  generalize W0.drew = V at c1 c2 hB hlt hHeld ⊢
  refine take_dst (i := 0) (d := 3) (v := .pointer (some ⟨w.heap.size, 1, none⟩)) rfl rfl (by kernel_rfl) (by kernel_rfl) (by kernel_rfl) (fun _ _ _ h => h) (Or.inl ⟨by rfl, ?_⟩) hHeld ?_
  · (intro w0 hSw; (try dsimp only at hSw); go_simp)
  simp only [Act.put, List.setIfInBounds_toArray, List.set_cons_zero, List.set_cons_succ]
  refine take_dst (i := 1) (d := 4) (v := .int .i64 a) rfl rfl (by kernel_rfl) (by kernel_rfl) (by kernel_rfl) (fun _ _ _ h => h) (Or.inl ⟨by rfl, ?_⟩) hHeld ?_
  · (intro w0 hSw; (try dsimp only at hSw); go_simp)
  simp only [Act.put, List.setIfInBounds_toArray, List.set_cons_zero, List.set_cons_succ]
  refine take_dst (i := 5) (d := 8) (v := .pointer (some ⟨w.heap.size, 2, none⟩)) rfl rfl (by kernel_rfl) (by kernel_rfl) (by kernel_rfl) (fun _ _ _ h => h) (Or.inl ⟨by rfl, ?_⟩) hHeld ?_
  · (intro w0 hSw; (try dsimp only at hSw); go_simp)
  simp only [Act.put, List.setIfInBounds_toArray, List.set_cons_zero, List.set_cons_succ]
  refine take_dst (i := 6) (d := 9) (v := .int .i64 b) rfl rfl (by kernel_rfl) (by kernel_rfl) (by kernel_rfl) (fun _ _ _ h => h) (Or.inl ⟨by rfl, ?_⟩) hHeld ?_
  · (intro w0 hSw; (try dsimp only at hSw); go_simp)
  simp only [Act.put, List.setIfInBounds_toArray, List.set_cons_zero, List.set_cons_succ]
  refine wpAnyH_ready (rs := [2]) (by kernel_rfl) (by simp) (AllReadyH.cons rfl (fun K hK => ?_) AllReadyH.nil)
  refine step_calls_dst rfl 5 rfl 8 [.tmp 4, .const (.int .i64 20)] #[3, 3] rfl [.int .i64 a, .int .i64 20] rfl (enters_of Tryz.func8 (by kernel_rfl) rfl) (fun v w' => v = .int .i64 A ∧ V = w') (HP.out V) ?_
  rintro v wq ⟨rfl, hwq⟩
  subst hwq
  refine hK.out _ _ ⟨c1, c2⟩ (fun hHeld => ?_)
  simp only [Act.put, List.setIfInBounds_toArray, List.set_cons_zero, List.set_cons_succ]
  refine take_dst (i := 3) (d := 6) (v := .int .i64 (97 + A)) rfl rfl (by kernel_rfl) (by kernel_rfl) (by kernel_rfl) (fun _ _ _ h => h) (Or.inl ⟨by rfl, ?_⟩) hHeld ?_
  · (intro w0 hSw; (try dsimp only at hSw); go_simp)
  simp only [Act.put, List.setIfInBounds_toArray, List.set_cons_zero, List.set_cons_succ]
  refine take_dst (i := 4) (d := 7) (v := .int .u8 (97 + A)) rfl rfl (by kernel_rfl) (by kernel_rfl) (by kernel_rfl) (fun _ _ _ h => h) (Or.inl ⟨by rfl, ?_⟩) hHeld ?_
  · (intro w0 hSw; (try dsimp only at hSw); go_simp)
  simp only [Act.put, List.setIfInBounds_toArray, List.set_cons_zero, List.set_cons_succ]
  refine wpAnyH_ready (rs := [7]) (by kernel_rfl) (by simp) (AllReadyH.cons rfl (fun K hK => ?_) AllReadyH.nil)
  refine step_calls_dst rfl 10 rfl 8 [.tmp 9, .const (.int .i64 20)] #[3, 3] rfl [.int .i64 b, .int .i64 20] rfl (enters_of Tryz.func8 (by kernel_rfl) rfl) (fun v w' => v = .int .i64 B ∧ V = w') (HQ.out V) ?_
  rintro v wq ⟨rfl, hwq⟩
  subst hwq
  refine hK.out _ _ ⟨c1, c2⟩ (fun hHeld => ?_)
  simp only [Act.put, List.setIfInBounds_toArray, List.set_cons_zero, List.set_cons_succ]
  refine take_dst (i := 8) (d := 11) (v := .int .i64 (97 + B)) rfl rfl (by kernel_rfl) (by kernel_rfl) (by kernel_rfl) (fun _ _ _ h => h) (Or.inl ⟨by rfl, ?_⟩) hHeld ?_
  · (intro w0 hSw; (try dsimp only at hSw); go_simp)
  simp only [Act.put, List.setIfInBounds_toArray, List.set_cons_zero, List.set_cons_succ]
  refine take_dst (i := 9) (d := 12) (v := .int .u8 (97 + B)) rfl rfl (by kernel_rfl) (by kernel_rfl) (by kernel_rfl) (fun _ _ _ h => h) (Or.inl ⟨by rfl, ?_⟩) hHeld ?_
  · (intro w0 hSw; (try dsimp only at hSw); go_simp)
  simp only [Act.put, List.setIfInBounds_toArray, List.set_cons_zero, List.set_cons_succ]
  refine wpAnyH_ready (rs := [10]) (by kernel_rfl) (by simp) (AllReadyH.cons rfl (fun K hK => ?_) AllReadyH.nil)
  refine step_run rfl 13 rfl (.slice (some ⟨V.heap.size, 0, none⟩) 3 3) (V.alloc (.cells (ub [116, 97 + A, 97 + B]).toArray 5)) (by go_simp; rfl) ?_
  have hA2 : Below V.heap.size V (V.alloc (.cells (ub [116, 97 + A, 97 + B]).toArray 5)) := (Below.refl _ _).alloc (Nat.le_refl _) _
  have qN := heap_alloc_new V (.cells (ub [116, 97 + A, 97 + B]).toArray 5)
  have e1 := (hA2.cell (p := ⟨w.heap.size, 1, none⟩) hlt).trans c1
  have e2 := (hA2.cell (p := ⟨w.heap.size, 2, none⟩) hlt).trans c2
  refine hK.out _ _ ⟨e1, e2⟩ (fun hHeld => ?_)
  simp only [Act.put, List.setIfInBounds_toArray, List.set_cons_zero, List.set_cons_succ]
  have hB2 := hB.trans (hA2.mono hB.size)
  have cv := run_text (V.alloc (.cells (ub [116, 97 + A, 97 + B]).toArray 5)) (some ⟨V.heap.size, 0, none⟩) 3 3 [116, 97 + A, 97 + B] rfl (row_slice qN rfl (by decide))
  refine wpAnyH_ready (rs := [11]) (by kernel_rfl) (by simp) (AllReadyH.cons rfl (fun K hK => ?_) AllReadyH.nil)
  refine step_run rfl 14 rfl (.string (bstr [116, 97 + A, 97 + B])) (V.alloc (.cells (ub [116, 97 + A, 97 + B]).toArray 5)) (by go_simp) ?_
  refine hK.out _ _ ⟨e1, e2⟩ (fun hHeld => ?_)
  simp only [Act.put, List.setIfInBounds_toArray, List.set_cons_zero, List.set_cons_succ]
  refine take_dst (i := 12) (d := 2) (v := .string (bstr [116, 97 + A, 97 + B])) rfl rfl (by kernel_rfl) (by kernel_rfl) (by kernel_rfl) (fun _ _ _ h => h) (Or.inl ⟨by rfl, ?_⟩) hHeld ?_
  · (intro w0 hSw; (try dsimp only at hSw); go_simp)
  simp only [Act.put, List.setIfInBounds_toArray, List.set_cons_zero, List.set_cons_succ]
  refine wpAnyH_done (by kernel_rfl) ?_ _
  go_wp2_with fail
  go_ret
  exact ⟨⟨_, rfl, bstr_size _⟩, hB2⟩
set_option maxRecDepth 100000 in
theorem act_ok (k n p : Int) (t : ByteArray) (hk : 1 ≤ k ∧ k ≤ 10) (hn : 0 ≤ n ∧ n < 4) (hp : 0 ≤ p ∧ p ≤ 400000) (ht : t.size ≤ 4000) (h1 : hN k = false → n = 0) (h2 : hP k = false → p = 0) (h3 : hT k = false → t.size = 0) : (⟨k, n, p, t⟩ : AV).e = 0 := by
  show actF k n p t.size = 0
  rw [actF, if_neg (by omega), if_neg (by omega), if_neg (by omega), if_neg (by omega), if_neg]
  intro h
  simp only [moreB, Bool.or_eq_true, Bool.and_eq_true, Bool.not_eq_true', decide_eq_true_eq] at h
  rcases h with (⟨x, y⟩ | ⟨x, y⟩) | ⟨x, y⟩
  · exact x (h1 y)
  · exact x (h2 y)
  · exact x (h3 y)
/-- An act that may be. -/
def ActIs (w w' : World) (e : Ending) : Prop := (∃ a : AV, e = .returned (.agg #[.int .i64 a.k, .int .i64 a.n, .int .i64 a.p, .string a.t]) ∧ a.e = 0 ∧ a.t.size ≤ 4000) ∧ Below w.heap.size w w'
set_option maxRecDepth 100000 in
theorem bytes_4000 {m : Msg} {ss : List ByteArray} {bl pl cbl cpl : List Part} {vl ds : List Int} (hd : m.sdn = ds.length) (hc : carriedF m ss bl pl cbl cpl vl = 0) : (msgB m ss bl pl cbl cpl ds vl).length ≤ 4000 := by
  have := bodyB_le hd hc
  simp [msgB]; omega
set_option maxRecDepth 100000 in
set_option maxHeartbeats 4000000 in
theorem topAct_any (k a b : Int) (t : ByteArray) (w : World) (hk : I64 k) (ha : I64 a) (hb : I64 b) (ht : t.size ≤ maxLen) :
    Calls Tryz.prog 14 #[.agg #[.int .i64 k, .int .i64 a, .int .i64 b, .string t]] w fun e w' => ActIs w w' e := by
  obtain ⟨pa0, pa1⟩ := pk_bounds a 4 (by decide)
  obtain ⟨pk0, pk1⟩ := pk_bounds k 20 (by decide)
  obtain ⟨pb0, pb1⟩ := pk_bounds b 400 (by decide)
  obtain ⟨pc0, pc1⟩ := pk_bounds b 700 (by decide)
  have HA : Hid (∀ W : World, Calls Tryz.prog 8 #[.int .i64 a, .int .i64 4] W fun e w' => e = .returned (.int .i64 (pk a 4)) ∧ W = w') := by
    show ∀ _, _
    intro W
    exact picked_out a 4 W ha.1 ha.2 (by decide) (by decide)
  have HK : Hid (∀ W : World, Calls Tryz.prog 8 #[.int .i64 k, .int .i64 20] W fun e w' => e = .returned (.int .i64 (pk k 20)) ∧ W = w') := by
    show ∀ _, _
    intro W
    exact picked_out k 20 W hk.1 hk.2 (by decide) (by decide)
  have HB : Hid (∀ W : World, Calls Tryz.prog 8 #[.int .i64 b, .int .i64 400] W fun e w' => e = .returned (.int .i64 (pk b 400)) ∧ W = w') := by
    show ∀ _, _
    intro W
    exact picked_out b 400 W hb.1 hb.2 (by decide) (by decide)
  have HC : Hid (∀ W : World, Calls Tryz.prog 8 #[.int .i64 b, .int .i64 700] W fun e w' => e = .returned (.int .i64 (pk b 700)) ∧ W = w') := by
    show ∀ _, _
    intro W
    exact picked_out b 700 W hb.1 hb.2 (by decide) (by decide)
  generalize pk a 4 = A at *
  generalize pk b 400 = B at *
  generalize pk b 700 = C at *
  generalize pk k 20 = K at *
  have hA : Below w.heap.size w ((w.alloc (.cells #[.int .i64 k, .int .i64 a, .int .i64 b, .string t] 38)).alloc (.cells #[.int .i64 0, .int .i64 0, .int .i64 0, .string ⟨#[]⟩] 35)) := ((Below.refl _ _).alloc (Nat.le_refl _) _).alloc (by simp) _
  have q0 := heap_alloc2_old w (.cells #[.int .i64 k, .int .i64 a, .int .i64 b, .string t] 38) (.cells #[.int .i64 0, .int .i64 0, .int .i64 0, .string ⟨#[]⟩] 35)
  have q1 := heap_alloc2_new w (.cells #[.int .i64 k, .int .i64 a, .int .i64 b, .string t] 38) (.cells #[.int .i64 0, .int .i64 0, .int .i64 0, .string ⟨#[]⟩] 35)
  go_enter Tryz.func14, Tryz.ntmps14
  go_upto_region 1 with fail
  generalize (w.alloc (.cells #[.int .i64 k, .int .i64 a, .int .i64 b, .string t] 38)).alloc (.cells #[.int .i64 0, .int .i64 0, .int .i64 0, .string ⟨#[]⟩] 35) = W0 at hA q0 q1 ⊢
  have c0 : W0.cell? ⟨w.heap.size, 0, none⟩ = some (.int .i64 k) := cells_at q0 0 _ rfl
  have c1 : W0.cell? ⟨w.heap.size, 1, none⟩ = some (.int .i64 a) := cells_at q0 1 _ rfl
  have c2 : W0.cell? ⟨w.heap.size, 2, none⟩ = some (.int .i64 b) := cells_at q0 2 _ rfl
  have c3 : W0.cell? ⟨w.heap.size, 3, none⟩ = some (.string t) := cells_at q0 3 _ rfl
  have d0 : W0.cell? ⟨w.heap.size + 1, 0, none⟩ = some (.int .i64 0) := cells_at q1 0 _ rfl
  have d1 : W0.cell? ⟨w.heap.size + 1, 1, none⟩ = some (.int .i64 0) := cells_at q1 1 _ rfl
  have d2 : W0.cell? ⟨w.heap.size + 1, 2, none⟩ = some (.int .i64 0) := cells_at q1 2 _ rfl
  have d3 : W0.cell? ⟨w.heap.size + 1, 3, none⟩ = some (.string ⟨#[]⟩) := cells_at q1 3 _ rfl
  have f0 := frozen_at q1 0
  have f1 := frozen_at q1 1
  have f2 := frozen_at q1 2
  have f3 := frozen_at q1 3
  have hS : Hid (∀ (x0 x1 x2 x3 : Value), Below w.heap.size w ((((W0.setCell ⟨w.heap.size + 1, 0, none⟩ x0).setCell ⟨w.heap.size + 1, 1, none⟩ x1).setCell ⟨w.heap.size + 1, 2, none⟩ x2).setCell ⟨w.heap.size + 1, 3, none⟩ x3)) := by
    show ∀ _, _
    intro x0 x1 x2 x3
    exact (((hA.setCell (by simp) _).setCell (by simp) _).setCell (by simp) _).setCell (by simp) _
  have hK : K = 0 ∨ K = 1 ∨ K = 2 ∨ K = 3 ∨ K = 4 ∨ K = 5 ∨ K = 6 ∨ K = 7 ∨ K = 8 ∨ K = 9 ∨ K = 10 ∨ K = 11 ∨ K = 12 ∨ K = 13 ∨ K = 14 ∨ K = 15 ∨ K = 16 ∨ K = 17 ∨ K = 18 ∨ K = 19 := by omega
  rcases hK with hi | hi | hi | hi | hi | hi | hi | hi | hi | hi | hi | hi | hi | hi | hi | hi | hi | hi | hi | hi
  · subst hi
    go_wp2_with (first | (go_at_call 8; refine (HK.out _).mono ?_; rintro e w9 ⟨rfl, rfl⟩) | (go_at_call 8; refine (HA.out _).mono ?_; rintro e w9 ⟨rfl, rfl⟩) | (go_at_call 8; refine (HB.out _).mono ?_; rintro e w9 ⟨rfl, rfl⟩) | (go_at_call 8; refine (HC.out _).mono ?_; rintro e w9 ⟨rfl, rfl⟩))
    refine (word_any k a b t W0 ha hb).mono ?_
    rintro e w2 ⟨⟨s, he, hs⟩, hb2⟩
    subst he
    dsimp only
    clear c0 c1 c2 c3 d0 d1 d2 d3 f0 f1 f2 f3
    have r1 := (hb2.block _ (lt_of_heap q1)).trans q1
    have d0 : w2.cell? ⟨w.heap.size + 1, 0, none⟩ = some (.int .i64 0) := cells_at r1 0 _ rfl
    have d1 : w2.cell? ⟨w.heap.size + 1, 1, none⟩ = some (.int .i64 0) := cells_at r1 1 _ rfl
    have d2 : w2.cell? ⟨w.heap.size + 1, 2, none⟩ = some (.int .i64 0) := cells_at r1 2 _ rfl
    have d3 : w2.cell? ⟨w.heap.size + 1, 3, none⟩ = some (.string ⟨#[]⟩) := cells_at r1 3 _ rfl
    have f0 := frozen_at r1 0
    have f1 := frozen_at r1 1
    have f2 := frozen_at r1 2
    have f3 := frozen_at r1 3
    have hB2 := hA.trans (hb2.mono hA.size)
    go_wp2_with fail
    exact bodyPost_ret (v := .agg #[.int .i64 1, .int .i64 A, .int .i64 0, .string s]) (by simp [results, Tryz.results14, go_sem, d0, d1, d2, d3]) rfl ⟨⟨⟨1, A, 0, s⟩, rfl, act_ok _ _ _ _ (by omega) (by omega) (by omega) (by omega) (fun h => absurd h (by decide)) (fun _ => rfl) (fun h => absurd h (by decide)), (show s.size ≤ 4000 by omega)⟩, (((hB2.setCell (by simp) _).setCell (by simp) _).setCell (by simp) _).setCell (by simp) _⟩
  · subst hi
    go_wp2_with (first | (go_at_call 8; refine (HK.out _).mono ?_; rintro e w9 ⟨rfl, rfl⟩) | (go_at_call 8; refine (HA.out _).mono ?_; rintro e w9 ⟨rfl, rfl⟩) | (go_at_call 8; refine (HB.out _).mono ?_; rintro e w9 ⟨rfl, rfl⟩) | (go_at_call 8; refine (HC.out _).mono ?_; rintro e w9 ⟨rfl, rfl⟩))
    refine (word_any k a b t W0 ha hb).mono ?_
    rintro e w2 ⟨⟨s, he, hs⟩, hb2⟩
    subst he
    dsimp only
    clear c0 c1 c2 c3 d0 d1 d2 d3 f0 f1 f2 f3
    have r1 := (hb2.block _ (lt_of_heap q1)).trans q1
    have d0 : w2.cell? ⟨w.heap.size + 1, 0, none⟩ = some (.int .i64 0) := cells_at r1 0 _ rfl
    have d1 : w2.cell? ⟨w.heap.size + 1, 1, none⟩ = some (.int .i64 0) := cells_at r1 1 _ rfl
    have d2 : w2.cell? ⟨w.heap.size + 1, 2, none⟩ = some (.int .i64 0) := cells_at r1 2 _ rfl
    have d3 : w2.cell? ⟨w.heap.size + 1, 3, none⟩ = some (.string ⟨#[]⟩) := cells_at r1 3 _ rfl
    have f0 := frozen_at r1 0
    have f1 := frozen_at r1 1
    have f2 := frozen_at r1 2
    have f3 := frozen_at r1 3
    have hB2 := hA.trans (hb2.mono hA.size)
    go_wp2_with fail
    exact bodyPost_ret (v := .agg #[.int .i64 1, .int .i64 A, .int .i64 0, .string s]) (by simp [results, Tryz.results14, go_sem, d0, d1, d2, d3]) rfl ⟨⟨⟨1, A, 0, s⟩, rfl, act_ok _ _ _ _ (by omega) (by omega) (by omega) (by omega) (fun h => absurd h (by decide)) (fun _ => rfl) (fun h => absurd h (by decide)), (show s.size ≤ 4000 by omega)⟩, (((hB2.setCell (by simp) _).setCell (by simp) _).setCell (by simp) _).setCell (by simp) _⟩
  · subst hi
    go_wp2_with (first | (go_at_call 8; refine (HK.out _).mono ?_; rintro e w9 ⟨rfl, rfl⟩) | (go_at_call 8; refine (HA.out _).mono ?_; rintro e w9 ⟨rfl, rfl⟩) | (go_at_call 8; refine (HB.out _).mono ?_; rintro e w9 ⟨rfl, rfl⟩) | (go_at_call 8; refine (HC.out _).mono ?_; rintro e w9 ⟨rfl, rfl⟩))
    refine bodyPost_ret (v := .agg #[.int .i64 2, .int .i64 A, .int .i64 0, .string ⟨#[]⟩]) (by simp [results, Tryz.results14, go_sem, d0, d1, d2, d3]) rfl ⟨⟨⟨2, A, 0, ⟨#[]⟩⟩, rfl, act_ok _ _ _ _ (by omega) (by omega) (by omega) (Nat.zero_le _) (by first | (intro _; rfl) | (intro h; exact absurd h (by decide))) (by first | (intro _; rfl) | (intro h; exact absurd h (by decide))) (fun _ => rfl), Nat.zero_le _⟩, hS.out _ _ _ _⟩
  · subst hi
    go_wp2_with (first | (go_at_call 8; refine (HK.out _).mono ?_; rintro e w9 ⟨rfl, rfl⟩) | (go_at_call 8; refine (HA.out _).mono ?_; rintro e w9 ⟨rfl, rfl⟩) | (go_at_call 8; refine (HB.out _).mono ?_; rintro e w9 ⟨rfl, rfl⟩) | (go_at_call 8; refine (HC.out _).mono ?_; rintro e w9 ⟨rfl, rfl⟩))
    refine bodyPost_ret (v := .agg #[.int .i64 2, .int .i64 A, .int .i64 0, .string ⟨#[]⟩]) (by simp [results, Tryz.results14, go_sem, d0, d1, d2, d3]) rfl ⟨⟨⟨2, A, 0, ⟨#[]⟩⟩, rfl, act_ok _ _ _ _ (by omega) (by omega) (by omega) (Nat.zero_le _) (by first | (intro _; rfl) | (intro h; exact absurd h (by decide))) (by first | (intro _; rfl) | (intro h; exact absurd h (by decide))) (fun _ => rfl), Nat.zero_le _⟩, hS.out _ _ _ _⟩
  · subst hi
    go_wp2_with (first | (go_at_call 8; refine (HK.out _).mono ?_; rintro e w9 ⟨rfl, rfl⟩) | (go_at_call 8; refine (HA.out _).mono ?_; rintro e w9 ⟨rfl, rfl⟩) | (go_at_call 8; refine (HB.out _).mono ?_; rintro e w9 ⟨rfl, rfl⟩) | (go_at_call 8; refine (HC.out _).mono ?_; rintro e w9 ⟨rfl, rfl⟩))
    refine bodyPost_ret (v := .agg #[.int .i64 2, .int .i64 A, .int .i64 0, .string ⟨#[]⟩]) (by simp [results, Tryz.results14, go_sem, d0, d1, d2, d3]) rfl ⟨⟨⟨2, A, 0, ⟨#[]⟩⟩, rfl, act_ok _ _ _ _ (by omega) (by omega) (by omega) (Nat.zero_le _) (by first | (intro _; rfl) | (intro h; exact absurd h (by decide))) (by first | (intro _; rfl) | (intro h; exact absurd h (by decide))) (fun _ => rfl), Nat.zero_le _⟩, hS.out _ _ _ _⟩
  · subst hi
    go_wp2_with (first | (go_at_call 8; refine (HK.out _).mono ?_; rintro e w9 ⟨rfl, rfl⟩) | (go_at_call 8; refine (HA.out _).mono ?_; rintro e w9 ⟨rfl, rfl⟩) | (go_at_call 8; refine (HB.out _).mono ?_; rintro e w9 ⟨rfl, rfl⟩) | (go_at_call 8; refine (HC.out _).mono ?_; rintro e w9 ⟨rfl, rfl⟩))
    refine bodyPost_ret (v := .agg #[.int .i64 2, .int .i64 A, .int .i64 0, .string ⟨#[]⟩]) (by simp [results, Tryz.results14, go_sem, d0, d1, d2, d3]) rfl ⟨⟨⟨2, A, 0, ⟨#[]⟩⟩, rfl, act_ok _ _ _ _ (by omega) (by omega) (by omega) (Nat.zero_le _) (by first | (intro _; rfl) | (intro h; exact absurd h (by decide))) (by first | (intro _; rfl) | (intro h; exact absurd h (by decide))) (fun _ => rfl), Nat.zero_le _⟩, hS.out _ _ _ _⟩
  · subst hi
    go_wp2_with (first | (go_at_call 8; refine (HK.out _).mono ?_; rintro e w9 ⟨rfl, rfl⟩) | (go_at_call 8; refine (HA.out _).mono ?_; rintro e w9 ⟨rfl, rfl⟩) | (go_at_call 8; refine (HB.out _).mono ?_; rintro e w9 ⟨rfl, rfl⟩) | (go_at_call 8; refine (HC.out _).mono ?_; rintro e w9 ⟨rfl, rfl⟩))
    refine bodyPost_ret (v := .agg #[.int .i64 3, .int .i64 A, .int .i64 0, .string ⟨#[]⟩]) (by simp [results, Tryz.results14, go_sem, d0, d1, d2, d3]) rfl ⟨⟨⟨3, A, 0, ⟨#[]⟩⟩, rfl, act_ok _ _ _ _ (by omega) (by omega) (by omega) (Nat.zero_le _) (by first | (intro _; rfl) | (intro h; exact absurd h (by decide))) (by first | (intro _; rfl) | (intro h; exact absurd h (by decide))) (fun _ => rfl), Nat.zero_le _⟩, hS.out _ _ _ _⟩
  · subst hi
    go_wp2_with (first | (go_at_call 8; refine (HK.out _).mono ?_; rintro e w9 ⟨rfl, rfl⟩) | (go_at_call 8; refine (HA.out _).mono ?_; rintro e w9 ⟨rfl, rfl⟩) | (go_at_call 8; refine (HB.out _).mono ?_; rintro e w9 ⟨rfl, rfl⟩) | (go_at_call 8; refine (HC.out _).mono ?_; rintro e w9 ⟨rfl, rfl⟩))
    refine bodyPost_ret (v := .agg #[.int .i64 3, .int .i64 A, .int .i64 0, .string ⟨#[]⟩]) (by simp [results, Tryz.results14, go_sem, d0, d1, d2, d3]) rfl ⟨⟨⟨3, A, 0, ⟨#[]⟩⟩, rfl, act_ok _ _ _ _ (by omega) (by omega) (by omega) (Nat.zero_le _) (by first | (intro _; rfl) | (intro h; exact absurd h (by decide))) (by first | (intro _; rfl) | (intro h; exact absurd h (by decide))) (fun _ => rfl), Nat.zero_le _⟩, hS.out _ _ _ _⟩
  · subst hi
    go_wp2_with (first | (go_at_call 8; refine (HK.out _).mono ?_; rintro e w9 ⟨rfl, rfl⟩) | (go_at_call 8; refine (HA.out _).mono ?_; rintro e w9 ⟨rfl, rfl⟩) | (go_at_call 8; refine (HB.out _).mono ?_; rintro e w9 ⟨rfl, rfl⟩) | (go_at_call 8; refine (HC.out _).mono ?_; rintro e w9 ⟨rfl, rfl⟩))
    refine bodyPost_ret (v := .agg #[.int .i64 3, .int .i64 A, .int .i64 0, .string ⟨#[]⟩]) (by simp [results, Tryz.results14, go_sem, d0, d1, d2, d3]) rfl ⟨⟨⟨3, A, 0, ⟨#[]⟩⟩, rfl, act_ok _ _ _ _ (by omega) (by omega) (by omega) (Nat.zero_le _) (by first | (intro _; rfl) | (intro h; exact absurd h (by decide))) (by first | (intro _; rfl) | (intro h; exact absurd h (by decide))) (fun _ => rfl), Nat.zero_le _⟩, hS.out _ _ _ _⟩
  · subst hi
    go_wp2_with (first | (go_at_call 8; refine (HK.out _).mono ?_; rintro e w9 ⟨rfl, rfl⟩) | (go_at_call 8; refine (HA.out _).mono ?_; rintro e w9 ⟨rfl, rfl⟩) | (go_at_call 8; refine (HB.out _).mono ?_; rintro e w9 ⟨rfl, rfl⟩) | (go_at_call 8; refine (HC.out _).mono ?_; rintro e w9 ⟨rfl, rfl⟩))
    refine bodyPost_ret (v := .agg #[.int .i64 3, .int .i64 A, .int .i64 0, .string ⟨#[]⟩]) (by simp [results, Tryz.results14, go_sem, d0, d1, d2, d3]) rfl ⟨⟨⟨3, A, 0, ⟨#[]⟩⟩, rfl, act_ok _ _ _ _ (by omega) (by omega) (by omega) (Nat.zero_le _) (by first | (intro _; rfl) | (intro h; exact absurd h (by decide))) (by first | (intro _; rfl) | (intro h; exact absurd h (by decide))) (fun _ => rfl), Nat.zero_le _⟩, hS.out _ _ _ _⟩
  · subst hi
    go_wp2_with (first | (go_at_call 8; refine (HK.out _).mono ?_; rintro e w9 ⟨rfl, rfl⟩) | (go_at_call 8; refine (HA.out _).mono ?_; rintro e w9 ⟨rfl, rfl⟩) | (go_at_call 8; refine (HB.out _).mono ?_; rintro e w9 ⟨rfl, rfl⟩) | (go_at_call 8; refine (HC.out _).mono ?_; rintro e w9 ⟨rfl, rfl⟩))
    refine bodyPost_ret (v := .agg #[.int .i64 4, .int .i64 0, .int .i64 B, .string ⟨#[]⟩]) (by simp [results, Tryz.results14, go_sem, d0, d1, d2, d3]) rfl ⟨⟨⟨4, 0, B, ⟨#[]⟩⟩, rfl, act_ok _ _ _ _ (by omega) (by omega) (by omega) (Nat.zero_le _) (by first | (intro _; rfl) | (intro h; exact absurd h (by decide))) (by first | (intro _; rfl) | (intro h; exact absurd h (by decide))) (fun _ => rfl), Nat.zero_le _⟩, hS.out _ _ _ _⟩
  · subst hi
    go_wp2_with (first | (go_at_call 8; refine (HK.out _).mono ?_; rintro e w9 ⟨rfl, rfl⟩) | (go_at_call 8; refine (HA.out _).mono ?_; rintro e w9 ⟨rfl, rfl⟩) | (go_at_call 8; refine (HB.out _).mono ?_; rintro e w9 ⟨rfl, rfl⟩) | (go_at_call 8; refine (HC.out _).mono ?_; rintro e w9 ⟨rfl, rfl⟩))
    refine bodyPost_ret (v := .agg #[.int .i64 4, .int .i64 0, .int .i64 B, .string ⟨#[]⟩]) (by simp [results, Tryz.results14, go_sem, d0, d1, d2, d3]) rfl ⟨⟨⟨4, 0, B, ⟨#[]⟩⟩, rfl, act_ok _ _ _ _ (by omega) (by omega) (by omega) (Nat.zero_le _) (by first | (intro _; rfl) | (intro h; exact absurd h (by decide))) (by first | (intro _; rfl) | (intro h; exact absurd h (by decide))) (fun _ => rfl), Nat.zero_le _⟩, hS.out _ _ _ _⟩
  · subst hi
    go_wp2_with (first | (go_at_call 8; refine (HK.out _).mono ?_; rintro e w9 ⟨rfl, rfl⟩) | (go_at_call 8; refine (HA.out _).mono ?_; rintro e w9 ⟨rfl, rfl⟩) | (go_at_call 8; refine (HB.out _).mono ?_; rintro e w9 ⟨rfl, rfl⟩) | (go_at_call 8; refine (HC.out _).mono ?_; rintro e w9 ⟨rfl, rfl⟩))
    refine bodyPost_ret (v := .agg #[.int .i64 5, .int .i64 0, .int .i64 B, .string ⟨#[]⟩]) (by simp [results, Tryz.results14, go_sem, d0, d1, d2, d3]) rfl ⟨⟨⟨5, 0, B, ⟨#[]⟩⟩, rfl, act_ok _ _ _ _ (by omega) (by omega) (by omega) (Nat.zero_le _) (by first | (intro _; rfl) | (intro h; exact absurd h (by decide))) (by first | (intro _; rfl) | (intro h; exact absurd h (by decide))) (fun _ => rfl), Nat.zero_le _⟩, hS.out _ _ _ _⟩
  · subst hi
    go_wp2_with (first | (go_at_call 8; refine (HK.out _).mono ?_; rintro e w9 ⟨rfl, rfl⟩) | (go_at_call 8; refine (HA.out _).mono ?_; rintro e w9 ⟨rfl, rfl⟩) | (go_at_call 8; refine (HB.out _).mono ?_; rintro e w9 ⟨rfl, rfl⟩) | (go_at_call 8; refine (HC.out _).mono ?_; rintro e w9 ⟨rfl, rfl⟩))
    refine bodyPost_ret (v := .agg #[.int .i64 6, .int .i64 0, .int .i64 B, .string ⟨#[]⟩]) (by simp [results, Tryz.results14, go_sem, d0, d1, d2, d3]) rfl ⟨⟨⟨6, 0, B, ⟨#[]⟩⟩, rfl, act_ok _ _ _ _ (by omega) (by omega) (by omega) (Nat.zero_le _) (by first | (intro _; rfl) | (intro h; exact absurd h (by decide))) (by first | (intro _; rfl) | (intro h; exact absurd h (by decide))) (fun _ => rfl), Nat.zero_le _⟩, hS.out _ _ _ _⟩
  · subst hi
    go_wp2_with (first | (go_at_call 8; refine (HK.out _).mono ?_; rintro e w9 ⟨rfl, rfl⟩) | (go_at_call 8; refine (HA.out _).mono ?_; rintro e w9 ⟨rfl, rfl⟩) | (go_at_call 8; refine (HB.out _).mono ?_; rintro e w9 ⟨rfl, rfl⟩) | (go_at_call 8; refine (HC.out _).mono ?_; rintro e w9 ⟨rfl, rfl⟩))
    refine bodyPost_ret (v := .agg #[.int .i64 7, .int .i64 A, .int .i64 C, .string ⟨#[]⟩]) (by simp [results, Tryz.results14, go_sem, d0, d1, d2, d3]) rfl ⟨⟨⟨7, A, C, ⟨#[]⟩⟩, rfl, act_ok _ _ _ _ (by omega) (by omega) (by omega) (Nat.zero_le _) (by first | (intro _; rfl) | (intro h; exact absurd h (by decide))) (by first | (intro _; rfl) | (intro h; exact absurd h (by decide))) (fun _ => rfl), Nat.zero_le _⟩, hS.out _ _ _ _⟩
  · subst hi
    go_wp2_with (first | (go_at_call 8; refine (HK.out _).mono ?_; rintro e w9 ⟨rfl, rfl⟩) | (go_at_call 8; refine (HA.out _).mono ?_; rintro e w9 ⟨rfl, rfl⟩) | (go_at_call 8; refine (HB.out _).mono ?_; rintro e w9 ⟨rfl, rfl⟩) | (go_at_call 8; refine (HC.out _).mono ?_; rintro e w9 ⟨rfl, rfl⟩))
    refine bodyPost_ret (v := .agg #[.int .i64 8, .int .i64 A, .int .i64 0, .string ⟨#[]⟩]) (by simp [results, Tryz.results14, go_sem, d0, d1, d2, d3]) rfl ⟨⟨⟨8, A, 0, ⟨#[]⟩⟩, rfl, act_ok _ _ _ _ (by omega) (by omega) (by omega) (Nat.zero_le _) (by first | (intro _; rfl) | (intro h; exact absurd h (by decide))) (by first | (intro _; rfl) | (intro h; exact absurd h (by decide))) (fun _ => rfl), Nat.zero_le _⟩, hS.out _ _ _ _⟩
  · subst hi
    go_wp2_with (first | (go_at_call 8; refine (HK.out _).mono ?_; rintro e w9 ⟨rfl, rfl⟩) | (go_at_call 8; refine (HA.out _).mono ?_; rintro e w9 ⟨rfl, rfl⟩) | (go_at_call 8; refine (HB.out _).mono ?_; rintro e w9 ⟨rfl, rfl⟩) | (go_at_call 8; refine (HC.out _).mono ?_; rintro e w9 ⟨rfl, rfl⟩))
    have hA1 : Below W0.heap.size W0 (W0.alloc (.cells #[.string t] 9)) := (Below.refl _ _).alloc (Nat.le_refl _) _
    have qS := heap_alloc_new W0 (.cells #[.string t] 9)
    have hTx : TextsAt (W0.alloc (.cells #[.string t] 9)) (some ⟨W0.heap.size, 0, none⟩) 1 [t] := ⟨Nat.le_refl _, by decide, (fun e => by cases e), ⟨.inr ⟨W0.heap.size, 0, rfl, fun j hj => by obtain rfl : j = 0 := (by simpa using hj); exact cells_at qS 0 _ rfl⟩, fun s hs => by obtain rfl : s = t := (by simpa using hs); exact ht⟩⟩
    generalize W0.alloc (.cells #[.string t] 9) = W1 at hA1 qS hTx ⊢
    obtain ⟨m0, m1⟩ := pk_bounds a 4 (by decide)
    obtain ⟨m2, m3⟩ := pk_bounds b 4 (by decide)
    refine (message_raw b a b a (some ⟨W0.heap.size, 0, none⟩) 1 [t] W1 hb ha hb ha hTx).mono ?_
    rintro e w1 ⟨m, ss1, bl, pl, cbl, cpl, vl, he, H, hfr, htt, hcar, hemp, hb1, hki, -, -, -, -, -, ds, hd, hdn, -⟩
    subst he
    dsimp only
    have hCk : checkF m (carriedF m ss1 bl pl cbl cpl vl) = 0 := by rw [checkF, if_neg (by omega), if_neg (by simp [hcar]), if_pos hemp]
    have hE := encode_any m ss1 bl pl cbl cpl ds vl w1 H hd hdn
    rw [hCk] at hE
    have h4 := bytes_4000 (ss := ss1) (bl := bl) (pl := pl) (cbl := cbl) (cpl := cpl) (vl := vl) hdn hcar
    clear H hd hdn hcar hemp hCk hki hfr htt c0 c1 c2 c3 d0 d1 d2 d3 f0 f1 f2 f3
    go_wp2_with fail
    refine hE.mono ?_
    rintro e w2 ⟨v, he, ho, hb2⟩
    subst he
    dsimp only
    have ho' : w2.ownsRow w1.heap.size 5 1 v (msgB m ss1 bl pl cbl cpl ds vl).length (ub (msgB m ss1 bl pl cbl cpl ds vl)) := ho
    obtain ⟨xa, xc, hv, -, hxs⟩ := owns_form ho'
    subst hv
    have hb02 := hA1.trans ((hb1.trans (hb2.mono hb1.size)).mono hA1.size)
    have hB2 := hA.trans (hb02.mono hA.size)
    have r1 := (hb02.block _ (lt_of_heap q1)).trans q1
    have d0 : w2.cell? ⟨w.heap.size + 1, 0, none⟩ = some (.int .i64 0) := cells_at r1 0 _ rfl
    have d1 : w2.cell? ⟨w.heap.size + 1, 1, none⟩ = some (.int .i64 0) := cells_at r1 1 _ rfl
    have d2 : w2.cell? ⟨w.heap.size + 1, 2, none⟩ = some (.int .i64 0) := cells_at r1 2 _ rfl
    have d3 : w2.cell? ⟨w.heap.size + 1, 3, none⟩ = some (.string ⟨#[]⟩) := cells_at r1 3 _ rfl
    have f0 := frozen_at r1 0
    have f1 := frozen_at r1 1
    have f2 := frozen_at r1 2
    have f3 := frozen_at r1 3
    clear ho ho' hE
    generalize msgB m ss1 bl pl cbl cpl ds vl = X at *
    have cv := run_text w2 xa X.length xc X rfl hxs
    go_wp2_with fail
    exact bodyPost_ret (v := .agg #[.int .i64 9, .int .i64 A, .int .i64 0, .string (bstr X)]) (by simp [results, Tryz.results14, go_sem, d0, d1, d2, d3]) rfl ⟨⟨⟨9, A, 0, bstr X⟩, rfl, act_ok _ _ _ _ (by omega) (by omega) (by omega) (by rw [bstr_size]; omega) (fun h => absurd h (by decide)) (fun _ => rfl) (fun h => absurd h (by decide)), (show (bstr X).size ≤ 4000 by rw [bstr_size]; omega)⟩, (((hB2.setCell (by simp) _).setCell (by simp) _).setCell (by simp) _).setCell (by simp) _⟩
  · subst hi
    go_wp2_with (first | (go_at_call 8; refine (HK.out _).mono ?_; rintro e w9 ⟨rfl, rfl⟩) | (go_at_call 8; refine (HA.out _).mono ?_; rintro e w9 ⟨rfl, rfl⟩) | (go_at_call 8; refine (HB.out _).mono ?_; rintro e w9 ⟨rfl, rfl⟩) | (go_at_call 8; refine (HC.out _).mono ?_; rintro e w9 ⟨rfl, rfl⟩))
    refine bodyPost_ret (v := .agg #[.int .i64 10, .int .i64 0, .int .i64 0, .string ⟨#[]⟩]) (by simp [results, Tryz.results14, go_sem, d0, d1, d2, d3]) rfl ⟨⟨⟨10, 0, 0, ⟨#[]⟩⟩, rfl, act_ok _ _ _ _ (by omega) (by omega) (by omega) (Nat.zero_le _) (by first | (intro _; rfl) | (intro h; exact absurd h (by decide))) (by first | (intro _; rfl) | (intro h; exact absurd h (by decide))) (fun _ => rfl), Nat.zero_le _⟩, hS.out _ _ _ _⟩
  · subst hi
    go_wp2_with (first | (go_at_call 8; refine (HK.out _).mono ?_; rintro e w9 ⟨rfl, rfl⟩) | (go_at_call 8; refine (HA.out _).mono ?_; rintro e w9 ⟨rfl, rfl⟩) | (go_at_call 8; refine (HB.out _).mono ?_; rintro e w9 ⟨rfl, rfl⟩) | (go_at_call 8; refine (HC.out _).mono ?_; rintro e w9 ⟨rfl, rfl⟩))
    refine bodyPost_ret (v := .agg #[.int .i64 10, .int .i64 0, .int .i64 0, .string ⟨#[]⟩]) (by simp [results, Tryz.results14, go_sem, d0, d1, d2, d3]) rfl ⟨⟨⟨10, 0, 0, ⟨#[]⟩⟩, rfl, act_ok _ _ _ _ (by omega) (by omega) (by omega) (Nat.zero_le _) (by first | (intro _; rfl) | (intro h; exact absurd h (by decide))) (by first | (intro _; rfl) | (intro h; exact absurd h (by decide))) (fun _ => rfl), Nat.zero_le _⟩, hS.out _ _ _ _⟩
  · subst hi
    go_wp2_with (first | (go_at_call 8; refine (HK.out _).mono ?_; rintro e w9 ⟨rfl, rfl⟩) | (go_at_call 8; refine (HA.out _).mono ?_; rintro e w9 ⟨rfl, rfl⟩) | (go_at_call 8; refine (HB.out _).mono ?_; rintro e w9 ⟨rfl, rfl⟩) | (go_at_call 8; refine (HC.out _).mono ?_; rintro e w9 ⟨rfl, rfl⟩))
    refine bodyPost_ret (v := .agg #[.int .i64 10, .int .i64 0, .int .i64 0, .string ⟨#[]⟩]) (by simp [results, Tryz.results14, go_sem, d0, d1, d2, d3]) rfl ⟨⟨⟨10, 0, 0, ⟨#[]⟩⟩, rfl, act_ok _ _ _ _ (by omega) (by omega) (by omega) (Nat.zero_le _) (by first | (intro _; rfl) | (intro h; exact absurd h (by decide))) (by first | (intro _; rfl) | (intro h; exact absurd h (by decide))) (fun _ => rfl), Nat.zero_le _⟩, hS.out _ _ _ _⟩
end Go.Proofs.YtnfcaonmfkbofaaGreatDoor

namespace Go.Proofs.YtnfcaonmfkbofaaGreatDoor
open Go.ChangeShapes Go.WideShapes Go.ChangeAt Go.RowKit Go.Deep

/-- A raw act. -/
structure Ft where
  k : Int
  a : Int
  b : Int
  t : ByteArray
structure FtsAt (w : World) (sa : Option Addr) (rs : List Ft) : Prop where
  cells : rs = [] ∨ ∃ sb so, sa = some ⟨sb, so, none⟩ ∧ ∀ j (h : j < rs.length), w.cell? ⟨sb, so + j * 4, none⟩ = some (.int .i64 (rs[j]).k) ∧ w.cell? ⟨sb, so + j * 4 + 1, none⟩ = some (.int .i64 (rs[j]).a) ∧ w.cell? ⟨sb, so + j * 4 + 2, none⟩ = some (.int .i64 (rs[j]).b) ∧ w.cell? ⟨sb, so + j * 4 + 3, none⟩ = some (.string (rs[j]).t)
  each : ∀ r ∈ rs, I64 r.k ∧ I64 r.a ∧ I64 r.b ∧ r.t.size ≤ maxLen
  small : rs.length ≤ 3000000000000000000
set_option maxRecDepth 100000 in
theorem FtsAt.below {w w' : World} {sa : Option Addr} {rs : List Ft} (h : FtsAt w sa rs) (hb : Below w.heap.size w w') : FtsAt w' sa rs := by
  refine ⟨?_, h.each, h.small⟩
  rcases h.cells with h | ⟨sb, so, rfl, hc⟩
  · exact .inl h
  · refine .inr ⟨sb, so, rfl, fun j hj => ?_⟩
    obtain ⟨h0, h1, h2, h3⟩ := hc j hj
    have hlt : sb < w.heap.size := block_lt_of_cell h0
    exact ⟨(hb.cell (p := ⟨sb, so + j * 4, none⟩) hlt).trans h0, (hb.cell (p := ⟨sb, so + j * 4 + 1, none⟩) hlt).trans h1, (hb.cell (p := ⟨sb, so + j * 4 + 2, none⟩) hlt).trans h2, (hb.cell (p := ⟨sb, so + j * 4 + 3, none⟩) hlt).trans h3⟩
set_option maxRecDepth 100000 in
theorem cFt : Tryz.prog.cellsOf 38 = 4 := by kernel_rfl
set_option maxRecDepth 100000 in
theorem cIntF : Tryz.prog.cellsOf 3 = 1 := by kernel_rfl
set_option maxRecDepth 100000 in
theorem cStrF : Tryz.prog.cellsOf 9 = 1 := by kernel_rfl
set_option maxRecDepth 100000 in
theorem open_gear_cells {H : Type} {enc : TypeId × Value → H} {W : World} {fuel : Nat} {cs : List Value} {x : DataW H × List MemPlace}
    (hf : DataW.trod enc Tryz.prog W 0 (fun _ => true) true fuel 38 cs = some x) :
    ∃ r : Ft, cs = [.int .i64 r.k, .int .i64 r.a, .int .i64 r.b, .string r.t] ∧ I64 r.k ∧ I64 r.a ∧ I64 r.b ∧ r.t.size ≤ maxLen := by
  obtain ⟨xs, n, _, rfl, hl, hlen, hg⟩ := DataW.trod_struct Tryz.underlying38 hf
  rw [cFt] at hl
  match xs, hlen with
  | [y0, y1, y2, y3], _ =>
  have h0 := hg 0 _ rfl
  have h1 := hg 1 _ rfl
  have h2 := hg 2 _ rfl
  have h3 := hg 3 _ rfl
  match cs, hl with
  | [c0, c1, c2, c3], _ =>
  obtain ⟨a0, e0, rfl, w0⟩ := DataW.trod_int Tryz.underlying3 h0
  obtain ⟨a1, e1, rfl, w1⟩ := DataW.trod_int Tryz.underlying3 h1
  obtain ⟨a2, e2, rfl, w2⟩ := DataW.trod_int Tryz.underlying3 h2
  obtain ⟨s, e3, rfl, w3⟩ := DataW.trod_string Tryz.underlying9 h3
  simp [cIntF, cStrF] at e0 e1 e2 e3
  subst e0 e1 e2 e3
  exact ⟨⟨a0, a1, a2, s⟩, rfl, bounds_i64 w0, bounds_i64 w1, bounds_i64 w2, w3⟩
set_option maxRecDepth 100000 in
theorem open_gear {H : Type} {enc : TypeId × Value → H} {W : World} {base : Nat} {v : Value} {d : DataW H} {p : List MemPlace}
    (hv : Value.okWide Tryz.prog W .any base 38 v) (h : DataW.Trod enc Tryz.prog W 0 (fun _ => true) true 38 v d p) (_hfit : ∀ n ∈ d.weights Tryz.prog 38, n ≤ reachBytes) :
    ∃ fk fa fb' ft, v = .agg #[.int .i64 fk, .int .i64 fa, .int .i64 fb', .string ft] ∧ I64 fk ∧ I64 fa ∧ I64 fb' ∧ ft.size ≤ maxLen := by
  obtain ⟨cs, rfl, _⟩ := okWide_struct Tryz.underlying38 hv
  obtain ⟨fuel, hf⟩ := h
  obtain ⟨r, hr, h1, h2, h3, h4⟩ := open_gear_cells hf
  obtain ⟨l⟩ := cs
  simp [Value.cells] at hr
  subst hr
  exact ⟨_, _, _, _, rfl, h1, h2, h3, h4⟩
set_option maxRecDepth 100000 in
theorem bFt : Tryz.prog.bytesOf 38 = 40 := by kernel_rfl
set_option maxRecDepth 100000 in
theorem open_gears {H : Type} {enc : TypeId × Value → H} {W : World} {base : Nat} {v : Value} {d : DataW H} {p : List MemPlace}
    (hv : Value.okWide Tryz.prog W .any base 22 v) (h : DataW.Trod enc Tryz.prog W 0 (fun _ => true) true 22 v d p) (hfit : ∀ n ∈ d.weights Tryz.prog 22, n ≤ reachBytes) :
    ∃ sa cap rs, v = .slice sa (List.length rs) cap ∧ FtsAt W sa rs ∧ rs.length ≤ cap := by
  obtain ⟨a0, len0, cap0, rfl⟩ := okWide_slice Tryz.underlying22 hv
  obtain ⟨fuel, hf⟩ := h
  rcases open_slice Tryz.underlying22 hf with ⟨he, _⟩ | ⟨a, len, cap, m, n, D, Pl, he, _, hl, hm, hmm, hd, hx⟩
  · simp [Value.cells] at he
    obtain ⟨rfl, rfl, rfl⟩ := he
    exact ⟨none, 0, [], rfl, ⟨.inl rfl, (fun p hp => by cases hp), by decide⟩, Nat.le_refl _⟩
  · simp [Value.cells] at he
    obtain ⟨rfl, rfl, rfl⟩ := he
    simp only [Prod.mk.injEq] at hd
    obtain ⟨rfl, rfl⟩ := hd
    simp only [if_true] at hmm
    subst hmm
    rw [cFt] at hx
    have hw := hfit ((((List.range len0).map D).length + ((List.range (m - len0)).map fun j => D (len0 + j)).length) * Tryz.prog.bytesOf 38) (by simp [DataW.weights, Tryz.underlying22])
    rw [bFt] at hw
    simp [reachBytes] at hw
    have each : ∀ i, i < len0 → ∃ r : Ft, (W.cell? (a.add (i * 4)) = some (.int .i64 r.k) ∧ W.cell? (a.add (i * 4 + 1)) = some (.int .i64 r.a) ∧ W.cell? (a.add (i * 4 + 2)) = some (.int .i64 r.b) ∧ W.cell? (a.add (i * 4 + 3)) = some (.string r.t)) ∧ (I64 r.k ∧ I64 r.a ∧ I64 r.b ∧ r.t.size ≤ maxLen) := fun i hi => by
      obtain ⟨cs', h1, h2⟩ := hx i (by omega)
      obtain ⟨r, rfl, ii⟩ := open_gear_cells h2
      obtain ⟨_, _, hcell⟩ := World.cells?_some h1
      have e0 := hcell 0 (by omega)
      have e1 := hcell 1 (by omega)
      have e2 := hcell 2 (by omega)
      have e3 := hcell 3 (by omega)
      rw [add_add] at e0 e1 e2 e3
      exact ⟨r, ⟨by simpa using e0, by simpa using e1, by simpa using e2, by simpa using e3⟩, ii⟩
    obtain ⟨P, hP⟩ := @choose_lt Ft ⟨⟨0, 0, 0, ByteArray.empty⟩⟩ len0 _ each
    have ha : 0 < len0 → ∃ b off, a = ⟨b, off, none⟩ := fun hi => by
      have h9 := (hP 0 hi).1.1
      cases a with
      | mk b off spot =>
        cases spot with
        | none => exact ⟨b, off, rfl⟩
        | some s => simp [World.cell?, Addr.add] at h9; split at h9 <;> cases h9
    refine ⟨some a, m, (List.range len0).map P, by simp, ⟨?_, ?_, by simp; omega⟩, by simpa using hl⟩
    · rcases Nat.eq_zero_or_pos len0 with h0 | h0
      · subst h0; exact .inl rfl
      · right
        obtain ⟨b, off, rfl⟩ := ha h0
        refine ⟨b, off, rfl, fun j hj => ?_⟩
        have hj' : j < len0 := by simpa using hj
        obtain ⟨e0, e1, e2, e3⟩ := (hP j hj').1
        rw [add_off] at e0 e1 e2 e3
        simp only [List.getElem_map, List.getElem_range]
        exact ⟨e0, by rw [Nat.add_assoc]; exact e1, by rw [Nat.add_assoc]; exact e2, by rw [Nat.add_assoc]; exact e3⟩
    · intro p hp
      simp at hp
      obtain ⟨j, hj, rfl⟩ := hp
      exact (hP j hj).2
end Go.Proofs.YtnfcaonmfkbofaaGreatDoor
