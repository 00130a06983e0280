/- The law sheaveskeep.MessageTorn answers true for every argument, and each argument reads behind the call as it read before: no condition but the form's own reach. -/
import Derived.Test.YthijfhbmkpfnkaaMessageTornM30
import Derived.Test.YthijfhbmkpfnkaaMessageTornM12
import Derived.Test.YthijfhbmkpfnkaaMessageTornM0
import Derived.Test.YthijfhbmkpfnkaaMessageTornM24
import Derived.Test.YthijfhbmkpfnkaaOpenB
import Derived.Test.YthijfhbmkpfnkaaTextsAt
import Derived.Deep.Strs
import Derived.Test.YthijfhbmkpfnkaaRows
import Derived.WalkKit
import Derived.ProofKit
import Derived.OpenShut
import Derived.Deep.DeepHandedRow
import Derived.SevenTiedAt
import Derived.Below
namespace Go.Proofs.Ythijfhbmkpfnkaa
open Go.RowKit

set_option maxRecDepth 100000 in
set_option maxHeartbeats 1000000 in
theorem encode_proof_w (m : Msg) (bl pl : List Part) (vl : List Int) (w : World) (hk : m.ki = 4) (hf : 0 ≤ m.fr ∧ m.fr < 4) (ht : 0 ≤ m.tt ∧ m.tt < 4) (ha : 0 ≤ m.cau ∧ m.cau < 4) (hr : 0 ≤ m.crd ∧ m.crd ≤ 1048576) (hbn : m.cbn = bl.length) (hpn : m.cpn = pl.length) (hbl : bl.length ≤ 4) (hpl : pl.length ≤ 4) (hb32 : ∀ p ∈ bl, p.bs.length = 32) (hp32 : ∀ p ∈ pl, p.bs.length = 32) (hLb : ListAt w m.cba m.cbc bl) (hLp : ListAt w m.cpa m.cpc pl) (hvn : m.cvn = vl.length) (hvl : vl.length ≤ 4) (hv4 : ∀ x ∈ vl, 0 ≤ x ∧ x < 4) (hI : IntsAt w m.cva vl) (hvb : ∀ sb so, m.cva = some ⟨sb, so, none⟩ → sb < w.heap.size)
    (hc : ∀ w1, Below w.heap.size w w1 → Calls Try.prog 12 #[.agg #[.int .i64 m.fr, .int .i64 m.tt, .int .i64 m.ki, .int .i64 m.bau, .int .i64 m.bnu, .slice m.bta m.btn m.btc, .int .i64 m.hau, .int .i64 m.hrd, .slice m.hba m.hbn m.hbc, .slice m.hpa m.hpn m.hpc, .int .i64 m.sau, .int .i64 m.srd, .slice m.sda m.sdn m.sdc, .int .i64 m.cau, .int .i64 m.crd, .slice m.cba m.cbn m.cbc, .slice m.cpa m.cpn m.cpc, .slice m.cva m.cvn m.cvc, .int .i64 m.ro]] w1 fun e w' => e = .returned (.int .i64 0) ∧ Below w1.heap.size w1 w') :
    Calls Try.prog 9 #[.agg #[.int .i64 m.fr, .int .i64 m.tt, .int .i64 m.ki, .int .i64 m.bau, .int .i64 m.bnu, .slice m.bta m.btn m.btc, .int .i64 m.hau, .int .i64 m.hrd, .slice m.hba m.hbn m.hbc, .slice m.hpa m.hpn m.hpc, .int .i64 m.sau, .int .i64 m.srd, .slice m.sda m.sdn m.sdc, .int .i64 m.cau, .int .i64 m.crd, .slice m.cba m.cbn m.cbc, .slice m.cpa m.cpn m.cpc, .slice m.cva m.cvn m.cvc, .int .i64 m.ro]] w fun e w' => ∃ v, e = .returned (.tuple #[v, .int .i64 0]) ∧ w'.ownsRow w.heap.size 5 1 v (3 + (certB m.cau m.crd bl pl vl).length) (ub ([4, m.fr, m.tt] ++ certB m.cau m.crd bl pl vl)) ∧ Below w.heap.size w w' := by
  have hq := heap_alloc_new w (.cells #[.int .i64 m.fr, .int .i64 m.tt, .int .i64 m.ki, .int .i64 m.bau, .int .i64 m.bnu, .slice m.bta m.btn m.btc, .int .i64 m.hau, .int .i64 m.hrd, .slice m.hba m.hbn m.hbc, .slice m.hpa m.hpn m.hpc, .int .i64 m.sau, .int .i64 m.srd, .slice m.sda m.sdn m.sdc, .int .i64 m.cau, .int .i64 m.crd, .slice m.cba m.cbn m.cbc, .slice m.cpa m.cpn m.cpc, .slice m.cva m.cvn m.cvc, .int .i64 m.ro] 37)
  have hB : Below w.heap.size w (w.alloc (.cells #[.int .i64 m.fr, .int .i64 m.tt, .int .i64 m.ki, .int .i64 m.bau, .int .i64 m.bnu, .slice m.bta m.btn m.btc, .int .i64 m.hau, .int .i64 m.hrd, .slice m.hba m.hbn m.hbc, .slice m.hpa m.hpn m.hpc, .int .i64 m.sau, .int .i64 m.srd, .slice m.sda m.sdn m.sdc, .int .i64 m.cau, .int .i64 m.crd, .slice m.cba m.cbn m.cbc, .slice m.cpa m.cpn m.cpc, .slice m.cva m.cvn m.cvc, .int .i64 m.ro] 37)) := (Below.refl _ _).alloc (Nat.le_refl _) _
  rw [hk] at hc hq hB ⊢
  obtain ⟨hf0, hf1⟩ := hf
  obtain ⟨ht0, ht1⟩ := ht
  have Hn : Hid (m.cbn = bl.length) := hbn
  have Hp : Hid (m.cpn = pl.length) := hpn
  have Hv : Hid (m.cvn = vl.length) := hvn
  clear hbn hpn hvn hk
  go_enter Try.func9, Try.ntmps9
  go_wp2_with (refine wpList_load_row rfl 37 _ rfl w.heap.size rfl 37 _ (0, 0) _ hq Try.underlying37 rfl sMsg ?_)
  refine (hc _ hB).mono ?_
  rintro e w1 ⟨rfl, hb1⟩
  have r1 := row_new hb1
  replace hb1 := below_alloc hb1
  have c0 : w1.cell? ⟨w.heap.size, 0, none⟩ = some (.int .i64 m.fr) := cells_at r1 0 _ rfl
  have c1 : w1.cell? ⟨w.heap.size, 1, none⟩ = some (.int .i64 m.tt) := cells_at r1 1 _ rfl
  have c2 : w1.cell? ⟨w.heap.size, 2, none⟩ = some (.int .i64 4) := cells_at r1 2 _ rfl
  have c13 : w1.cell? ⟨w.heap.size, 13, none⟩ = some (.int .i64 m.cau) := cells_at r1 13 _ rfl
  have c14 : w1.cell? ⟨w.heap.size, 14, none⟩ = some (.int .i64 m.crd) := cells_at r1 14 _ rfl
  have c15 : w1.cell? ⟨w.heap.size, 15, none⟩ = some (.slice m.cba m.cbn m.cbc) := cells_at r1 15 _ rfl
  have c16 : w1.cell? ⟨w.heap.size, 16, none⟩ = some (.slice m.cpa m.cpn m.cpc) := cells_at r1 16 _ rfl
  have c17 : w1.cell? ⟨w.heap.size, 17, none⟩ = some (.slice m.cva m.cvn m.cvc) := cells_at r1 17 _ rfl
  have hlt : w.heap.size < w1.heap.size := lt_of_heap r1
  have hlit := World.ownsRow_lit (base := w1.heap.size) (e := 5) (size := 1) w1 (ub [4, m.fr, m.tt]).toArray 3 (Nat.le_refl _) (by decide) rfl
  have hA1 : Below w1.heap.size w1 (w1.alloc (.cells (ub [4, m.fr, m.tt]).toArray 5)) := (Below.refl _ _).alloc (Nat.le_refl _) _
  have oo : ∀ (ra : Option Addr) (rc : Nat) (qs : List Part), ListAt w ra rc qs → OffW (w1.alloc (.cells (ub [4, m.fr, m.tt]).toArray 5)) (.slice (some ⟨w1.heap.size, 0, none⟩) 3 3) ra qs := fun ra rc qs h =>
    offW_of_list (h.below hb1) (le_alloc (Nat.le_refl _) _) (fun sb hl e => by have e' : w1.heap.size = sb := (by simpa [Value.ownBlock] using e); omega)
  have hH := appendCert_w w1.heap.size (.slice (some ⟨w1.heap.size, 0, none⟩) 3 3) 3 [4, m.fr, m.tt] m.cau m.crd m.cba m.cbn m.cbc bl m.cpa m.cpn m.cpc pl m.cva m.cvn m.cvc vl _ ha hr Hn.out Hp.out Hv.out hbl hpl hvl hb32 hp32 hv4 ((hLb.below hb1).below hA1) (oo _ _ _ hLb) ((hLp.below hb1).below hA1) (oo _ _ _ hLp) ((hI.below hb1).below hA1) (fun sb so e => by have g := hvb sb so e; refine ⟨by rw [size_alloc]; omega, fun h => ?_⟩; have h' : w1.heap.size = sb := (by simpa [Value.ownBlock] using h); omega) hlit (le_alloc (Nat.le_refl _) _) (by decide)
  clear oo
  go_wp2_with fail
  refine hH.mono ?_
  rintro e w2 ⟨v2, rfl, ho2, hG⟩
  have hb2 := hG.below (base := w1.heap.size) (le_alloc (Nat.le_refl _) _) (fun q e => by cases e; exact Nat.le_refl _)
  clear hG hH
  go_wp2_with fail
  go_ret2
  refine ⟨v2, rfl, ownsRow_base' ho2 hb1.size, ?_⟩
  exact (hb1.alloc hb1.size _).trans (hb2.mono hb1.size)
set_option maxRecDepth 100000 in
theorem encode_proof (m : Msg) (bl pl : List Part) (vl : List Int) (w : World) (hk : m.ki = 4) (hf : 0 ≤ m.fr ∧ m.fr < 4) (ht : 0 ≤ m.tt ∧ m.tt < 4) (ha : 0 ≤ m.cau ∧ m.cau < 4) (hr : 0 ≤ m.crd ∧ m.crd ≤ 1048576) (hbn : m.cbn = bl.length) (hpn : m.cpn = pl.length) (hbl : bl.length ≤ 4) (hpl : pl.length ≤ 4) (hb32 : ∀ p ∈ bl, p.bs.length = 32) (hp32 : ∀ p ∈ pl, p.bs.length = 32) (hLb : ListAt w m.cba m.cbc bl) (hLp : ListAt w m.cpa m.cpc pl) (_hOb : Off w (.slice none 0 0) m.cba bl) (_hOp : Off w (.slice none 0 0) m.cpa pl) (hvn : m.cvn = vl.length) (hvl : vl.length ≤ 4) (hv4 : ∀ x ∈ vl, 0 ≤ x ∧ x < 4) (hI : IntsAt w m.cva vl) (hvb : ∀ sb so, m.cva = some ⟨sb, so, none⟩ → sb < w.heap.size)
    (hc : ∀ w1, Below w.heap.size w w1 → Calls Try.prog 12 #[.agg #[.int .i64 m.fr, .int .i64 m.tt, .int .i64 m.ki, .int .i64 m.bau, .int .i64 m.bnu, .slice m.bta m.btn m.btc, .int .i64 m.hau, .int .i64 m.hrd, .slice m.hba m.hbn m.hbc, .slice m.hpa m.hpn m.hpc, .int .i64 m.sau, .int .i64 m.srd, .slice m.sda m.sdn m.sdc, .int .i64 m.cau, .int .i64 m.crd, .slice m.cba m.cbn m.cbc, .slice m.cpa m.cpn m.cpc, .slice m.cva m.cvn m.cvc, .int .i64 m.ro]] w1 fun e w' => e = .returned (.int .i64 0) ∧ Below w1.heap.size w1 w') :
    Calls Try.prog 9 #[.agg #[.int .i64 m.fr, .int .i64 m.tt, .int .i64 m.ki, .int .i64 m.bau, .int .i64 m.bnu, .slice m.bta m.btn m.btc, .int .i64 m.hau, .int .i64 m.hrd, .slice m.hba m.hbn m.hbc, .slice m.hpa m.hpn m.hpc, .int .i64 m.sau, .int .i64 m.srd, .slice m.sda m.sdn m.sdc, .int .i64 m.cau, .int .i64 m.crd, .slice m.cba m.cbn m.cbc, .slice m.cpa m.cpn m.cpc, .slice m.cva m.cvn m.cvc, .int .i64 m.ro]] w fun e w' => ∃ v, e = .returned (.tuple #[v, .int .i64 0]) ∧ w'.ownsRow w.heap.size 5 1 v (3 + (certB m.cau m.crd bl pl vl).length) (ub ([4, m.fr, m.tt] ++ certB m.cau m.crd bl pl vl)) ∧ Below w.heap.size w w' :=
  encode_proof_w m bl pl vl w hk hf ht ha hr hbn hpn hbl hpl hb32 hp32 hLb hLp hvn hvl hv4 hI hvb hc
end Go.Proofs.Ythijfhbmkpfnkaa

namespace Go.Proofs.Ythijfhbmkpfnkaa
open Go.RowKit

set_option maxRecDepth 100000 in
set_option maxHeartbeats 1000000 in
theorem encode_want (m : Msg) (w : World) (hk : m.ki = 5) (hf : 0 ≤ m.fr ∧ m.fr < 4) (ht : 0 ≤ m.tt ∧ m.tt < 4) (hr : 0 ≤ m.ro ∧ m.ro ≤ 1048576)
    (hc : ∀ w1, Below w.heap.size w w1 → Calls Try.prog 12 #[.agg #[.int .i64 m.fr, .int .i64 m.tt, .int .i64 m.ki, .int .i64 m.bau, .int .i64 m.bnu, .slice m.bta m.btn m.btc, .int .i64 m.hau, .int .i64 m.hrd, .slice m.hba m.hbn m.hbc, .slice m.hpa m.hpn m.hpc, .int .i64 m.sau, .int .i64 m.srd, .slice m.sda m.sdn m.sdc, .int .i64 m.cau, .int .i64 m.crd, .slice m.cba m.cbn m.cbc, .slice m.cpa m.cpn m.cpc, .slice m.cva m.cvn m.cvc, .int .i64 m.ro]] w1 fun e w' => e = .returned (.int .i64 0) ∧ Below w1.heap.size w1 w') :
    Calls Try.prog 9 #[.agg #[.int .i64 m.fr, .int .i64 m.tt, .int .i64 m.ki, .int .i64 m.bau, .int .i64 m.bnu, .slice m.bta m.btn m.btc, .int .i64 m.hau, .int .i64 m.hrd, .slice m.hba m.hbn m.hbc, .slice m.hpa m.hpn m.hpc, .int .i64 m.sau, .int .i64 m.srd, .slice m.sda m.sdn m.sdc, .int .i64 m.cau, .int .i64 m.crd, .slice m.cba m.cbn m.cbc, .slice m.cpa m.cpn m.cpc, .slice m.cva m.cvn m.cvc, .int .i64 m.ro]] w fun e w' => ∃ v, e = .returned (.tuple #[v, .int .i64 0]) ∧ w'.ownsRow w.heap.size 5 1 v 6 (ub ([5, m.fr, m.tt] ++ rd3 m.ro)) ∧ Below w.heap.size w w' := by
  rw [hk] at hc ⊢
  obtain ⟨hf0, hf1⟩ := hf
  obtain ⟨ht0, ht1⟩ := ht
  have hq := heap_alloc_new w (.cells #[.int .i64 m.fr, .int .i64 m.tt, .int .i64 5, .int .i64 m.bau, .int .i64 m.bnu, .slice m.bta m.btn m.btc, .int .i64 m.hau, .int .i64 m.hrd, .slice m.hba m.hbn m.hbc, .slice m.hpa m.hpn m.hpc, .int .i64 m.sau, .int .i64 m.srd, .slice m.sda m.sdn m.sdc, .int .i64 m.cau, .int .i64 m.crd, .slice m.cba m.cbn m.cbc, .slice m.cpa m.cpn m.cpc, .slice m.cva m.cvn m.cvc, .int .i64 m.ro] 37)
  have hB : Below w.heap.size w (w.alloc (.cells #[.int .i64 m.fr, .int .i64 m.tt, .int .i64 5, .int .i64 m.bau, .int .i64 m.bnu, .slice m.bta m.btn m.btc, .int .i64 m.hau, .int .i64 m.hrd, .slice m.hba m.hbn m.hbc, .slice m.hpa m.hpn m.hpc, .int .i64 m.sau, .int .i64 m.srd, .slice m.sda m.sdn m.sdc, .int .i64 m.cau, .int .i64 m.crd, .slice m.cba m.cbn m.cbc, .slice m.cpa m.cpn m.cpc, .slice m.cva m.cvn m.cvc, .int .i64 m.ro] 37)) := (Below.refl _ _).alloc (Nat.le_refl _) _
  go_enter Try.func9, Try.ntmps9
  go_wp2_with (refine wpList_load_row rfl 37 _ rfl w.heap.size rfl 37 #[.int .i64 m.fr, .int .i64 m.tt, .int .i64 5, .int .i64 m.bau, .int .i64 m.bnu, .slice m.bta m.btn m.btc, .int .i64 m.hau, .int .i64 m.hrd, .slice m.hba m.hbn m.hbc, .slice m.hpa m.hpn m.hpc, .int .i64 m.sau, .int .i64 m.srd, .slice m.sda m.sdn m.sdc, .int .i64 m.cau, .int .i64 m.crd, .slice m.cba m.cbn m.cbc, .slice m.cpa m.cpn m.cpc, .slice m.cva m.cvn m.cvc, .int .i64 m.ro] (0, 0) _ hq Try.underlying37 rfl sMsg ?_)
  refine (hc _ hB).mono ?_
  rintro e w1 ⟨rfl, hb1⟩
  have r1 := row_new hb1
  replace hb1 := below_alloc hb1
  have c0 := cells_at r1 0 _ rfl
  have c1 := cells_at r1 1 _ rfl
  have c2 := cells_at r1 2 _ rfl
  have c18 := cells_at r1 18 _ rfl
  have hlt : w.heap.size < w1.heap.size := lt_of_heap r1
  have hlit := World.ownsRow_lit (base := w1.heap.size) (e := 5) (size := 1) w1 (ub [5, m.fr, m.tt]).toArray 3 (Nat.le_refl _) (by decide) rfl
  go_wp2_with fail
  refine (appendRound_any w1.heap.size _ 3 [5, m.fr, m.tt] m.ro _ hr ?_ (le_alloc (Nat.le_refl _) _) (by decide)).mono ?_
  · exact hlit
  rintro e w2 ⟨v2, rfl, ho2, hG⟩
  have hb2 := hG.below (base := w1.heap.size) (le_alloc (Nat.le_refl _) _) (fun q e => by cases e; exact Nat.le_refl _)
  clear hG
  go_wp2_with fail
  go_ret2
  refine ⟨v2, rfl, ownsRow_base' ho2 hb1.size, ?_⟩
  exact (hb1.alloc hb1.size _).trans (hb2.mono hb1.size)
end Go.Proofs.Ythijfhbmkpfnkaa

namespace Go.Proofs.Ythijfhbmkpfnkaa
open Go.RowKit

/-- P2.9: the bytes that are told. -/
def encB (m : Msg) (R : Int) (ss : List ByteArray) (bl pl cbl cpl : List Part) (ds vl : List Int) : List Int := if R = 0 then msgB m ss bl pl cbl cpl ds vl else []
set_option maxRecDepth 100000 in
theorem encode_any (m : Msg) (ss : List ByteArray) (bl pl cbl cpl : List Part) (ds vl : List Int) (w : World) (H : MsgAt w m ss bl pl cbl cpl vl) (hd : SliceAt w m.sda m.sdc ds) (h7 : m.sdn = ds.length) :
    Calls Try.prog 9 #[.agg #[.int .i64 m.fr, .int .i64 m.tt, .int .i64 m.ki, .int .i64 m.bau, .int .i64 m.bnu, .slice m.bta m.btn m.btc, .int .i64 m.hau, .int .i64 m.hrd, .slice m.hba m.hbn m.hbc, .slice m.hpa m.hpn m.hpc, .int .i64 m.sau, .int .i64 m.srd, .slice m.sda m.sdn m.sdc, .int .i64 m.cau, .int .i64 m.crd, .slice m.cba m.cbn m.cbc, .slice m.cpa m.cpn m.cpc, .slice m.cva m.cvn m.cvc, .int .i64 m.ro]] w fun e w' => ∃ v, e = .returned (.tuple #[v, .int .i64 (checkF m (carriedF m ss bl pl cbl cpl vl))]) ∧ w'.ownsRow w.heap.size 5 1 v (encB m (checkF m (carriedF m ss bl pl cbl cpl vl)) ss bl pl cbl cpl ds vl).length (ub (encB m (checkF m (carriedF m ss bl pl cbl cpl vl)) ss bl pl cbl cpl ds vl)) ∧ Below w.heap.size w w' := by
  have hC : ∀ w1, Below w.heap.size w w1 → Calls Try.prog 12 #[.agg #[.int .i64 m.fr, .int .i64 m.tt, .int .i64 m.ki, .int .i64 m.bau, .int .i64 m.bnu, .slice m.bta m.btn m.btc, .int .i64 m.hau, .int .i64 m.hrd, .slice m.hba m.hbn m.hbc, .slice m.hpa m.hpn m.hpc, .int .i64 m.sau, .int .i64 m.srd, .slice m.sda m.sdn m.sdc, .int .i64 m.cau, .int .i64 m.crd, .slice m.cba m.cbn m.cbc, .slice m.cpa m.cpn m.cpc, .slice m.cva m.cvn m.cvc, .int .i64 m.ro]] w1 fun e w' => e = .returned (.int .i64 (checkF m (carriedF m ss bl pl cbl cpl vl))) ∧ Below w1.heap.size w1 w' := fun w1 hb => check_any m ss bl pl cbl cpl vl w1 (H.below hb)
  by_cases hR : checkF m (carriedF m ss bl pl cbl cpl vl) = 0
  · rw [hR] at hC ⊢
    obtain ⟨hf, ht, hc, _⟩ := checkF_ok hR
    have hE : encB m 0 ss bl pl cbl cpl ds vl = [m.ki, m.fr, m.tt] ++ bodyB m ss bl pl cbl cpl ds vl := rfl
    rw [hE]
    rcases carriedF_kind hc with k | k | k | k | k
    · rw [bodyB1 k]
      rw [carried1 k] at hc
      obtain ⟨g1, g2, g3, g4⟩ := batchF_ok hc
      refine (encode_bundle m ss w k hf ht g1 ⟨by omega, g2.2⟩ H.e1 g3.2 (fun s hs => (g4 s hs).2) H.txs (fun sb so e => ?_) hC).mono ?_
      · rcases H.txs.cells with h | ⟨b, o, e', h⟩
        · rw [h] at g3; simp at g3
        · rw [e] at e'
          simp at e'
          rw [e'.1]
          exact block_lt_of_cell (h 0 (by omega))
      · rintro e w' ⟨v, he, ho, hb⟩
        refine ⟨v, he, ?_, hb⟩
        rw [k, List.length_append]
        exact ho
    · rw [bodyB2 k]
      rw [carried2 k] at hc
      obtain ⟨g1, g2, g3, g4, g5, g6⟩ := headerF_ok hc
      refine (encode_offer_w m bl pl w k hf ht g1 ⟨by omega, g2.2⟩ H.e2 H.e3 (by omega) g4 g5 g6 H.bat H.par hC).mono ?_
      rintro e w' ⟨v, he, ho, hb⟩
      refine ⟨v, he, ?_, hb⟩
      rw [k, List.length_append]
      exact ho
    · rw [bodyB3 k]
      rw [carried3 k] at hc
      obtain ⟨g1, g2, g3⟩ := slotF_ok hc
      refine (encode_vote m ds w k hf ht g1 ⟨by omega, g2.2⟩ h7 (by omega) hd (fun sb so e => ?_) hC).mono ?_
      · rcases hd.bytes with h | ⟨b, o, e', h⟩
        · rw [h] at h7; simp at h7; omega
        · rw [e] at e'
          simp at e'
          rw [e'.1]
          exact block_lt_of_cell (h 0 (by omega))
      · rintro e w' ⟨v, he, ho, hb⟩
        refine ⟨v, he, ?_, hb⟩
        rw [k, show ([3, m.fr, m.tt] ++ ([m.sau] ++ rd3 m.srd ++ ds)).length = 3 + 1 + 3 + m.sdn by simp [rd3, h7]; omega, ← List.append_assoc, ← List.append_assoc]
        exact ho
    · rw [bodyB4 k]
      rw [carried4 k] at hc
      obtain ⟨c1, c2, c3, c4⟩ := certF_ok hc
      obtain ⟨g1, g2, g3, g4, g5, g6⟩ := headerF_ok c1
      refine (encode_proof_w m cbl cpl vl w k hf ht g1 ⟨by omega, g2.2⟩ H.e4 H.e5 (by omega) g4 g5 g6 H.cbat H.cpar H.e6 c2 c4 H.vot (fun sb so e => ?_) hC).mono ?_
      · rcases H.vot.cells with h | ⟨b, o, e', h⟩
        · rw [h] at c3; simp at c3
        · rw [e] at e'
          simp at e'
          rw [e'.1]
          exact block_lt_of_cell (h 0 (by omega))
      · rintro e w' ⟨v, he, ho, hb⟩
        refine ⟨v, he, ?_, hb⟩
        rw [k, List.length_append]
        exact ho
    · rw [bodyB5 k]
      rw [carried5 k] at hc
      have hro : 1 ≤ m.ro ∧ m.ro ≤ 1048576 := by
        rcases Decidable.em (1 ≤ m.ro ∧ m.ro ≤ 1048576) with g | g
        · exact g
        · rw [if_neg g] at hc; cases hc
      refine (encode_want m w k hf ht ⟨by omega, hro.2⟩ hC).mono ?_
      rintro e w' ⟨v, he, ho, hb⟩
      refine ⟨v, he, ?_, hb⟩
      rw [k]
      exact ho
  · refine (encode_bad m _ w hR hC).mono ?_
    rintro e w' ⟨he, hb⟩
    refine ⟨_, he, ?_, hb⟩
    rw [encB, if_neg hR]
    exact World.ownsRow_nil _ _ _ _
end Go.Proofs.Ythijfhbmkpfnkaa

namespace Go.Proofs.Ythijfhbmkpfnkaa
open Go.ChangeShapes Go.WideShapes Go.ChangeAt Go.RowKit Go.Deep

set_option maxRecDepth 100000 in
theorem cRaw : Try.prog.cellsOf 24 = 5 := by kernel_rfl
set_option maxRecDepth 100000 in
theorem cIntR : Try.prog.cellsOf 3 = 1 := by kernel_rfl
set_option maxRecDepth 100000 in
theorem cStrsR : Try.prog.cellsOf 22 = 1 := by kernel_rfl
set_option maxRecDepth 100000 in
theorem open_raw {H : Type} {enc : TypeId × Value → H} {W : World} {base : Nat} {v : Value} {d : DataW H} {p : List MemPlace}
    (hv : Value.okWide Try.prog W .any base 24 v) (h : DataW.Trod enc Try.prog W 0 (fun _ => true) true 24 v d p) (hfit : ∀ n ∈ d.weights Try.prog 24, n ≤ reachBytes) :
    ∃ ki ra rb rc sa cap ss, v = .agg #[.int .i64 ki, .int .i64 ra, .int .i64 rb, .int .i64 rc, .slice sa (List.length ss) cap] ∧ I64 ki ∧ I64 ra ∧ I64 rb ∧ I64 rc ∧ TextsAt W sa cap ss := by
  obtain ⟨cs, rfl, _⟩ := okWide_struct Try.underlying24 hv
  obtain ⟨fuel, hf⟩ := h
  obtain ⟨xs, n, _, hx, hl, hlen, hg⟩ := DataW.trod_struct Try.underlying24 hf
  rw [cRaw] at hl
  match xs, hlen with
  | [y0, y1, y2, y3, y4], _ =>
  have h0 := hg 0 _ rfl
  have h1 := hg 1 _ rfl
  have h2 := hg 2 _ rfl
  have h3 := hg 3 _ rfl
  have h4 := hg 4 _ rfl
  simp only [Prod.mk.injEq] at hx
  obtain ⟨rfl, rfl⟩ := hx
  obtain ⟨l⟩ := cs
  match l, hl with
  | [c0, c1, c2, c3, c4], _ =>
  obtain ⟨a0, e0, rfl, w0⟩ := DataW.trod_int Try.underlying3 h0
  obtain ⟨a1, e1, rfl, w1⟩ := DataW.trod_int Try.underlying3 h1
  obtain ⟨a2, e2, rfl, w2⟩ := DataW.trod_int Try.underlying3 h2
  obtain ⟨a3, e3, rfl, w3⟩ := DataW.trod_int Try.underlying3 h3
  obtain ⟨sa, cap, ss, e4, hs⟩ := open_texts_cells h4 (fun n hn => hfit n (by simp [DataW.weights, DataW.weightsEach, Try.underlying24, hn]))
  simp [cIntR, cStrsR, Value.cells] at e0 e1 e2 e3 e4
  subst e0 e1 e2 e3 e4
  exact ⟨a0, a1, a2, a3, sa, cap, ss, rfl, bounds_i64 w0, bounds_i64 w1, bounds_i64 w2, bounds_i64 w3, hs⟩
end Go.Proofs.Ythijfhbmkpfnkaa

namespace Go.Proofs.Ythijfhbmkpfnkaa
open Go.RowKit

set_option maxRecDepth 100000 in
theorem checkF_zeroT {m : Msg} {e : Int} (h1 : 0 ≤ m.fr ∧ m.fr < 4) (h2 : 0 ≤ m.tt ∧ m.tt < 4) (he : e = 0) (h3 : msgEmpty (strip m) = true) : checkF m e = 0 := by
  rw [checkF, if_neg (by omega), if_neg (by simp [he]), if_pos h3]
set_option maxRecDepth 100000 in
/-- What Message gives, as it lies there. -/
theorem raw_message (ki ra rb rc : Int) (sa : Option Addr) (cap : Nat) (ss : List ByteArray) (w : World) (h1 : I64 ki) (h2 : I64 ra) (h3 : I64 rb) (h4 : I64 rc) (h5 : TextsAt w sa cap ss) :
    Calls Try.prog 8 #[.agg #[.int .i64 ki, .int .i64 ra, .int .i64 rb, .int .i64 rc, .slice sa ss.length cap]] w fun e w' => ∃ x : MV, e = .returned (.agg #[.int .i64 x.m.fr, .int .i64 x.m.tt, .int .i64 x.m.ki, .int .i64 x.m.bau, .int .i64 x.m.bnu, .slice x.m.bta x.m.btn x.m.btc, .int .i64 x.m.hau, .int .i64 x.m.hrd, .slice x.m.hba x.m.hbn x.m.hbc, .slice x.m.hpa x.m.hpn x.m.hpc, .int .i64 x.m.sau, .int .i64 x.m.srd, .slice x.m.sda x.m.sdn x.m.sdc, .int .i64 x.m.cau, .int .i64 x.m.crd, .slice x.m.cba x.m.cbn x.m.cbc, .slice x.m.cpa x.m.cpn x.m.cpc, .slice x.m.cva x.m.cvn x.m.cvc, .int .i64 x.m.ro]) ∧ MAt w' x ∧ checkF x.m x.car = 0 ∧ U8s x.bytes ∧ NewM w.heap.size x.m x.bl x.pl x.cbl x.cpl ∧ Below w.heap.size w w' := by
  obtain ⟨pf0, pf1⟩ := pk_bounds rc 4 (by decide)
  obtain ⟨pt0, pt1⟩ := pk_bounds rb 4 (by decide)
  refine (message_rawU ki ra rb rc sa cap ss w h1 h2 h3 h4 h5).mono ?_
  rintro e w' ⟨m, s, bl, pl, cbl, cpl, vl, he, H, hfr, htt, hcar, hemp, hb, -, -, -, -, -, -, ds, hd, hdn, hN, hU⟩
  have hC : checkF m (carriedF m s bl pl cbl cpl vl) = 0 := checkF_zeroT (by omega) (by omega) hcar hemp
  exact ⟨⟨m, s, bl, pl, cbl, cpl, ds, vl⟩, he, ⟨H, hd, hdn⟩, hC, u8_msg (x := ⟨m, s, bl, pl, cbl, cpl, ds, vl⟩) hC hU, hN, hb⟩
set_option maxRecDepth 100000 in
/-- What Encode gives of a message that may be. -/
theorem encode_mv {x : MV} {w : World} (hM : MAt w x) (hC : checkF x.m x.car = 0) :
    Calls Try.prog 9 #[.agg #[.int .i64 x.m.fr, .int .i64 x.m.tt, .int .i64 x.m.ki, .int .i64 x.m.bau, .int .i64 x.m.bnu, .slice x.m.bta x.m.btn x.m.btc, .int .i64 x.m.hau, .int .i64 x.m.hrd, .slice x.m.hba x.m.hbn x.m.hbc, .slice x.m.hpa x.m.hpn x.m.hpc, .int .i64 x.m.sau, .int .i64 x.m.srd, .slice x.m.sda x.m.sdn x.m.sdc, .int .i64 x.m.cau, .int .i64 x.m.crd, .slice x.m.cba x.m.cbn x.m.cbc, .slice x.m.cpa x.m.cpn x.m.cpc, .slice x.m.cva x.m.cvn x.m.cvc, .int .i64 x.m.ro]] w fun e w' => ∃ a c, e = .returned (.tuple #[.slice a x.bytes.length c, .int .i64 0]) ∧ SliceAt w' a c x.bytes ∧ Below w.heap.size w w' := by
  have h := encode_any x.m x.ss x.bl x.pl x.cbl x.cpl x.ds x.vl w hM.at' hM.dig hM.dn
  have hC' : checkF x.m (carriedF x.m x.ss x.bl x.pl x.cbl x.cpl x.vl) = 0 := hC
  rw [hC'] at h
  refine h.mono ?_
  rintro e w' ⟨v, he, ho, hb⟩
  have ho' : w'.ownsRow w.heap.size 5 1 v x.bytes.length (ub x.bytes) := ho
  obtain ⟨a, c, hv, -, hs⟩ := owns_form ho'
  subst hv
  exact ⟨a, c, he, hs, hb⟩
set_option maxRecDepth 100000 in
set_option maxHeartbeats 4000000 in
theorem messageTorn_walk (ki ra rb rc : Int) (sa : Option Addr) (cap : Nat) (ss0 : List ByteArray) (n : Int) (w : World) (h1 : I64 ki) (h2 : I64 ra) (h3 : I64 rb) (h4 : I64 rc) (h5 : TextsAt w sa cap ss0) (hn1 : -9223372036854775808 ≤ n) (hn2 : n ≤ 9223372036854775807) :
    Calls Try.prog 5 #[.agg #[.int .i64 ki, .int .i64 ra, .int .i64 rb, .int .i64 rc, .slice sa ss0.length cap], .int .i64 n] w fun e w' => e = .returned (.bool true) ∧ Below w.heap.size w w' := by
  have hA : Below w.heap.size w (w.alloc (.cells #[.int .i64 ki, .int .i64 ra, .int .i64 rb, .int .i64 rc, .slice sa ss0.length cap] 24)) := (Below.refl _ _).alloc (Nat.le_refl _) _
  go_enter Try.func5, Try.ntmps5
  go_wp2_with fail
  refine (raw_message ki ra rb rc sa cap ss0 _ h1 h2 h3 h4 (h5.below hA)).mono ?_
  rintro e w1 ⟨x, he, hM, hC, hU, -, hb1⟩
  have hB1 := hA.trans (hb1.mono hA.size)
  subst he
  dsimp only
  go_wp2_with fail
  refine (encode_mv hM hC).mono ?_
  rintro e w2 ⟨a, c, he, hs, hb2⟩
  have hB2 := hB1.trans (hb2.mono hB1.size)
  obtain ⟨hl3, hl4⟩ := msg_len hM hC
  have hT := torn_read hM hC
  obtain ⟨bs, hbs⟩ : ∃ bs, x.bytes = bs := ⟨_, rfl⟩
  rw [hbs] at he hs hl3 hl4 hT hU
  have hcap := hs.le
  have hnil := hs.nil
  have hmax := hs.max
  obtain ⟨N, hN⟩ : ∃ N, bs.length = N := ⟨_, rfl⟩
  rw [hN] at he hl3 hl4 hT hcap
  subst he
  dsimp only
  have g1 : ¬ ((N : Int) < 1) := by omega
  have g2 : (1 : Int) < N := by omega
  have g3 : (1 : Int) ≤ N := by omega
  obtain ⟨p0, p1⟩ := pk_bounds n (N : Int) (by omega)
  obtain ⟨K, hK⟩ : ∃ K : Nat, pk n (N : Int) = K := ⟨(pk n (N : Int)).toNat, by omega⟩
  rw [hK] at p0 p1
  have hP : Calls Try.prog 14 #[.int .i64 n, .int .i64 (N : Int)] w2 fun e w' => e = .returned (.int .i64 (K : Int)) ∧ w2 = w' := by
    have := picked_any n (N : Int) w2 hn1 hn2 (by omega) (by omega)
    rw [hK] at this
    exact this
  have hKN : K < N := by omega
  have hKc : (K : Int) ≤ c := by omega
  have hCut := hs.takeR K c (by omega) (by omega) (Nat.le_refl _) hnil
  have hTl : (bs.take K).length = K := by rw [List.length_take]; omega
  have hD := decode_any (bs.take K) a K c w2 hTl.symm hCut (hU.take K) (by omega)
  have hF := hT K hKN
  clear hT hK hbs
  go_wp2_with fail
  refine hP.mono ?_
  rintro e w3 ⟨he, rfl⟩
  subst he
  dsimp only
  go_wp2_with fail
  refine hD.mono ?_
  intro e w4 hd4
  obtain ⟨he, hb4⟩ := dec_torn hd4 hF
  subst he
  dsimp only
  have hB4 := hB2.trans (hb4.mono hB2.size)
  have qz := heap_alloc_new w4 (.cells #[.int .i64 0, .int .i64 0, .int .i64 0, .int .i64 0, .int .i64 0, .slice none 0 0, .int .i64 0, .int .i64 0, .slice none 0 0, .slice none 0 0, .int .i64 0, .int .i64 0, .slice none 0 0, .int .i64 0, .int .i64 0, .slice none 0 0, .slice none 0 0, .slice none 0 0, .int .i64 0] 37)
  have hA5 : Below w4.heap.size w4 ((w4.alloc (.cells #[.int .i64 0, .int .i64 0, .int .i64 0, .int .i64 0, .int .i64 0, .slice none 0 0, .int .i64 0, .int .i64 0, .slice none 0 0, .slice none 0 0, .int .i64 0, .int .i64 0, .slice none 0 0, .int .i64 0, .int .i64 0, .slice none 0 0, .slice none 0 0, .slice none 0 0, .int .i64 0] 37)).setRow w4.heap.size #[.int .i64 0, .int .i64 0, .int .i64 0, .int .i64 0, .int .i64 0, .slice none 0 0, .int .i64 0, .int .i64 0, .slice none 0 0, .slice none 0 0, .int .i64 0, .int .i64 0, .slice none 0 0, .int .i64 0, .int .i64 0, .slice none 0 0, .slice none 0 0, .slice none 0 0, .int .i64 0]) := laid_row w4 #[.int .i64 0, .int .i64 0, .int .i64 0, .int .i64 0, .int .i64 0, .slice none 0 0, .int .i64 0, .int .i64 0, .slice none 0 0, .slice none 0 0, .int .i64 0, .int .i64 0, .slice none 0 0, .int .i64 0, .int .i64 0, .slice none 0 0, .slice none 0 0, .slice none 0 0, .int .i64 0] #[.int .i64 0, .int .i64 0, .int .i64 0, .int .i64 0, .int .i64 0, .slice none 0 0, .int .i64 0, .int .i64 0, .slice none 0 0, .slice none 0 0, .int .i64 0, .int .i64 0, .slice none 0 0, .int .i64 0, .int .i64 0, .slice none 0 0, .slice none 0 0, .slice none 0 0, .int .i64 0] 37
  go_upto_region 3 with (refine wpList_store_row rfl 37 _ _ rfl w4.heap.size #[.int .i64 0, .int .i64 0, .int .i64 0, .int .i64 0, .int .i64 0, .slice none 0 0, .int .i64 0, .int .i64 0, .slice none 0 0, .slice none 0 0, .int .i64 0, .int .i64 0, .slice none 0 0, .int .i64 0, .int .i64 0, .slice none 0 0, .slice none 0 0, .slice none 0 0, .int .i64 0] rfl rfl 37 _ qz sMsg' rfl (by simp [Value.oneCell']) ?_)
  generalize (w4.alloc (.cells #[.int .i64 0, .int .i64 0, .int .i64 0, .int .i64 0, .int .i64 0, .slice none 0 0, .int .i64 0, .int .i64 0, .slice none 0 0, .slice none 0 0, .int .i64 0, .int .i64 0, .slice none 0 0, .int .i64 0, .int .i64 0, .slice none 0 0, .slice none 0 0, .slice none 0 0, .int .i64 0] 37)).setRow w4.heap.size #[.int .i64 0, .int .i64 0, .int .i64 0, .int .i64 0, .int .i64 0, .slice none 0 0, .int .i64 0, .int .i64 0, .slice none 0 0, .slice none 0 0, .int .i64 0, .int .i64 0, .slice none 0 0, .int .i64 0, .int .i64 0, .slice none 0 0, .slice none 0 0, .slice none 0 0, .int .i64 0] = W4 at hA5 ⊢
  clear qz
  have hB5 := hB4.trans (hA5.mono hB4.size)
  go_wp2_with fail
  go_ret
  exact ⟨rfl, hB5⟩
end Go.Proofs.Ythijfhbmkpfnkaa

namespace Go.Proofs.Ythijfhbmkpfnkaa.messageTorn
open Go.ChangeShapes Go.WideShapes Go.ChangeAt Go.RowKit

set_option maxRecDepth 100000 in
/-- What the walk gives, for every argument and every world. -/
theorem contract (H : Type) (enc : TypeId × Value → H) (W : World) (base : Nat) (args : Array Value) (ds gs : List (DataW H)) (before : List MemPlace)
    (hval : ∀ (j : Nat) t v, Try.f5.params[j]? = some t → args[j]? = some v → Value.okWide Try.prog W .any base t v)
    (hW : DataW.Whole enc Try.prog Try.f5.params.toList Rows.messageTornSpec.vars false W args.toList ds gs before) (hsz : (DataW.weightsEach Try.prog (Try.f5.params.toList ++ (OpenSpec.ofChange Rows.messageTornSpec).bare.plain.varTypes Try.prog) (ds ++ gs)).all (· ≤ reachBytes) = true) (_hL : laidMetH Try.prog Rows.messageTornRow.laid W) :
    Calls Try.prog 5 args W fun e W' => ∃ v, e = .returned v ∧ Rows.messageTornSpec.post enc Try.prog Try.f5 false true false false W args v W' := by
  have hW' := hW
  obtain ⟨p, q, hA0, hV, rfl, hfz, hnd⟩ := hW
  have hA : DataW.TrodAll enc Try.prog W 0 (fun _ => true) true Try.f5.params.toList args.toList ds p := hA0
  rw [Try.params5] at hA hval hsz
  obtain ⟨v0, vs0, d0, ds0, p0, q0, hargs, rfl, rfl, h0, r0⟩ := trodAll_cons hA
  obtain ⟨v1, vs1, d1, ds1, p1, q1, rfl, rfl, rfl, h1, r1⟩ := trodAll_cons r0
  obtain ⟨rfl, rfl, rfl⟩ := trodAll_nil r1
  obtain rfl : args = #[v0, v1] := by cases args; simp_all
  obtain ⟨rfl, rfl⟩ := trodVars_none hV
  have k0 := h0
  have lt0 : ∀ x ∈ p0, x.block < W.heap.size := by obtain ⟨m, hm⟩ := k0; exact DataW.trod_lt m _ _ _ hm
  obtain ⟨ki0, ra0, rb0, rc0, sa0, cap0, ss0, rfl, q0_0, q0_1, q0_2, q0_3, q0_4⟩ := open_raw (hval 0 24 v0 rfl rfl) h0 (fit_each hsz (j := 0) rfl rfl)
  obtain ⟨a1, rfl, rfl, rfl, w1⟩ := open_int Try.underlying3 (hval 1 3 v1 rfl rfl) h1
  obtain ⟨lo1, hi1⟩ := bounds_i64 w1
  clear hA0
  refine (messageTorn_walk ki0 ra0 rb0 rc0 sa0 cap0 ss0 a1 W q0_0 q0_1 q0_2 q0_3 q0_4 lo1 hi1).mono fun e W' ⟨he, bel⟩ => ?_
  subst he
  exact ⟨_, rfl, _, _, _, [], _, [], hW', trodAll_mk1 (shut_bool Try.underlying4 _), (trodAll_cons_mk (Below.trod laidOut (by kernel_rfl) (of_decide_eq_true (by kernel_rfl)) k0 bel lt0) (trodAll_cons_mk (shut_int Try.underlying3 w1) trodAll_mk0)), rfl, bel.frame _, fun h => by cases h⟩

set_option maxRecDepth 100000 in
theorem laid_met (os : Os) : laidMet Try.prog Rows.messageTornRow.laid ((World.holding Try.prog os ⟨#[], #[], []⟩).forCall (fun _ _ => 0) ⟨#[], #[.agg #[.int .i64 0, .int .i64 0, .int .i64 0, .int .i64 0, .slice none 0 0], .int .i64 0], []⟩).memory :=
  laidMet_of_run' 8 (by kernel_rfl) (by kernel_rfl)
set_option maxRecDepth 100000 in
theorem reads (os : Os) {H : Type} (enc : TypeId × Value → H) : ∃ places, DataW.whole enc Try.prog ((World.holding Try.prog os ⟨#[], #[], []⟩).forCall (fun _ _ => 0) ⟨#[], #[.agg #[.int .i64 0, .int .i64 0, .int .i64 0, .int .i64 0, .slice none 0 0], .int .i64 0], []⟩).memory Try.f5.params.toList Rows.messageTornSpec.vars false (#[.agg #[.int .i64 0, .int .i64 0, .int .i64 0, .int .i64 0, .slice none 0 0], .int .i64 0] : Array Value).toList 8 = some ([.agg [.lit (.int .i64 0), .lit (.int .i64 0), .lit (.int .i64 0), .lit (.int .i64 0), .nil], .lit (.int .i64 0)], [], places) :=
  ⟨[], by kernel_rfl⟩

set_option maxRecDepth 100000 in
theorem lifted (os : Os) (started : os.Started) (H : Type) (enc : TypeId × Value → H) (F : Stop.Interp) :
    ReturnsInHanded {} Try.checked os 5 .any ((OpenSpec.ofChange Rows.messageTornSpec).preRow enc Try.prog Try.f5 Rows.messageTornRow.domain false Rows.messageTornRow.laid) (((OpenSpec.ofChange Rows.messageTornSpec).at F).post enc Try.prog Try.f5 false true false false) := by
  obtain ⟨places, hx⟩ := reads os enc
  refine returnsInHanded_of_row (C := Try.checked) (s := OpenSpec.ofChange Rows.messageTornSpec) own started (by kernel_rfl) Try.func5
    (witness_row_at (enc := enc) (C := Try.checked) false (World.holding Try.prog os ⟨#[], #[], []⟩) #[.agg #[.int .i64 0, .int .i64 0, .int .i64 0, .int .i64 0, .slice none 0 0], .int .i64 0] rfl (by kernel_rfl) (by kernel_rfl) (by kernel_rfl)
      (OpenSpec.preRow_of_cond 8 hx (by kernel_rfl) (fun k hk => by cases hk) (by kernel_rfl) (laid_met os))) ?_
  intro W base args ds gs before hval hW _ _ hsz hL _ _
  exact contract H enc W base args ds gs before hval hW hsz hL

set_option maxRecDepth 100000 in
theorem said : Rows.MessageTornSaid :=
  OpenClaim.holds_of_cond 5 Try.f5 rfl rfl rfl rfl rfl rfl rfl ⟨rfl, rfl, rfl, rfl, rfl⟩ rfl rfl rfl rfl rfl (by kernel_rfl) Try.func5 (by kernel_rfl)
    (of_decide_eq_true (by kernel_rfl)) (by unfold Func.isWrapper; first | (rw [if_pos (by decide +kernel)]; kernel_rfl) | (rw [if_neg (by decide +kernel)]; exact ⟨rfl, rfl⟩))
    (fun os started H enc _ F => by rw [OpenClaim.pre_eq_preRow]; exact lifted os started H enc F)

end Go.Proofs.Ythijfhbmkpfnkaa.messageTorn
namespace Go.Proofs.Ythijfhbmkpfnkaa
set_option maxRecDepth 100000 in
theorem messageTorn_holds : Rows.MessageTornSaid := messageTorn.said
#print axioms messageTorn_holds
end Go.Proofs.Ythijfhbmkpfnkaa
