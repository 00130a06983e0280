/- wire.Encode of a header. -/
import Derived.Test.YthijfhbmkpfnkaaEncB
import Derived.Test.YthijfhbmkpfnkaaAppC
namespace Go.Proofs.Ythijfhbmkpfnkaa
open Go.RowKit

set_option maxRecDepth 100000 in
set_option maxHeartbeats 1000000 in
theorem encode_offer_w (m : Msg) (bl pl : List Part) (w : World) (hk : m.ki = 2) (hf : 0 ≤ m.fr ∧ m.fr < 4) (ht : 0 ≤ m.tt ∧ m.tt < 4) (ha : 0 ≤ m.hau ∧ m.hau < 4) (hr : 0 ≤ m.hrd ∧ m.hrd ≤ 1048576) (hbn : m.hbn = bl.length) (hpn : m.hpn = pl.length) (hbl : bl.length ≤ 4) (hpl : pl.length ≤ 4) (hb32 : ∀ p ∈ bl, p.bs.length = 32) (hp32 : ∀ p ∈ pl, p.bs.length = 32) (hLb : ListAt w m.hba m.hbc bl) (hLp : ListAt w m.hpa m.hpc pl)
    (hc : ∀ w1, Below w.heap.size w w1 → Calls Try.prog 12 #[.agg #[.int .i64 m.fr, .int .i64 m.tt, .int .i64 m.ki, .int .i64 m.bau, .int .i64 m.bnu, .slice m.bta m.btn m.btc, .int .i64 m.hau, .int .i64 m.hrd, .slice m.hba m.hbn m.hbc, .slice m.hpa m.hpn m.hpc, .int .i64 m.sau, .int .i64 m.srd, .slice m.sda m.sdn m.sdc, .int .i64 m.cau, .int .i64 m.crd, .slice m.cba m.cbn m.cbc, .slice m.cpa m.cpn m.cpc, .slice m.cva m.cvn m.cvc, .int .i64 m.ro]] w1 fun e w' => e = .returned (.int .i64 0) ∧ Below w1.heap.size w1 w') :
    Calls Try.prog 9 #[.agg #[.int .i64 m.fr, .int .i64 m.tt, .int .i64 m.ki, .int .i64 m.bau, .int .i64 m.bnu, .slice m.bta m.btn m.btc, .int .i64 m.hau, .int .i64 m.hrd, .slice m.hba m.hbn m.hbc, .slice m.hpa m.hpn m.hpc, .int .i64 m.sau, .int .i64 m.srd, .slice m.sda m.sdn m.sdc, .int .i64 m.cau, .int .i64 m.crd, .slice m.cba m.cbn m.cbc, .slice m.cpa m.cpn m.cpc, .slice m.cva m.cvn m.cvc, .int .i64 m.ro]] w fun e w' => ∃ v, e = .returned (.tuple #[v, .int .i64 0]) ∧ w'.ownsRow w.heap.size 5 1 v (3 + (headB m.hau m.hrd bl pl).length) (ub ([2, m.fr, m.tt] ++ headB m.hau m.hrd bl pl)) ∧ Below w.heap.size w w' := by
  have hq := heap_alloc_new w (.cells #[.int .i64 m.fr, .int .i64 m.tt, .int .i64 m.ki, .int .i64 m.bau, .int .i64 m.bnu, .slice m.bta m.btn m.btc, .int .i64 m.hau, .int .i64 m.hrd, .slice m.hba m.hbn m.hbc, .slice m.hpa m.hpn m.hpc, .int .i64 m.sau, .int .i64 m.srd, .slice m.sda m.sdn m.sdc, .int .i64 m.cau, .int .i64 m.crd, .slice m.cba m.cbn m.cbc, .slice m.cpa m.cpn m.cpc, .slice m.cva m.cvn m.cvc, .int .i64 m.ro] 37)
  have hB : Below w.heap.size w (w.alloc (.cells #[.int .i64 m.fr, .int .i64 m.tt, .int .i64 m.ki, .int .i64 m.bau, .int .i64 m.bnu, .slice m.bta m.btn m.btc, .int .i64 m.hau, .int .i64 m.hrd, .slice m.hba m.hbn m.hbc, .slice m.hpa m.hpn m.hpc, .int .i64 m.sau, .int .i64 m.srd, .slice m.sda m.sdn m.sdc, .int .i64 m.cau, .int .i64 m.crd, .slice m.cba m.cbn m.cbc, .slice m.cpa m.cpn m.cpc, .slice m.cva m.cvn m.cvc, .int .i64 m.ro] 37)) := (Below.refl _ _).alloc (Nat.le_refl _) _
  rw [hk] at hc hq hB ⊢
  obtain ⟨hf0, hf1⟩ := hf
  obtain ⟨ht0, ht1⟩ := ht
  have Hn : Hid (m.hbn = bl.length) := hbn
  have Hp : Hid (m.hpn = pl.length) := hpn
  clear hbn hpn hk
  go_enter Try.func9, Try.ntmps9
  go_wp2_with (refine wpList_load_row rfl 37 _ rfl w.heap.size rfl 37 _ (0, 0) _ hq Try.underlying37 rfl sMsg ?_)
  refine (hc _ hB).mono ?_
  rintro e w1 ⟨rfl, hb1⟩
  have r1 := row_new hb1
  replace hb1 := below_alloc hb1
  have c0 : w1.cell? ⟨w.heap.size, 0, none⟩ = some (.int .i64 m.fr) := cells_at r1 0 _ rfl
  have c1 : w1.cell? ⟨w.heap.size, 1, none⟩ = some (.int .i64 m.tt) := cells_at r1 1 _ rfl
  have c2 : w1.cell? ⟨w.heap.size, 2, none⟩ = some (.int .i64 2) := cells_at r1 2 _ rfl
  have c6 : w1.cell? ⟨w.heap.size, 6, none⟩ = some (.int .i64 m.hau) := cells_at r1 6 _ rfl
  have c7 : w1.cell? ⟨w.heap.size, 7, none⟩ = some (.int .i64 m.hrd) := cells_at r1 7 _ rfl
  have c8 : w1.cell? ⟨w.heap.size, 8, none⟩ = some (.slice m.hba m.hbn m.hbc) := cells_at r1 8 _ rfl
  have c9 : w1.cell? ⟨w.heap.size, 9, none⟩ = some (.slice m.hpa m.hpn m.hpc) := cells_at r1 9 _ rfl
  have hlt : w.heap.size < w1.heap.size := lt_of_heap r1
  have hlit := World.ownsRow_lit (base := w1.heap.size) (e := 5) (size := 1) w1 (ub [2, m.fr, m.tt]).toArray 3 (Nat.le_refl _) (by decide) rfl
  have hA1 : Below w1.heap.size w1 (w1.alloc (.cells (ub [2, m.fr, m.tt]).toArray 5)) := (Below.refl _ _).alloc (Nat.le_refl _) _
  have oo : ∀ (ra : Option Addr) (rc : Nat) (qs : List Part), ListAt w ra rc qs → OffW (w1.alloc (.cells (ub [2, m.fr, m.tt]).toArray 5)) (.slice (some ⟨w1.heap.size, 0, none⟩) 3 3) ra qs := fun ra rc qs h =>
    offW_of_list (h.below hb1) (le_alloc (Nat.le_refl _) _) (fun sb hl e => by have e' : w1.heap.size = sb := (by simpa [Value.ownBlock] using e); omega)
  have hH := appendHeader_w w1.heap.size (.slice (some ⟨w1.heap.size, 0, none⟩) 3 3) 3 [2, m.fr, m.tt] m.hau m.hrd m.hba m.hbn m.hbc bl m.hpa m.hpn m.hpc pl _ ha hr Hn.out Hp.out hbl hpl hb32 hp32 ((hLb.below hb1).below hA1) (oo _ _ _ hLb) ((hLp.below hb1).below hA1) (oo _ _ _ hLp) hlit (le_alloc (Nat.le_refl _) _) (by decide)
  clear oo
  go_wp2_with fail
  refine hH.mono ?_
  rintro e w2 ⟨v2, rfl, ho2, hG⟩
  have hb2 := hG.below (base := w1.heap.size) (le_alloc (Nat.le_refl _) _) (fun q e => by cases e; exact Nat.le_refl _)
  clear hG hH
  go_wp2_with fail
  go_ret2
  refine ⟨v2, rfl, ownsRow_base' ho2 hb1.size, ?_⟩
  exact (hb1.alloc hb1.size _).trans (hb2.mono hb1.size)
set_option maxRecDepth 100000 in
theorem encode_offer (m : Msg) (bl pl : List Part) (w : World) (hk : m.ki = 2) (hf : 0 ≤ m.fr ∧ m.fr < 4) (ht : 0 ≤ m.tt ∧ m.tt < 4) (ha : 0 ≤ m.hau ∧ m.hau < 4) (hr : 0 ≤ m.hrd ∧ m.hrd ≤ 1048576) (hbn : m.hbn = bl.length) (hpn : m.hpn = pl.length) (hbl : bl.length ≤ 4) (hpl : pl.length ≤ 4) (hb32 : ∀ p ∈ bl, p.bs.length = 32) (hp32 : ∀ p ∈ pl, p.bs.length = 32) (hLb : ListAt w m.hba m.hbc bl) (hLp : ListAt w m.hpa m.hpc pl) (_hOb : Off w (.slice none 0 0) m.hba bl) (_hOp : Off w (.slice none 0 0) m.hpa pl)
    (hc : ∀ w1, Below w.heap.size w w1 → Calls Try.prog 12 #[.agg #[.int .i64 m.fr, .int .i64 m.tt, .int .i64 m.ki, .int .i64 m.bau, .int .i64 m.bnu, .slice m.bta m.btn m.btc, .int .i64 m.hau, .int .i64 m.hrd, .slice m.hba m.hbn m.hbc, .slice m.hpa m.hpn m.hpc, .int .i64 m.sau, .int .i64 m.srd, .slice m.sda m.sdn m.sdc, .int .i64 m.cau, .int .i64 m.crd, .slice m.cba m.cbn m.cbc, .slice m.cpa m.cpn m.cpc, .slice m.cva m.cvn m.cvc, .int .i64 m.ro]] w1 fun e w' => e = .returned (.int .i64 0) ∧ Below w1.heap.size w1 w') :
    Calls Try.prog 9 #[.agg #[.int .i64 m.fr, .int .i64 m.tt, .int .i64 m.ki, .int .i64 m.bau, .int .i64 m.bnu, .slice m.bta m.btn m.btc, .int .i64 m.hau, .int .i64 m.hrd, .slice m.hba m.hbn m.hbc, .slice m.hpa m.hpn m.hpc, .int .i64 m.sau, .int .i64 m.srd, .slice m.sda m.sdn m.sdc, .int .i64 m.cau, .int .i64 m.crd, .slice m.cba m.cbn m.cbc, .slice m.cpa m.cpn m.cpc, .slice m.cva m.cvn m.cvc, .int .i64 m.ro]] w fun e w' => ∃ v, e = .returned (.tuple #[v, .int .i64 0]) ∧ w'.ownsRow w.heap.size 5 1 v (3 + (headB m.hau m.hrd bl pl).length) (ub ([2, m.fr, m.tt] ++ headB m.hau m.hrd bl pl)) ∧ Below w.heap.size w w' :=
  encode_offer_w m bl pl w hk hf ht ha hr hbn hpn hbl hpl hb32 hp32 hLb hLp hc
end Go.Proofs.Ythijfhbmkpfnkaa
