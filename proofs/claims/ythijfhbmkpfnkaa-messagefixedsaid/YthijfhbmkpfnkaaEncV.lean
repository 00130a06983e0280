/- wire.Encode of a vote. -/
import Derived.Test.YthijfhbmkpfnkaaEncB
import Derived.Test.YthijfhbmkpfnkaaAppS
namespace Go.Proofs.Ythijfhbmkpfnkaa
open Go.RowKit

set_option maxRecDepth 100000 in
set_option maxHeartbeats 1000000 in
theorem encode_vote (m : Msg) (ds : List Int) (w : World) (hk : m.ki = 3) (hf : 0 ≤ m.fr ∧ m.fr < 4) (ht : 0 ≤ m.tt ∧ m.tt < 4) (ha : 0 ≤ m.sau ∧ m.sau < 4) (hr : 0 ≤ m.srd ∧ m.srd ≤ 1048576) (hn : m.sdn = ds.length) (hn2 : m.sdn ≤ 4000) (hs : SliceAt w m.sda m.sdc ds) (hsb : ∀ sb so, m.sda = some ⟨sb, so, none⟩ → sb < w.heap.size)
    (hc : ∀ w1, Below w.heap.size w w1 → Calls Try.prog 12 #[.agg #[.int .i64 m.fr, .int .i64 m.tt, .int .i64 m.ki, .int .i64 m.bau, .int .i64 m.bnu, .slice m.bta m.btn m.btc, .int .i64 m.hau, .int .i64 m.hrd, .slice m.hba m.hbn m.hbc, .slice m.hpa m.hpn m.hpc, .int .i64 m.sau, .int .i64 m.srd, .slice m.sda m.sdn m.sdc, .int .i64 m.cau, .int .i64 m.crd, .slice m.cba m.cbn m.cbc, .slice m.cpa m.cpn m.cpc, .slice m.cva m.cvn m.cvc, .int .i64 m.ro]] w1 fun e w' => e = .returned (.int .i64 0) ∧ Below w1.heap.size w1 w') :
    Calls Try.prog 9 #[.agg #[.int .i64 m.fr, .int .i64 m.tt, .int .i64 m.ki, .int .i64 m.bau, .int .i64 m.bnu, .slice m.bta m.btn m.btc, .int .i64 m.hau, .int .i64 m.hrd, .slice m.hba m.hbn m.hbc, .slice m.hpa m.hpn m.hpc, .int .i64 m.sau, .int .i64 m.srd, .slice m.sda m.sdn m.sdc, .int .i64 m.cau, .int .i64 m.crd, .slice m.cba m.cbn m.cbc, .slice m.cpa m.cpn m.cpc, .slice m.cva m.cvn m.cvc, .int .i64 m.ro]] w fun e w' => ∃ v, e = .returned (.tuple #[v, .int .i64 0]) ∧ w'.ownsRow w.heap.size 5 1 v (3 + 1 + 3 + m.sdn) (ub ([3, m.fr, m.tt] ++ [m.sau] ++ rd3 m.srd ++ ds)) ∧ Below w.heap.size w w' := by
  rw [hk] at hc ⊢
  obtain ⟨hf0, hf1⟩ := hf
  obtain ⟨ht0, ht1⟩ := ht
  have hq := heap_alloc_new w (.cells #[.int .i64 m.fr, .int .i64 m.tt, .int .i64 3, .int .i64 m.bau, .int .i64 m.bnu, .slice m.bta m.btn m.btc, .int .i64 m.hau, .int .i64 m.hrd, .slice m.hba m.hbn m.hbc, .slice m.hpa m.hpn m.hpc, .int .i64 m.sau, .int .i64 m.srd, .slice m.sda m.sdn m.sdc, .int .i64 m.cau, .int .i64 m.crd, .slice m.cba m.cbn m.cbc, .slice m.cpa m.cpn m.cpc, .slice m.cva m.cvn m.cvc, .int .i64 m.ro] 37)
  have hB : Below w.heap.size w (w.alloc (.cells #[.int .i64 m.fr, .int .i64 m.tt, .int .i64 3, .int .i64 m.bau, .int .i64 m.bnu, .slice m.bta m.btn m.btc, .int .i64 m.hau, .int .i64 m.hrd, .slice m.hba m.hbn m.hbc, .slice m.hpa m.hpn m.hpc, .int .i64 m.sau, .int .i64 m.srd, .slice m.sda m.sdn m.sdc, .int .i64 m.cau, .int .i64 m.crd, .slice m.cba m.cbn m.cbc, .slice m.cpa m.cpn m.cpc, .slice m.cva m.cvn m.cvc, .int .i64 m.ro] 37)) := (Below.refl _ _).alloc (Nat.le_refl _) _
  have Hn : Hid (m.sdn = ds.length) := hn
  clear hn
  go_enter Try.func9, Try.ntmps9
  go_wp2_with (refine wpList_load_row rfl 37 _ rfl w.heap.size rfl 37 #[.int .i64 m.fr, .int .i64 m.tt, .int .i64 3, .int .i64 m.bau, .int .i64 m.bnu, .slice m.bta m.btn m.btc, .int .i64 m.hau, .int .i64 m.hrd, .slice m.hba m.hbn m.hbc, .slice m.hpa m.hpn m.hpc, .int .i64 m.sau, .int .i64 m.srd, .slice m.sda m.sdn m.sdc, .int .i64 m.cau, .int .i64 m.crd, .slice m.cba m.cbn m.cbc, .slice m.cpa m.cpn m.cpc, .slice m.cva m.cvn m.cvc, .int .i64 m.ro] (0, 0) _ hq Try.underlying37 rfl sMsg ?_)
  refine (hc _ hB).mono ?_
  rintro e w1 ⟨rfl, hb1⟩
  have r1 := row_new hb1
  replace hb1 := below_alloc hb1
  have c0 : w1.cell? ⟨w.heap.size, 0, none⟩ = some (.int .i64 m.fr) := cells_at r1 0 _ rfl
  have c1 : w1.cell? ⟨w.heap.size, 1, none⟩ = some (.int .i64 m.tt) := cells_at r1 1 _ rfl
  have c2 : w1.cell? ⟨w.heap.size, 2, none⟩ = some (.int .i64 3) := cells_at r1 2 _ rfl
  have c10 : w1.cell? ⟨w.heap.size, 10, none⟩ = some (.int .i64 m.sau) := cells_at r1 10 _ rfl
  have c11 : w1.cell? ⟨w.heap.size, 11, none⟩ = some (.int .i64 m.srd) := cells_at r1 11 _ rfl
  have c12 : w1.cell? ⟨w.heap.size, 12, none⟩ = some (.slice m.sda m.sdn m.sdc) := cells_at r1 12 _ rfl
  have hlt : w.heap.size < w1.heap.size := lt_of_heap r1
  have hlit := World.ownsRow_lit (base := w1.heap.size) (e := 5) (size := 1) w1 (ub [3, m.fr, m.tt]).toArray 3 (Nat.le_refl _) (by decide) rfl
  go_wp2_with fail
  refine (appendSlot_any w1.heap.size _ 3 [3, m.fr, m.tt] m.sau m.srd m.sda m.sdn m.sdc ds _ ha hr Hn.out ?_ ?_ ?_ (le_alloc (Nat.le_refl _) _) (by decide) hn2).mono ?_
  · exact (hs.below hb1).below ((Below.refl _ _).alloc (Nat.le_refl _) _)
  · intro sb so e
    have := hsb sb so e
    refine ⟨by rw [size_alloc]; omega, fun h => ?_⟩
    simp [Value.ownBlock] at h
    omega
  · exact hlit
  rintro e w2 ⟨v2, rfl, ho2, hG⟩
  have hb2 := hG.below (base := w1.heap.size) (le_alloc (Nat.le_refl _) _) (fun q e => by cases e; exact Nat.le_refl _)
  clear hG
  go_wp2_with fail
  go_ret2
  refine ⟨v2, rfl, ownsRow_base' ho2 hb1.size, ?_⟩
  exact (hb1.alloc hb1.size _).trans (hb2.mono hb1.size)
end Go.Proofs.Ythijfhbmkpfnkaa
