/- The document's MessageBytes: what it answers, for every message. -/
import Derived.Test.YtdddimkankdmdaaMsgB
import Derived.Test.YtdddimkankdmdaaWireEncodesM6
import Derived.Test.YtdddimkankdmdaaWireEncodesM12
import Derived.Test.YtdddimkankdmdaaWireEncodesM18
namespace Go.Proofs.Ytdddimkankdmdaa
open Go.RowKit

set_option maxRecDepth 100000 in
set_option maxHeartbeats 2000000 in
theorem mBytes1 (m : Msg) (ss : List ByteArray) (w : World) (hk : m.ki = 1) (hf : 0 ≤ m.fr ∧ m.fr < 4) (ht : 0 ≤ m.tt ∧ m.tt < 4) (ha : 0 ≤ m.bau ∧ m.bau < 4) (hr : 0 ≤ m.bnu ∧ m.bnu ≤ 1048576) (hn : m.btn = ss.length) (hl : ss.length ≤ 4) (hz : ∀ s ∈ ss, s.size ≤ 20) (hs : StrsAt w m.bta ss)
    (hc : ∀ w1, Below w.heap.size w w1 → Calls Try.prog 18 #[.agg #[.int .i64 m.fr, .int .i64 m.tt, .int .i64 m.ki, .int .i64 m.bau, .int .i64 m.bnu, .slice m.bta m.btn m.btc, .int .i64 m.hau, .int .i64 m.hrd, .slice m.hba m.hbn m.hbc, .slice m.hpa m.hpn m.hpc, .int .i64 m.sau, .int .i64 m.srd, .slice m.sda m.sdn m.sdc, .int .i64 m.cau, .int .i64 m.crd, .slice m.cba m.cbn m.cbc, .slice m.cpa m.cpn m.cpc, .slice m.cva m.cvn m.cvc, .int .i64 m.ro]] w1 fun e w' => e = .returned (.int .i64 0) ∧ Below w1.heap.size w1 w') :
    Calls Try.prog 6 #[.agg #[.int .i64 m.fr, .int .i64 m.tt, .int .i64 m.ki, .int .i64 m.bau, .int .i64 m.bnu, .slice m.bta m.btn m.btc, .int .i64 m.hau, .int .i64 m.hrd, .slice m.hba m.hbn m.hbc, .slice m.hpa m.hpn m.hpc, .int .i64 m.sau, .int .i64 m.srd, .slice m.sda m.sdn m.sdc, .int .i64 m.cau, .int .i64 m.crd, .slice m.cba m.cbn m.cbc, .slice m.cpa m.cpn m.cpc, .slice m.cva m.cvn m.cvc, .int .i64 m.ro]] w fun e w' => ∃ v, e = .returned (.tuple #[v, .int .i64 0]) ∧ w'.ownsRow w.heap.size 5 1 v (3 + (batchB m.bau m.bnu ss).length) (ub ([1, m.fr, m.tt] ++ batchB m.bau m.bnu ss)) ∧ Below w.heap.size w w' := by
  have hq := heap_alloc_new w (.cells #[.int .i64 m.fr, .int .i64 m.tt, .int .i64 m.ki, .int .i64 m.bau, .int .i64 m.bnu, .slice m.bta m.btn m.btc, .int .i64 m.hau, .int .i64 m.hrd, .slice m.hba m.hbn m.hbc, .slice m.hpa m.hpn m.hpc, .int .i64 m.sau, .int .i64 m.srd, .slice m.sda m.sdn m.sdc, .int .i64 m.cau, .int .i64 m.crd, .slice m.cba m.cbn m.cbc, .slice m.cpa m.cpn m.cpc, .slice m.cva m.cvn m.cvc, .int .i64 m.ro] 35)
  have hB : Below w.heap.size w (w.alloc (.cells #[.int .i64 m.fr, .int .i64 m.tt, .int .i64 m.ki, .int .i64 m.bau, .int .i64 m.bnu, .slice m.bta m.btn m.btc, .int .i64 m.hau, .int .i64 m.hrd, .slice m.hba m.hbn m.hbc, .slice m.hpa m.hpn m.hpc, .int .i64 m.sau, .int .i64 m.srd, .slice m.sda m.sdn m.sdc, .int .i64 m.cau, .int .i64 m.crd, .slice m.cba m.cbn m.cbc, .slice m.cpa m.cpn m.cpc, .slice m.cva m.cvn m.cvc, .int .i64 m.ro] 35)) := (Below.refl _ _).alloc (Nat.le_refl _) _
  rw [hk] at hc hq hB ⊢
  obtain ⟨hf0, hf1⟩ := hf
  obtain ⟨ht0, ht1⟩ := ht
  have Hn : Hid (m.btn = ss.length) := hn
  clear hn
  clear hk
  go_enter Try.func6, Try.ntmps6
  go_wp2_with (refine wpList_load_row rfl 35 _ rfl w.heap.size rfl 35 _ (0, 0) _ hq Try.underlying35 rfl sMsg ?_)
  refine (hc _ hB).mono ?_
  rintro e w1 ⟨rfl, hb1⟩
  have r1 := row_new hb1
  replace hb1 := below_alloc hb1
  have c0 : w1.cell? ⟨w.heap.size, 0, none⟩ = some (.int .i64 m.fr) := cells_at r1 0 _ rfl
  have c1 : w1.cell? ⟨w.heap.size, 1, none⟩ = some (.int .i64 m.tt) := cells_at r1 1 _ rfl
  have c2 : w1.cell? ⟨w.heap.size, 2, none⟩ = some (.int .i64 1) := cells_at r1 2 _ rfl
  have c3 : w1.cell? ⟨w.heap.size, 3, none⟩ = some (.int .i64 m.bau) := cells_at r1 3 _ rfl
  have c4 : w1.cell? ⟨w.heap.size, 4, none⟩ = some (.int .i64 m.bnu) := cells_at r1 4 _ rfl
  have c5 : w1.cell? ⟨w.heap.size, 5, none⟩ = some (.slice m.bta m.btn m.btc) := cells_at r1 5 _ rfl
  have hlt : w.heap.size < w1.heap.size := lt_of_heap r1
  have hlit := World.ownsRow_lit (base := w1.heap.size) (e := 5) (size := 1) w1 (ub [1, m.fr, m.tt]).toArray 3 (Nat.le_refl _) (by decide) rfl
  have hA1 : Below w1.heap.size w1 (w1.alloc (.cells (ub [1, m.fr, m.tt]).toArray 5)) := (Below.refl _ _).alloc (Nat.le_refl _) _
  have hB1 := hb1.trans (hA1.mono hb1.size)
  go_wp2_with fail
  refine (batchBytes_any m.bau m.bnu m.bta m.btn m.btc ss _ ha hr Hn.out hl hz ((hs.below hb1).below hA1)).mono ?_
  rintro e w2 ⟨v2, he, ho2, hb2⟩
  subst he
  dsimp only
  obtain ⟨-, hl1⟩ := sliceAt_of_owns (owns_keep hlit hb2)
  obtain ⟨ra, rc, hv, -, hs2⟩ := owns_form ho2
  subst hv
  have hB2 := hB1.trans (hb2.mono hB1.size)
  have hBL : (batchB m.bau m.bnu ss).length ≤ 400 := by have := txsB_le ss hz; simp [batchB, rd3]; omega
  generalize hBB : batchB m.bau m.bnu ss = BB at *
  have HBB : Hid (batchB m.bau m.bnu ss = BB) := hBB
  clear hBB
  go_wp2_with fail
  refine (joined_any [1, m.fr, m.tt] BB _ ra 3 _ 3 rc w2 rfl rfl hl1 hs2 (by show 3 + _ ≤ _; omega)).mono ?_
  rintro e w3 ⟨v3, he, ho3, hb3⟩
  subst he
  dsimp only
  go_wp2_with fail
  go_ret2
  refine ⟨v3, rfl, ?_, hB2.trans (hb3.mono hB2.size)⟩
  rw [HBB.out]
  exact ownsRow_base' ho3 hB2.size
end Go.Proofs.Ytdddimkankdmdaa

namespace Go.Proofs.Ytdddimkankdmdaa
open Go.RowKit

set_option maxRecDepth 100000 in
set_option maxHeartbeats 2000000 in
theorem mBytes2 (m : Msg) (bl pl : List Part) (w : World) (hk : m.ki = 2) (hf : 0 ≤ m.fr ∧ m.fr < 4) (ht : 0 ≤ m.tt ∧ m.tt < 4) (ha : 0 ≤ m.hau ∧ m.hau < 4) (hr : 0 ≤ m.hrd ∧ m.hrd ≤ 1048576) (hbn : m.hbn = bl.length) (hpn : m.hpn = pl.length) (hbl : bl.length ≤ 4) (hpl : pl.length ≤ 4) (hb32 : ∀ p ∈ bl, p.bs.length = 32) (hp32 : ∀ p ∈ pl, p.bs.length = 32) (hLb : ListAt w m.hba m.hbc bl) (hLp : ListAt w m.hpa m.hpc pl)
    (hc : ∀ w1, Below w.heap.size w w1 → Calls Try.prog 18 #[.agg #[.int .i64 m.fr, .int .i64 m.tt, .int .i64 m.ki, .int .i64 m.bau, .int .i64 m.bnu, .slice m.bta m.btn m.btc, .int .i64 m.hau, .int .i64 m.hrd, .slice m.hba m.hbn m.hbc, .slice m.hpa m.hpn m.hpc, .int .i64 m.sau, .int .i64 m.srd, .slice m.sda m.sdn m.sdc, .int .i64 m.cau, .int .i64 m.crd, .slice m.cba m.cbn m.cbc, .slice m.cpa m.cpn m.cpc, .slice m.cva m.cvn m.cvc, .int .i64 m.ro]] w1 fun e w' => e = .returned (.int .i64 0) ∧ Below w1.heap.size w1 w') :
    Calls Try.prog 6 #[.agg #[.int .i64 m.fr, .int .i64 m.tt, .int .i64 m.ki, .int .i64 m.bau, .int .i64 m.bnu, .slice m.bta m.btn m.btc, .int .i64 m.hau, .int .i64 m.hrd, .slice m.hba m.hbn m.hbc, .slice m.hpa m.hpn m.hpc, .int .i64 m.sau, .int .i64 m.srd, .slice m.sda m.sdn m.sdc, .int .i64 m.cau, .int .i64 m.crd, .slice m.cba m.cbn m.cbc, .slice m.cpa m.cpn m.cpc, .slice m.cva m.cvn m.cvc, .int .i64 m.ro]] w fun e w' => ∃ v, e = .returned (.tuple #[v, .int .i64 0]) ∧ w'.ownsRow w.heap.size 5 1 v (3 + (headB m.hau m.hrd bl pl).length) (ub ([2, m.fr, m.tt] ++ headB m.hau m.hrd bl pl)) ∧ Below w.heap.size w w' := by
  have hq := heap_alloc_new w (.cells #[.int .i64 m.fr, .int .i64 m.tt, .int .i64 m.ki, .int .i64 m.bau, .int .i64 m.bnu, .slice m.bta m.btn m.btc, .int .i64 m.hau, .int .i64 m.hrd, .slice m.hba m.hbn m.hbc, .slice m.hpa m.hpn m.hpc, .int .i64 m.sau, .int .i64 m.srd, .slice m.sda m.sdn m.sdc, .int .i64 m.cau, .int .i64 m.crd, .slice m.cba m.cbn m.cbc, .slice m.cpa m.cpn m.cpc, .slice m.cva m.cvn m.cvc, .int .i64 m.ro] 35)
  have hB : Below w.heap.size w (w.alloc (.cells #[.int .i64 m.fr, .int .i64 m.tt, .int .i64 m.ki, .int .i64 m.bau, .int .i64 m.bnu, .slice m.bta m.btn m.btc, .int .i64 m.hau, .int .i64 m.hrd, .slice m.hba m.hbn m.hbc, .slice m.hpa m.hpn m.hpc, .int .i64 m.sau, .int .i64 m.srd, .slice m.sda m.sdn m.sdc, .int .i64 m.cau, .int .i64 m.crd, .slice m.cba m.cbn m.cbc, .slice m.cpa m.cpn m.cpc, .slice m.cva m.cvn m.cvc, .int .i64 m.ro] 35)) := (Below.refl _ _).alloc (Nat.le_refl _) _
  rw [hk] at hc hq hB ⊢
  obtain ⟨hf0, hf1⟩ := hf
  obtain ⟨ht0, ht1⟩ := ht
  have Hn : Hid (m.hbn = bl.length ∧ m.hpn = pl.length) := ⟨hbn, hpn⟩
  clear hbn hpn
  clear hk
  go_enter Try.func6, Try.ntmps6
  go_wp2_with (refine wpList_load_row rfl 35 _ rfl w.heap.size rfl 35 _ (0, 0) _ hq Try.underlying35 rfl sMsg ?_)
  refine (hc _ hB).mono ?_
  rintro e w1 ⟨rfl, hb1⟩
  have r1 := row_new hb1
  replace hb1 := below_alloc hb1
  have c0 : w1.cell? ⟨w.heap.size, 0, none⟩ = some (.int .i64 m.fr) := cells_at r1 0 _ rfl
  have c1 : w1.cell? ⟨w.heap.size, 1, none⟩ = some (.int .i64 m.tt) := cells_at r1 1 _ rfl
  have c2 : w1.cell? ⟨w.heap.size, 2, none⟩ = some (.int .i64 2) := cells_at r1 2 _ rfl
  have c6 : w1.cell? ⟨w.heap.size, 6, none⟩ = some (.int .i64 m.hau) := cells_at r1 6 _ rfl
  have c7 : w1.cell? ⟨w.heap.size, 7, none⟩ = some (.int .i64 m.hrd) := cells_at r1 7 _ rfl
  have c8 : w1.cell? ⟨w.heap.size, 8, none⟩ = some (.slice m.hba m.hbn m.hbc) := cells_at r1 8 _ rfl
  have c9 : w1.cell? ⟨w.heap.size, 9, none⟩ = some (.slice m.hpa m.hpn m.hpc) := cells_at r1 9 _ rfl
  have hlt : w.heap.size < w1.heap.size := lt_of_heap r1
  have hlit := World.ownsRow_lit (base := w1.heap.size) (e := 5) (size := 1) w1 (ub [2, m.fr, m.tt]).toArray 3 (Nat.le_refl _) (by decide) rfl
  have hA1 : Below w1.heap.size w1 (w1.alloc (.cells (ub [2, m.fr, m.tt]).toArray 5)) := (Below.refl _ _).alloc (Nat.le_refl _) _
  have hB1 := hb1.trans (hA1.mono hb1.size)
  go_wp2_with fail
  refine (headerBytes_any m.hau m.hrd m.hba m.hbn m.hbc bl m.hpa m.hpn m.hpc pl _ ha hr Hn.out.1 Hn.out.2 hbl hpl hb32 hp32 ((hLb.below hb1).below hA1) ((hLp.below hb1).below hA1)).mono ?_
  rintro e w2 ⟨v2, he, ho2, hb2⟩
  subst he
  dsimp only
  obtain ⟨-, hl1⟩ := sliceAt_of_owns (owns_keep hlit hb2)
  obtain ⟨ra, rc, hv, -, hs2⟩ := owns_form ho2
  subst hv
  have hB2 := hB1.trans (hb2.mono hB1.size)
  have hBL : (headB m.hau m.hrd bl pl).length ≤ 400 := by have := headB_le m.hau m.hrd bl pl hbl hpl hb32 hp32; omega
  generalize hBB : headB m.hau m.hrd bl pl = BB at *
  have HBB : Hid (headB m.hau m.hrd bl pl = BB) := hBB
  clear hBB
  go_wp2_with fail
  refine (joined_any [2, m.fr, m.tt] BB _ ra 3 _ 3 rc w2 rfl rfl hl1 hs2 (by show 3 + _ ≤ _; omega)).mono ?_
  rintro e w3 ⟨v3, he, ho3, hb3⟩
  subst he
  dsimp only
  go_wp2_with fail
  go_ret2
  refine ⟨v3, rfl, ?_, hB2.trans (hb3.mono hB2.size)⟩
  rw [HBB.out]
  exact ownsRow_base' ho3 hB2.size
end Go.Proofs.Ytdddimkankdmdaa

namespace Go.Proofs.Ytdddimkankdmdaa
open Go.RowKit

set_option maxRecDepth 100000 in
theorem three_v (n : Int) (w : World) (hn : 0 ≤ n ∧ n ≤ 1048576) :
    Calls Try.prog 22 #[.int .i64 n] w fun e w' => ∃ v, e = .returned v ∧ w'.ownsRow w.heap.size 5 1 v (rd3 n).length (ub (rd3 n)) ∧ Below w.heap.size w w' :=
  (three_any n w hn).mono (fun _ _ h => ⟨_, h.1, h.2.1, h.2.2⟩)
set_option maxRecDepth 100000 in
set_option maxHeartbeats 2000000 in
theorem mBytes5 (m : Msg) (w : World) (hk : m.ki = 5) (hf : 0 ≤ m.fr ∧ m.fr < 4) (ht : 0 ≤ m.tt ∧ m.tt < 4) (hr : 0 ≤ m.ro ∧ m.ro ≤ 1048576)
    (hc : ∀ w1, Below w.heap.size w w1 → Calls Try.prog 18 #[.agg #[.int .i64 m.fr, .int .i64 m.tt, .int .i64 m.ki, .int .i64 m.bau, .int .i64 m.bnu, .slice m.bta m.btn m.btc, .int .i64 m.hau, .int .i64 m.hrd, .slice m.hba m.hbn m.hbc, .slice m.hpa m.hpn m.hpc, .int .i64 m.sau, .int .i64 m.srd, .slice m.sda m.sdn m.sdc, .int .i64 m.cau, .int .i64 m.crd, .slice m.cba m.cbn m.cbc, .slice m.cpa m.cpn m.cpc, .slice m.cva m.cvn m.cvc, .int .i64 m.ro]] w1 fun e w' => e = .returned (.int .i64 0) ∧ Below w1.heap.size w1 w') :
    Calls Try.prog 6 #[.agg #[.int .i64 m.fr, .int .i64 m.tt, .int .i64 m.ki, .int .i64 m.bau, .int .i64 m.bnu, .slice m.bta m.btn m.btc, .int .i64 m.hau, .int .i64 m.hrd, .slice m.hba m.hbn m.hbc, .slice m.hpa m.hpn m.hpc, .int .i64 m.sau, .int .i64 m.srd, .slice m.sda m.sdn m.sdc, .int .i64 m.cau, .int .i64 m.crd, .slice m.cba m.cbn m.cbc, .slice m.cpa m.cpn m.cpc, .slice m.cva m.cvn m.cvc, .int .i64 m.ro]] w fun e w' => ∃ v, e = .returned (.tuple #[v, .int .i64 0]) ∧ w'.ownsRow w.heap.size 5 1 v (3 + (rd3 m.ro).length) (ub ([5, m.fr, m.tt] ++ rd3 m.ro)) ∧ Below w.heap.size w w' := by
  have hq := heap_alloc_new w (.cells #[.int .i64 m.fr, .int .i64 m.tt, .int .i64 m.ki, .int .i64 m.bau, .int .i64 m.bnu, .slice m.bta m.btn m.btc, .int .i64 m.hau, .int .i64 m.hrd, .slice m.hba m.hbn m.hbc, .slice m.hpa m.hpn m.hpc, .int .i64 m.sau, .int .i64 m.srd, .slice m.sda m.sdn m.sdc, .int .i64 m.cau, .int .i64 m.crd, .slice m.cba m.cbn m.cbc, .slice m.cpa m.cpn m.cpc, .slice m.cva m.cvn m.cvc, .int .i64 m.ro] 35)
  have hB : Below w.heap.size w (w.alloc (.cells #[.int .i64 m.fr, .int .i64 m.tt, .int .i64 m.ki, .int .i64 m.bau, .int .i64 m.bnu, .slice m.bta m.btn m.btc, .int .i64 m.hau, .int .i64 m.hrd, .slice m.hba m.hbn m.hbc, .slice m.hpa m.hpn m.hpc, .int .i64 m.sau, .int .i64 m.srd, .slice m.sda m.sdn m.sdc, .int .i64 m.cau, .int .i64 m.crd, .slice m.cba m.cbn m.cbc, .slice m.cpa m.cpn m.cpc, .slice m.cva m.cvn m.cvc, .int .i64 m.ro] 35)) := (Below.refl _ _).alloc (Nat.le_refl _) _
  rw [hk] at hc hq hB ⊢
  obtain ⟨hf0, hf1⟩ := hf
  obtain ⟨ht0, ht1⟩ := ht
  clear hk
  go_enter Try.func6, Try.ntmps6
  go_wp2_with (refine wpList_load_row rfl 35 _ rfl w.heap.size rfl 35 _ (0, 0) _ hq Try.underlying35 rfl sMsg ?_)
  refine (hc _ hB).mono ?_
  rintro e w1 ⟨rfl, hb1⟩
  have r1 := row_new hb1
  replace hb1 := below_alloc hb1
  have c0 : w1.cell? ⟨w.heap.size, 0, none⟩ = some (.int .i64 m.fr) := cells_at r1 0 _ rfl
  have c1 : w1.cell? ⟨w.heap.size, 1, none⟩ = some (.int .i64 m.tt) := cells_at r1 1 _ rfl
  have c2 : w1.cell? ⟨w.heap.size, 2, none⟩ = some (.int .i64 5) := cells_at r1 2 _ rfl
  have c18 : w1.cell? ⟨w.heap.size, 18, none⟩ = some (.int .i64 m.ro) := cells_at r1 18 _ rfl
  have hlt : w.heap.size < w1.heap.size := lt_of_heap r1
  have hlit := World.ownsRow_lit (base := w1.heap.size) (e := 5) (size := 1) w1 (ub [5, m.fr, m.tt]).toArray 3 (Nat.le_refl _) (by decide) rfl
  have hA1 : Below w1.heap.size w1 (w1.alloc (.cells (ub [5, m.fr, m.tt]).toArray 5)) := (Below.refl _ _).alloc (Nat.le_refl _) _
  have hB1 := hb1.trans (hA1.mono hb1.size)
  go_wp2_with fail
  refine (three_v m.ro _ hr).mono ?_
  rintro e w2 ⟨v2, he, ho2, hb2⟩
  subst he
  dsimp only
  obtain ⟨-, hl1⟩ := sliceAt_of_owns (owns_keep hlit hb2)
  obtain ⟨ra, rc, hv, -, hs2⟩ := owns_form ho2
  subst hv
  have hB2 := hB1.trans (hb2.mono hB1.size)
  have hBL : (rd3 m.ro).length ≤ 400 := by simp [rd3]
  generalize hBB : rd3 m.ro = BB at *
  have HBB : Hid (rd3 m.ro = BB) := hBB
  clear hBB
  go_wp2_with fail
  refine (joined_any [5, m.fr, m.tt] BB _ ra 3 _ 3 rc w2 rfl rfl hl1 hs2 (by show 3 + _ ≤ _; omega)).mono ?_
  rintro e w3 ⟨v3, he, ho3, hb3⟩
  subst he
  dsimp only
  go_wp2_with fail
  go_ret2
  refine ⟨v3, rfl, ?_, hB2.trans (hb3.mono hB2.size)⟩
  rw [HBB.out]
  exact ownsRow_base' ho3 hB2.size
end Go.Proofs.Ytdddimkankdmdaa

namespace Go.Proofs.Ytdddimkankdmdaa
open Go.RowKit

set_option maxRecDepth 100000 in
set_option maxHeartbeats 2000000 in
theorem mBytes3 (m : Msg) (ds : List Int) (w : World) (hk : m.ki = 3) (hf : 0 ≤ m.fr ∧ m.fr < 4) (ht : 0 ≤ m.tt ∧ m.tt < 4) (ha : 0 ≤ m.sau ∧ m.sau < 4) (hr : 0 ≤ m.srd ∧ m.srd ≤ 1048576) (hn : m.sdn = ds.length) (hn2 : m.sdn ≤ 4000) (hs : SliceAt w m.sda m.sdc ds)
    (hc : ∀ w1, Below w.heap.size w w1 → Calls Try.prog 18 #[.agg #[.int .i64 m.fr, .int .i64 m.tt, .int .i64 m.ki, .int .i64 m.bau, .int .i64 m.bnu, .slice m.bta m.btn m.btc, .int .i64 m.hau, .int .i64 m.hrd, .slice m.hba m.hbn m.hbc, .slice m.hpa m.hpn m.hpc, .int .i64 m.sau, .int .i64 m.srd, .slice m.sda m.sdn m.sdc, .int .i64 m.cau, .int .i64 m.crd, .slice m.cba m.cbn m.cbc, .slice m.cpa m.cpn m.cpc, .slice m.cva m.cvn m.cvc, .int .i64 m.ro]] w1 fun e w' => e = .returned (.int .i64 0) ∧ Below w1.heap.size w1 w') :
    Calls Try.prog 6 #[.agg #[.int .i64 m.fr, .int .i64 m.tt, .int .i64 m.ki, .int .i64 m.bau, .int .i64 m.bnu, .slice m.bta m.btn m.btc, .int .i64 m.hau, .int .i64 m.hrd, .slice m.hba m.hbn m.hbc, .slice m.hpa m.hpn m.hpc, .int .i64 m.sau, .int .i64 m.srd, .slice m.sda m.sdn m.sdc, .int .i64 m.cau, .int .i64 m.crd, .slice m.cba m.cbn m.cbc, .slice m.cpa m.cpn m.cpc, .slice m.cva m.cvn m.cvc, .int .i64 m.ro]] w fun e w' => ∃ v, e = .returned (.tuple #[v, .int .i64 0]) ∧ w'.ownsRow w.heap.size 5 1 v (3 + 1 + 3 + m.sdn) (ub ([3, m.fr, m.tt] ++ [m.sau] ++ rd3 m.srd ++ ds)) ∧ Below w.heap.size w w' := by
  have hq := heap_alloc_new w (.cells #[.int .i64 m.fr, .int .i64 m.tt, .int .i64 m.ki, .int .i64 m.bau, .int .i64 m.bnu, .slice m.bta m.btn m.btc, .int .i64 m.hau, .int .i64 m.hrd, .slice m.hba m.hbn m.hbc, .slice m.hpa m.hpn m.hpc, .int .i64 m.sau, .int .i64 m.srd, .slice m.sda m.sdn m.sdc, .int .i64 m.cau, .int .i64 m.crd, .slice m.cba m.cbn m.cbc, .slice m.cpa m.cpn m.cpc, .slice m.cva m.cvn m.cvc, .int .i64 m.ro] 35)
  have hB : Below w.heap.size w (w.alloc (.cells #[.int .i64 m.fr, .int .i64 m.tt, .int .i64 m.ki, .int .i64 m.bau, .int .i64 m.bnu, .slice m.bta m.btn m.btc, .int .i64 m.hau, .int .i64 m.hrd, .slice m.hba m.hbn m.hbc, .slice m.hpa m.hpn m.hpc, .int .i64 m.sau, .int .i64 m.srd, .slice m.sda m.sdn m.sdc, .int .i64 m.cau, .int .i64 m.crd, .slice m.cba m.cbn m.cbc, .slice m.cpa m.cpn m.cpc, .slice m.cva m.cvn m.cvc, .int .i64 m.ro] 35)) := (Below.refl _ _).alloc (Nat.le_refl _) _
  rw [hk] at hc hq hB ⊢
  obtain ⟨hf0, hf1⟩ := hf
  obtain ⟨ht0, ht1⟩ := ht
  have Hn : Hid (m.sdn = ds.length) := hn
  clear hn
  obtain ⟨ha0, ha1⟩ := ha
  obtain ⟨i, hi, hz0, hz1, hz2⟩ := info_parts infoU8
  clear hk
  go_enter Try.func6, Try.ntmps6
  go_wp2_with (refine wpList_load_row rfl 35 _ rfl w.heap.size rfl 35 _ (0, 0) _ hq Try.underlying35 rfl sMsg ?_)
  refine (hc _ hB).mono ?_
  rintro e w1 ⟨rfl, hb1⟩
  have r1 := row_new hb1
  replace hb1 := below_alloc hb1
  have c0 : w1.cell? ⟨w.heap.size, 0, none⟩ = some (.int .i64 m.fr) := cells_at r1 0 _ rfl
  have c1 : w1.cell? ⟨w.heap.size, 1, none⟩ = some (.int .i64 m.tt) := cells_at r1 1 _ rfl
  have c2 : w1.cell? ⟨w.heap.size, 2, none⟩ = some (.int .i64 3) := cells_at r1 2 _ rfl
  have c10 : w1.cell? ⟨w.heap.size, 10, none⟩ = some (.int .i64 m.sau) := cells_at r1 10 _ rfl
  have c11 : w1.cell? ⟨w.heap.size, 11, none⟩ = some (.int .i64 m.srd) := cells_at r1 11 _ rfl
  have c12 : w1.cell? ⟨w.heap.size, 12, none⟩ = some (.slice m.sda m.sdn m.sdc) := cells_at r1 12 _ rfl
  have hlt : w.heap.size < w1.heap.size := lt_of_heap r1
  have hlit := World.ownsRow_lit (base := w1.heap.size) (e := 5) (size := 1) w1 (ub [3, m.fr, m.tt]).toArray 3 (Nat.le_refl _) (by decide) rfl
  have hA1 : Below w1.heap.size w1 (w1.alloc (.cells (ub [3, m.fr, m.tt]).toArray 5)) := (Below.refl _ _).alloc (Nat.le_refl _) _
  have hB1 := hb1.trans (hA1.mono hb1.size)
  go_wp2_with (at_builtin; refine wpList_append_own _ rfl _ _ 28 rfl w1.heap.size 5 i (.int .u8 0) 1 1 Try.underlying28 hi hz0 hz1 hz2 rfl (by decide) _ (3) _ rfl (World.ownsRow.alloc hlit _) ⟨w1.heap.size + 1, 0, none⟩ 1 1 [.int .u8 (m.sau)] rfl rfl (by have := cells_new (w1.alloc (.cells (ub [3, m.fr, m.tt]).toArray 5)) [.int .u8 m.sau] 5; rw [size_alloc] at this; exact this) (u8_one [_]) (by unfold maxLen; omega) (by omega) (le_alloc (le_alloc (Nat.le_refl _) _) _) ?_; intro v2 w2 ho2 hg _; have hb2 := Below.grown (hA1.alloc hA1.size (.cells #[.int .u8 m.sau] 5)) hg (le_alloc hA1.size _) (fun q e => (hlit.lt q e).1); have r2 := (hb2.block _ hlt).trans r1; have d11 : w2.cell? ⟨w.heap.size, 11, none⟩ = some (.int .i64 m.srd) := cells_at r2 11 _ rfl)
  have hlt2 : w.heap.size < w2.heap.size := Nat.lt_of_lt_of_le hlt hb2.size
  refine (three_any m.srd w2 hr).mono ?_
  rintro e w3 ⟨he, ho3, hb3⟩
  subst he
  dsimp only
  have ho2' : w2.ownsRow w1.heap.size 5 1 v2 (3 + 1) (ub ([3, m.fr, m.tt] ++ [m.sau])) := by simpa [ub] using ho2
  obtain ⟨xa, xc, hv, -, hs2⟩ := owns_form (owns_keep ho2' hb3)
  subst hv
  obtain ⟨-, hs3⟩ := sliceAt_of_owns ho3
  clear ho2
  go_wp2_with fail
  refine (joined_any ([3, m.fr, m.tt] ++ [m.sau]) (rd3 m.srd) xa _ (3 + 1) 3 xc 3 w3 rfl rfl hs2 hs3 (by show 3 + 1 + 3 ≤ _; omega)).mono ?_
  rintro e w4 ⟨v4, he, ho4, hb4⟩
  subst he
  dsimp only
  obtain ⟨ya, yc, hv, -, hs4⟩ := owns_form ho4
  subst hv
  have hB2 := hb1.trans (hb2.mono hb1.size)
  have hB3 := hB2.trans (hb3.mono hB2.size)
  have hB4 := hB3.trans (hb4.mono hB3.size)
  have r3 := (hb3.block _ hlt2).trans r2
  have r4 := (hb4.block _ (Nat.lt_of_lt_of_le hlt2 hb3.size)).trans r3
  have d12 : w4.cell? ⟨w.heap.size, 12, none⟩ = some (.slice m.sda m.sdn m.sdc) := cells_at r4 12 _ rfl
  have hd := hs.below hB4
  go_wp2_with fail
  refine (joined_any ([3, m.fr, m.tt] ++ [m.sau] ++ rd3 m.srd) ds ya m.sda _ m.sdn yc m.sdc w4 rfl Hn.out hs4 hd (by have := Hn.out; show 3 + 1 + 3 + _ ≤ _; omega)).mono ?_
  rintro e w5 ⟨v5, he, ho5, hb5⟩
  subst he
  dsimp only
  go_wp2_with fail
  go_ret2
  refine ⟨v5, rfl, ?_, hB4.trans (hb5.mono hB4.size)⟩
  rw [Hn.out]
  exact ownsRow_base' ho5 hB4.size
end Go.Proofs.Ytdddimkankdmdaa

namespace Go.Proofs.Ytdddimkankdmdaa
open Go.RowKit

set_option maxRecDepth 100000 in
set_option maxHeartbeats 2000000 in
theorem mBytes4 (m : Msg) (bl pl : List Part) (vl : List Int) (w : World) (hk : m.ki = 4) (hf : 0 ≤ m.fr ∧ m.fr < 4) (ht : 0 ≤ m.tt ∧ m.tt < 4) (ha : 0 ≤ m.cau ∧ m.cau < 4) (hr : 0 ≤ m.crd ∧ m.crd ≤ 1048576) (hbn : m.cbn = bl.length) (hpn : m.cpn = pl.length) (hbl : bl.length ≤ 4) (hpl : pl.length ≤ 4) (hb32 : ∀ p ∈ bl, p.bs.length = 32) (hp32 : ∀ p ∈ pl, p.bs.length = 32) (hLb : ListAt w m.cba m.cbc bl) (hLp : ListAt w m.cpa m.cpc pl) (hvn : m.cvn = vl.length) (hvl : vl.length ≤ 4) (hv4 : ∀ x ∈ vl, 0 ≤ x ∧ x < 4) (hI : IntsAt w m.cva vl)
    (hc : ∀ w1, Below w.heap.size w w1 → Calls Try.prog 18 #[.agg #[.int .i64 m.fr, .int .i64 m.tt, .int .i64 m.ki, .int .i64 m.bau, .int .i64 m.bnu, .slice m.bta m.btn m.btc, .int .i64 m.hau, .int .i64 m.hrd, .slice m.hba m.hbn m.hbc, .slice m.hpa m.hpn m.hpc, .int .i64 m.sau, .int .i64 m.srd, .slice m.sda m.sdn m.sdc, .int .i64 m.cau, .int .i64 m.crd, .slice m.cba m.cbn m.cbc, .slice m.cpa m.cpn m.cpc, .slice m.cva m.cvn m.cvc, .int .i64 m.ro]] w1 fun e w' => e = .returned (.int .i64 0) ∧ Below w1.heap.size w1 w') :
    Calls Try.prog 6 #[.agg #[.int .i64 m.fr, .int .i64 m.tt, .int .i64 m.ki, .int .i64 m.bau, .int .i64 m.bnu, .slice m.bta m.btn m.btc, .int .i64 m.hau, .int .i64 m.hrd, .slice m.hba m.hbn m.hbc, .slice m.hpa m.hpn m.hpc, .int .i64 m.sau, .int .i64 m.srd, .slice m.sda m.sdn m.sdc, .int .i64 m.cau, .int .i64 m.crd, .slice m.cba m.cbn m.cbc, .slice m.cpa m.cpn m.cpc, .slice m.cva m.cvn m.cvc, .int .i64 m.ro]] w fun e w' => ∃ v, e = .returned (.tuple #[v, .int .i64 0]) ∧ w'.ownsRow w.heap.size 5 1 v (3 + (certB m.cau m.crd bl pl vl).length) (ub ([4, m.fr, m.tt] ++ certB m.cau m.crd bl pl vl)) ∧ Below w.heap.size w w' := by
  have hq := heap_alloc_new w (.cells #[.int .i64 m.fr, .int .i64 m.tt, .int .i64 m.ki, .int .i64 m.bau, .int .i64 m.bnu, .slice m.bta m.btn m.btc, .int .i64 m.hau, .int .i64 m.hrd, .slice m.hba m.hbn m.hbc, .slice m.hpa m.hpn m.hpc, .int .i64 m.sau, .int .i64 m.srd, .slice m.sda m.sdn m.sdc, .int .i64 m.cau, .int .i64 m.crd, .slice m.cba m.cbn m.cbc, .slice m.cpa m.cpn m.cpc, .slice m.cva m.cvn m.cvc, .int .i64 m.ro] 35)
  have hB : Below w.heap.size w (w.alloc (.cells #[.int .i64 m.fr, .int .i64 m.tt, .int .i64 m.ki, .int .i64 m.bau, .int .i64 m.bnu, .slice m.bta m.btn m.btc, .int .i64 m.hau, .int .i64 m.hrd, .slice m.hba m.hbn m.hbc, .slice m.hpa m.hpn m.hpc, .int .i64 m.sau, .int .i64 m.srd, .slice m.sda m.sdn m.sdc, .int .i64 m.cau, .int .i64 m.crd, .slice m.cba m.cbn m.cbc, .slice m.cpa m.cpn m.cpc, .slice m.cva m.cvn m.cvc, .int .i64 m.ro] 35)) := (Below.refl _ _).alloc (Nat.le_refl _) _
  rw [hk] at hc hq hB ⊢
  obtain ⟨hf0, hf1⟩ := hf
  obtain ⟨ht0, ht1⟩ := ht
  have Hn : Hid (m.cbn = bl.length ∧ m.cpn = pl.length) := ⟨hbn, hpn⟩
  clear hbn hpn
  rw [hvn] at hc hq hB ⊢
  clear hvn
  obtain ⟨i, hi, hz0, hz1, hz2⟩ := info_parts infoU8
  clear hk
  go_enter Try.func6, Try.ntmps6
  go_wp2_with (refine wpList_load_row rfl 35 _ rfl w.heap.size rfl 35 _ (0, 0) _ hq Try.underlying35 rfl sMsg ?_)
  refine (hc _ hB).mono ?_
  rintro e w1 ⟨rfl, hb1⟩
  have r1 := row_new hb1
  replace hb1 := below_alloc hb1
  have c0 : w1.cell? ⟨w.heap.size, 0, none⟩ = some (.int .i64 m.fr) := cells_at r1 0 _ rfl
  have c1 : w1.cell? ⟨w.heap.size, 1, none⟩ = some (.int .i64 m.tt) := cells_at r1 1 _ rfl
  have c2 : w1.cell? ⟨w.heap.size, 2, none⟩ = some (.int .i64 4) := cells_at r1 2 _ rfl
  have c13 : w1.cell? ⟨w.heap.size, 13, none⟩ = some (.int .i64 m.cau) := cells_at r1 13 _ rfl
  have c14 : w1.cell? ⟨w.heap.size, 14, none⟩ = some (.int .i64 m.crd) := cells_at r1 14 _ rfl
  have c15 : w1.cell? ⟨w.heap.size, 15, none⟩ = some (.slice m.cba m.cbn m.cbc) := cells_at r1 15 _ rfl
  have c16 : w1.cell? ⟨w.heap.size, 16, none⟩ = some (.slice m.cpa m.cpn m.cpc) := cells_at r1 16 _ rfl
  have c17 : w1.cell? ⟨w.heap.size, 17, none⟩ = some (.slice m.cva vl.length m.cvc) := cells_at r1 17 _ rfl
  have hlt : w.heap.size < w1.heap.size := lt_of_heap r1
  have hlit := World.ownsRow_lit (base := w1.heap.size) (e := 5) (size := 1) w1 (ub [4, m.fr, m.tt]).toArray 3 (Nat.le_refl _) (by decide) rfl
  have hA1 : Below w1.heap.size w1 (w1.alloc (.cells (ub [4, m.fr, m.tt]).toArray 5)) := (Below.refl _ _).alloc (Nat.le_refl _) _
  have hB1 := hb1.trans (hA1.mono hb1.size)
  have hHB := headerBytes_any m.cau m.crd m.cba m.cbn m.cbc bl m.cpa m.cpn m.cpc pl _ ha hr Hn.out.1 Hn.out.2 hbl hpl hb32 hp32 ((hLb.below hb1).below hA1) ((hLp.below hb1).below hA1)
  go_wp2_with fail
  refine hHB.mono ?_
  rintro e w2 ⟨v2, he, ho2, hb2⟩
  subst he
  dsimp only
  clear hHB
  obtain ⟨-, hl1⟩ := sliceAt_of_owns (owns_keep hlit hb2)
  obtain ⟨ra, rc, hv, -, hs2⟩ := owns_form ho2
  subst hv
  have hB2 := hB1.trans (hb2.mono hB1.size)
  have hBL : (headB m.cau m.crd bl pl).length ≤ 400 := by have := headB_le m.cau m.crd bl pl hbl hpl hb32 hp32; omega
  have hCB : Hid (certB m.cau m.crd bl pl vl = headB m.cau m.crd bl pl ++ [(vl.length : Int)] ++ vl) := rfl
  generalize headB m.cau m.crd bl pl = BB at *
  go_wp2_with fail
  refine (joined_any [4, m.fr, m.tt] BB _ ra 3 _ 3 rc w2 rfl rfl hl1 hs2 (by show 3 + _ ≤ _; omega)).mono ?_
  rintro e w3 ⟨v3, he, ho3, hb3⟩
  subst he
  dsimp only
  have hB3 := hB2.trans (hb3.mono hB2.size)
  have hlt1 : w.heap.size < (w1.alloc (.cells (ub [4, m.fr, m.tt]).toArray 5)).heap.size := Nat.lt_of_lt_of_le hlt hA1.size
  have hlt2 := Nat.lt_of_lt_of_le hlt1 hb2.size
  have q1 := (hA1.block _ hlt).trans r1
  have q2 := (hb2.block _ hlt1).trans q1
  have q3 := (hb3.block _ hlt2).trans q2
  have d17 : w3.cell? ⟨w.heap.size, 17, none⟩ = some (.slice m.cva vl.length m.cvc) := cells_at q3 17 _ rfl
  have ho3' : w3.ownsRow w2.heap.size 5 1 v3 (3 + BB.length) (ub ([4, m.fr, m.tt] ++ BB)) := ho3
  clear ho3 c0 c1 c2 c13 c14 c15 c16 c17
  go_wp2_with (at_builtin; refine wpList_append_own _ rfl _ _ 28 rfl w2.heap.size 5 i (.int .u8 0) 1 1 Try.underlying28 hi hz0 hz1 hz2 rfl (by decide) _ (3 + BB.length) _ rfl (World.ownsRow.alloc ho3' _) ⟨w3.heap.size, 0, none⟩ 1 1 [.int .u8 ((vl.length : Int))] rfl rfl (cells_new _ _ _) (u8_one [_]) (by unfold maxLen; omega) (by omega) (le_alloc hb3.size _) ?_; intro v4 w4 ho4 hg _; have hb4 := Below.grown (hb3.alloc hb3.size (.cells #[.int .u8 (vl.length : Int)] 5)) hg (le_alloc hb3.size _) (fun q e => (ho3'.lt q e).1))
  have ho4' : w4.ownsRow w2.heap.size 5 1 v4 (3 + BB.length + 1) (ub ([4, m.fr, m.tt] ++ BB ++ [(vl.length : Int)])) := by simpa [ub] using ho4
  clear ho4 hg d17
  go_loopw [6, 5] (fun j v wr => ∃ (k : Nat) (tv : Value), k ≤ vl.length ∧ j = .int .i64 k ∧ tv = v ∧ Below w2.heap.size w2 wr ∧ wr.ownsRow w2.heap.size 5 1 tv (3 + BB.length + 1 + k) (ub ([4, m.fr, m.tt] ++ BB ++ [(vl.length : Int)] ++ vl.take k))) (fun j _ _ => vl.length - (intOf j).toNat)
  case atStart => exact ⟨0, _, Nat.zero_le _, rfl, rfl, hb4, by simpa using ho4'⟩
  case round =>
    clear ho4' hb4
    obtain ⟨k, tv, hk, rfl, rfl, hbr, ho⟩ := hrel
    have q4 := (hbr.block _ hlt2).trans q2
    have e17 : wr.cell? ⟨w.heap.size, 17, none⟩ = some (.slice m.cva vl.length m.cvc) := cells_at q4 17 _ rfl
    by_cases hlt' : k < vl.length
    · obtain ⟨sb, so, hsa, hcc⟩ : ∃ sb so, m.cva = some ⟨sb, so, none⟩ ∧ ∀ j, j < vl.length → wr.cell? ⟨sb, so + j, none⟩ = some (.int .i64 (vl.getD j 0)) := by
        rcases ((hI.below hB2).below hbr).cells with h | h
        · rw [h] at hlt'; simp at hlt'
        · exact h
      rw [hsa] at e17
      clear hsa
      have ck := hcc k hlt'
      obtain ⟨hx0, hx1⟩ := hv4 (vl.getD k 0) (by simp [List.getD, hlt'])
      have hst : Hid (vl.take (k + 1) = vl.take k ++ [vl.getD k 0]) := by
        show _ = _
        rw [List.take_succ_eq_append_getElem hlt']
        simp only [List.getD, List.getElem?_eq_getElem hlt', Option.getD_some]
      have hltI : (k : Int) < vl.length := by omega
      clear hcc
      generalize vl.getD k 0 = x at ck hst hx0 hx1
      go_wp2_with (at_builtin; refine wpList_append_own _ rfl _ _ 28 rfl w2.heap.size 5 i (.int .u8 0) 1 1 Try.underlying28 hi hz0 hz1 hz2 rfl (by decide) _ (3 + BB.length + 1 + k) _ rfl (World.ownsRow.alloc ho _) ⟨wr.heap.size, 0, none⟩ 1 1 [.int .u8 (x)] rfl rfl (cells_new _ _ _) (u8_one [_]) (by unfold maxLen; omega) (by omega) (le_alloc hbr.size _) ?_; intro v5 w5 ho5 hg _; have hb5 := Below.grown (hbr.alloc hbr.size (.cells #[.int .u8 x] 5)) hg (le_alloc hbr.size _) (fun q e => (ho.lt q e).1))
      go_roundw
      case rel =>
        have hR : ∃ (k' : Nat) (tv' : Value), k' ≤ vl.length ∧ (Value.int .i64 ((k : Int) + 1)) = .int .i64 k' ∧ tv' = v5 ∧ Below w2.heap.size w2 w5 ∧ w5.ownsRow w2.heap.size 5 1 tv' (3 + BB.length + 1 + k') (ub ([4, m.fr, m.tt] ++ BB ++ [(vl.length : Int)] ++ vl.take k')) :=
          ⟨k + 1, v5, by omega, by go_num, rfl, hb5, by rw [hst.out, ← List.append_assoc]; exact owns_snoc ho5⟩
        first | exact hR | ((repeat apply Exists.intro); exact ⟨hR, rfl⟩)
      case measure => simp [intOf]; omega
    · obtain rfl : k = vl.length := by omega
      rw [List.take_of_length_le (Nat.le_refl _)] at ho
      have hltI : ¬ (vl.length : Int) < vl.length := by omega
      go_wp2_with fail
      go_ret2
      refine ⟨_, rfl, ?_, hB2.trans (hbr.mono hB2.size)⟩
      have ho' := ownsRow_base' ho hB2.size
      rw [show 3 + BB.length + 1 + vl.length = 3 + (BB ++ [(vl.length : Int)] ++ vl).length by simp; omega, show [4, m.fr, m.tt] ++ BB ++ [(vl.length : Int)] ++ vl = [4, m.fr, m.tt] ++ (BB ++ [(vl.length : Int)] ++ vl) by simp, ← hCB.out] at ho'
      exact ho'
end Go.Proofs.Ytdddimkankdmdaa

namespace Go.Proofs.Ytdddimkankdmdaa
open Go.RowKit

set_option maxRecDepth 100000 in
set_option maxHeartbeats 1000000 in
theorem mBytesBad (m : Msg) (ec : Int) (w : World) (he : ec ≠ 0)
    (hc : ∀ w1, Below w.heap.size w w1 → Calls Try.prog 18 #[.agg #[.int .i64 m.fr, .int .i64 m.tt, .int .i64 m.ki, .int .i64 m.bau, .int .i64 m.bnu, .slice m.bta m.btn m.btc, .int .i64 m.hau, .int .i64 m.hrd, .slice m.hba m.hbn m.hbc, .slice m.hpa m.hpn m.hpc, .int .i64 m.sau, .int .i64 m.srd, .slice m.sda m.sdn m.sdc, .int .i64 m.cau, .int .i64 m.crd, .slice m.cba m.cbn m.cbc, .slice m.cpa m.cpn m.cpc, .slice m.cva m.cvn m.cvc, .int .i64 m.ro]] w1 fun e w' => e = .returned (.int .i64 ec) ∧ Below w1.heap.size w1 w') :
    Calls Try.prog 6 #[.agg #[.int .i64 m.fr, .int .i64 m.tt, .int .i64 m.ki, .int .i64 m.bau, .int .i64 m.bnu, .slice m.bta m.btn m.btc, .int .i64 m.hau, .int .i64 m.hrd, .slice m.hba m.hbn m.hbc, .slice m.hpa m.hpn m.hpc, .int .i64 m.sau, .int .i64 m.srd, .slice m.sda m.sdn m.sdc, .int .i64 m.cau, .int .i64 m.crd, .slice m.cba m.cbn m.cbc, .slice m.cpa m.cpn m.cpc, .slice m.cva m.cvn m.cvc, .int .i64 m.ro]] w fun e w' => e = .returned (.tuple #[.slice none 0 0, .int .i64 ec]) ∧ Below w.heap.size w w' := by
  have hq := heap_alloc_new w (.cells #[.int .i64 m.fr, .int .i64 m.tt, .int .i64 m.ki, .int .i64 m.bau, .int .i64 m.bnu, .slice m.bta m.btn m.btc, .int .i64 m.hau, .int .i64 m.hrd, .slice m.hba m.hbn m.hbc, .slice m.hpa m.hpn m.hpc, .int .i64 m.sau, .int .i64 m.srd, .slice m.sda m.sdn m.sdc, .int .i64 m.cau, .int .i64 m.crd, .slice m.cba m.cbn m.cbc, .slice m.cpa m.cpn m.cpc, .slice m.cva m.cvn m.cvc, .int .i64 m.ro] 35)
  have hB : Below w.heap.size w (w.alloc (.cells #[.int .i64 m.fr, .int .i64 m.tt, .int .i64 m.ki, .int .i64 m.bau, .int .i64 m.bnu, .slice m.bta m.btn m.btc, .int .i64 m.hau, .int .i64 m.hrd, .slice m.hba m.hbn m.hbc, .slice m.hpa m.hpn m.hpc, .int .i64 m.sau, .int .i64 m.srd, .slice m.sda m.sdn m.sdc, .int .i64 m.cau, .int .i64 m.crd, .slice m.cba m.cbn m.cbc, .slice m.cpa m.cpn m.cpc, .slice m.cva m.cvn m.cvc, .int .i64 m.ro] 35)) := (Below.refl _ _).alloc (Nat.le_refl _) _
  go_enter Try.func6, Try.ntmps6
  go_wp2_with (refine wpList_load_row rfl 35 _ rfl w.heap.size rfl 35 _ (0, 0) _ hq Try.underlying35 rfl sMsg ?_)
  refine (hc _ hB).mono ?_
  rintro e w1 ⟨rfl, hb1⟩
  replace hb1 := below_alloc hb1
  go_wp2_with fail
  go_ret2
  exact ⟨rfl, hb1⟩
set_option maxRecDepth 100000 in
theorem messageBytes_any (m : Msg) (ss : List ByteArray) (bl pl cbl cpl : List Part) (ds vl : List Int) (w : World) (H : MsgAt w m ss bl pl cbl cpl vl) (hd : SliceAt w m.sda m.sdc ds) (h7 : m.sdn = ds.length) :
    Calls Try.prog 6 #[.agg #[.int .i64 m.fr, .int .i64 m.tt, .int .i64 m.ki, .int .i64 m.bau, .int .i64 m.bnu, .slice m.bta m.btn m.btc, .int .i64 m.hau, .int .i64 m.hrd, .slice m.hba m.hbn m.hbc, .slice m.hpa m.hpn m.hpc, .int .i64 m.sau, .int .i64 m.srd, .slice m.sda m.sdn m.sdc, .int .i64 m.cau, .int .i64 m.crd, .slice m.cba m.cbn m.cbc, .slice m.cpa m.cpn m.cpc, .slice m.cva m.cvn m.cvc, .int .i64 m.ro]] w fun e w' => ∃ v, e = .returned (.tuple #[v, .int .i64 (checkF m (carriedF m ss bl pl cbl cpl vl))]) ∧ w'.ownsRow w.heap.size 5 1 v (encB m (checkF m (carriedF m ss bl pl cbl cpl vl)) ss bl pl cbl cpl ds vl).length (ub (encB m (checkF m (carriedF m ss bl pl cbl cpl vl)) ss bl pl cbl cpl ds vl)) ∧ Below w.heap.size w w' := by
  have hC : ∀ w1, Below w.heap.size w w1 → Calls Try.prog 18 #[.agg #[.int .i64 m.fr, .int .i64 m.tt, .int .i64 m.ki, .int .i64 m.bau, .int .i64 m.bnu, .slice m.bta m.btn m.btc, .int .i64 m.hau, .int .i64 m.hrd, .slice m.hba m.hbn m.hbc, .slice m.hpa m.hpn m.hpc, .int .i64 m.sau, .int .i64 m.srd, .slice m.sda m.sdn m.sdc, .int .i64 m.cau, .int .i64 m.crd, .slice m.cba m.cbn m.cbc, .slice m.cpa m.cpn m.cpc, .slice m.cva m.cvn m.cvc, .int .i64 m.ro]] w1 fun e w' => e = .returned (.int .i64 (checkF m (carriedF m ss bl pl cbl cpl vl))) ∧ Below w1.heap.size w1 w' := fun w1 hb => messageFault_any m ss bl pl cbl cpl vl w1 (H.below hb)
  by_cases hR : checkF m (carriedF m ss bl pl cbl cpl vl) = 0
  · rw [hR] at hC ⊢
    obtain ⟨hf, ht, hc, _⟩ := checkF_ok hR
    have hE : encB m 0 ss bl pl cbl cpl ds vl = [m.ki, m.fr, m.tt] ++ bodyB m ss bl pl cbl cpl ds vl := rfl
    rw [hE]
    rcases carriedF_kind hc with k | k | k | k | k
    · rw [bodyB1 k]
      rw [carried1 k] at hc
      obtain ⟨g1, g2, g3, g4⟩ := batchF_ok hc
      refine (mBytes1 m ss w k hf ht g1 ⟨by omega, g2.2⟩ H.e1 g3.2 (fun s hs => (g4 s hs).2) H.txs hC).mono ?_
      · rintro e w' ⟨v, he, ho, hb⟩
        refine ⟨v, he, ?_, hb⟩
        rw [k, List.length_append]
        exact ho
    · rw [bodyB2 k]
      rw [carried2 k] at hc
      obtain ⟨g1, g2, g3, g4, g5, g6⟩ := headerF_ok hc
      refine (mBytes2 m bl pl w k hf ht g1 ⟨by omega, g2.2⟩ H.e2 H.e3 (by omega) g4 g5 g6 H.bat H.par hC).mono ?_
      rintro e w' ⟨v, he, ho, hb⟩
      refine ⟨v, he, ?_, hb⟩
      rw [k, List.length_append]
      exact ho
    · rw [bodyB3 k]
      rw [carried3 k] at hc
      obtain ⟨g1, g2, g3⟩ := slotF_ok hc
      refine (mBytes3 m ds w k hf ht g1 ⟨by omega, g2.2⟩ h7 (by omega) hd hC).mono ?_
      · rintro e w' ⟨v, he, ho, hb⟩
        refine ⟨v, he, ?_, hb⟩
        rw [k, show ([3, m.fr, m.tt] ++ ([m.sau] ++ rd3 m.srd ++ ds)).length = 3 + 1 + 3 + m.sdn by simp [rd3, h7]; omega, ← List.append_assoc, ← List.append_assoc]
        exact ho
    · rw [bodyB4 k]
      rw [carried4 k] at hc
      obtain ⟨c1, c2, c3, c4⟩ := certF_ok hc
      obtain ⟨g1, g2, g3, g4, g5, g6⟩ := headerF_ok c1
      refine (mBytes4 m cbl cpl vl w k hf ht g1 ⟨by omega, g2.2⟩ H.e4 H.e5 (by omega) g4 g5 g6 H.cbat H.cpar H.e6 c2 c4 H.vot hC).mono ?_
      · rintro e w' ⟨v, he, ho, hb⟩
        refine ⟨v, he, ?_, hb⟩
        rw [k, List.length_append]
        exact ho
    · rw [bodyB5 k]
      rw [carried5 k] at hc
      have hro : 1 ≤ m.ro ∧ m.ro ≤ 1048576 := by
        rcases Decidable.em (1 ≤ m.ro ∧ m.ro ≤ 1048576) with g | g
        · exact g
        · rw [if_neg g] at hc; cases hc
      refine (mBytes5 m w k hf ht ⟨by omega, hro.2⟩ hC).mono ?_
      rintro e w' ⟨v, he, ho, hb⟩
      refine ⟨v, he, ?_, hb⟩
      rw [k]
      exact ho
  · refine (mBytesBad m _ w hR hC).mono ?_
    rintro e w' ⟨he, hb⟩
    refine ⟨_, he, ?_, hb⟩
    rw [encB, if_neg hR]
    exact World.ownsRow_nil _ _ _ _
end Go.Proofs.Ytdddimkankdmdaa
