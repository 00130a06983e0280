/- wire.Encode: what it answers, for every message. -/
import Derived.Test.YtldlknmpkoebbaaTapeRecoversM18
import Derived.Test.YtldlknmpkoebbaaTapeRecoversM12
import Derived.Test.YtldlknmpkoebbaaTapeRecoversM6
import Derived.Test.YtldlknmpkoebbaaCheckAny
namespace Go.Proofs.Ytldlknmpkoebbaa
open Go.RowKit

set_option maxRecDepth 100000 in
set_option maxHeartbeats 1000000 in
theorem encode_offer_w (m : Msg) (bl pl : List Part) (w : World) (hk : m.ki = 2) (hf : 0 ≤ m.fr ∧ m.fr < 4) (ht : 0 ≤ m.tt ∧ m.tt < 4) (ha : 0 ≤ m.hau ∧ m.hau < 4) (hr : 0 ≤ m.hrd ∧ m.hrd ≤ 1048576) (hbn : m.hbn = bl.length) (hpn : m.hpn = pl.length) (hbl : bl.length ≤ 4) (hpl : pl.length ≤ 4) (hb32 : ∀ p ∈ bl, p.bs.length = 32) (hp32 : ∀ p ∈ pl, p.bs.length = 32) (hLb : ListAt w m.hba m.hbc bl) (hLp : ListAt w m.hpa m.hpc pl)
    (hc : ∀ w1, Below w.heap.size w w1 → Calls Try.prog 49 #[.agg #[.int .i64 m.fr, .int .i64 m.tt, .int .i64 m.ki, .int .i64 m.bau, .int .i64 m.bnu, .slice m.bta m.btn m.btc, .int .i64 m.hau, .int .i64 m.hrd, .slice m.hba m.hbn m.hbc, .slice m.hpa m.hpn m.hpc, .int .i64 m.sau, .int .i64 m.srd, .slice m.sda m.sdn m.sdc, .int .i64 m.cau, .int .i64 m.crd, .slice m.cba m.cbn m.cbc, .slice m.cpa m.cpn m.cpc, .slice m.cva m.cvn m.cvc, .int .i64 m.ro]] w1 fun e w' => e = .returned (.int .i64 0) ∧ Below w1.heap.size w1 w') :
    Calls Try.prog 43 #[.agg #[.int .i64 m.fr, .int .i64 m.tt, .int .i64 m.ki, .int .i64 m.bau, .int .i64 m.bnu, .slice m.bta m.btn m.btc, .int .i64 m.hau, .int .i64 m.hrd, .slice m.hba m.hbn m.hbc, .slice m.hpa m.hpn m.hpc, .int .i64 m.sau, .int .i64 m.srd, .slice m.sda m.sdn m.sdc, .int .i64 m.cau, .int .i64 m.crd, .slice m.cba m.cbn m.cbc, .slice m.cpa m.cpn m.cpc, .slice m.cva m.cvn m.cvc, .int .i64 m.ro]] w fun e w' => ∃ v, e = .returned (.tuple #[v, .int .i64 0]) ∧ w'.ownsRow w.heap.size 5 1 v (3 + (headB m.hau m.hrd bl pl).length) (ub ([2, m.fr, m.tt] ++ headB m.hau m.hrd bl pl)) ∧ Below w.heap.size w w' := by
  have hq := heap_alloc_new w (.cells #[.int .i64 m.fr, .int .i64 m.tt, .int .i64 m.ki, .int .i64 m.bau, .int .i64 m.bnu, .slice m.bta m.btn m.btc, .int .i64 m.hau, .int .i64 m.hrd, .slice m.hba m.hbn m.hbc, .slice m.hpa m.hpn m.hpc, .int .i64 m.sau, .int .i64 m.srd, .slice m.sda m.sdn m.sdc, .int .i64 m.cau, .int .i64 m.crd, .slice m.cba m.cbn m.cbc, .slice m.cpa m.cpn m.cpc, .slice m.cva m.cvn m.cvc, .int .i64 m.ro] 53)
  have hB : Below w.heap.size w (w.alloc (.cells #[.int .i64 m.fr, .int .i64 m.tt, .int .i64 m.ki, .int .i64 m.bau, .int .i64 m.bnu, .slice m.bta m.btn m.btc, .int .i64 m.hau, .int .i64 m.hrd, .slice m.hba m.hbn m.hbc, .slice m.hpa m.hpn m.hpc, .int .i64 m.sau, .int .i64 m.srd, .slice m.sda m.sdn m.sdc, .int .i64 m.cau, .int .i64 m.crd, .slice m.cba m.cbn m.cbc, .slice m.cpa m.cpn m.cpc, .slice m.cva m.cvn m.cvc, .int .i64 m.ro] 53)) := (Below.refl _ _).alloc (Nat.le_refl _) _
  rw [hk] at hc hq hB ⊢
  obtain ⟨hf0, hf1⟩ := hf
  obtain ⟨ht0, ht1⟩ := ht
  have Hn : Hid (m.hbn = bl.length) := hbn
  have Hp : Hid (m.hpn = pl.length) := hpn
  clear hbn hpn hk
  go_enter Try.func43, Try.ntmps43
  go_wp2_with (refine wpList_load_row rfl 53 _ rfl w.heap.size rfl 53 _ (0, 0) _ hq Try.underlying53 rfl sMsg ?_)
  refine (hc _ hB).mono ?_
  rintro e w1 ⟨rfl, hb1⟩
  have r1 := row_new hb1
  replace hb1 := below_alloc hb1
  have c0 : w1.cell? ⟨w.heap.size, 0, none⟩ = some (.int .i64 m.fr) := cells_at r1 0 _ rfl
  have c1 : w1.cell? ⟨w.heap.size, 1, none⟩ = some (.int .i64 m.tt) := cells_at r1 1 _ rfl
  have c2 : w1.cell? ⟨w.heap.size, 2, none⟩ = some (.int .i64 2) := cells_at r1 2 _ rfl
  have c6 : w1.cell? ⟨w.heap.size, 6, none⟩ = some (.int .i64 m.hau) := cells_at r1 6 _ rfl
  have c7 : w1.cell? ⟨w.heap.size, 7, none⟩ = some (.int .i64 m.hrd) := cells_at r1 7 _ rfl
  have c8 : w1.cell? ⟨w.heap.size, 8, none⟩ = some (.slice m.hba m.hbn m.hbc) := cells_at r1 8 _ rfl
  have c9 : w1.cell? ⟨w.heap.size, 9, none⟩ = some (.slice m.hpa m.hpn m.hpc) := cells_at r1 9 _ rfl
  have hlt : w.heap.size < w1.heap.size := lt_of_heap r1
  have hlit := World.ownsRow_lit (base := w1.heap.size) (e := 5) (size := 1) w1 (ub [2, m.fr, m.tt]).toArray 3 (Nat.le_refl _) (by decide) rfl
  have hA1 : Below w1.heap.size w1 (w1.alloc (.cells (ub [2, m.fr, m.tt]).toArray 5)) := (Below.refl _ _).alloc (Nat.le_refl _) _
  have oo : ∀ (ra : Option Addr) (rc : Nat) (qs : List Part), ListAt w ra rc qs → OffW (w1.alloc (.cells (ub [2, m.fr, m.tt]).toArray 5)) (.slice (some ⟨w1.heap.size, 0, none⟩) 3 3) ra qs := fun ra rc qs h =>
    offW_of_list (h.below hb1) (le_alloc (Nat.le_refl _) _) (fun sb hl e => by have e' : w1.heap.size = sb := (by simpa [Value.ownBlock] using e); omega)
  have hH := appendHeader_w w1.heap.size (.slice (some ⟨w1.heap.size, 0, none⟩) 3 3) 3 [2, m.fr, m.tt] m.hau m.hrd m.hba m.hbn m.hbc bl m.hpa m.hpn m.hpc pl _ ha hr Hn.out Hp.out hbl hpl hb32 hp32 ((hLb.below hb1).below hA1) (oo _ _ _ hLb) ((hLp.below hb1).below hA1) (oo _ _ _ hLp) hlit (le_alloc (Nat.le_refl _) _) (by decide)
  clear oo
  go_wp2_with fail
  refine hH.mono ?_
  rintro e w2 ⟨v2, rfl, ho2, hG⟩
  have hb2 := hG.below (base := w1.heap.size) (le_alloc (Nat.le_refl _) _) (fun q e => by cases e; exact Nat.le_refl _)
  clear hG hH
  go_wp2_with fail
  go_ret2
  refine ⟨v2, rfl, ownsRow_base' ho2 hb1.size, ?_⟩
  exact (hb1.alloc hb1.size _).trans (hb2.mono hb1.size)
set_option maxRecDepth 100000 in
theorem encode_offer (m : Msg) (bl pl : List Part) (w : World) (hk : m.ki = 2) (hf : 0 ≤ m.fr ∧ m.fr < 4) (ht : 0 ≤ m.tt ∧ m.tt < 4) (ha : 0 ≤ m.hau ∧ m.hau < 4) (hr : 0 ≤ m.hrd ∧ m.hrd ≤ 1048576) (hbn : m.hbn = bl.length) (hpn : m.hpn = pl.length) (hbl : bl.length ≤ 4) (hpl : pl.length ≤ 4) (hb32 : ∀ p ∈ bl, p.bs.length = 32) (hp32 : ∀ p ∈ pl, p.bs.length = 32) (hLb : ListAt w m.hba m.hbc bl) (hLp : ListAt w m.hpa m.hpc pl) (_hOb : Off w (.slice none 0 0) m.hba bl) (_hOp : Off w (.slice none 0 0) m.hpa pl)
    (hc : ∀ w1, Below w.heap.size w w1 → Calls Try.prog 49 #[.agg #[.int .i64 m.fr, .int .i64 m.tt, .int .i64 m.ki, .int .i64 m.bau, .int .i64 m.bnu, .slice m.bta m.btn m.btc, .int .i64 m.hau, .int .i64 m.hrd, .slice m.hba m.hbn m.hbc, .slice m.hpa m.hpn m.hpc, .int .i64 m.sau, .int .i64 m.srd, .slice m.sda m.sdn m.sdc, .int .i64 m.cau, .int .i64 m.crd, .slice m.cba m.cbn m.cbc, .slice m.cpa m.cpn m.cpc, .slice m.cva m.cvn m.cvc, .int .i64 m.ro]] w1 fun e w' => e = .returned (.int .i64 0) ∧ Below w1.heap.size w1 w') :
    Calls Try.prog 43 #[.agg #[.int .i64 m.fr, .int .i64 m.tt, .int .i64 m.ki, .int .i64 m.bau, .int .i64 m.bnu, .slice m.bta m.btn m.btc, .int .i64 m.hau, .int .i64 m.hrd, .slice m.hba m.hbn m.hbc, .slice m.hpa m.hpn m.hpc, .int .i64 m.sau, .int .i64 m.srd, .slice m.sda m.sdn m.sdc, .int .i64 m.cau, .int .i64 m.crd, .slice m.cba m.cbn m.cbc, .slice m.cpa m.cpn m.cpc, .slice m.cva m.cvn m.cvc, .int .i64 m.ro]] w fun e w' => ∃ v, e = .returned (.tuple #[v, .int .i64 0]) ∧ w'.ownsRow w.heap.size 5 1 v (3 + (headB m.hau m.hrd bl pl).length) (ub ([2, m.fr, m.tt] ++ headB m.hau m.hrd bl pl)) ∧ Below w.heap.size w w' :=
  encode_offer_w m bl pl w hk hf ht ha hr hbn hpn hbl hpl hb32 hp32 hLb hLp hc
end Go.Proofs.Ytldlknmpkoebbaa

namespace Go.Proofs.Ytldlknmpkoebbaa
open Go.RowKit

set_option maxRecDepth 100000 in
set_option maxHeartbeats 1000000 in
theorem appendSlot_any (base : Nat) (v : Value) (k : Nat) (bs : List Int) (au rd : Int) (sa : Option Addr) (n cap : Nat) (ds : List Int) (w : World) (ha : 0 ≤ au ∧ au < 4) (hr : 0 ≤ rd ∧ rd ≤ 1048576) (hn : n = ds.length) (hs : SliceAt w sa cap ds) (hne : ∀ sb so, sa = some ⟨sb, so, none⟩ → sb < w.heap.size ∧ v.ownBlock ≠ some sb)
    (ho : w.ownsRow base 5 1 v k (ub bs)) (hB : base ≤ w.heap.size) (hk : k ≤ 90000) (hn2 : n ≤ 4000) :
    Calls Try.prog 65 #[v, .agg #[.int .i64 au, .int .i64 rd, .slice sa n cap]] w fun e w' => ∃ v', e = .returned v' ∧ w'.ownsRow base 5 1 v' (k + 1 + 3 + n) (ub (bs ++ [au] ++ rd3 rd ++ ds)) ∧ Grew w v w' v' := by
  subst hn
  obtain ⟨i, hi, hz0, hz1, hz2⟩ := info_parts infoU8
  obtain ⟨ha0, ha1⟩ := ha
  have hvne : v.ownBlock ≠ some w.heap.size := fun e => by have := (ho.lt _ e).2; omega
  go_enter Try.func65, Try.ntmps65
  go_wp2_with (at_builtin; refine wpList_append_own_at _ rfl _ _ 22 rfl base 5 i (.int .u8 0) 1 1 Try.underlying22 hi hz0 hz1 hz2 rfl (by decide) _ k _ rfl (World.ownsRow.alloc (World.ownsRow.alloc ho _) _) ⟨w.heap.size + 1, 0, none⟩ 1 1 [.int .u8 au] rfl rfl (by have := cells_new (w.alloc (.cells #[.int .i64 au, .int .i64 rd, .slice sa ds.length cap] 48)) [.int .u8 au] 5; rw [size_alloc] at this; exact this) (u8_one [_]) (by unfold maxLen; omega) (by omega) (le_alloc (le_alloc hB _) _) ?_; intro v1 w1 ho1 hg1 _ hat; have G1 := Grew.of hg1 hat; have r1 := G1.row (heap_alloc2_old w _ _) hvne; have c1 : w1.cell? ⟨w.heap.size, 1, none⟩ = some (.int .i64 rd) := cells_at r1 1 _ rfl)
  have ho1' : w1.ownsRow base 5 1 v1 (k + 1) (ub (bs ++ [au])) := by simpa [ub] using ho1
  have hw1 : w.heap.size < w1.heap.size := lt_of_heap r1
  have hv1ne : v1.ownBlock ≠ some w.heap.size := fun e => by
    rcases G1.fresh _ e with g | g
    · exact hvne g
    · rw [size_alloc, size_alloc] at g; omega
  have hs1 : SliceAt w1 sa cap ds := G1.slice (hs.below (((Below.refl _ _).alloc (Nat.le_refl _) _).alloc (by simp) _)) (fun sb so e => (hne sb so e).2)
  have hsne1 : ∀ sb so, sa = some ⟨sb, so, none⟩ → v1.ownBlock ≠ some sb := fun sb so e h => by
    rcases G1.fresh _ h with g | g
    · exact (hne sb so e).2 g
    · have := (hne sb so e).1; rw [size_alloc, size_alloc] at g; omega
  have G0 := G1.alloc.alloc
  clear ho1 hg1 hat G1
  refine (appendRound_any base v1 (k + 1) _ rd _ hr ho1' (Nat.le_trans hB G0.grown.size) (by omega)).mono ?_
  rintro e w2 ⟨v2, rfl, ho2, G2⟩
  have r2 := G2.row r1 hv1ne
  have c2 : w2.cell? ⟨w.heap.size, 2, none⟩ = some (.slice sa ds.length cap) := cells_at r2 2 _ rfl
  have hs2 := G2.slice hs1 hsne1
  have G02 := G0.trans G2
  clear r1 c1
  go_wp2_with (at_builtin; refine wpList_append_part_at rfl _ _ rfl base v2 (k + 1 + 3) _ rfl ho2 sa ds.length cap ds rfl rfl hs2 (by omega) (Nat.le_trans hB G02.grown.size) ?_; intro v3 w3 ho3 G3)
  go_ret
  exact ⟨v3, rfl, ho3, G02.trans G3⟩
end Go.Proofs.Ytldlknmpkoebbaa

namespace Go.Proofs.Ytldlknmpkoebbaa
open Go.RowKit

set_option maxRecDepth 100000 in
set_option maxHeartbeats 1000000 in
theorem encode_vote (m : Msg) (ds : List Int) (w : World) (hk : m.ki = 3) (hf : 0 ≤ m.fr ∧ m.fr < 4) (ht : 0 ≤ m.tt ∧ m.tt < 4) (ha : 0 ≤ m.sau ∧ m.sau < 4) (hr : 0 ≤ m.srd ∧ m.srd ≤ 1048576) (hn : m.sdn = ds.length) (hn2 : m.sdn ≤ 4000) (hs : SliceAt w m.sda m.sdc ds) (hsb : ∀ sb so, m.sda = some ⟨sb, so, none⟩ → sb < w.heap.size)
    (hc : ∀ w1, Below w.heap.size w w1 → Calls Try.prog 49 #[.agg #[.int .i64 m.fr, .int .i64 m.tt, .int .i64 m.ki, .int .i64 m.bau, .int .i64 m.bnu, .slice m.bta m.btn m.btc, .int .i64 m.hau, .int .i64 m.hrd, .slice m.hba m.hbn m.hbc, .slice m.hpa m.hpn m.hpc, .int .i64 m.sau, .int .i64 m.srd, .slice m.sda m.sdn m.sdc, .int .i64 m.cau, .int .i64 m.crd, .slice m.cba m.cbn m.cbc, .slice m.cpa m.cpn m.cpc, .slice m.cva m.cvn m.cvc, .int .i64 m.ro]] w1 fun e w' => e = .returned (.int .i64 0) ∧ Below w1.heap.size w1 w') :
    Calls Try.prog 43 #[.agg #[.int .i64 m.fr, .int .i64 m.tt, .int .i64 m.ki, .int .i64 m.bau, .int .i64 m.bnu, .slice m.bta m.btn m.btc, .int .i64 m.hau, .int .i64 m.hrd, .slice m.hba m.hbn m.hbc, .slice m.hpa m.hpn m.hpc, .int .i64 m.sau, .int .i64 m.srd, .slice m.sda m.sdn m.sdc, .int .i64 m.cau, .int .i64 m.crd, .slice m.cba m.cbn m.cbc, .slice m.cpa m.cpn m.cpc, .slice m.cva m.cvn m.cvc, .int .i64 m.ro]] w fun e w' => ∃ v, e = .returned (.tuple #[v, .int .i64 0]) ∧ w'.ownsRow w.heap.size 5 1 v (3 + 1 + 3 + m.sdn) (ub ([3, m.fr, m.tt] ++ [m.sau] ++ rd3 m.srd ++ ds)) ∧ Below w.heap.size w w' := by
  rw [hk] at hc ⊢
  obtain ⟨hf0, hf1⟩ := hf
  obtain ⟨ht0, ht1⟩ := ht
  have hq := heap_alloc_new w (.cells #[.int .i64 m.fr, .int .i64 m.tt, .int .i64 3, .int .i64 m.bau, .int .i64 m.bnu, .slice m.bta m.btn m.btc, .int .i64 m.hau, .int .i64 m.hrd, .slice m.hba m.hbn m.hbc, .slice m.hpa m.hpn m.hpc, .int .i64 m.sau, .int .i64 m.srd, .slice m.sda m.sdn m.sdc, .int .i64 m.cau, .int .i64 m.crd, .slice m.cba m.cbn m.cbc, .slice m.cpa m.cpn m.cpc, .slice m.cva m.cvn m.cvc, .int .i64 m.ro] 53)
  have hB : Below w.heap.size w (w.alloc (.cells #[.int .i64 m.fr, .int .i64 m.tt, .int .i64 3, .int .i64 m.bau, .int .i64 m.bnu, .slice m.bta m.btn m.btc, .int .i64 m.hau, .int .i64 m.hrd, .slice m.hba m.hbn m.hbc, .slice m.hpa m.hpn m.hpc, .int .i64 m.sau, .int .i64 m.srd, .slice m.sda m.sdn m.sdc, .int .i64 m.cau, .int .i64 m.crd, .slice m.cba m.cbn m.cbc, .slice m.cpa m.cpn m.cpc, .slice m.cva m.cvn m.cvc, .int .i64 m.ro] 53)) := (Below.refl _ _).alloc (Nat.le_refl _) _
  have Hn : Hid (m.sdn = ds.length) := hn
  clear hn
  go_enter Try.func43, Try.ntmps43
  go_wp2_with (refine wpList_load_row rfl 53 _ rfl w.heap.size rfl 53 #[.int .i64 m.fr, .int .i64 m.tt, .int .i64 3, .int .i64 m.bau, .int .i64 m.bnu, .slice m.bta m.btn m.btc, .int .i64 m.hau, .int .i64 m.hrd, .slice m.hba m.hbn m.hbc, .slice m.hpa m.hpn m.hpc, .int .i64 m.sau, .int .i64 m.srd, .slice m.sda m.sdn m.sdc, .int .i64 m.cau, .int .i64 m.crd, .slice m.cba m.cbn m.cbc, .slice m.cpa m.cpn m.cpc, .slice m.cva m.cvn m.cvc, .int .i64 m.ro] (0, 0) _ hq Try.underlying53 rfl sMsg ?_)
  refine (hc _ hB).mono ?_
  rintro e w1 ⟨rfl, hb1⟩
  have r1 := row_new hb1
  replace hb1 := below_alloc hb1
  have c0 : w1.cell? ⟨w.heap.size, 0, none⟩ = some (.int .i64 m.fr) := cells_at r1 0 _ rfl
  have c1 : w1.cell? ⟨w.heap.size, 1, none⟩ = some (.int .i64 m.tt) := cells_at r1 1 _ rfl
  have c2 : w1.cell? ⟨w.heap.size, 2, none⟩ = some (.int .i64 3) := cells_at r1 2 _ rfl
  have c10 : w1.cell? ⟨w.heap.size, 10, none⟩ = some (.int .i64 m.sau) := cells_at r1 10 _ rfl
  have c11 : w1.cell? ⟨w.heap.size, 11, none⟩ = some (.int .i64 m.srd) := cells_at r1 11 _ rfl
  have c12 : w1.cell? ⟨w.heap.size, 12, none⟩ = some (.slice m.sda m.sdn m.sdc) := cells_at r1 12 _ rfl
  have hlt : w.heap.size < w1.heap.size := lt_of_heap r1
  have hlit := World.ownsRow_lit (base := w1.heap.size) (e := 5) (size := 1) w1 (ub [3, m.fr, m.tt]).toArray 3 (Nat.le_refl _) (by decide) rfl
  go_wp2_with fail
  refine (appendSlot_any w1.heap.size _ 3 [3, m.fr, m.tt] m.sau m.srd m.sda m.sdn m.sdc ds _ ha hr Hn.out ?_ ?_ ?_ (le_alloc (Nat.le_refl _) _) (by decide) hn2).mono ?_
  · exact (hs.below hb1).below ((Below.refl _ _).alloc (Nat.le_refl _) _)
  · intro sb so e
    have := hsb sb so e
    refine ⟨by rw [size_alloc]; omega, fun h => ?_⟩
    simp [Value.ownBlock] at h
    omega
  · exact hlit
  rintro e w2 ⟨v2, rfl, ho2, hG⟩
  have hb2 := hG.below (base := w1.heap.size) (le_alloc (Nat.le_refl _) _) (fun q e => by cases e; exact Nat.le_refl _)
  clear hG
  go_wp2_with fail
  go_ret2
  refine ⟨v2, rfl, ownsRow_base' ho2 hb1.size, ?_⟩
  exact (hb1.alloc hb1.size _).trans (hb2.mono hb1.size)
end Go.Proofs.Ytldlknmpkoebbaa

namespace Go.Proofs.Ytldlknmpkoebbaa
open Go.RowKit

set_option maxRecDepth 100000 in
set_option maxHeartbeats 1000000 in
theorem encode_proof_w (m : Msg) (bl pl : List Part) (vl : List Int) (w : World) (hk : m.ki = 4) (hf : 0 ≤ m.fr ∧ m.fr < 4) (ht : 0 ≤ m.tt ∧ m.tt < 4) (ha : 0 ≤ m.cau ∧ m.cau < 4) (hr : 0 ≤ m.crd ∧ m.crd ≤ 1048576) (hbn : m.cbn = bl.length) (hpn : m.cpn = pl.length) (hbl : bl.length ≤ 4) (hpl : pl.length ≤ 4) (hb32 : ∀ p ∈ bl, p.bs.length = 32) (hp32 : ∀ p ∈ pl, p.bs.length = 32) (hLb : ListAt w m.cba m.cbc bl) (hLp : ListAt w m.cpa m.cpc pl) (hvn : m.cvn = vl.length) (hvl : vl.length ≤ 4) (hv4 : ∀ x ∈ vl, 0 ≤ x ∧ x < 4) (hI : IntsAt w m.cva vl) (hvb : ∀ sb so, m.cva = some ⟨sb, so, none⟩ → sb < w.heap.size)
    (hc : ∀ w1, Below w.heap.size w w1 → Calls Try.prog 49 #[.agg #[.int .i64 m.fr, .int .i64 m.tt, .int .i64 m.ki, .int .i64 m.bau, .int .i64 m.bnu, .slice m.bta m.btn m.btc, .int .i64 m.hau, .int .i64 m.hrd, .slice m.hba m.hbn m.hbc, .slice m.hpa m.hpn m.hpc, .int .i64 m.sau, .int .i64 m.srd, .slice m.sda m.sdn m.sdc, .int .i64 m.cau, .int .i64 m.crd, .slice m.cba m.cbn m.cbc, .slice m.cpa m.cpn m.cpc, .slice m.cva m.cvn m.cvc, .int .i64 m.ro]] w1 fun e w' => e = .returned (.int .i64 0) ∧ Below w1.heap.size w1 w') :
    Calls Try.prog 43 #[.agg #[.int .i64 m.fr, .int .i64 m.tt, .int .i64 m.ki, .int .i64 m.bau, .int .i64 m.bnu, .slice m.bta m.btn m.btc, .int .i64 m.hau, .int .i64 m.hrd, .slice m.hba m.hbn m.hbc, .slice m.hpa m.hpn m.hpc, .int .i64 m.sau, .int .i64 m.srd, .slice m.sda m.sdn m.sdc, .int .i64 m.cau, .int .i64 m.crd, .slice m.cba m.cbn m.cbc, .slice m.cpa m.cpn m.cpc, .slice m.cva m.cvn m.cvc, .int .i64 m.ro]] w fun e w' => ∃ v, e = .returned (.tuple #[v, .int .i64 0]) ∧ w'.ownsRow w.heap.size 5 1 v (3 + (certB m.cau m.crd bl pl vl).length) (ub ([4, m.fr, m.tt] ++ certB m.cau m.crd bl pl vl)) ∧ Below w.heap.size w w' := by
  have hq := heap_alloc_new w (.cells #[.int .i64 m.fr, .int .i64 m.tt, .int .i64 m.ki, .int .i64 m.bau, .int .i64 m.bnu, .slice m.bta m.btn m.btc, .int .i64 m.hau, .int .i64 m.hrd, .slice m.hba m.hbn m.hbc, .slice m.hpa m.hpn m.hpc, .int .i64 m.sau, .int .i64 m.srd, .slice m.sda m.sdn m.sdc, .int .i64 m.cau, .int .i64 m.crd, .slice m.cba m.cbn m.cbc, .slice m.cpa m.cpn m.cpc, .slice m.cva m.cvn m.cvc, .int .i64 m.ro] 53)
  have hB : Below w.heap.size w (w.alloc (.cells #[.int .i64 m.fr, .int .i64 m.tt, .int .i64 m.ki, .int .i64 m.bau, .int .i64 m.bnu, .slice m.bta m.btn m.btc, .int .i64 m.hau, .int .i64 m.hrd, .slice m.hba m.hbn m.hbc, .slice m.hpa m.hpn m.hpc, .int .i64 m.sau, .int .i64 m.srd, .slice m.sda m.sdn m.sdc, .int .i64 m.cau, .int .i64 m.crd, .slice m.cba m.cbn m.cbc, .slice m.cpa m.cpn m.cpc, .slice m.cva m.cvn m.cvc, .int .i64 m.ro] 53)) := (Below.refl _ _).alloc (Nat.le_refl _) _
  rw [hk] at hc hq hB ⊢
  obtain ⟨hf0, hf1⟩ := hf
  obtain ⟨ht0, ht1⟩ := ht
  have Hn : Hid (m.cbn = bl.length) := hbn
  have Hp : Hid (m.cpn = pl.length) := hpn
  have Hv : Hid (m.cvn = vl.length) := hvn
  clear hbn hpn hvn hk
  go_enter Try.func43, Try.ntmps43
  go_wp2_with (refine wpList_load_row rfl 53 _ rfl w.heap.size rfl 53 _ (0, 0) _ hq Try.underlying53 rfl sMsg ?_)
  refine (hc _ hB).mono ?_
  rintro e w1 ⟨rfl, hb1⟩
  have r1 := row_new hb1
  replace hb1 := below_alloc hb1
  have c0 : w1.cell? ⟨w.heap.size, 0, none⟩ = some (.int .i64 m.fr) := cells_at r1 0 _ rfl
  have c1 : w1.cell? ⟨w.heap.size, 1, none⟩ = some (.int .i64 m.tt) := cells_at r1 1 _ rfl
  have c2 : w1.cell? ⟨w.heap.size, 2, none⟩ = some (.int .i64 4) := cells_at r1 2 _ rfl
  have c13 : w1.cell? ⟨w.heap.size, 13, none⟩ = some (.int .i64 m.cau) := cells_at r1 13 _ rfl
  have c14 : w1.cell? ⟨w.heap.size, 14, none⟩ = some (.int .i64 m.crd) := cells_at r1 14 _ rfl
  have c15 : w1.cell? ⟨w.heap.size, 15, none⟩ = some (.slice m.cba m.cbn m.cbc) := cells_at r1 15 _ rfl
  have c16 : w1.cell? ⟨w.heap.size, 16, none⟩ = some (.slice m.cpa m.cpn m.cpc) := cells_at r1 16 _ rfl
  have c17 : w1.cell? ⟨w.heap.size, 17, none⟩ = some (.slice m.cva m.cvn m.cvc) := cells_at r1 17 _ rfl
  have hlt : w.heap.size < w1.heap.size := lt_of_heap r1
  have hlit := World.ownsRow_lit (base := w1.heap.size) (e := 5) (size := 1) w1 (ub [4, m.fr, m.tt]).toArray 3 (Nat.le_refl _) (by decide) rfl
  have hA1 : Below w1.heap.size w1 (w1.alloc (.cells (ub [4, m.fr, m.tt]).toArray 5)) := (Below.refl _ _).alloc (Nat.le_refl _) _
  have oo : ∀ (ra : Option Addr) (rc : Nat) (qs : List Part), ListAt w ra rc qs → OffW (w1.alloc (.cells (ub [4, m.fr, m.tt]).toArray 5)) (.slice (some ⟨w1.heap.size, 0, none⟩) 3 3) ra qs := fun ra rc qs h =>
    offW_of_list (h.below hb1) (le_alloc (Nat.le_refl _) _) (fun sb hl e => by have e' : w1.heap.size = sb := (by simpa [Value.ownBlock] using e); omega)
  have hH := appendCert_w w1.heap.size (.slice (some ⟨w1.heap.size, 0, none⟩) 3 3) 3 [4, m.fr, m.tt] m.cau m.crd m.cba m.cbn m.cbc bl m.cpa m.cpn m.cpc pl m.cva m.cvn m.cvc vl _ ha hr Hn.out Hp.out Hv.out hbl hpl hvl hb32 hp32 hv4 ((hLb.below hb1).below hA1) (oo _ _ _ hLb) ((hLp.below hb1).below hA1) (oo _ _ _ hLp) ((hI.below hb1).below hA1) (fun sb so e => by have g := hvb sb so e; refine ⟨by rw [size_alloc]; omega, fun h => ?_⟩; have h' : w1.heap.size = sb := (by simpa [Value.ownBlock] using h); omega) hlit (le_alloc (Nat.le_refl _) _) (by decide)
  clear oo
  go_wp2_with fail
  refine hH.mono ?_
  rintro e w2 ⟨v2, rfl, ho2, hG⟩
  have hb2 := hG.below (base := w1.heap.size) (le_alloc (Nat.le_refl _) _) (fun q e => by cases e; exact Nat.le_refl _)
  clear hG hH
  go_wp2_with fail
  go_ret2
  refine ⟨v2, rfl, ownsRow_base' ho2 hb1.size, ?_⟩
  exact (hb1.alloc hb1.size _).trans (hb2.mono hb1.size)
set_option maxRecDepth 100000 in
theorem encode_proof (m : Msg) (bl pl : List Part) (vl : List Int) (w : World) (hk : m.ki = 4) (hf : 0 ≤ m.fr ∧ m.fr < 4) (ht : 0 ≤ m.tt ∧ m.tt < 4) (ha : 0 ≤ m.cau ∧ m.cau < 4) (hr : 0 ≤ m.crd ∧ m.crd ≤ 1048576) (hbn : m.cbn = bl.length) (hpn : m.cpn = pl.length) (hbl : bl.length ≤ 4) (hpl : pl.length ≤ 4) (hb32 : ∀ p ∈ bl, p.bs.length = 32) (hp32 : ∀ p ∈ pl, p.bs.length = 32) (hLb : ListAt w m.cba m.cbc bl) (hLp : ListAt w m.cpa m.cpc pl) (_hOb : Off w (.slice none 0 0) m.cba bl) (_hOp : Off w (.slice none 0 0) m.cpa pl) (hvn : m.cvn = vl.length) (hvl : vl.length ≤ 4) (hv4 : ∀ x ∈ vl, 0 ≤ x ∧ x < 4) (hI : IntsAt w m.cva vl) (hvb : ∀ sb so, m.cva = some ⟨sb, so, none⟩ → sb < w.heap.size)
    (hc : ∀ w1, Below w.heap.size w w1 → Calls Try.prog 49 #[.agg #[.int .i64 m.fr, .int .i64 m.tt, .int .i64 m.ki, .int .i64 m.bau, .int .i64 m.bnu, .slice m.bta m.btn m.btc, .int .i64 m.hau, .int .i64 m.hrd, .slice m.hba m.hbn m.hbc, .slice m.hpa m.hpn m.hpc, .int .i64 m.sau, .int .i64 m.srd, .slice m.sda m.sdn m.sdc, .int .i64 m.cau, .int .i64 m.crd, .slice m.cba m.cbn m.cbc, .slice m.cpa m.cpn m.cpc, .slice m.cva m.cvn m.cvc, .int .i64 m.ro]] w1 fun e w' => e = .returned (.int .i64 0) ∧ Below w1.heap.size w1 w') :
    Calls Try.prog 43 #[.agg #[.int .i64 m.fr, .int .i64 m.tt, .int .i64 m.ki, .int .i64 m.bau, .int .i64 m.bnu, .slice m.bta m.btn m.btc, .int .i64 m.hau, .int .i64 m.hrd, .slice m.hba m.hbn m.hbc, .slice m.hpa m.hpn m.hpc, .int .i64 m.sau, .int .i64 m.srd, .slice m.sda m.sdn m.sdc, .int .i64 m.cau, .int .i64 m.crd, .slice m.cba m.cbn m.cbc, .slice m.cpa m.cpn m.cpc, .slice m.cva m.cvn m.cvc, .int .i64 m.ro]] w fun e w' => ∃ v, e = .returned (.tuple #[v, .int .i64 0]) ∧ w'.ownsRow w.heap.size 5 1 v (3 + (certB m.cau m.crd bl pl vl).length) (ub ([4, m.fr, m.tt] ++ certB m.cau m.crd bl pl vl)) ∧ Below w.heap.size w w' :=
  encode_proof_w m bl pl vl w hk hf ht ha hr hbn hpn hbl hpl hb32 hp32 hLb hLp hvn hvl hv4 hI hvb hc
end Go.Proofs.Ytldlknmpkoebbaa

namespace Go.Proofs.Ytldlknmpkoebbaa
open Go.RowKit

set_option maxRecDepth 100000 in
set_option maxHeartbeats 1000000 in
theorem encode_want (m : Msg) (w : World) (hk : m.ki = 5) (hf : 0 ≤ m.fr ∧ m.fr < 4) (ht : 0 ≤ m.tt ∧ m.tt < 4) (hr : 0 ≤ m.ro ∧ m.ro ≤ 1048576)
    (hc : ∀ w1, Below w.heap.size w w1 → Calls Try.prog 49 #[.agg #[.int .i64 m.fr, .int .i64 m.tt, .int .i64 m.ki, .int .i64 m.bau, .int .i64 m.bnu, .slice m.bta m.btn m.btc, .int .i64 m.hau, .int .i64 m.hrd, .slice m.hba m.hbn m.hbc, .slice m.hpa m.hpn m.hpc, .int .i64 m.sau, .int .i64 m.srd, .slice m.sda m.sdn m.sdc, .int .i64 m.cau, .int .i64 m.crd, .slice m.cba m.cbn m.cbc, .slice m.cpa m.cpn m.cpc, .slice m.cva m.cvn m.cvc, .int .i64 m.ro]] w1 fun e w' => e = .returned (.int .i64 0) ∧ Below w1.heap.size w1 w') :
    Calls Try.prog 43 #[.agg #[.int .i64 m.fr, .int .i64 m.tt, .int .i64 m.ki, .int .i64 m.bau, .int .i64 m.bnu, .slice m.bta m.btn m.btc, .int .i64 m.hau, .int .i64 m.hrd, .slice m.hba m.hbn m.hbc, .slice m.hpa m.hpn m.hpc, .int .i64 m.sau, .int .i64 m.srd, .slice m.sda m.sdn m.sdc, .int .i64 m.cau, .int .i64 m.crd, .slice m.cba m.cbn m.cbc, .slice m.cpa m.cpn m.cpc, .slice m.cva m.cvn m.cvc, .int .i64 m.ro]] w fun e w' => ∃ v, e = .returned (.tuple #[v, .int .i64 0]) ∧ w'.ownsRow w.heap.size 5 1 v 6 (ub ([5, m.fr, m.tt] ++ rd3 m.ro)) ∧ Below w.heap.size w w' := by
  rw [hk] at hc ⊢
  obtain ⟨hf0, hf1⟩ := hf
  obtain ⟨ht0, ht1⟩ := ht
  have hq := heap_alloc_new w (.cells #[.int .i64 m.fr, .int .i64 m.tt, .int .i64 5, .int .i64 m.bau, .int .i64 m.bnu, .slice m.bta m.btn m.btc, .int .i64 m.hau, .int .i64 m.hrd, .slice m.hba m.hbn m.hbc, .slice m.hpa m.hpn m.hpc, .int .i64 m.sau, .int .i64 m.srd, .slice m.sda m.sdn m.sdc, .int .i64 m.cau, .int .i64 m.crd, .slice m.cba m.cbn m.cbc, .slice m.cpa m.cpn m.cpc, .slice m.cva m.cvn m.cvc, .int .i64 m.ro] 53)
  have hB : Below w.heap.size w (w.alloc (.cells #[.int .i64 m.fr, .int .i64 m.tt, .int .i64 5, .int .i64 m.bau, .int .i64 m.bnu, .slice m.bta m.btn m.btc, .int .i64 m.hau, .int .i64 m.hrd, .slice m.hba m.hbn m.hbc, .slice m.hpa m.hpn m.hpc, .int .i64 m.sau, .int .i64 m.srd, .slice m.sda m.sdn m.sdc, .int .i64 m.cau, .int .i64 m.crd, .slice m.cba m.cbn m.cbc, .slice m.cpa m.cpn m.cpc, .slice m.cva m.cvn m.cvc, .int .i64 m.ro] 53)) := (Below.refl _ _).alloc (Nat.le_refl _) _
  go_enter Try.func43, Try.ntmps43
  go_wp2_with (refine wpList_load_row rfl 53 _ rfl w.heap.size rfl 53 #[.int .i64 m.fr, .int .i64 m.tt, .int .i64 5, .int .i64 m.bau, .int .i64 m.bnu, .slice m.bta m.btn m.btc, .int .i64 m.hau, .int .i64 m.hrd, .slice m.hba m.hbn m.hbc, .slice m.hpa m.hpn m.hpc, .int .i64 m.sau, .int .i64 m.srd, .slice m.sda m.sdn m.sdc, .int .i64 m.cau, .int .i64 m.crd, .slice m.cba m.cbn m.cbc, .slice m.cpa m.cpn m.cpc, .slice m.cva m.cvn m.cvc, .int .i64 m.ro] (0, 0) _ hq Try.underlying53 rfl sMsg ?_)
  refine (hc _ hB).mono ?_
  rintro e w1 ⟨rfl, hb1⟩
  have r1 := row_new hb1
  replace hb1 := below_alloc hb1
  have c0 := cells_at r1 0 _ rfl
  have c1 := cells_at r1 1 _ rfl
  have c2 := cells_at r1 2 _ rfl
  have c18 := cells_at r1 18 _ rfl
  have hlt : w.heap.size < w1.heap.size := lt_of_heap r1
  have hlit := World.ownsRow_lit (base := w1.heap.size) (e := 5) (size := 1) w1 (ub [5, m.fr, m.tt]).toArray 3 (Nat.le_refl _) (by decide) rfl
  go_wp2_with fail
  refine (appendRound_any w1.heap.size _ 3 [5, m.fr, m.tt] m.ro _ hr ?_ (le_alloc (Nat.le_refl _) _) (by decide)).mono ?_
  · exact hlit
  rintro e w2 ⟨v2, rfl, ho2, hG⟩
  have hb2 := hG.below (base := w1.heap.size) (le_alloc (Nat.le_refl _) _) (fun q e => by cases e; exact Nat.le_refl _)
  clear hG
  go_wp2_with fail
  go_ret2
  refine ⟨v2, rfl, ownsRow_base' ho2 hb1.size, ?_⟩
  exact (hb1.alloc hb1.size _).trans (hb2.mono hb1.size)
end Go.Proofs.Ytldlknmpkoebbaa

namespace Go.Proofs.Ytldlknmpkoebbaa
open Go.RowKit

/-- P2.9: the bytes that are told. -/
def encB (m : Msg) (R : Int) (ss : List ByteArray) (bl pl cbl cpl : List Part) (ds vl : List Int) : List Int := if R = 0 then msgB m ss bl pl cbl cpl ds vl else []
set_option maxRecDepth 100000 in
theorem encode_any (m : Msg) (ss : List ByteArray) (bl pl cbl cpl : List Part) (ds vl : List Int) (w : World) (H : MsgAt w m ss bl pl cbl cpl vl) (hd : SliceAt w m.sda m.sdc ds) (h7 : m.sdn = ds.length) :
    Calls Try.prog 43 #[.agg #[.int .i64 m.fr, .int .i64 m.tt, .int .i64 m.ki, .int .i64 m.bau, .int .i64 m.bnu, .slice m.bta m.btn m.btc, .int .i64 m.hau, .int .i64 m.hrd, .slice m.hba m.hbn m.hbc, .slice m.hpa m.hpn m.hpc, .int .i64 m.sau, .int .i64 m.srd, .slice m.sda m.sdn m.sdc, .int .i64 m.cau, .int .i64 m.crd, .slice m.cba m.cbn m.cbc, .slice m.cpa m.cpn m.cpc, .slice m.cva m.cvn m.cvc, .int .i64 m.ro]] w fun e w' => ∃ v, e = .returned (.tuple #[v, .int .i64 (checkF m (carriedF m ss bl pl cbl cpl vl))]) ∧ w'.ownsRow w.heap.size 5 1 v (encB m (checkF m (carriedF m ss bl pl cbl cpl vl)) ss bl pl cbl cpl ds vl).length (ub (encB m (checkF m (carriedF m ss bl pl cbl cpl vl)) ss bl pl cbl cpl ds vl)) ∧ Below w.heap.size w w' := by
  have hC : ∀ w1, Below w.heap.size w w1 → Calls Try.prog 49 #[.agg #[.int .i64 m.fr, .int .i64 m.tt, .int .i64 m.ki, .int .i64 m.bau, .int .i64 m.bnu, .slice m.bta m.btn m.btc, .int .i64 m.hau, .int .i64 m.hrd, .slice m.hba m.hbn m.hbc, .slice m.hpa m.hpn m.hpc, .int .i64 m.sau, .int .i64 m.srd, .slice m.sda m.sdn m.sdc, .int .i64 m.cau, .int .i64 m.crd, .slice m.cba m.cbn m.cbc, .slice m.cpa m.cpn m.cpc, .slice m.cva m.cvn m.cvc, .int .i64 m.ro]] w1 fun e w' => e = .returned (.int .i64 (checkF m (carriedF m ss bl pl cbl cpl vl))) ∧ Below w1.heap.size w1 w' := fun w1 hb => check_any m ss bl pl cbl cpl vl w1 (H.below hb)
  by_cases hR : checkF m (carriedF m ss bl pl cbl cpl vl) = 0
  · rw [hR] at hC ⊢
    obtain ⟨hf, ht, hc, _⟩ := checkF_ok hR
    have hE : encB m 0 ss bl pl cbl cpl ds vl = [m.ki, m.fr, m.tt] ++ bodyB m ss bl pl cbl cpl ds vl := rfl
    rw [hE]
    rcases carriedF_kind hc with k | k | k | k | k
    · rw [bodyB1 k]
      rw [carried1 k] at hc
      obtain ⟨g1, g2, g3, g4⟩ := batchF_ok hc
      refine (encode_bundle m ss w k hf ht g1 ⟨by omega, g2.2⟩ H.e1 g3.2 (fun s hs => (g4 s hs).2) H.txs (fun sb so e => ?_) hC).mono ?_
      · rcases H.txs.cells with h | ⟨b, o, e', h⟩
        · rw [h] at g3; simp at g3
        · rw [e] at e'
          simp at e'
          rw [e'.1]
          exact block_lt_of_cell (h 0 (by omega))
      · rintro e w' ⟨v, he, ho, hb⟩
        refine ⟨v, he, ?_, hb⟩
        rw [k, List.length_append]
        exact ho
    · rw [bodyB2 k]
      rw [carried2 k] at hc
      obtain ⟨g1, g2, g3, g4, g5, g6⟩ := headerF_ok hc
      refine (encode_offer_w m bl pl w k hf ht g1 ⟨by omega, g2.2⟩ H.e2 H.e3 (by omega) g4 g5 g6 H.bat H.par hC).mono ?_
      rintro e w' ⟨v, he, ho, hb⟩
      refine ⟨v, he, ?_, hb⟩
      rw [k, List.length_append]
      exact ho
    · rw [bodyB3 k]
      rw [carried3 k] at hc
      obtain ⟨g1, g2, g3⟩ := slotF_ok hc
      refine (encode_vote m ds w k hf ht g1 ⟨by omega, g2.2⟩ h7 (by omega) hd (fun sb so e => ?_) hC).mono ?_
      · rcases hd.bytes with h | ⟨b, o, e', h⟩
        · rw [h] at h7; simp at h7; omega
        · rw [e] at e'
          simp at e'
          rw [e'.1]
          exact block_lt_of_cell (h 0 (by omega))
      · rintro e w' ⟨v, he, ho, hb⟩
        refine ⟨v, he, ?_, hb⟩
        rw [k, show ([3, m.fr, m.tt] ++ ([m.sau] ++ rd3 m.srd ++ ds)).length = 3 + 1 + 3 + m.sdn by simp [rd3, h7]; omega, ← List.append_assoc, ← List.append_assoc]
        exact ho
    · rw [bodyB4 k]
      rw [carried4 k] at hc
      obtain ⟨c1, c2, c3, c4⟩ := certF_ok hc
      obtain ⟨g1, g2, g3, g4, g5, g6⟩ := headerF_ok c1
      refine (encode_proof_w m cbl cpl vl w k hf ht g1 ⟨by omega, g2.2⟩ H.e4 H.e5 (by omega) g4 g5 g6 H.cbat H.cpar H.e6 c2 c4 H.vot (fun sb so e => ?_) hC).mono ?_
      · rcases H.vot.cells with h | ⟨b, o, e', h⟩
        · rw [h] at c3; simp at c3
        · rw [e] at e'
          simp at e'
          rw [e'.1]
          exact block_lt_of_cell (h 0 (by omega))
      · rintro e w' ⟨v, he, ho, hb⟩
        refine ⟨v, he, ?_, hb⟩
        rw [k, List.length_append]
        exact ho
    · rw [bodyB5 k]
      rw [carried5 k] at hc
      have hro : 1 ≤ m.ro ∧ m.ro ≤ 1048576 := by
        rcases Decidable.em (1 ≤ m.ro ∧ m.ro ≤ 1048576) with g | g
        · exact g
        · rw [if_neg g] at hc; cases hc
      refine (encode_want m w k hf ht ⟨by omega, hro.2⟩ hC).mono ?_
      rintro e w' ⟨v, he, ho, hb⟩
      refine ⟨v, he, ?_, hb⟩
      rw [k]
      exact ho
  · refine (encode_bad m _ w hR hC).mono ?_
    rintro e w' ⟨he, hb⟩
    refine ⟨_, he, ?_, hb⟩
    rw [encB, if_neg hR]
    exact World.ownsRow_nil _ _ _ _
end Go.Proofs.Ytldlknmpkoebbaa
