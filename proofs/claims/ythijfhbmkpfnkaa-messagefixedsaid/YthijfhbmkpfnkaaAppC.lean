/- wire.appendCert, onto a row that the call owns. -/
import Derived.Test.YthijfhbmkpfnkaaAppH
import Derived.Test.YthijfhbmkpfnkaaHLe
import Derived.Test.YthijfhbmkpfnkaaCertF
namespace Go.Proofs.Ythijfhbmkpfnkaa
open Go.RowKit

/-- P2.9: the bytes of a certificate. -/
def certB (au rd : Int) (bl pl : List Part) (vl : List Int) : List Int := headB au rd bl pl ++ [(vl.length : Int)] ++ vl
set_option maxRecDepth 100000 in
set_option maxHeartbeats 1000000 in
theorem appendCert_w (base : Nat) (v : Value) (k : Nat) (bs : List Int) (au rd : Int) (ba : Option Addr) (bn bc : Nat) (bl : List Part) (pa : Option Addr) (pn pc : Nat) (pl : List Part) (va : Option Addr) (vn vc : Nat) (vl : List Int) (w : World) (ha : 0 ≤ au ∧ au < 4) (hr : 0 ≤ rd ∧ rd ≤ 1048576) (hbn : bn = bl.length) (hpn : pn = pl.length) (hvn : vn = vl.length) (hbl : bl.length ≤ 4) (hpl : pl.length ≤ 4) (hvl : vl.length ≤ 4) (hb32 : ∀ p ∈ bl, p.bs.length = 32) (hp32 : ∀ p ∈ pl, p.bs.length = 32) (hv4 : ∀ x ∈ vl, 0 ≤ x ∧ x < 4)
    (hLb : ListAt w ba bc bl) (hOb : OffW w v ba bl) (hLp : ListAt w pa pc pl) (hOp : OffW w v pa pl) (hI : IntsAt w va vl) (hne : ∀ sb so, va = some ⟨sb, so, none⟩ → sb < w.heap.size ∧ v.ownBlock ≠ some sb)
    (ho : w.ownsRow base 5 1 v k (ub bs)) (hB : base ≤ w.heap.size) (hk : k ≤ 80000) :
    Calls Try.prog 22 #[v, .agg #[.int .i64 au, .int .i64 rd, .slice ba bn bc, .slice pa pn pc, .slice va vn vc]] w fun e w' => ∃ v', e = .returned v' ∧ w'.ownsRow base 5 1 v' (k + (certB au rd bl pl vl).length) (ub (bs ++ certB au rd bl pl vl)) ∧ Grew w v w' v' := by
  subst hvn
  obtain ⟨i, hi, hz0, hz1, hz2⟩ := info_parts infoU8
  have hvne : v.ownBlock ≠ some w.heap.size := fun e => by have := (ho.lt _ e).2; omega
  have hA : Below w.heap.size w (w.alloc (.cells #[.int .i64 au, .int .i64 rd, .slice ba bn bc, .slice pa pn pc, .slice va vl.length vc] 35)) := (Below.refl _ _).alloc (Nat.le_refl _) _
  have hH := appendHeader_w base v k bs au rd ba bn bc bl pa pn pc pl _ ha hr hbn hpn hbl hpl hb32 hp32 (hLb.below hA) (hOb.alloc (.cells #[.int .i64 au, .int .i64 rd, .slice ba bn bc, .slice pa pn pc, .slice va vl.length vc] 35)) (hLp.below hA) (hOp.alloc _) (World.ownsRow.alloc ho _) (le_alloc hB _) hk
  have hle := headB_le au rd bl pl hbl hpl hb32 hp32
  clear hbn hpn
  go_enter Try.func22, Try.ntmps22
  go_wp2_with fail
  refine hH.mono ?_
  rintro e w1 ⟨v1, rfl, ho1, G1⟩
  have r1 := G1.row (heap_alloc_new w _) hvne
  have c4 : w1.cell? ⟨w.heap.size, 4, none⟩ = some (.slice va vl.length vc) := cells_at r1 4 _ rfl
  have hv1ne : v1.ownBlock ≠ some w.heap.size := fun e => by
    rcases G1.fresh _ e with g | g
    · exact hvne g
    · rw [size_alloc] at g; omega
  have G0 := G1.alloc
  clear hH G1
  have hC : certB au rd bl pl vl = headB au rd bl pl ++ [(vl.length : Int)] ++ vl := rfl
  generalize headB au rd bl pl = HB at *
  have HC : Hid (certB au rd bl pl vl = HB ++ [(vl.length : Int)] ++ vl) := hC
  clear hC
  go_wp2_with (at_builtin; refine wpList_append_own_at _ rfl _ _ 30 rfl base 5 i (.int .u8 0) 1 1 Try.underlying30 hi hz0 hz1 hz2 rfl (by decide) _ (k + HB.length) _ rfl (World.ownsRow.alloc ho1 _) ⟨w1.heap.size, 0, none⟩ 1 1 [.int .u8 (vl.length : Int)] rfl rfl (cells_new _ _ _) (u8_one [_]) (by unfold maxLen; omega) (by omega) (le_alloc (Nat.le_trans hB G0.grown.size) _) ?_; intro v2 w2 ho2 hg2 _ hat; have G2 := (Grew.of hg2 hat).alloc; have r2 := G2.row r1 hv1ne; have d4 : w2.cell? ⟨w.heap.size, 4, none⟩ = some (.slice va vl.length vc) := cells_at r2 4 _ rfl)
  have ho2' : w2.ownsRow base 5 1 v2 (k + HB.length + 1) (ub (bs ++ HB ++ [(vl.length : Int)])) := by simpa [ub] using ho2
  have G02 := G0.trans G2
  clear ho2 hg2 hat c4 r1
  go_loopw [21, 0] (fun j t wr => ∃ (m : Nat) (tv : Value), m ≤ vl.length ∧ j = .int .i64 m ∧ tv = t ∧ wr.ownsRow base 5 1 tv (k + HB.length + 1 + m) (ub (bs ++ HB ++ [(vl.length : Int)] ++ vl.take m)) ∧ Grew w v wr tv) (fun j _ _ => vl.length - (intOf j).toNat)
  case atStart => exact ⟨0, _, Nat.zero_le _, rfl, rfl, by simpa using ho2', G02⟩
  case round =>
    clear ho2' G02 r2 d4
    obtain ⟨m, tv, hm, rfl, rfl, ho, G⟩ := hrel
    by_cases hlt : m < vl.length
    · obtain ⟨sb, so, rfl, hc⟩ : ∃ sb so, va = some ⟨sb, so, none⟩ ∧ ∀ j, j < vl.length → w.cell? ⟨sb, so + j, none⟩ = some (.int .i64 (vl.getD j 0)) := by
        rcases hI.cells with h | h
        · rw [h] at hlt; simp at hlt
        · exact h
      have ck0 := hc m hlt
      have ck : wr.cell? ⟨sb, so + m, none⟩ = some (.int .i64 (vl.getD m 0)) := (World.cell?_of_block (G.grown.block sb (block_lt_of_cell ck0) (fun e => (hne sb so rfl).2 e.symm))).trans ck0
      obtain ⟨hx0, hx1⟩ := hv4 (vl.getD m 0) (by simp [List.getD, hlt])
      have hst : Hid (vl.take (m + 1) = vl.take m ++ [vl.getD m 0]) := by
        show _ = _
        rw [List.take_succ_eq_append_getElem hlt]
        simp only [List.getD, List.getElem?_eq_getElem hlt, Option.getD_some]
      have hltI : (m : Int) < vl.length := by omega
      clear hc ck0
      generalize vl.getD m 0 = x at ck hst hx0 hx1
      have hBr : base ≤ wr.heap.size := Nat.le_trans hB G.grown.size
      go_wp2_with (at_builtin; refine wpList_append_own_at _ rfl _ _ 30 rfl base 5 i (.int .u8 0) 1 1 Try.underlying30 hi hz0 hz1 hz2 rfl (by decide) _ (k + HB.length + 1 + m) _ rfl (World.ownsRow.alloc ho _) ⟨wr.heap.size, 0, none⟩ 1 1 [.int .u8 x] rfl rfl (cells_new _ _ _) (u8_one [_]) (by unfold maxLen; omega) (by omega) (le_alloc hBr _) ?_; intro v5 w5 ho5 hg5 _ hat5)
      go_roundw
      case rel =>
        have hR : ∃ (m' : Nat) (tv' : Value), m' ≤ vl.length ∧ (Value.int .i64 ((m : Int) + 1)) = .int .i64 m' ∧ tv' = v5 ∧ w5.ownsRow base 5 1 tv' (k + HB.length + 1 + m') (ub (bs ++ HB ++ [(vl.length : Int)] ++ vl.take m')) ∧ Grew w v w5 tv' :=
          ⟨m + 1, v5, by omega, by go_num, rfl, by rw [hst.out, ← List.append_assoc]; exact owns_snoc ho5, G.trans (Grew.of hg5 hat5).alloc⟩
        first | exact hR | ((repeat apply Exists.intro); exact ⟨hR, rfl⟩)
      case measure => simp [intOf]; omega
    · obtain rfl : m = vl.length := by omega
      rw [List.take_of_length_le (Nat.le_refl _)] at ho
      have hltI : ¬ (vl.length : Int) < vl.length := by omega
      go_wp2_with fail
      go_ret
      refine ⟨_, rfl, ?_, G⟩
      rw [HC.out, show k + (HB ++ [(vl.length : Int)] ++ vl).length = k + HB.length + 1 + vl.length by simp; omega, show bs ++ (HB ++ [(vl.length : Int)] ++ vl) = bs ++ HB ++ [(vl.length : Int)] ++ vl by simp]
      exact ho
set_option maxRecDepth 100000 in
theorem appendCert_any (base : Nat) (v : Value) (k : Nat) (bs : List Int) (au rd : Int) (ba : Option Addr) (bn bc : Nat) (bl : List Part) (pa : Option Addr) (pn pc : Nat) (pl : List Part) (va : Option Addr) (vn vc : Nat) (vl : List Int) (w : World) (ha : 0 ≤ au ∧ au < 4) (hr : 0 ≤ rd ∧ rd ≤ 1048576) (hbn : bn = bl.length) (hpn : pn = pl.length) (hvn : vn = vl.length) (hbl : bl.length ≤ 4) (hpl : pl.length ≤ 4) (hvl : vl.length ≤ 4) (hb32 : ∀ p ∈ bl, p.bs.length = 32) (hp32 : ∀ p ∈ pl, p.bs.length = 32) (hv4 : ∀ x ∈ vl, 0 ≤ x ∧ x < 4)
    (hLb : ListAt w ba bc bl) (hOb : Off w v ba bl) (hLp : ListAt w pa pc pl) (hOp : Off w v pa pl) (hI : IntsAt w va vl) (hne : ∀ sb so, va = some ⟨sb, so, none⟩ → sb < w.heap.size ∧ v.ownBlock ≠ some sb)
    (ho : w.ownsRow base 5 1 v k (ub bs)) (hB : base ≤ w.heap.size) (hk : k ≤ 80000) :
    Calls Try.prog 22 #[v, .agg #[.int .i64 au, .int .i64 rd, .slice ba bn bc, .slice pa pn pc, .slice va vn vc]] w fun e w' => ∃ v', e = .returned v' ∧ w'.ownsRow base 5 1 v' (k + (certB au rd bl pl vl).length) (ub (bs ++ certB au rd bl pl vl)) ∧ Grew w v w' v' :=
  appendCert_w base v k bs au rd ba bn bc bl pa pn pc pl va vn vc vl w ha hr hbn hpn hvn hbl hpl hvl hb32 hp32 hv4 hLb hOb.weak hLp hOp.weak hI hne ho hB hk
end Go.Proofs.Ythijfhbmkpfnkaa
