/- wire's reader.message. -/
import Derived.Test.YthijfhbmkpfnkaaMessageTornM0
import Derived.Test.YthijfhbmkpfnkaaCertF
import Derived.Test.YthijfhbmkpfnkaaMessageTornM6
import Derived.Test.YthijfhbmkpfnkaaMsgF
import Derived.Test.YthijfhbmkpfnkaaCheckM
import Derived.Test.YthijfhbmkpfnkaaBunF
import Derived.Test.YthijfhbmkpfnkaaRdB
namespace Go.Proofs.Ythijfhbmkpfnkaa
open Go.RowKit

/-- P2.6: the bytes of a header. -/
def headB (au rd : Int) (bl pl : List Part) : List Int := [au] ++ rd3 rd ++ digsB bl ++ digsB pl
set_option maxRecDepth 100000 in
set_option maxHeartbeats 1000000 in
theorem appendHeader_w (base : Nat) (v : Value) (k : Nat) (bs : List Int) (au rd : Int) (ba : Option Addr) (bn bc : Nat) (bl : List Part) (pa : Option Addr) (pn pc : Nat) (pl : List Part) (w : World) (ha : 0 ≤ au ∧ au < 4) (hr : 0 ≤ rd ∧ rd ≤ 1048576) (hbn : bn = bl.length) (hpn : pn = pl.length) (hbl : bl.length ≤ 4) (hpl : pl.length ≤ 4) (hb32 : ∀ p ∈ bl, p.bs.length = 32) (hp32 : ∀ p ∈ pl, p.bs.length = 32)
    (hLb : ListAt w ba bc bl) (hOb : OffW w v ba bl) (hLp : ListAt w pa pc pl) (hOp : OffW w v pa pl)
    (ho : w.ownsRow base 5 1 v k (ub bs)) (hB : base ≤ w.heap.size) (hk : k ≤ 80000) :
    Calls Try.prog 20 #[v, .agg #[.int .i64 au, .int .i64 rd, .slice ba bn bc, .slice pa pn pc]] w fun e w' => ∃ v', e = .returned v' ∧ w'.ownsRow base 5 1 v' (k + (headB au rd bl pl).length) (ub (bs ++ headB au rd bl pl)) ∧ Grew w v w' v' := by
  subst hbn hpn
  obtain ⟨i, hi, hz0, hz1, hz2⟩ := info_parts infoU8
  obtain ⟨ha0, ha1⟩ := ha
  have hvne : v.ownBlock ≠ some w.heap.size := fun e => by have := (ho.lt _ e).2; omega
  go_enter Try.func20, Try.ntmps20
  go_wp2_with (at_builtin; refine wpList_append_own_at _ rfl _ _ 30 rfl base 5 i (.int .u8 0) 1 1 Try.underlying30 hi hz0 hz1 hz2 rfl (by decide) _ k _ rfl (World.ownsRow.alloc (World.ownsRow.alloc ho _) _) ⟨w.heap.size + 1, 0, none⟩ 1 1 [.int .u8 au] rfl rfl (by have := cells_new (w.alloc (.cells #[.int .i64 au, .int .i64 rd, .slice ba bl.length bc, .slice pa pl.length pc] 29)) [.int .u8 au] 5; rw [size_alloc] at this; exact this) (u8_one [_]) (by unfold maxLen; omega) (by omega) (le_alloc (le_alloc hB _) _) ?_; intro v1 w1 ho1 hg1 _ hat; have G1 := Grew.of hg1 hat; have r1 := G1.row (heap_alloc2_old w _ _) hvne; have c1 : w1.cell? ⟨w.heap.size, 1, none⟩ = some (.int .i64 rd) := cells_at r1 1 _ rfl)
  have ho1' : w1.ownsRow base 5 1 v1 (k + 1) (ub (bs ++ [au])) := by simpa [ub] using ho1
  have hv1ne : v1.ownBlock ≠ some w.heap.size := fun e => by
    rcases G1.fresh _ e with g | g
    · exact hvne g
    · rw [size_alloc, size_alloc] at g; omega
  have G0 := G1.alloc.alloc
  clear ho1 hg1 hat G1
  refine (appendRound_any base v1 (k + 1) _ rd _ hr ho1' (Nat.le_trans hB G0.grown.size) (by omega)).mono ?_
  rintro e w2 ⟨v2, rfl, ho2, G2⟩
  have r2 := G2.row r1 hv1ne
  have c2 : w2.cell? ⟨w.heap.size, 2, none⟩ = some (.slice ba bl.length bc) := cells_at r2 2 _ rfl
  have hv2ne : v2.ownBlock ≠ some w.heap.size := fun e => by
    rcases G2.fresh _ e with g | g
    · exact hv1ne g
    · have := lt_of_heap r1; omega
  have G02 := G0.trans G2
  have hD1 := appendDigests_w base v2 (k + 1 + 3) _ ba _ bc bl w2 rfl hbl hb32 (G02.listW hLb hOb) (G02.offW hOb) ho2 (Nat.le_trans hB G02.grown.size) (by omega)
  clear r1 c1
  go_wp2_with fail
  refine hD1.mono ?_
  rintro e w3 ⟨v3, rfl, ho3, G3⟩
  have r3 := G3.row r2 hv2ne
  have c3 : w3.cell? ⟨w.heap.size, 3, none⟩ = some (.slice pa pl.length pc) := cells_at r3 3 _ rfl
  have G03 := G02.trans G3
  have hlb := flatB_length bl hb32
  have hD2 := appendDigests_w base v3 (k + 1 + 3 + (digsB bl).length) _ pa _ pc pl w3 rfl hpl hp32 (G03.listW hLp hOp) (G03.offW hOp) ho3 (Nat.le_trans hB G03.grown.size) (by simp [digsB]; omega)
  clear r2 c2 hD1 hlb
  go_wp2_with fail
  refine hD2.mono ?_
  rintro e w4 ⟨v4, rfl, ho4, G4⟩
  go_wp2_with fail
  go_ret
  refine ⟨v4, rfl, ?_, G03.trans G4⟩
  rw [show k + (headB au rd bl pl).length = k + 1 + 3 + (digsB bl).length + (digsB pl).length by simp [headB, rd3]; omega, show bs ++ headB au rd bl pl = bs ++ [au] ++ rd3 rd ++ digsB bl ++ digsB pl by simp [headB]]
  exact ho4
set_option maxRecDepth 100000 in
theorem appendHeader_any (base : Nat) (v : Value) (k : Nat) (bs : List Int) (au rd : Int) (ba : Option Addr) (bn bc : Nat) (bl : List Part) (pa : Option Addr) (pn pc : Nat) (pl : List Part) (w : World) (ha : 0 ≤ au ∧ au < 4) (hr : 0 ≤ rd ∧ rd ≤ 1048576) (hbn : bn = bl.length) (hpn : pn = pl.length) (hbl : bl.length ≤ 4) (hpl : pl.length ≤ 4) (hb32 : ∀ p ∈ bl, p.bs.length = 32) (hp32 : ∀ p ∈ pl, p.bs.length = 32)
    (hLb : ListAt w ba bc bl) (hOb : Off w v ba bl) (hLp : ListAt w pa pc pl) (hOp : Off w v pa pl)
    (ho : w.ownsRow base 5 1 v k (ub bs)) (hB : base ≤ w.heap.size) (hk : k ≤ 80000) :
    Calls Try.prog 20 #[v, .agg #[.int .i64 au, .int .i64 rd, .slice ba bn bc, .slice pa pn pc]] w fun e w' => ∃ v', e = .returned v' ∧ w'.ownsRow base 5 1 v' (k + (headB au rd bl pl).length) (ub (bs ++ headB au rd bl pl)) ∧ Grew w v w' v' :=
  appendHeader_w base v k bs au rd ba bn bc bl pa pn pc pl w ha hr hbn hpn hbl hpl hb32 hp32 hLb hOb.weak hLp hOp.weak ho hB hk
end Go.Proofs.Ythijfhbmkpfnkaa

namespace Go.Proofs.Ythijfhbmkpfnkaa
open Go.RowKit

set_option maxRecDepth 100000 in
theorem headB_le (au rd : Int) (bl pl : List Part) (hbl : bl.length ≤ 4) (hpl : pl.length ≤ 4) (hb32 : ∀ p ∈ bl, p.bs.length = 32) (hp32 : ∀ p ∈ pl, p.bs.length = 32) : (headB au rd bl pl).length ≤ 300 := by
  have h1 := flatB_length bl hb32
  have h2 := flatB_length pl hp32
  simp [headB, rd3, digsB]; omega
end Go.Proofs.Ythijfhbmkpfnkaa

namespace Go.Proofs.Ythijfhbmkpfnkaa
open Go.RowKit

/-- P2.9: the bytes of a certificate. -/
def certB (au rd : Int) (bl pl : List Part) (vl : List Int) : List Int := headB au rd bl pl ++ [(vl.length : Int)] ++ vl
set_option maxRecDepth 100000 in
set_option maxHeartbeats 1000000 in
theorem appendCert_w (base : Nat) (v : Value) (k : Nat) (bs : List Int) (au rd : Int) (ba : Option Addr) (bn bc : Nat) (bl : List Part) (pa : Option Addr) (pn pc : Nat) (pl : List Part) (va : Option Addr) (vn vc : Nat) (vl : List Int) (w : World) (ha : 0 ≤ au ∧ au < 4) (hr : 0 ≤ rd ∧ rd ≤ 1048576) (hbn : bn = bl.length) (hpn : pn = pl.length) (hvn : vn = vl.length) (hbl : bl.length ≤ 4) (hpl : pl.length ≤ 4) (hvl : vl.length ≤ 4) (hb32 : ∀ p ∈ bl, p.bs.length = 32) (hp32 : ∀ p ∈ pl, p.bs.length = 32) (hv4 : ∀ x ∈ vl, 0 ≤ x ∧ x < 4)
    (hLb : ListAt w ba bc bl) (hOb : OffW w v ba bl) (hLp : ListAt w pa pc pl) (hOp : OffW w v pa pl) (hI : IntsAt w va vl) (hne : ∀ sb so, va = some ⟨sb, so, none⟩ → sb < w.heap.size ∧ v.ownBlock ≠ some sb)
    (ho : w.ownsRow base 5 1 v k (ub bs)) (hB : base ≤ w.heap.size) (hk : k ≤ 80000) :
    Calls Try.prog 22 #[v, .agg #[.int .i64 au, .int .i64 rd, .slice ba bn bc, .slice pa pn pc, .slice va vn vc]] w fun e w' => ∃ v', e = .returned v' ∧ w'.ownsRow base 5 1 v' (k + (certB au rd bl pl vl).length) (ub (bs ++ certB au rd bl pl vl)) ∧ Grew w v w' v' := by
  subst hvn
  obtain ⟨i, hi, hz0, hz1, hz2⟩ := info_parts infoU8
  have hvne : v.ownBlock ≠ some w.heap.size := fun e => by have := (ho.lt _ e).2; omega
  have hA : Below w.heap.size w (w.alloc (.cells #[.int .i64 au, .int .i64 rd, .slice ba bn bc, .slice pa pn pc, .slice va vl.length vc] 35)) := (Below.refl _ _).alloc (Nat.le_refl _) _
  have hH := appendHeader_w base v k bs au rd ba bn bc bl pa pn pc pl _ ha hr hbn hpn hbl hpl hb32 hp32 (hLb.below hA) (hOb.alloc (.cells #[.int .i64 au, .int .i64 rd, .slice ba bn bc, .slice pa pn pc, .slice va vl.length vc] 35)) (hLp.below hA) (hOp.alloc _) (World.ownsRow.alloc ho _) (le_alloc hB _) hk
  have hle := headB_le au rd bl pl hbl hpl hb32 hp32
  clear hbn hpn
  go_enter Try.func22, Try.ntmps22
  go_wp2_with fail
  refine hH.mono ?_
  rintro e w1 ⟨v1, rfl, ho1, G1⟩
  have r1 := G1.row (heap_alloc_new w _) hvne
  have c4 : w1.cell? ⟨w.heap.size, 4, none⟩ = some (.slice va vl.length vc) := cells_at r1 4 _ rfl
  have hv1ne : v1.ownBlock ≠ some w.heap.size := fun e => by
    rcases G1.fresh _ e with g | g
    · exact hvne g
    · rw [size_alloc] at g; omega
  have G0 := G1.alloc
  clear hH G1
  have hC : certB au rd bl pl vl = headB au rd bl pl ++ [(vl.length : Int)] ++ vl := rfl
  generalize headB au rd bl pl = HB at *
  have HC : Hid (certB au rd bl pl vl = HB ++ [(vl.length : Int)] ++ vl) := hC
  clear hC
  go_wp2_with (at_builtin; refine wpList_append_own_at _ rfl _ _ 30 rfl base 5 i (.int .u8 0) 1 1 Try.underlying30 hi hz0 hz1 hz2 rfl (by decide) _ (k + HB.length) _ rfl (World.ownsRow.alloc ho1 _) ⟨w1.heap.size, 0, none⟩ 1 1 [.int .u8 (vl.length : Int)] rfl rfl (cells_new _ _ _) (u8_one [_]) (by unfold maxLen; omega) (by omega) (le_alloc (Nat.le_trans hB G0.grown.size) _) ?_; intro v2 w2 ho2 hg2 _ hat; have G2 := (Grew.of hg2 hat).alloc; have r2 := G2.row r1 hv1ne; have d4 : w2.cell? ⟨w.heap.size, 4, none⟩ = some (.slice va vl.length vc) := cells_at r2 4 _ rfl)
  have ho2' : w2.ownsRow base 5 1 v2 (k + HB.length + 1) (ub (bs ++ HB ++ [(vl.length : Int)])) := by simpa [ub] using ho2
  have G02 := G0.trans G2
  clear ho2 hg2 hat c4 r1
  go_loopw [21, 0] (fun j t wr => ∃ (m : Nat) (tv : Value), m ≤ vl.length ∧ j = .int .i64 m ∧ tv = t ∧ wr.ownsRow base 5 1 tv (k + HB.length + 1 + m) (ub (bs ++ HB ++ [(vl.length : Int)] ++ vl.take m)) ∧ Grew w v wr tv) (fun j _ _ => vl.length - (intOf j).toNat)
  case atStart => exact ⟨0, _, Nat.zero_le _, rfl, rfl, by simpa using ho2', G02⟩
  case round =>
    clear ho2' G02 r2 d4
    obtain ⟨m, tv, hm, rfl, rfl, ho, G⟩ := hrel
    by_cases hlt : m < vl.length
    · obtain ⟨sb, so, rfl, hc⟩ : ∃ sb so, va = some ⟨sb, so, none⟩ ∧ ∀ j, j < vl.length → w.cell? ⟨sb, so + j, none⟩ = some (.int .i64 (vl.getD j 0)) := by
        rcases hI.cells with h | h
        · rw [h] at hlt; simp at hlt
        · exact h
      have ck0 := hc m hlt
      have ck : wr.cell? ⟨sb, so + m, none⟩ = some (.int .i64 (vl.getD m 0)) := (World.cell?_of_block (G.grown.block sb (block_lt_of_cell ck0) (fun e => (hne sb so rfl).2 e.symm))).trans ck0
      obtain ⟨hx0, hx1⟩ := hv4 (vl.getD m 0) (by simp [List.getD, hlt])
      have hst : Hid (vl.take (m + 1) = vl.take m ++ [vl.getD m 0]) := by
        show _ = _
        rw [List.take_succ_eq_append_getElem hlt]
        simp only [List.getD, List.getElem?_eq_getElem hlt, Option.getD_some]
      have hltI : (m : Int) < vl.length := by omega
      clear hc ck0
      generalize vl.getD m 0 = x at ck hst hx0 hx1
      have hBr : base ≤ wr.heap.size := Nat.le_trans hB G.grown.size
      go_wp2_with (at_builtin; refine wpList_append_own_at _ rfl _ _ 30 rfl base 5 i (.int .u8 0) 1 1 Try.underlying30 hi hz0 hz1 hz2 rfl (by decide) _ (k + HB.length + 1 + m) _ rfl (World.ownsRow.alloc ho _) ⟨wr.heap.size, 0, none⟩ 1 1 [.int .u8 x] rfl rfl (cells_new _ _ _) (u8_one [_]) (by unfold maxLen; omega) (by omega) (le_alloc hBr _) ?_; intro v5 w5 ho5 hg5 _ hat5)
      go_roundw
      case rel =>
        have hR : ∃ (m' : Nat) (tv' : Value), m' ≤ vl.length ∧ (Value.int .i64 ((m : Int) + 1)) = .int .i64 m' ∧ tv' = v5 ∧ w5.ownsRow base 5 1 tv' (k + HB.length + 1 + m') (ub (bs ++ HB ++ [(vl.length : Int)] ++ vl.take m')) ∧ Grew w v w5 tv' :=
          ⟨m + 1, v5, by omega, by go_num, rfl, by rw [hst.out, ← List.append_assoc]; exact owns_snoc ho5, G.trans (Grew.of hg5 hat5).alloc⟩
        first | exact hR | ((repeat apply Exists.intro); exact ⟨hR, rfl⟩)
      case measure => simp [intOf]; omega
    · obtain rfl : m = vl.length := by omega
      rw [List.take_of_length_le (Nat.le_refl _)] at ho
      have hltI : ¬ (vl.length : Int) < vl.length := by omega
      go_wp2_with fail
      go_ret
      refine ⟨_, rfl, ?_, G⟩
      rw [HC.out, show k + (HB ++ [(vl.length : Int)] ++ vl).length = k + HB.length + 1 + vl.length by simp; omega, show bs ++ (HB ++ [(vl.length : Int)] ++ vl) = bs ++ HB ++ [(vl.length : Int)] ++ vl by simp]
      exact ho
set_option maxRecDepth 100000 in
theorem appendCert_any (base : Nat) (v : Value) (k : Nat) (bs : List Int) (au rd : Int) (ba : Option Addr) (bn bc : Nat) (bl : List Part) (pa : Option Addr) (pn pc : Nat) (pl : List Part) (va : Option Addr) (vn vc : Nat) (vl : List Int) (w : World) (ha : 0 ≤ au ∧ au < 4) (hr : 0 ≤ rd ∧ rd ≤ 1048576) (hbn : bn = bl.length) (hpn : pn = pl.length) (hvn : vn = vl.length) (hbl : bl.length ≤ 4) (hpl : pl.length ≤ 4) (hvl : vl.length ≤ 4) (hb32 : ∀ p ∈ bl, p.bs.length = 32) (hp32 : ∀ p ∈ pl, p.bs.length = 32) (hv4 : ∀ x ∈ vl, 0 ≤ x ∧ x < 4)
    (hLb : ListAt w ba bc bl) (hOb : Off w v ba bl) (hLp : ListAt w pa pc pl) (hOp : Off w v pa pl) (hI : IntsAt w va vl) (hne : ∀ sb so, va = some ⟨sb, so, none⟩ → sb < w.heap.size ∧ v.ownBlock ≠ some sb)
    (ho : w.ownsRow base 5 1 v k (ub bs)) (hB : base ≤ w.heap.size) (hk : k ≤ 80000) :
    Calls Try.prog 22 #[v, .agg #[.int .i64 au, .int .i64 rd, .slice ba bn bc, .slice pa pn pc, .slice va vn vc]] w fun e w' => ∃ v', e = .returned v' ∧ w'.ownsRow base 5 1 v' (k + (certB au rd bl pl vl).length) (ub (bs ++ certB au rd bl pl vl)) ∧ Grew w v w' v' :=
  appendCert_w base v k bs au rd ba bn bc bl pa pn pc pl va vn vc vl w ha hr hbn hpn hvn hbl hpl hvl hb32 hp32 hv4 hLb hOb.weak hLp hOp.weak hI hne ho hB hk
end Go.Proofs.Ythijfhbmkpfnkaa

namespace Go.Proofs.Ythijfhbmkpfnkaa
open Go.RowKit

/-- What the kind carries, as bytes. -/
def bodyB (m : Msg) (ss : List ByteArray) (bl pl cbl cpl : List Part) (ds vl : List Int) : List Int := if m.ki = 1 then batchB m.bau m.bnu ss else if m.ki = 2 then headB m.hau m.hrd bl pl else if m.ki = 3 then [m.sau] ++ rd3 m.srd ++ ds else if m.ki = 4 then certB m.cau m.crd cbl cpl vl else rd3 m.ro
/-- P2.9. -/
def msgB (m : Msg) (ss : List ByteArray) (bl pl cbl cpl : List Part) (ds vl : List Int) : List Int := [m.ki, m.fr, m.tt] ++ bodyB m ss bl pl cbl cpl ds vl
set_option maxRecDepth 100000 in
theorem checkF_ok {m : Msg} {e : Int} (h : checkF m e = 0) : (0 ≤ m.fr ∧ m.fr < 4) ∧ (0 ≤ m.tt ∧ m.tt < 4) ∧ e = 0 ∧ msgEmpty (strip m) = true := by
  unfold checkF at h
  split at h
  · cases h
  · rename_i h1
    split at h
    · rename_i h2; exact absurd h h2
    · rename_i h2
      split at h
      · rename_i h3
        exact ⟨by omega, by omega, by simpa using h2, h3⟩
      · cases h
set_option maxRecDepth 100000 in
theorem checkF_zero {m : Msg} {e : Int} (hf : 0 ≤ m.fr ∧ m.fr < 4) (ht : 0 ≤ m.tt ∧ m.tt < 4) (he : e = 0) (hm : msgEmpty (strip m) = true) : checkF m e = 0 := by
  rw [checkF, if_neg (by omega), if_neg (by simp [he]), if_pos hm]
set_option maxRecDepth 100000 in
theorem carriedF_kind {m : Msg} {ss : List ByteArray} {bl pl cbl cpl : List Part} {vl : List Int} (h : carriedF m ss bl pl cbl cpl vl = 0) : m.ki = 1 ∨ m.ki = 2 ∨ m.ki = 3 ∨ m.ki = 4 ∨ m.ki = 5 := by
  unfold carriedF at h
  repeat' split at h
  all_goals first | (cases h; done) | omega
set_option maxRecDepth 100000 in
theorem slotF_ok {au rd : Int} {n : Nat} (h : slotF au rd n = 0) : (0 ≤ au ∧ au < 4) ∧ (1 ≤ rd ∧ rd ≤ 1048576) ∧ n = 32 := by
  unfold slotF at h
  split at h
  · cases h
  · split at h
    · cases h
    · exact ⟨by omega, by omega, by omega⟩
set_option maxRecDepth 100000 in
theorem vTo_zero (vl : List Int) (k : Nat) (h : vTo vl k = 0) : ∀ j, j < k → vAt vl j = 0 := by
  induction k with
  | zero => intro j hj; omega
  | succ k ih =>
    rw [vTo] at h
    split at h
    · rename_i h1; exact absurd h h1
    · rename_i h1
      intro j hj
      rcases Nat.lt_or_ge j k with g | g
      · exact ih (by simpa using h1) j g
      · obtain rfl : j = k := by omega
        exact h
set_option maxRecDepth 100000 in
theorem certF_ok {au rd : Int} {bl pl : List Part} {vl : List Int} (h : certF au rd bl pl vl = 0) : headerF au rd bl pl = 0 ∧ vl.length ≤ 4 ∧ 3 ≤ vl.length ∧ ∀ x ∈ vl, 0 ≤ x ∧ x < 4 := by
  unfold certF at h
  split at h
  · rename_i h1; exact absurd h h1
  · rename_i h1
    split at h
    · cases h
    · rename_i h2
      unfold votersF at h
      split at h
      · rename_i h3; exact absurd h h3
      · rename_i h3
        split at h
        · cases h
        · refine ⟨by simpa using h1, by omega, by omega, fun x hx => ?_⟩
          obtain ⟨j, hj, rfl⟩ := List.getElem_of_mem hx
          have h4 := vTo_zero vl vl.length (by simpa using h3) j hj
          rw [vAt] at h4
          split at h4
          · cases h4
          · rename_i h5
            have h6 : vl.getD j 0 = vl[j] := by simp [List.getD, hj]
            rw [h6] at h5
            omega
set_option maxRecDepth 100000 in
theorem bodyB1 {m : Msg} (h : m.ki = 1) (ss : List ByteArray) (bl pl cbl cpl : List Part) (ds vl : List Int) : bodyB m ss bl pl cbl cpl ds vl = batchB m.bau m.bnu ss := by simp [bodyB, h]
set_option maxRecDepth 100000 in
theorem bodyB2 {m : Msg} (h : m.ki = 2) (ss : List ByteArray) (bl pl cbl cpl : List Part) (ds vl : List Int) : bodyB m ss bl pl cbl cpl ds vl = headB m.hau m.hrd bl pl := by simp [bodyB, h]
set_option maxRecDepth 100000 in
theorem bodyB3 {m : Msg} (h : m.ki = 3) (ss : List ByteArray) (bl pl cbl cpl : List Part) (ds vl : List Int) : bodyB m ss bl pl cbl cpl ds vl = [m.sau] ++ rd3 m.srd ++ ds := by simp [bodyB, h]
set_option maxRecDepth 100000 in
theorem bodyB4 {m : Msg} (h : m.ki = 4) (ss : List ByteArray) (bl pl cbl cpl : List Part) (ds vl : List Int) : bodyB m ss bl pl cbl cpl ds vl = certB m.cau m.crd cbl cpl vl := by simp [bodyB, h]
set_option maxRecDepth 100000 in
theorem bodyB5 {m : Msg} (h : m.ki = 5) (ss : List ByteArray) (bl pl cbl cpl : List Part) (ds vl : List Int) : bodyB m ss bl pl cbl cpl ds vl = rd3 m.ro := by simp [bodyB, h]
set_option maxRecDepth 100000 in
theorem carried1 {m : Msg} (h : m.ki = 1) (ss : List ByteArray) (bl pl cbl cpl : List Part) (vl : List Int) : carriedF m ss bl pl cbl cpl vl = batchF m.bau m.bnu ss := by simp [carriedF, h]
set_option maxRecDepth 100000 in
theorem carried2 {m : Msg} (h : m.ki = 2) (ss : List ByteArray) (bl pl cbl cpl : List Part) (vl : List Int) : carriedF m ss bl pl cbl cpl vl = headerF m.hau m.hrd bl pl := by simp [carriedF, h]
set_option maxRecDepth 100000 in
theorem carried3 {m : Msg} (h : m.ki = 3) (ss : List ByteArray) (bl pl cbl cpl : List Part) (vl : List Int) : carriedF m ss bl pl cbl cpl vl = slotF m.sau m.srd m.sdn := by simp [carriedF, h]
set_option maxRecDepth 100000 in
theorem carried4 {m : Msg} (h : m.ki = 4) (ss : List ByteArray) (bl pl cbl cpl : List Part) (vl : List Int) : carriedF m ss bl pl cbl cpl vl = certF m.cau m.crd cbl cpl vl := by simp [carriedF, h]
set_option maxRecDepth 100000 in
theorem carried5 {m : Msg} (h : m.ki = 5) (ss : List ByteArray) (bl pl cbl cpl : List Part) (vl : List Int) : carriedF m ss bl pl cbl cpl vl = if 1 ≤ m.ro ∧ m.ro ≤ 1048576 then 0 else 2 := by simp [carriedF, h]
set_option maxRecDepth 100000 in
theorem bodyB_le {m : Msg} {ss : List ByteArray} {bl pl cbl cpl : List Part} {ds vl : List Int} (hn : m.sdn = ds.length) (h : carriedF m ss bl pl cbl cpl vl = 0) : (bodyB m ss bl pl cbl cpl ds vl).length ≤ 320 := by
  rcases carriedF_kind h with k | k | k | k | k
  · rw [carried1 k] at h
    obtain ⟨_, _, h3, h4⟩ := batchF_ok h
    have := txsB_le ss (fun s hs => (h4 s hs).2)
    rw [bodyB1 k]
    simp [batchB, rd3]; omega
  · rw [carried2 k] at h
    obtain ⟨_, _, h3, h4, h5, h6⟩ := headerF_ok h
    have := headB_le m.hau m.hrd bl pl (by omega) h4 h5 h6
    rw [bodyB2 k]
    omega
  · rw [carried3 k] at h
    obtain ⟨_, _, h3⟩ := slotF_ok h
    rw [bodyB3 k]
    simp [rd3]; omega
  · rw [carried4 k] at h
    obtain ⟨g1, g2, _, _⟩ := certF_ok h
    obtain ⟨_, _, h3, h4, h5, h6⟩ := headerF_ok g1
    have := headB_le m.cau m.crd cbl cpl (by omega) h4 h5 h6
    rw [bodyB4 k]
    simp [certB]; omega
  · rw [bodyB5 k]
    simp [rd3]
end Go.Proofs.Ythijfhbmkpfnkaa

namespace Go.Proofs.Ythijfhbmkpfnkaa
open Go.RowKit

/-- A message and what its lists hold. -/
structure MV where
  (m : Msg) (ss : List ByteArray) (bl pl cbl cpl : List Part) (ds vl : List Int)
def MV.car (x : MV) : Int := carriedF x.m x.ss x.bl x.pl x.cbl x.cpl x.vl
/-- P2.9. -/
def MV.bytes (x : MV) : List Int := msgB x.m x.ss x.bl x.pl x.cbl x.cpl x.ds x.vl
/-- A list's blocks, of what is not empty. -/
structure HasL (G : Nat → Prop) (ra : Option Addr) (qs : List Part) : Prop where
  row : ∀ sb so, ra = some ⟨sb, so, none⟩ → qs ≠ [] → G sb
  each : ∀ p ∈ qs, ∀ sb so, p.sa = some ⟨sb, so, none⟩ → p.bs ≠ [] → G sb
/-- A message's blocks, of what is not empty. -/
structure HasM (G : Nat → Prop) (x : MV) : Prop where
  tx : ∀ sb so, x.m.bta = some ⟨sb, so, none⟩ → x.ss ≠ [] → G sb
  hb : HasL G x.m.hba x.bl
  hp : HasL G x.m.hpa x.pl
  sd : ∀ sb so, x.m.sda = some ⟨sb, so, none⟩ → x.ds ≠ [] → G sb
  cb : HasL G x.m.cba x.cbl
  cp : HasL G x.m.cpa x.cpl
  cv : ∀ sb so, x.m.cva = some ⟨sb, so, none⟩ → x.vl ≠ [] → G sb
/-- A message that lies there. -/
structure MAt (w : World) (x : MV) : Prop where
  at' : MsgAt w x.m x.ss x.bl x.pl x.cbl x.cpl x.vl
  dig : SliceAt w x.m.sda x.m.sdc x.ds
  dn : x.m.sdn = x.ds.length
/-- P8.2: a message that is a record. -/
structure IsRec (x : MV) : Prop where
  car : x.car = 0
  emp : msgEmpty (strip x.m) = true
  fr : x.m.fr = 0
  tt : x.m.tt = 0
  ki : x.m.ki ≠ 5
set_option maxRecDepth 100000 in
theorem MAt.below {w w' : World} {x : MV} (h : MAt w x) (hb : Below w.heap.size w w') : MAt w' x := ⟨h.at'.below hb, h.dig.below hb, h.dn⟩
set_option maxRecDepth 100000 in
theorem HasL.mono {G G' : Nat → Prop} {ra : Option Addr} {qs : List Part} (h : HasL G ra qs) (hG : ∀ k, G k → G' k) : HasL G' ra qs := ⟨fun sb so e n => hG _ (h.row sb so e n), fun p hp sb so e n => hG _ (h.each p hp sb so e n)⟩
set_option maxRecDepth 100000 in
theorem HasM.mono {G G' : Nat → Prop} {x : MV} (h : HasM G x) (hG : ∀ k, G k → G' k) : HasM G' x :=
  ⟨fun sb so e n => hG _ (h.tx sb so e n), h.hb.mono hG, h.hp.mono hG, fun sb so e n => hG _ (h.sd sb so e n), h.cb.mono hG, h.cp.mono hG, fun sb so e n => hG _ (h.cv sb so e n)⟩
set_option maxRecDepth 100000 in
theorem NewM.has {B : Nat} {x : MV} (h : NewM B x.m x.bl x.pl x.cbl x.cpl) : HasM (fun k => B ≤ k) x :=
  ⟨fun sb so e _ => h.tx sb so e, ⟨fun sb so e _ => h.hb.row sb so e, fun p hp sb so e _ => h.hb.each p hp sb so e⟩, ⟨fun sb so e _ => h.hp.row sb so e, fun p hp sb so e _ => h.hp.each p hp sb so e⟩, fun sb so e _ => h.sd sb so e, ⟨fun sb so e _ => h.cb.row sb so e, fun p hp sb so e _ => h.cb.each p hp sb so e⟩, ⟨fun sb so e _ => h.cp.row sb so e, fun p hp sb so e _ => h.cp.each p hp sb so e⟩, fun sb so e _ => h.cv sb so e⟩
set_option maxRecDepth 100000 in
theorem length_pos_ne {α : Type} {l : List α} (h : l ≠ []) : 0 < l.length := by cases l with | nil => exact absurd rfl h | cons _ _ => simp
set_option maxRecDepth 100000 in
theorem slice_lt {w : World} {sa : Option Addr} {cap : Nat} {bs : List Int} (h : SliceAt w sa cap bs) (hn : bs ≠ []) {sb so : Nat} (e : sa = some ⟨sb, so, none⟩) : sb < w.heap.size := by
  rcases h.bytes with hb | ⟨sb', so', e', hc⟩
  · exact absurd hb hn
  · rw [e] at e'; cases e'; exact block_lt_of_cell (hc 0 (length_pos_ne hn))
set_option maxRecDepth 100000 in
theorem HasL.lt {w : World} {G : Nat → Prop} {ra : Option Addr} {rc : Nat} {qs : List Part} (h : HasL G ra qs) (H : ListAt w ra rc qs) : HasL (fun k => G k ∧ k < w.heap.size) ra qs := by
  refine ⟨fun sb so e n => ⟨h.row sb so e n, ?_⟩, fun p hp sb so e n => ⟨h.each p hp sb so e n, slice_lt (H.parts.each p hp) n e⟩⟩
  rcases H.parts.cells with hb | ⟨sb', so', e', hc⟩
  · exact absurd hb n
  · rw [e] at e'; cases e'; exact block_lt_of_cell (hc 0 (length_pos_ne n))
set_option maxRecDepth 100000 in
theorem HasM.lt {w : World} {G : Nat → Prop} {x : MV} (h : HasM G x) (H : MAt w x) : HasM (fun k => G k ∧ k < w.heap.size) x := by
  refine ⟨fun sb so e n => ⟨h.tx sb so e n, ?_⟩, h.hb.lt H.at'.bat, h.hp.lt H.at'.par, fun sb so e n => ⟨h.sd sb so e n, slice_lt H.dig n e⟩, h.cb.lt H.at'.cbat, h.cp.lt H.at'.cpar, fun sb so e n => ⟨h.cv sb so e n, ?_⟩⟩
  · rcases H.at'.txs.cells with hb | ⟨sb', so', e', hc⟩
    · exact absurd hb n
    · rw [e] at e'; cases e'; exact block_lt_of_cell (hc 0 (length_pos_ne n))
  · rcases H.at'.vot.cells with hb | ⟨sb', so', e', hc⟩
    · exact absurd hb n
    · rw [e] at e'; cases e'; exact block_lt_of_cell (hc 0 (length_pos_ne n))
set_option maxRecDepth 100000 in
/-- Blocks that stay as they are. -/
theorem slice_stays {w w' : World} {G : Nat → Prop} {sa : Option Addr} {cap : Nat} {bs : List Int} (hk : ∀ k, G k → w'.heap[k]? = w.heap[k]?) (h : SliceAt w sa cap bs) (hG : ∀ sb so, sa = some ⟨sb, so, none⟩ → bs ≠ [] → G sb) : SliceAt w' sa cap bs := by
  refine ⟨h.le, h.max, h.some, h.nil, ?_⟩
  rcases h.bytes with hb | ⟨sb, so, e, hc⟩
  · exact .inl hb
  · by_cases hz : bs = []
    · exact .inl hz
    · exact .inr ⟨sb, so, e, fun j hj => (World.cell?_of_block (hk sb (hG sb so e hz))).trans (hc j hj)⟩
set_option maxRecDepth 100000 in
theorem list_stays {w w' : World} {G : Nat → Prop} {ra : Option Addr} {rc : Nat} {qs : List Part} (hk : ∀ k, G k → w'.heap[k]? = w.heap[k]?) (h : ListAt w ra rc qs) (hG : HasL G ra qs) : ListAt w' ra rc qs := by
  refine ⟨h.le, h.max, h.small, h.some, ⟨?_, fun p hp => slice_stays hk (h.parts.each p hp) (hG.each p hp)⟩⟩
  rcases h.parts.cells with hb | ⟨sb, so, e, hc⟩
  · exact .inl hb
  · by_cases hz : qs = []
    · exact .inl hz
    · exact .inr ⟨sb, so, e, fun j hj => (World.cell?_of_block (hk sb (hG.row sb so e hz))).trans (hc j hj)⟩
set_option maxRecDepth 100000 in
theorem MAt.stays {w w' : World} {G : Nat → Prop} {x : MV} (hk : ∀ k, G k → w'.heap[k]? = w.heap[k]?) (h : MAt w x) (hG : HasM G x) : MAt w' x := by
  refine ⟨⟨h.at'.e1, h.at'.e2, h.at'.e3, h.at'.e4, h.at'.e5, h.at'.e6, h.at'.s1, h.at'.s6, h.at'.s7, ⟨?_, h.at'.txs.size⟩, list_stays hk h.at'.bat hG.hb, list_stays hk h.at'.par hG.hp, list_stays hk h.at'.cbat hG.cb, list_stays hk h.at'.cpar hG.cp, ⟨?_⟩⟩, slice_stays hk h.dig hG.sd, h.dn⟩
  · rcases h.at'.txs.cells with hb | ⟨sb, so, e, hc⟩
    · exact .inl hb
    · by_cases hz : x.ss = []
      · exact .inl hz
      · exact .inr ⟨sb, so, e, fun j hj => (World.cell?_of_block (hk sb (hG.tx sb so e hz))).trans (hc j hj)⟩
  · rcases h.at'.vot.cells with hb | ⟨sb, so, e, hc⟩
    · exact .inl hb
    · by_cases hz : x.vl = []
      · exact .inl hz
      · exact .inr ⟨sb, so, e, fun j hj => (World.cell?_of_block (hk sb (hG.cv sb so e hz))).trans (hc j hj)⟩
set_option maxRecDepth 100000 in
theorem MAt.setRow {w : World} {x : MV} {B b : Nat} {cs : Array Value} (h : MAt w x) (hG : HasM (fun k => B ≤ k) x) (hb : b < B) : MAt (w.setRow b cs) x :=
  h.stays (G := fun k => B ≤ k) (fun k hk => setRow_other w b k cs (by omega)) hG
set_option maxRecDepth 100000 in
theorem MAt.setCell {w : World} {x : MV} {B b j : Nat} {v : Value} (h : MAt w x) (hG : HasM (fun k => B ≤ k) x) (hb : b < B) : MAt (w.setCell ⟨b, j, none⟩ v) x :=
  h.stays (G := fun k => B ≤ k) (fun k hk => heap_setCell_other w ⟨b, j, none⟩ k v (by show k ≠ b; omega)) hG
/-- From nobody, to nobody. -/
def Msg.bare (m : Msg) : Msg := { m with fr := 0, tt := 0 }
def MV.bare (x : MV) : MV := { x with m := x.m.bare }
set_option maxRecDepth 100000 in
theorem MV.bare_at {w : World} {x : MV} (h : MAt w x) : MAt w x.bare := ⟨⟨h.at'.e1, h.at'.e2, h.at'.e3, h.at'.e4, h.at'.e5, h.at'.e6, h.at'.s1, h.at'.s6, h.at'.s7, h.at'.txs, h.at'.bat, h.at'.par, h.at'.cbat, h.at'.cpar, h.at'.vot⟩, h.dig, h.dn⟩
set_option maxRecDepth 100000 in
theorem MV.bare_has {G : Nat → Prop} {x : MV} (h : HasM G x) : HasM G x.bare := ⟨h.tx, h.hb, h.hp, h.sd, h.cb, h.cp, h.cv⟩
set_option maxRecDepth 100000 in
theorem strip_from (m : Msg) (a b : Int) : msgEmpty (strip { m with fr := a, tt := b }) = msgEmpty (strip m) := by
  by_cases k1 : m.ki = 1
  · simp [strip, msgEmpty, k1]
  by_cases k2 : m.ki = 2
  · simp [strip, msgEmpty, k2]
  by_cases k3 : m.ki = 3
  · simp [strip, msgEmpty, k3]
  by_cases k4 : m.ki = 4
  · simp [strip, msgEmpty, k4]
  · simp [strip, msgEmpty, k1, k2, k3, k4]
set_option maxRecDepth 100000 in
theorem MV.bare_rec {x : MV} (hc : x.car = 0) (he : msgEmpty (strip x.m) = true) (hk : x.m.ki ≠ 5) : IsRec x.bare :=
  ⟨hc, (strip_from x.m 0 0).trans he, rfl, rfl, hk⟩
set_option maxRecDepth 100000 in
theorem IsRec.check {x : MV} (h : IsRec x) : checkF x.m x.car = 0 := checkF_zero (by rw [h.fr]; omega) (by rw [h.tt]; omega) h.car h.emp
end Go.Proofs.Ythijfhbmkpfnkaa

namespace Go.Proofs.Ythijfhbmkpfnkaa
open Go.RowKit

/-- What a message says. -/
structure MC where
  (fr tt ki bau bnu : Int) (ss : List ByteArray) (hau hrd : Int) (bl pl : List (List Int)) (sau srd : Int) (ds : List Int) (cau crd : Int) (cbl cpl : List (List Int)) (vl : List Int) (ro : Int)
def MV.c (x : MV) : MC := ⟨x.m.fr, x.m.tt, x.m.ki, x.m.bau, x.m.bnu, x.ss, x.m.hau, x.m.hrd, x.bl.map (·.bs), x.pl.map (·.bs), x.m.sau, x.m.srd, x.ds, x.m.cau, x.m.crd, x.cbl.map (·.bs), x.cpl.map (·.bs), x.vl, x.m.ro⟩
/-- The message that bytes tell, by its kind. -/
def pM (s : St) : MC :=
  if nB 1 s = 1 then ⟨nB 1 (nx 1 s), nB 1 (nx 1 (nx 1 s)), nB 1 s, nB 1 (nx 1 (nx 1 (nx 1 s))), nB 3 (nx 1 (nx 1 (nx 1 (nx 1 s)))), bT (nx 1 (bS3 (nx 1 (nx 1 (nx 1 s))))) (bN (nx 1 (nx 1 (nx 1 s)))), 0, 0, [], [], 0, 0, [], 0, 0, [], [], [], 0⟩
  else if nB 1 s = 2 then ⟨nB 1 (nx 1 s), nB 1 (nx 1 (nx 1 s)), nB 1 s, 0, 0, [], nB 1 (nx 1 (nx 1 (nx 1 s))), nB 3 (nx 1 (nx 1 (nx 1 (nx 1 s)))), dgs (nx 3 (nx 1 (nx 1 (nx 1 (nx 1 s))))), dgs (dgS (nx 3 (nx 1 (nx 1 (nx 1 (nx 1 s)))))), 0, 0, [], 0, 0, [], [], [], 0⟩
  else if nB 1 s = 3 then ⟨nB 1 (nx 1 s), nB 1 (nx 1 (nx 1 s)), nB 1 s, 0, 0, [], 0, 0, [], [], nB 1 (nx 1 (nx 1 (nx 1 s))), nB 3 (nx 1 (nx 1 (nx 1 (nx 1 s)))), tT 32 (nx 3 (nx 1 (nx 1 (nx 1 (nx 1 s))))), 0, 0, [], [], [], 0⟩
  else if nB 1 s = 4 then ⟨nB 1 (nx 1 s), nB 1 (nx 1 (nx 1 s)), nB 1 s, 0, 0, [], 0, 0, [], [], 0, 0, [], nB 1 (nx 1 (nx 1 (nx 1 s))), nB 3 (nx 1 (nx 1 (nx 1 (nx 1 s)))), dgs (nx 3 (nx 1 (nx 1 (nx 1 (nx 1 s))))), dgs (dgS (nx 3 (nx 1 (nx 1 (nx 1 (nx 1 s)))))), nV (nx 1 (hS4 (nx 1 (nx 1 (nx 1 s))))) (cN (nx 1 (nx 1 (nx 1 s)))), 0⟩
  else ⟨nB 1 (nx 1 s), nB 1 (nx 1 (nx 1 s)), nB 1 s, 0, 0, [], 0, 0, [], [], 0, 0, [], 0, 0, [], [], [], nB 3 (nx 1 (nx 1 (nx 1 s)))⟩
/-- What is left behind it. -/
def mS (s : St) : St :=
  if nB 1 s = 1 then bL (nx 1 (bS3 (nx 1 (nx 1 (nx 1 s))))) (bN (nx 1 (nx 1 (nx 1 s)))) else if nB 1 s = 2 then dgS (dgS (nx 3 (nx 1 (nx 1 (nx 1 (nx 1 s)))))) else if nB 1 s = 3 then nx 32 (nx 3 (nx 1 (nx 1 (nx 1 (nx 1 s))))) else if nB 1 s = 4 then nL (nx 1 (hS4 (nx 1 (nx 1 (nx 1 s))))) (cN (nx 1 (nx 1 (nx 1 s)))) else nx 3 (nx 1 (nx 1 (nx 1 s)))
structure MsgRd (w w' : World) (e : Ending) (R : Nat) (s : St) : Prop where
  out : ∃ x : MV, e = .returned (.agg #[.int .i64 x.m.fr, .int .i64 x.m.tt, .int .i64 x.m.ki, .int .i64 x.m.bau, .int .i64 x.m.bnu, .slice x.m.bta x.m.btn x.m.btc, .int .i64 x.m.hau, .int .i64 x.m.hrd, .slice x.m.hba x.m.hbn x.m.hbc, .slice x.m.hpa x.m.hpn x.m.hpc, .int .i64 x.m.sau, .int .i64 x.m.srd, .slice x.m.sda x.m.sdn x.m.sdc, .int .i64 x.m.cau, .int .i64 x.m.crd, .slice x.m.cba x.m.cbn x.m.cbc, .slice x.m.cpa x.m.cpn x.m.cpc, .slice x.m.cva x.m.cvn x.m.cvc, .int .i64 x.m.ro]) ∧ MAt w' x ∧ HasM (fun q => w.heap.size ≤ q) x ∧ x.c = pM s ∧ RdS w' R (mS s) ∧ Only R w w'
set_option maxRecDepth 100000 in
set_option maxHeartbeats 8000000 in
theorem message_rd (R : Nat) (s : St) (w : World) (hR : RdS w R s) (hs : GoodS s) (hk : 1 ≤ nB 1 s ∧ nB 1 s ≤ 5) :
    Calls Try.prog 36 #[.pointer (some ⟨R, 0, none⟩)] w fun e w' => MsgRd w w' e R s := by
  have hlt : R < w.heap.size := RdrAt.lt hR
  have hA : Below w.heap.size w (w.alloc (.cells #[.int .i64 0, .int .i64 0, .int .i64 0, .int .i64 0, .int .i64 0, .slice none 0 0, .int .i64 0, .int .i64 0, .slice none 0 0, .slice none 0 0, .int .i64 0, .int .i64 0, .slice none 0 0, .int .i64 0, .int .i64 0, .slice none 0 0, .slice none 0 0, .slice none 0 0, .int .i64 0] 37)) := (Below.refl _ _).alloc (Nat.le_refl _) _
  have q0 := heap_alloc_new w (.cells #[.int .i64 0, .int .i64 0, .int .i64 0, .int .i64 0, .int .i64 0, .slice none 0 0, .int .i64 0, .int .i64 0, .slice none 0 0, .slice none 0 0, .int .i64 0, .int .i64 0, .slice none 0 0, .int .i64 0, .int .i64 0, .slice none 0 0, .slice none 0 0, .slice none 0 0, .int .i64 0] 37)
  have hsz : w.heap.size < (w.alloc (.cells #[.int .i64 0, .int .i64 0, .int .i64 0, .int .i64 0, .int .i64 0, .slice none 0 0, .int .i64 0, .int .i64 0, .slice none 0 0, .slice none 0 0, .int .i64 0, .int .i64 0, .slice none 0 0, .int .i64 0, .int .i64 0, .slice none 0 0, .slice none 0 0, .slice none 0 0, .int .i64 0] 37)).heap.size := lt_of_heap q0
  have hgs3 : GoodS (nx 1 (nx 1 (nx 1 s))) := hs.nx.nx.nx
  have hn1 : bN (nx 1 (nx 1 (nx 1 s))) ≤ 255 := by have := nB1_bounds (s := bS3 (nx 1 (nx 1 (nx 1 s)))) hgs3.nx.nx; show (nB 1 (bS3 (nx 1 (nx 1 (nx 1 s))))).toNat ≤ 255; omega
  have hn4 : cN (nx 1 (nx 1 (nx 1 s))) ≤ 255 := by have := nB1_bounds (s := hS4 (nx 1 (nx 1 (nx 1 s)))) (GoodS.dgS (GoodS.dgS hgs3.nx.nx)); show (nB 1 (hS4 (nx 1 (nx 1 (nx 1 s))))).toNat ≤ 255; omega
  go_enter Try.func36, Try.ntmps36
  go_wp2_with fail
  generalize w.alloc (.cells #[.int .i64 0, .int .i64 0, .int .i64 0, .int .i64 0, .int .i64 0, .slice none 0 0, .int .i64 0, .int .i64 0, .slice none 0 0, .slice none 0 0, .int .i64 0, .int .i64 0, .slice none 0 0, .int .i64 0, .int .i64 0, .slice none 0 0, .slice none 0 0, .slice none 0 0, .int .i64 0] 37) = W0 at hA q0 hsz ⊢
  refine (number_st R 1 s W0 (RdrAt.below hR hA) hs (by omega)).mono ?_
  rintro e w1 ⟨he, hR1, ho1⟩
  subst he
  dsimp only
  go_wp2_with fail
  refine (number_st R 1 _ w1 hR1 hs.nx (by omega)).mono ?_
  rintro e w2 ⟨he, hR2, ho2⟩
  subst he
  dsimp only
  go_wp2_with fail
  refine (number_st R 1 _ w2 hR2 hs.nx.nx (by omega)).mono ?_
  rintro e w3 ⟨he, hR3, ho3⟩
  subst he
  dsimp only
  have hO3 := (ho1.trans ho2).trans ho3
  have p3 := (hO3.block _ hsz (by omega)).trans q0
  have hlt3 : w.heap.size < w3.heap.size := lt_of_heap p3
  have qz := heap_alloc_new w3 (.cells #[.int .i64 0, .int .i64 0, .int .i64 0, .int .i64 0, .int .i64 0, .slice none 0 0, .int .i64 0, .int .i64 0, .slice none 0 0, .slice none 0 0, .int .i64 0, .int .i64 0, .slice none 0 0, .int .i64 0, .int .i64 0, .slice none 0 0, .slice none 0 0, .slice none 0 0, .int .i64 0] 37)
  have hAM : Below w3.heap.size w3 ((w3.alloc (.cells #[.int .i64 0, .int .i64 0, .int .i64 0, .int .i64 0, .int .i64 0, .slice none 0 0, .int .i64 0, .int .i64 0, .slice none 0 0, .slice none 0 0, .int .i64 0, .int .i64 0, .slice none 0 0, .int .i64 0, .int .i64 0, .slice none 0 0, .slice none 0 0, .slice none 0 0, .int .i64 0] 37)).setRow w3.heap.size #[.int .i64 (nB 1 (nx 1 s)), .int .i64 (nB 1 (nx 1 (nx 1 s))), .int .i64 (nB 1 s), .int .i64 0, .int .i64 0, .slice none 0 0, .int .i64 0, .int .i64 0, .slice none 0 0, .slice none 0 0, .int .i64 0, .int .i64 0, .slice none 0 0, .int .i64 0, .int .i64 0, .slice none 0 0, .slice none 0 0, .slice none 0 0, .int .i64 0]) := laid_row w3 #[.int .i64 0, .int .i64 0, .int .i64 0, .int .i64 0, .int .i64 0, .slice none 0 0, .int .i64 0, .int .i64 0, .slice none 0 0, .slice none 0 0, .int .i64 0, .int .i64 0, .slice none 0 0, .int .i64 0, .int .i64 0, .slice none 0 0, .slice none 0 0, .slice none 0 0, .int .i64 0] #[.int .i64 (nB 1 (nx 1 s)), .int .i64 (nB 1 (nx 1 (nx 1 s))), .int .i64 (nB 1 s), .int .i64 0, .int .i64 0, .slice none 0 0, .int .i64 0, .int .i64 0, .slice none 0 0, .slice none 0 0, .int .i64 0, .int .i64 0, .slice none 0 0, .int .i64 0, .int .i64 0, .slice none 0 0, .slice none 0 0, .slice none 0 0, .int .i64 0] 37
  have qM := setRow_heap _ _ _ #[.int .i64 (nB 1 (nx 1 s)), .int .i64 (nB 1 (nx 1 (nx 1 s))), .int .i64 (nB 1 s), .int .i64 0, .int .i64 0, .slice none 0 0, .int .i64 0, .int .i64 0, .slice none 0 0, .slice none 0 0, .int .i64 0, .int .i64 0, .slice none 0 0, .int .i64 0, .int .i64 0, .slice none 0 0, .slice none 0 0, .slice none 0 0, .int .i64 0] _ _ qz
  have zM := (hAM.block _ hlt3).trans p3
  have hszM : w3.heap.size < ((w3.alloc (.cells #[.int .i64 0, .int .i64 0, .int .i64 0, .int .i64 0, .int .i64 0, .slice none 0 0, .int .i64 0, .int .i64 0, .slice none 0 0, .slice none 0 0, .int .i64 0, .int .i64 0, .slice none 0 0, .int .i64 0, .int .i64 0, .slice none 0 0, .slice none 0 0, .slice none 0 0, .int .i64 0] 37)).setRow w3.heap.size #[.int .i64 (nB 1 (nx 1 s)), .int .i64 (nB 1 (nx 1 (nx 1 s))), .int .i64 (nB 1 s), .int .i64 0, .int .i64 0, .slice none 0 0, .int .i64 0, .int .i64 0, .slice none 0 0, .slice none 0 0, .int .i64 0, .int .i64 0, .slice none 0 0, .int .i64 0, .int .i64 0, .slice none 0 0, .slice none 0 0, .slice none 0 0, .int .i64 0]).heap.size := lt_of_heap qM
  go_upto_region 2 with (refine wpList_store_row rfl 37 _ _ rfl w3.heap.size #[.int .i64 (nB 1 (nx 1 s)), .int .i64 (nB 1 (nx 1 (nx 1 s))), .int .i64 (nB 1 s), .int .i64 0, .int .i64 0, .slice none 0 0, .int .i64 0, .int .i64 0, .slice none 0 0, .slice none 0 0, .int .i64 0, .int .i64 0, .slice none 0 0, .int .i64 0, .int .i64 0, .slice none 0 0, .slice none 0 0, .slice none 0 0, .int .i64 0] rfl rfl 37 _ qz sMsg' rfl (by simp [Value.oneCell']) ?_)
  generalize (w3.alloc (.cells #[.int .i64 0, .int .i64 0, .int .i64 0, .int .i64 0, .int .i64 0, .slice none 0 0, .int .i64 0, .int .i64 0, .slice none 0 0, .slice none 0 0, .int .i64 0, .int .i64 0, .slice none 0 0, .int .i64 0, .int .i64 0, .slice none 0 0, .slice none 0 0, .slice none 0 0, .int .i64 0] 37)).setRow w3.heap.size #[.int .i64 (nB 1 (nx 1 s)), .int .i64 (nB 1 (nx 1 (nx 1 s))), .int .i64 (nB 1 s), .int .i64 0, .int .i64 0, .slice none 0 0, .int .i64 0, .int .i64 0, .slice none 0 0, .slice none 0 0, .int .i64 0, .int .i64 0, .slice none 0 0, .int .i64 0, .int .i64 0, .slice none 0 0, .slice none 0 0, .slice none 0 0, .int .i64 0] = WB at hAM qM zM hszM ⊢
  have hRM : RdS WB R (nx 1 (nx 1 (nx 1 s))) := RdrAt.below hR3 hAM
  have hOM : Only R W0 WB := hO3.trans (only_of_below hAM)
  have hOw0 : Only R w W0 := only_of_below hA
  generalize hMB : w3.heap.size = MB at qM hszM hlt3 ⊢
  clear hMB hAM qz p3 hO3 ho1 ho2 ho3 hR1 hR2 hR3 q0
  have c2 : WB.cell? ⟨MB, 2, none⟩ = some (.int .i64 (nB 1 s)) := cells_at qM 2 _ rfl
  have hkk : nB 1 s = 1 ∨ nB 1 s = 2 ∨ nB 1 s = 3 ∨ nB 1 s = 4 ∨ nB 1 s = 5 := by omega
  clear hk
  rcases hkk with hk | hk | hk | hk | hk
  · rw [hk] at qM c2 ⊢
    have HKI : Hid (nB 1 s = 1) := hk
    clear hk
    go_wp2_with fail
    refine (batch_rd R (nx 1 (nx 1 (nx 1 s))) WB hRM hgs3).mono ?_
    rintro e w5 ⟨ta, tc, he, hS5, hf5, hR5, ho5⟩
    subst he
    dsimp only
    have r5 := (ho5.block _ hszM (by omega)).trans qM
    have z5 := (ho5.block _ (by omega) (by omega)).trans zM
    have hO5 := hOM.trans ho5
    have hne0 : w.heap.size ≠ MB := by omega
    have hneM := hne0
    have x3 : w5.cell? ⟨MB, 3, none⟩ = some (.int .i64 0) := cells_at r5 3 _ rfl
    have y3 := frozen_at r5 3
    have x4 : w5.cell? ⟨MB, 4, none⟩ = some (.int .i64 0) := cells_at r5 4 _ rfl
    have y4 := frozen_at r5 4
    have x5 : w5.cell? ⟨MB, 5, none⟩ = some (.slice none 0 0) := cells_at r5 5 _ rfl
    have y5 := frozen_at r5 5
    have rF : (((w5.setCell ⟨MB, 3, none⟩ (.int .i64 (nB 1 (nx 1 (nx 1 (nx 1 s)))))).setCell ⟨MB, 4, none⟩ (.int .i64 (nB 3 (nx 1 (nx 1 (nx 1 (nx 1 s))))))).setCell ⟨MB, 5, none⟩ (.slice ta (bN (nx 1 (nx 1 (nx 1 s)))) tc)).heap[MB]? = some (.cells #[.int .i64 (nB 1 (nx 1 s)), .int .i64 (nB 1 (nx 1 (nx 1 s))), .int .i64 1, .int .i64 (nB 1 (nx 1 (nx 1 (nx 1 s)))), .int .i64 (nB 3 (nx 1 (nx 1 (nx 1 (nx 1 s))))), .slice ta (bN (nx 1 (nx 1 (nx 1 s)))) tc, .int .i64 0, .int .i64 0, .slice none 0 0, .slice none 0 0, .int .i64 0, .int .i64 0, .slice none 0 0, .int .i64 0, .int .i64 0, .slice none 0 0, .slice none 0 0, .slice none 0 0, .int .i64 0] 37 (0, 0)) := by simpa using (heap_setCell_same _ _ 5 _ _ (.slice ta (bN (nx 1 (nx 1 (nx 1 s)))) tc) (heap_setCell_same _ _ 4 _ _ (.int .i64 (nB 3 (nx 1 (nx 1 (nx 1 (nx 1 s)))))) (heap_setCell_same _ _ 3 _ _ (.int .i64 (nB 1 (nx 1 (nx 1 (nx 1 s))))) r5)))
    have zF := (heap_far (j := 5) (v := .slice ta (bN (nx 1 (nx 1 (nx 1 s)))) tc) (heap_far (j := 4) (v := .int .i64 (nB 3 (nx 1 (nx 1 (nx 1 (nx 1 s)))))) (heap_far (j := 3) (v := .int .i64 (nB 1 (nx 1 (nx 1 (nx 1 s))))) z5 hneM) hneM) hneM)
    have HX : Hid (∃ x : MV, (.agg #[.int .i64 x.m.fr, .int .i64 x.m.tt, .int .i64 x.m.ki, .int .i64 x.m.bau, .int .i64 x.m.bnu, .slice x.m.bta x.m.btn x.m.btc, .int .i64 x.m.hau, .int .i64 x.m.hrd, .slice x.m.hba x.m.hbn x.m.hbc, .slice x.m.hpa x.m.hpn x.m.hpc, .int .i64 x.m.sau, .int .i64 x.m.srd, .slice x.m.sda x.m.sdn x.m.sdc, .int .i64 x.m.cau, .int .i64 x.m.crd, .slice x.m.cba x.m.cbn x.m.cbc, .slice x.m.cpa x.m.cpn x.m.cpc, .slice x.m.cva x.m.cvn x.m.cvc, .int .i64 x.m.ro] : Value) = .agg #[.int .i64 (nB 1 (nx 1 s)), .int .i64 (nB 1 (nx 1 (nx 1 s))), .int .i64 1, .int .i64 (nB 1 (nx 1 (nx 1 (nx 1 s)))), .int .i64 (nB 3 (nx 1 (nx 1 (nx 1 (nx 1 s))))), .slice ta (bN (nx 1 (nx 1 (nx 1 s)))) tc, .int .i64 0, .int .i64 0, .slice none 0 0, .slice none 0 0, .int .i64 0, .int .i64 0, .slice none 0 0, .int .i64 0, .int .i64 0, .slice none 0 0, .slice none 0 0, .slice none 0 0, .int .i64 0] ∧ MAt w5 x ∧ HasM (fun q => WB.heap.size ≤ q) x ∧ x.c = pM s ∧ RdS w5 R (mS s)) := by
      refine ⟨⟨⟨nB 1 (nx 1 s), nB 1 (nx 1 (nx 1 s)), 1, nB 1 (nx 1 (nx 1 (nx 1 s))), nB 3 (nx 1 (nx 1 (nx 1 (nx 1 s)))), 0, 0, 0, 0, 0, 0, 0, ta, none, none, none, none, none, none, bN (nx 1 (nx 1 (nx 1 s))), tc, 0, 0, 0, 0, 0, 0, 0, 0, 0, 0, 0, 0⟩, bT (nx 1 (bS3 (nx 1 (nx 1 (nx 1 s))))) (bN (nx 1 (nx 1 (nx 1 s)))), [], [], [], [], [], []⟩, rfl, ⟨⟨(bT_length _ _).symm, rfl, rfl, rfl, rfl, rfl, by rw [bT_length]; have := hn1; omega, by simp, by simp, hS5, (list_nilM _), (list_nilM _), (list_nilM _), (list_nilM _), ⟨.inl rfl⟩⟩, (nilM _), rfl⟩, NewM.has (x := ⟨⟨nB 1 (nx 1 s), nB 1 (nx 1 (nx 1 s)), 1, nB 1 (nx 1 (nx 1 (nx 1 s))), nB 3 (nx 1 (nx 1 (nx 1 (nx 1 s)))), 0, 0, 0, 0, 0, 0, 0, ta, none, none, none, none, none, none, bN (nx 1 (nx 1 (nx 1 s))), tc, 0, 0, 0, 0, 0, 0, 0, 0, 0, 0, 0, 0⟩, bT (nx 1 (bS3 (nx 1 (nx 1 (nx 1 s))))) (bN (nx 1 (nx 1 (nx 1 s)))), [], [], [], [], [], []⟩) ⟨hf5, ⟨(fun _ _ e => by cases e), (fun p hp => by cases hp)⟩, ⟨(fun _ _ e => by cases e), (fun p hp => by cases hp)⟩, (fun _ _ e => by cases e), ⟨(fun _ _ e => by cases e), (fun p hp => by cases hp)⟩, ⟨(fun _ _ e => by cases e), (fun p hp => by cases hp)⟩, (fun _ _ e => by cases e)⟩, ?_, ?_⟩
      · simp only [MV.c, pM, HKI.out]; rfl
      · simp only [mS, HKI.out]
        exact hR5
    have HQ : Hid (∀ q, q ≠ MB → (((w5.setCell ⟨MB, 3, none⟩ (.int .i64 (nB 1 (nx 1 (nx 1 (nx 1 s)))))).setCell ⟨MB, 4, none⟩ (.int .i64 (nB 3 (nx 1 (nx 1 (nx 1 (nx 1 s))))))).setCell ⟨MB, 5, none⟩ (.slice ta (bN (nx 1 (nx 1 (nx 1 s)))) tc)).heap[q]? = w5.heap[q]?) := by
      show ∀ _, _
      intro q hq1
      exact ((heap_setCell_other _ ⟨MB, 5, none⟩ q _ hq1).trans ((heap_setCell_other _ ⟨MB, 4, none⟩ q _ hq1).trans ((heap_setCell_other _ ⟨MB, 3, none⟩ q _ hq1).trans (rfl : w5.heap[q]? = w5.heap[q]?))))
    have HZ : Hid ((((w5.setCell ⟨MB, 3, none⟩ (.int .i64 (nB 1 (nx 1 (nx 1 (nx 1 s)))))).setCell ⟨MB, 4, none⟩ (.int .i64 (nB 3 (nx 1 (nx 1 (nx 1 (nx 1 s))))))).setCell ⟨MB, 5, none⟩ (.slice ta (bN (nx 1 (nx 1 (nx 1 s)))) tc)).heap.size = w5.heap.size) := by show _ = _; simp
    have HO : Hid ((((w5.setCell ⟨MB, 3, none⟩ (.int .i64 (nB 1 (nx 1 (nx 1 (nx 1 s)))))).setCell ⟨MB, 4, none⟩ (.int .i64 (nB 3 (nx 1 (nx 1 (nx 1 (nx 1 s))))))).setCell ⟨MB, 5, none⟩ (.slice ta (bN (nx 1 (nx 1 (nx 1 s)))) tc)).os = w5.os ∧ (((w5.setCell ⟨MB, 3, none⟩ (.int .i64 (nB 1 (nx 1 (nx 1 (nx 1 s)))))).setCell ⟨MB, 4, none⟩ (.int .i64 (nB 3 (nx 1 (nx 1 (nx 1 (nx 1 s))))))).setCell ⟨MB, 5, none⟩ (.slice ta (bN (nx 1 (nx 1 (nx 1 s)))) tc)).tape = w5.tape ∧ (((w5.setCell ⟨MB, 3, none⟩ (.int .i64 (nB 1 (nx 1 (nx 1 (nx 1 s)))))).setCell ⟨MB, 4, none⟩ (.int .i64 (nB 3 (nx 1 (nx 1 (nx 1 (nx 1 s))))))).setCell ⟨MB, 5, none⟩ (.slice ta (bN (nx 1 (nx 1 (nx 1 s)))) tc)).output = w5.output) := ⟨rfl, rfl, rfl⟩
    go_upto_region 13 with fail
    generalize (((w5.setCell ⟨MB, 3, none⟩ (.int .i64 (nB 1 (nx 1 (nx 1 (nx 1 s)))))).setCell ⟨MB, 4, none⟩ (.int .i64 (nB 3 (nx 1 (nx 1 (nx 1 (nx 1 s))))))).setCell ⟨MB, 5, none⟩ (.slice ta (bN (nx 1 (nx 1 (nx 1 s)))) tc)) = VF at rF zF HQ HZ HO ⊢
    clear r5 z5 x3 y3 x4 y4 x5 y5
    go_wp2_with (first | refine wpList_load_row rfl 37 _ rfl MB rfl 37 #[.int .i64 (nB 1 (nx 1 s)), .int .i64 (nB 1 (nx 1 (nx 1 s))), .int .i64 1, .int .i64 (nB 1 (nx 1 (nx 1 (nx 1 s)))), .int .i64 (nB 3 (nx 1 (nx 1 (nx 1 (nx 1 s))))), .slice ta (bN (nx 1 (nx 1 (nx 1 s)))) tc, .int .i64 0, .int .i64 0, .slice none 0 0, .slice none 0 0, .int .i64 0, .int .i64 0, .slice none 0 0, .int .i64 0, .int .i64 0, .slice none 0 0, .slice none 0 0, .slice none 0 0, .int .i64 0] (0, 0) _ rF Try.underlying37 rfl sMsg' ?_ | refine wpList_store_row rfl 37 _ _ rfl w.heap.size #[.int .i64 (nB 1 (nx 1 s)), .int .i64 (nB 1 (nx 1 (nx 1 s))), .int .i64 1, .int .i64 (nB 1 (nx 1 (nx 1 (nx 1 s)))), .int .i64 (nB 3 (nx 1 (nx 1 (nx 1 (nx 1 s))))), .slice ta (bN (nx 1 (nx 1 (nx 1 s)))) tc, .int .i64 0, .int .i64 0, .slice none 0 0, .slice none 0 0, .int .i64 0, .int .i64 0, .slice none 0 0, .int .i64 0, .int .i64 0, .slice none 0 0, .slice none 0 0, .slice none 0 0, .int .i64 0] rfl rfl 37 _ zF sMsg' rfl (by simp [Value.oneCell']) ?_)
    obtain ⟨x, hxe, hxM, hxH, hxc, hxR⟩ := HX.out
    refine bodyPost_ret (v := .agg #[.int .i64 (nB 1 (nx 1 s)), .int .i64 (nB 1 (nx 1 (nx 1 s))), .int .i64 1, .int .i64 (nB 1 (nx 1 (nx 1 (nx 1 s)))), .int .i64 (nB 3 (nx 1 (nx 1 (nx 1 (nx 1 s))))), .slice ta (bN (nx 1 (nx 1 (nx 1 s)))) tc, .int .i64 0, .int .i64 0, .slice none 0 0, .slice none 0 0, .int .i64 0, .int .i64 0, .slice none 0 0, .int .i64 0, .int .i64 0, .slice none 0 0, .slice none 0 0, .slice none 0 0, .int .i64 0]) (results_cell_row (fn := Try.f36) (p := 2) (ty := 37) rfl _ _ w.heap.size 37 _ (0, 0) _ rfl (setRow_heap _ _ _ _ _ _ zF) Try.underlying37 rfl sMsg') rfl ⟨x, by rw [hxe], ?_, hxH.mono (fun q hq => by omega), hxc, ?_, ?_⟩
    · refine hxM.stays (G := fun q => WB.heap.size ≤ q) (fun q hq => ?_) hxH
      exact (setRow_other _ w.heap.size q _ (by omega)).trans (HQ.out q (by omega))
    · refine RdrAt.stays hxR (fun q hq => ?_)
      exact (setRow_other _ w.heap.size q _ (by omega)).trans (HQ.out q (by omega))
    · have hOw := hOw0.trans hO5
      refine ⟨HO.out.1.trans hOw.os, HO.out.2.1.trans hOw.tape, HO.out.2.2.trans hOw.output, by have := hOw.size; have := HZ.out; simp [World.setRow]; omega, fun q hq hn => ?_⟩
      exact ((setRow_other _ w.heap.size q _ (by omega)).trans (HQ.out q (by omega))).trans (hOw.block q hq hn)
  · rw [hk] at qM c2 ⊢
    have HKI : Hid (nB 1 s = 2) := hk
    clear hk
    go_wp2_with fail
    refine (header_rd R (nx 1 (nx 1 (nx 1 s))) WB hRM hgs3).mono ?_
    rintro e w5 ⟨ba, bc, bl, pa, pc, pl, he, hq1, hq2, hL1, hL2, hF1, hF2, hR5, ho5⟩
    subst he
    dsimp only
    have r5 := (ho5.block _ hszM (by omega)).trans qM
    have z5 := (ho5.block _ (by omega) (by omega)).trans zM
    have hO5 := hOM.trans ho5
    have hne0 : w.heap.size ≠ MB := by omega
    have hneM := hne0
    have x6 : w5.cell? ⟨MB, 6, none⟩ = some (.int .i64 0) := cells_at r5 6 _ rfl
    have y6 := frozen_at r5 6
    have x7 : w5.cell? ⟨MB, 7, none⟩ = some (.int .i64 0) := cells_at r5 7 _ rfl
    have y7 := frozen_at r5 7
    have x8 : w5.cell? ⟨MB, 8, none⟩ = some (.slice none 0 0) := cells_at r5 8 _ rfl
    have y8 := frozen_at r5 8
    have x9 : w5.cell? ⟨MB, 9, none⟩ = some (.slice none 0 0) := cells_at r5 9 _ rfl
    have y9 := frozen_at r5 9
    have rF : ((((w5.setCell ⟨MB, 6, none⟩ (.int .i64 (nB 1 (nx 1 (nx 1 (nx 1 s)))))).setCell ⟨MB, 7, none⟩ (.int .i64 (nB 3 (nx 1 (nx 1 (nx 1 (nx 1 s))))))).setCell ⟨MB, 8, none⟩ (.slice ba bl.length bc)).setCell ⟨MB, 9, none⟩ (.slice pa pl.length pc)).heap[MB]? = some (.cells #[.int .i64 (nB 1 (nx 1 s)), .int .i64 (nB 1 (nx 1 (nx 1 s))), .int .i64 2, .int .i64 0, .int .i64 0, .slice none 0 0, .int .i64 (nB 1 (nx 1 (nx 1 (nx 1 s)))), .int .i64 (nB 3 (nx 1 (nx 1 (nx 1 (nx 1 s))))), .slice ba bl.length bc, .slice pa pl.length pc, .int .i64 0, .int .i64 0, .slice none 0 0, .int .i64 0, .int .i64 0, .slice none 0 0, .slice none 0 0, .slice none 0 0, .int .i64 0] 37 (0, 0)) := by simpa using (heap_setCell_same _ _ 9 _ _ (.slice pa pl.length pc) (heap_setCell_same _ _ 8 _ _ (.slice ba bl.length bc) (heap_setCell_same _ _ 7 _ _ (.int .i64 (nB 3 (nx 1 (nx 1 (nx 1 (nx 1 s)))))) (heap_setCell_same _ _ 6 _ _ (.int .i64 (nB 1 (nx 1 (nx 1 (nx 1 s))))) r5))))
    have zF := (heap_far (j := 9) (v := .slice pa pl.length pc) (heap_far (j := 8) (v := .slice ba bl.length bc) (heap_far (j := 7) (v := .int .i64 (nB 3 (nx 1 (nx 1 (nx 1 (nx 1 s)))))) (heap_far (j := 6) (v := .int .i64 (nB 1 (nx 1 (nx 1 (nx 1 s))))) z5 hneM) hneM) hneM) hneM)
    have HX : Hid (∃ x : MV, (.agg #[.int .i64 x.m.fr, .int .i64 x.m.tt, .int .i64 x.m.ki, .int .i64 x.m.bau, .int .i64 x.m.bnu, .slice x.m.bta x.m.btn x.m.btc, .int .i64 x.m.hau, .int .i64 x.m.hrd, .slice x.m.hba x.m.hbn x.m.hbc, .slice x.m.hpa x.m.hpn x.m.hpc, .int .i64 x.m.sau, .int .i64 x.m.srd, .slice x.m.sda x.m.sdn x.m.sdc, .int .i64 x.m.cau, .int .i64 x.m.crd, .slice x.m.cba x.m.cbn x.m.cbc, .slice x.m.cpa x.m.cpn x.m.cpc, .slice x.m.cva x.m.cvn x.m.cvc, .int .i64 x.m.ro] : Value) = .agg #[.int .i64 (nB 1 (nx 1 s)), .int .i64 (nB 1 (nx 1 (nx 1 s))), .int .i64 2, .int .i64 0, .int .i64 0, .slice none 0 0, .int .i64 (nB 1 (nx 1 (nx 1 (nx 1 s)))), .int .i64 (nB 3 (nx 1 (nx 1 (nx 1 (nx 1 s))))), .slice ba bl.length bc, .slice pa pl.length pc, .int .i64 0, .int .i64 0, .slice none 0 0, .int .i64 0, .int .i64 0, .slice none 0 0, .slice none 0 0, .slice none 0 0, .int .i64 0] ∧ MAt w5 x ∧ HasM (fun q => WB.heap.size ≤ q) x ∧ x.c = pM s ∧ RdS w5 R (mS s)) := by
      refine ⟨⟨⟨nB 1 (nx 1 s), nB 1 (nx 1 (nx 1 s)), 2, 0, 0, nB 1 (nx 1 (nx 1 (nx 1 s))), nB 3 (nx 1 (nx 1 (nx 1 (nx 1 s)))), 0, 0, 0, 0, 0, none, ba, pa, none, none, none, none, 0, 0, bl.length, bc, pl.length, pc, 0, 0, 0, 0, 0, 0, 0, 0⟩, [], bl, pl, [], [], [], []⟩, rfl, ⟨⟨rfl, rfl, rfl, rfl, rfl, rfl, by simp, by simp, by simp, ⟨.inl rfl, fun s h => by cases h⟩, hL1, hL2, (list_nilM _), (list_nilM _), ⟨.inl rfl⟩⟩, (nilM _), rfl⟩, NewM.has (x := ⟨⟨nB 1 (nx 1 s), nB 1 (nx 1 (nx 1 s)), 2, 0, 0, nB 1 (nx 1 (nx 1 (nx 1 s))), nB 3 (nx 1 (nx 1 (nx 1 (nx 1 s)))), 0, 0, 0, 0, 0, none, ba, pa, none, none, none, none, 0, 0, bl.length, bc, pl.length, pc, 0, 0, 0, 0, 0, 0, 0, 0⟩, [], bl, pl, [], [], [], []⟩) ⟨(fun _ _ e => by cases e), hF1, hF2, (fun _ _ e => by cases e), ⟨(fun _ _ e => by cases e), (fun p hp => by cases hp)⟩, ⟨(fun _ _ e => by cases e), (fun p hp => by cases hp)⟩, (fun _ _ e => by cases e)⟩, ?_, ?_⟩
      · simp only [MV.c, pM, HKI.out, hq1, hq2]; rfl
      · simp only [mS, HKI.out]
        exact hR5
    clear hq1 hq2 hL1 hL2 hF1 hF2
    have HQ : Hid (∀ q, q ≠ MB → ((((w5.setCell ⟨MB, 6, none⟩ (.int .i64 (nB 1 (nx 1 (nx 1 (nx 1 s)))))).setCell ⟨MB, 7, none⟩ (.int .i64 (nB 3 (nx 1 (nx 1 (nx 1 (nx 1 s))))))).setCell ⟨MB, 8, none⟩ (.slice ba bl.length bc)).setCell ⟨MB, 9, none⟩ (.slice pa pl.length pc)).heap[q]? = w5.heap[q]?) := by
      show ∀ _, _
      intro q hq1
      exact ((heap_setCell_other _ ⟨MB, 9, none⟩ q _ hq1).trans ((heap_setCell_other _ ⟨MB, 8, none⟩ q _ hq1).trans ((heap_setCell_other _ ⟨MB, 7, none⟩ q _ hq1).trans ((heap_setCell_other _ ⟨MB, 6, none⟩ q _ hq1).trans (rfl : w5.heap[q]? = w5.heap[q]?)))))
    have HZ : Hid (((((w5.setCell ⟨MB, 6, none⟩ (.int .i64 (nB 1 (nx 1 (nx 1 (nx 1 s)))))).setCell ⟨MB, 7, none⟩ (.int .i64 (nB 3 (nx 1 (nx 1 (nx 1 (nx 1 s))))))).setCell ⟨MB, 8, none⟩ (.slice ba bl.length bc)).setCell ⟨MB, 9, none⟩ (.slice pa pl.length pc)).heap.size = w5.heap.size) := by show _ = _; simp
    have HO : Hid (((((w5.setCell ⟨MB, 6, none⟩ (.int .i64 (nB 1 (nx 1 (nx 1 (nx 1 s)))))).setCell ⟨MB, 7, none⟩ (.int .i64 (nB 3 (nx 1 (nx 1 (nx 1 (nx 1 s))))))).setCell ⟨MB, 8, none⟩ (.slice ba bl.length bc)).setCell ⟨MB, 9, none⟩ (.slice pa pl.length pc)).os = w5.os ∧ ((((w5.setCell ⟨MB, 6, none⟩ (.int .i64 (nB 1 (nx 1 (nx 1 (nx 1 s)))))).setCell ⟨MB, 7, none⟩ (.int .i64 (nB 3 (nx 1 (nx 1 (nx 1 (nx 1 s))))))).setCell ⟨MB, 8, none⟩ (.slice ba bl.length bc)).setCell ⟨MB, 9, none⟩ (.slice pa pl.length pc)).tape = w5.tape ∧ ((((w5.setCell ⟨MB, 6, none⟩ (.int .i64 (nB 1 (nx 1 (nx 1 (nx 1 s)))))).setCell ⟨MB, 7, none⟩ (.int .i64 (nB 3 (nx 1 (nx 1 (nx 1 (nx 1 s))))))).setCell ⟨MB, 8, none⟩ (.slice ba bl.length bc)).setCell ⟨MB, 9, none⟩ (.slice pa pl.length pc)).output = w5.output) := ⟨rfl, rfl, rfl⟩
    go_upto_region 13 with fail
    generalize ((((w5.setCell ⟨MB, 6, none⟩ (.int .i64 (nB 1 (nx 1 (nx 1 (nx 1 s)))))).setCell ⟨MB, 7, none⟩ (.int .i64 (nB 3 (nx 1 (nx 1 (nx 1 (nx 1 s))))))).setCell ⟨MB, 8, none⟩ (.slice ba bl.length bc)).setCell ⟨MB, 9, none⟩ (.slice pa pl.length pc)) = VF at rF zF HQ HZ HO ⊢
    clear r5 z5 x6 y6 x7 y7 x8 y8 x9 y9
    go_wp2_with (first | refine wpList_load_row rfl 37 _ rfl MB rfl 37 #[.int .i64 (nB 1 (nx 1 s)), .int .i64 (nB 1 (nx 1 (nx 1 s))), .int .i64 2, .int .i64 0, .int .i64 0, .slice none 0 0, .int .i64 (nB 1 (nx 1 (nx 1 (nx 1 s)))), .int .i64 (nB 3 (nx 1 (nx 1 (nx 1 (nx 1 s))))), .slice ba bl.length bc, .slice pa pl.length pc, .int .i64 0, .int .i64 0, .slice none 0 0, .int .i64 0, .int .i64 0, .slice none 0 0, .slice none 0 0, .slice none 0 0, .int .i64 0] (0, 0) _ rF Try.underlying37 rfl sMsg' ?_ | refine wpList_store_row rfl 37 _ _ rfl w.heap.size #[.int .i64 (nB 1 (nx 1 s)), .int .i64 (nB 1 (nx 1 (nx 1 s))), .int .i64 2, .int .i64 0, .int .i64 0, .slice none 0 0, .int .i64 (nB 1 (nx 1 (nx 1 (nx 1 s)))), .int .i64 (nB 3 (nx 1 (nx 1 (nx 1 (nx 1 s))))), .slice ba bl.length bc, .slice pa pl.length pc, .int .i64 0, .int .i64 0, .slice none 0 0, .int .i64 0, .int .i64 0, .slice none 0 0, .slice none 0 0, .slice none 0 0, .int .i64 0] rfl rfl 37 _ zF sMsg' rfl (by simp [Value.oneCell']) ?_)
    obtain ⟨x, hxe, hxM, hxH, hxc, hxR⟩ := HX.out
    refine bodyPost_ret (v := .agg #[.int .i64 (nB 1 (nx 1 s)), .int .i64 (nB 1 (nx 1 (nx 1 s))), .int .i64 2, .int .i64 0, .int .i64 0, .slice none 0 0, .int .i64 (nB 1 (nx 1 (nx 1 (nx 1 s)))), .int .i64 (nB 3 (nx 1 (nx 1 (nx 1 (nx 1 s))))), .slice ba bl.length bc, .slice pa pl.length pc, .int .i64 0, .int .i64 0, .slice none 0 0, .int .i64 0, .int .i64 0, .slice none 0 0, .slice none 0 0, .slice none 0 0, .int .i64 0]) (results_cell_row (fn := Try.f36) (p := 2) (ty := 37) rfl _ _ w.heap.size 37 _ (0, 0) _ rfl (setRow_heap _ _ _ _ _ _ zF) Try.underlying37 rfl sMsg') rfl ⟨x, by rw [hxe], ?_, hxH.mono (fun q hq => by omega), hxc, ?_, ?_⟩
    · refine hxM.stays (G := fun q => WB.heap.size ≤ q) (fun q hq => ?_) hxH
      exact (setRow_other _ w.heap.size q _ (by omega)).trans (HQ.out q (by omega))
    · refine RdrAt.stays hxR (fun q hq => ?_)
      exact (setRow_other _ w.heap.size q _ (by omega)).trans (HQ.out q (by omega))
    · have hOw := hOw0.trans hO5
      refine ⟨HO.out.1.trans hOw.os, HO.out.2.1.trans hOw.tape, HO.out.2.2.trans hOw.output, by have := hOw.size; have := HZ.out; simp [World.setRow]; omega, fun q hq hn => ?_⟩
      exact ((setRow_other _ w.heap.size q _ (by omega)).trans (HQ.out q (by omega))).trans (hOw.block q hq hn)
  · rw [hk] at qM c2 ⊢
    have HKI : Hid (nB 1 s = 3) := hk
    clear hk
    go_wp2_with fail
    refine (slot_any R (nx 1 (nx 1 (nx 1 s))) WB hRM hgs3).mono ?_
    rintro e w5 ⟨da, dc, he, hS5, hf5, hR5, ho5⟩
    subst he
    dsimp only
    have r5 := (ho5.block _ hszM (by omega)).trans qM
    have z5 := (ho5.block _ (by omega) (by omega)).trans zM
    have hO5 := hOM.trans ho5
    have hne0 : w.heap.size ≠ MB := by omega
    have hneM := hne0
    have x10 : w5.cell? ⟨MB, 10, none⟩ = some (.int .i64 0) := cells_at r5 10 _ rfl
    have y10 := frozen_at r5 10
    have x11 : w5.cell? ⟨MB, 11, none⟩ = some (.int .i64 0) := cells_at r5 11 _ rfl
    have y11 := frozen_at r5 11
    have x12 : w5.cell? ⟨MB, 12, none⟩ = some (.slice none 0 0) := cells_at r5 12 _ rfl
    have y12 := frozen_at r5 12
    have rF : (((w5.setCell ⟨MB, 10, none⟩ (.int .i64 (nB 1 (nx 1 (nx 1 (nx 1 s)))))).setCell ⟨MB, 11, none⟩ (.int .i64 (nB 3 (nx 1 (nx 1 (nx 1 (nx 1 s))))))).setCell ⟨MB, 12, none⟩ (.slice da (tT 32 (nx 3 (nx 1 (nx 1 (nx 1 (nx 1 s)))))).length dc)).heap[MB]? = some (.cells #[.int .i64 (nB 1 (nx 1 s)), .int .i64 (nB 1 (nx 1 (nx 1 s))), .int .i64 3, .int .i64 0, .int .i64 0, .slice none 0 0, .int .i64 0, .int .i64 0, .slice none 0 0, .slice none 0 0, .int .i64 (nB 1 (nx 1 (nx 1 (nx 1 s)))), .int .i64 (nB 3 (nx 1 (nx 1 (nx 1 (nx 1 s))))), .slice da (tT 32 (nx 3 (nx 1 (nx 1 (nx 1 (nx 1 s)))))).length dc, .int .i64 0, .int .i64 0, .slice none 0 0, .slice none 0 0, .slice none 0 0, .int .i64 0] 37 (0, 0)) := by simpa using (heap_setCell_same _ _ 12 _ _ (.slice da (tT 32 (nx 3 (nx 1 (nx 1 (nx 1 (nx 1 s)))))).length dc) (heap_setCell_same _ _ 11 _ _ (.int .i64 (nB 3 (nx 1 (nx 1 (nx 1 (nx 1 s)))))) (heap_setCell_same _ _ 10 _ _ (.int .i64 (nB 1 (nx 1 (nx 1 (nx 1 s))))) r5)))
    have zF := (heap_far (j := 12) (v := .slice da (tT 32 (nx 3 (nx 1 (nx 1 (nx 1 (nx 1 s)))))).length dc) (heap_far (j := 11) (v := .int .i64 (nB 3 (nx 1 (nx 1 (nx 1 (nx 1 s)))))) (heap_far (j := 10) (v := .int .i64 (nB 1 (nx 1 (nx 1 (nx 1 s))))) z5 hneM) hneM) hneM)
    have HX : Hid (∃ x : MV, (.agg #[.int .i64 x.m.fr, .int .i64 x.m.tt, .int .i64 x.m.ki, .int .i64 x.m.bau, .int .i64 x.m.bnu, .slice x.m.bta x.m.btn x.m.btc, .int .i64 x.m.hau, .int .i64 x.m.hrd, .slice x.m.hba x.m.hbn x.m.hbc, .slice x.m.hpa x.m.hpn x.m.hpc, .int .i64 x.m.sau, .int .i64 x.m.srd, .slice x.m.sda x.m.sdn x.m.sdc, .int .i64 x.m.cau, .int .i64 x.m.crd, .slice x.m.cba x.m.cbn x.m.cbc, .slice x.m.cpa x.m.cpn x.m.cpc, .slice x.m.cva x.m.cvn x.m.cvc, .int .i64 x.m.ro] : Value) = .agg #[.int .i64 (nB 1 (nx 1 s)), .int .i64 (nB 1 (nx 1 (nx 1 s))), .int .i64 3, .int .i64 0, .int .i64 0, .slice none 0 0, .int .i64 0, .int .i64 0, .slice none 0 0, .slice none 0 0, .int .i64 (nB 1 (nx 1 (nx 1 (nx 1 s)))), .int .i64 (nB 3 (nx 1 (nx 1 (nx 1 (nx 1 s))))), .slice da (tT 32 (nx 3 (nx 1 (nx 1 (nx 1 (nx 1 s)))))).length dc, .int .i64 0, .int .i64 0, .slice none 0 0, .slice none 0 0, .slice none 0 0, .int .i64 0] ∧ MAt w5 x ∧ HasM (fun q => WB.heap.size ≤ q) x ∧ x.c = pM s ∧ RdS w5 R (mS s)) := by
      refine ⟨⟨⟨nB 1 (nx 1 s), nB 1 (nx 1 (nx 1 s)), 3, 0, 0, 0, 0, nB 1 (nx 1 (nx 1 (nx 1 s))), nB 3 (nx 1 (nx 1 (nx 1 (nx 1 s)))), 0, 0, 0, none, none, none, da, none, none, none, 0, 0, 0, 0, 0, 0, (tT 32 (nx 3 (nx 1 (nx 1 (nx 1 (nx 1 s)))))).length, dc, 0, 0, 0, 0, 0, 0⟩, [], [], [], [], [], tT 32 (nx 3 (nx 1 (nx 1 (nx 1 (nx 1 s))))), []⟩, rfl, ⟨⟨rfl, rfl, rfl, rfl, rfl, rfl, by simp, by simp, by have := tkT_len (n := 32) (l := (nx 3 (nx 1 (nx 1 (nx 1 (nx 1 s))))).1) (sh := (nx 3 (nx 1 (nx 1 (nx 1 (nx 1 s))))).2); show (tkT _ _ _).length ≤ _; omega, ⟨.inl rfl, fun s h => by cases h⟩, (list_nilM _), (list_nilM _), (list_nilM _), (list_nilM _), ⟨.inl rfl⟩⟩, hS5, rfl⟩, NewM.has (x := ⟨⟨nB 1 (nx 1 s), nB 1 (nx 1 (nx 1 s)), 3, 0, 0, 0, 0, nB 1 (nx 1 (nx 1 (nx 1 s))), nB 3 (nx 1 (nx 1 (nx 1 (nx 1 s)))), 0, 0, 0, none, none, none, da, none, none, none, 0, 0, 0, 0, 0, 0, (tT 32 (nx 3 (nx 1 (nx 1 (nx 1 (nx 1 s)))))).length, dc, 0, 0, 0, 0, 0, 0⟩, [], [], [], [], [], tT 32 (nx 3 (nx 1 (nx 1 (nx 1 (nx 1 s))))), []⟩) ⟨(fun _ _ e => by cases e), ⟨(fun _ _ e => by cases e), (fun p hp => by cases hp)⟩, ⟨(fun _ _ e => by cases e), (fun p hp => by cases hp)⟩, hf5, ⟨(fun _ _ e => by cases e), (fun p hp => by cases hp)⟩, ⟨(fun _ _ e => by cases e), (fun p hp => by cases hp)⟩, (fun _ _ e => by cases e)⟩, ?_, ?_⟩
      · simp only [MV.c, pM, HKI.out]; rfl
      · simp only [mS, HKI.out]
        exact hR5
    have HQ : Hid (∀ q, q ≠ MB → (((w5.setCell ⟨MB, 10, none⟩ (.int .i64 (nB 1 (nx 1 (nx 1 (nx 1 s)))))).setCell ⟨MB, 11, none⟩ (.int .i64 (nB 3 (nx 1 (nx 1 (nx 1 (nx 1 s))))))).setCell ⟨MB, 12, none⟩ (.slice da (tT 32 (nx 3 (nx 1 (nx 1 (nx 1 (nx 1 s)))))).length dc)).heap[q]? = w5.heap[q]?) := by
      show ∀ _, _
      intro q hq1
      exact ((heap_setCell_other _ ⟨MB, 12, none⟩ q _ hq1).trans ((heap_setCell_other _ ⟨MB, 11, none⟩ q _ hq1).trans ((heap_setCell_other _ ⟨MB, 10, none⟩ q _ hq1).trans (rfl : w5.heap[q]? = w5.heap[q]?))))
    have HZ : Hid ((((w5.setCell ⟨MB, 10, none⟩ (.int .i64 (nB 1 (nx 1 (nx 1 (nx 1 s)))))).setCell ⟨MB, 11, none⟩ (.int .i64 (nB 3 (nx 1 (nx 1 (nx 1 (nx 1 s))))))).setCell ⟨MB, 12, none⟩ (.slice da (tT 32 (nx 3 (nx 1 (nx 1 (nx 1 (nx 1 s)))))).length dc)).heap.size = w5.heap.size) := by show _ = _; simp
    have HO : Hid ((((w5.setCell ⟨MB, 10, none⟩ (.int .i64 (nB 1 (nx 1 (nx 1 (nx 1 s)))))).setCell ⟨MB, 11, none⟩ (.int .i64 (nB 3 (nx 1 (nx 1 (nx 1 (nx 1 s))))))).setCell ⟨MB, 12, none⟩ (.slice da (tT 32 (nx 3 (nx 1 (nx 1 (nx 1 (nx 1 s)))))).length dc)).os = w5.os ∧ (((w5.setCell ⟨MB, 10, none⟩ (.int .i64 (nB 1 (nx 1 (nx 1 (nx 1 s)))))).setCell ⟨MB, 11, none⟩ (.int .i64 (nB 3 (nx 1 (nx 1 (nx 1 (nx 1 s))))))).setCell ⟨MB, 12, none⟩ (.slice da (tT 32 (nx 3 (nx 1 (nx 1 (nx 1 (nx 1 s)))))).length dc)).tape = w5.tape ∧ (((w5.setCell ⟨MB, 10, none⟩ (.int .i64 (nB 1 (nx 1 (nx 1 (nx 1 s)))))).setCell ⟨MB, 11, none⟩ (.int .i64 (nB 3 (nx 1 (nx 1 (nx 1 (nx 1 s))))))).setCell ⟨MB, 12, none⟩ (.slice da (tT 32 (nx 3 (nx 1 (nx 1 (nx 1 (nx 1 s)))))).length dc)).output = w5.output) := ⟨rfl, rfl, rfl⟩
    go_upto_region 13 with fail
    generalize (((w5.setCell ⟨MB, 10, none⟩ (.int .i64 (nB 1 (nx 1 (nx 1 (nx 1 s)))))).setCell ⟨MB, 11, none⟩ (.int .i64 (nB 3 (nx 1 (nx 1 (nx 1 (nx 1 s))))))).setCell ⟨MB, 12, none⟩ (.slice da (tT 32 (nx 3 (nx 1 (nx 1 (nx 1 (nx 1 s)))))).length dc)) = VF at rF zF HQ HZ HO ⊢
    clear r5 z5 x10 y10 x11 y11 x12 y12
    go_wp2_with (first | refine wpList_load_row rfl 37 _ rfl MB rfl 37 #[.int .i64 (nB 1 (nx 1 s)), .int .i64 (nB 1 (nx 1 (nx 1 s))), .int .i64 3, .int .i64 0, .int .i64 0, .slice none 0 0, .int .i64 0, .int .i64 0, .slice none 0 0, .slice none 0 0, .int .i64 (nB 1 (nx 1 (nx 1 (nx 1 s)))), .int .i64 (nB 3 (nx 1 (nx 1 (nx 1 (nx 1 s))))), .slice da (tT 32 (nx 3 (nx 1 (nx 1 (nx 1 (nx 1 s)))))).length dc, .int .i64 0, .int .i64 0, .slice none 0 0, .slice none 0 0, .slice none 0 0, .int .i64 0] (0, 0) _ rF Try.underlying37 rfl sMsg' ?_ | refine wpList_store_row rfl 37 _ _ rfl w.heap.size #[.int .i64 (nB 1 (nx 1 s)), .int .i64 (nB 1 (nx 1 (nx 1 s))), .int .i64 3, .int .i64 0, .int .i64 0, .slice none 0 0, .int .i64 0, .int .i64 0, .slice none 0 0, .slice none 0 0, .int .i64 (nB 1 (nx 1 (nx 1 (nx 1 s)))), .int .i64 (nB 3 (nx 1 (nx 1 (nx 1 (nx 1 s))))), .slice da (tT 32 (nx 3 (nx 1 (nx 1 (nx 1 (nx 1 s)))))).length dc, .int .i64 0, .int .i64 0, .slice none 0 0, .slice none 0 0, .slice none 0 0, .int .i64 0] rfl rfl 37 _ zF sMsg' rfl (by simp [Value.oneCell']) ?_)
    obtain ⟨x, hxe, hxM, hxH, hxc, hxR⟩ := HX.out
    refine bodyPost_ret (v := .agg #[.int .i64 (nB 1 (nx 1 s)), .int .i64 (nB 1 (nx 1 (nx 1 s))), .int .i64 3, .int .i64 0, .int .i64 0, .slice none 0 0, .int .i64 0, .int .i64 0, .slice none 0 0, .slice none 0 0, .int .i64 (nB 1 (nx 1 (nx 1 (nx 1 s)))), .int .i64 (nB 3 (nx 1 (nx 1 (nx 1 (nx 1 s))))), .slice da (tT 32 (nx 3 (nx 1 (nx 1 (nx 1 (nx 1 s)))))).length dc, .int .i64 0, .int .i64 0, .slice none 0 0, .slice none 0 0, .slice none 0 0, .int .i64 0]) (results_cell_row (fn := Try.f36) (p := 2) (ty := 37) rfl _ _ w.heap.size 37 _ (0, 0) _ rfl (setRow_heap _ _ _ _ _ _ zF) Try.underlying37 rfl sMsg') rfl ⟨x, by rw [hxe], ?_, hxH.mono (fun q hq => by omega), hxc, ?_, ?_⟩
    · refine hxM.stays (G := fun q => WB.heap.size ≤ q) (fun q hq => ?_) hxH
      exact (setRow_other _ w.heap.size q _ (by omega)).trans (HQ.out q (by omega))
    · refine RdrAt.stays hxR (fun q hq => ?_)
      exact (setRow_other _ w.heap.size q _ (by omega)).trans (HQ.out q (by omega))
    · have hOw := hOw0.trans hO5
      refine ⟨HO.out.1.trans hOw.os, HO.out.2.1.trans hOw.tape, HO.out.2.2.trans hOw.output, by have := hOw.size; have := HZ.out; simp [World.setRow]; omega, fun q hq hn => ?_⟩
      exact ((setRow_other _ w.heap.size q _ (by omega)).trans (HQ.out q (by omega))).trans (hOw.block q hq hn)
  · rw [hk] at qM c2 ⊢
    have HKI : Hid (nB 1 s = 4) := hk
    clear hk
    go_wp2_with fail
    refine (cert_rd R (nx 1 (nx 1 (nx 1 s))) WB hRM hgs3).mono ?_
    rintro e w5 ⟨ba, bc, bl, pa, pc, pl, va, vc, he, hq1, hq2, hL1, hL2, hF1, hF2, hI5, hf5, hR5, ho5⟩
    subst he
    dsimp only
    have r5 := (ho5.block _ hszM (by omega)).trans qM
    have z5 := (ho5.block _ (by omega) (by omega)).trans zM
    have hO5 := hOM.trans ho5
    have hne0 : w.heap.size ≠ MB := by omega
    have hneM := hne0
    have x13 : w5.cell? ⟨MB, 13, none⟩ = some (.int .i64 0) := cells_at r5 13 _ rfl
    have y13 := frozen_at r5 13
    have x14 : w5.cell? ⟨MB, 14, none⟩ = some (.int .i64 0) := cells_at r5 14 _ rfl
    have y14 := frozen_at r5 14
    have x15 : w5.cell? ⟨MB, 15, none⟩ = some (.slice none 0 0) := cells_at r5 15 _ rfl
    have y15 := frozen_at r5 15
    have x16 : w5.cell? ⟨MB, 16, none⟩ = some (.slice none 0 0) := cells_at r5 16 _ rfl
    have y16 := frozen_at r5 16
    have x17 : w5.cell? ⟨MB, 17, none⟩ = some (.slice none 0 0) := cells_at r5 17 _ rfl
    have y17 := frozen_at r5 17
    have rF : (((((w5.setCell ⟨MB, 13, none⟩ (.int .i64 (nB 1 (nx 1 (nx 1 (nx 1 s)))))).setCell ⟨MB, 14, none⟩ (.int .i64 (nB 3 (nx 1 (nx 1 (nx 1 (nx 1 s))))))).setCell ⟨MB, 15, none⟩ (.slice ba bl.length bc)).setCell ⟨MB, 16, none⟩ (.slice pa pl.length pc)).setCell ⟨MB, 17, none⟩ (.slice va (cN (nx 1 (nx 1 (nx 1 s)))) vc)).heap[MB]? = some (.cells #[.int .i64 (nB 1 (nx 1 s)), .int .i64 (nB 1 (nx 1 (nx 1 s))), .int .i64 4, .int .i64 0, .int .i64 0, .slice none 0 0, .int .i64 0, .int .i64 0, .slice none 0 0, .slice none 0 0, .int .i64 0, .int .i64 0, .slice none 0 0, .int .i64 (nB 1 (nx 1 (nx 1 (nx 1 s)))), .int .i64 (nB 3 (nx 1 (nx 1 (nx 1 (nx 1 s))))), .slice ba bl.length bc, .slice pa pl.length pc, .slice va (cN (nx 1 (nx 1 (nx 1 s)))) vc, .int .i64 0] 37 (0, 0)) := by simpa using (heap_setCell_same _ _ 17 _ _ (.slice va (cN (nx 1 (nx 1 (nx 1 s)))) vc) (heap_setCell_same _ _ 16 _ _ (.slice pa pl.length pc) (heap_setCell_same _ _ 15 _ _ (.slice ba bl.length bc) (heap_setCell_same _ _ 14 _ _ (.int .i64 (nB 3 (nx 1 (nx 1 (nx 1 (nx 1 s)))))) (heap_setCell_same _ _ 13 _ _ (.int .i64 (nB 1 (nx 1 (nx 1 (nx 1 s))))) r5)))))
    have zF := (heap_far (j := 17) (v := .slice va (cN (nx 1 (nx 1 (nx 1 s)))) vc) (heap_far (j := 16) (v := .slice pa pl.length pc) (heap_far (j := 15) (v := .slice ba bl.length bc) (heap_far (j := 14) (v := .int .i64 (nB 3 (nx 1 (nx 1 (nx 1 (nx 1 s)))))) (heap_far (j := 13) (v := .int .i64 (nB 1 (nx 1 (nx 1 (nx 1 s))))) z5 hneM) hneM) hneM) hneM) hneM)
    have HX : Hid (∃ x : MV, (.agg #[.int .i64 x.m.fr, .int .i64 x.m.tt, .int .i64 x.m.ki, .int .i64 x.m.bau, .int .i64 x.m.bnu, .slice x.m.bta x.m.btn x.m.btc, .int .i64 x.m.hau, .int .i64 x.m.hrd, .slice x.m.hba x.m.hbn x.m.hbc, .slice x.m.hpa x.m.hpn x.m.hpc, .int .i64 x.m.sau, .int .i64 x.m.srd, .slice x.m.sda x.m.sdn x.m.sdc, .int .i64 x.m.cau, .int .i64 x.m.crd, .slice x.m.cba x.m.cbn x.m.cbc, .slice x.m.cpa x.m.cpn x.m.cpc, .slice x.m.cva x.m.cvn x.m.cvc, .int .i64 x.m.ro] : Value) = .agg #[.int .i64 (nB 1 (nx 1 s)), .int .i64 (nB 1 (nx 1 (nx 1 s))), .int .i64 4, .int .i64 0, .int .i64 0, .slice none 0 0, .int .i64 0, .int .i64 0, .slice none 0 0, .slice none 0 0, .int .i64 0, .int .i64 0, .slice none 0 0, .int .i64 (nB 1 (nx 1 (nx 1 (nx 1 s)))), .int .i64 (nB 3 (nx 1 (nx 1 (nx 1 (nx 1 s))))), .slice ba bl.length bc, .slice pa pl.length pc, .slice va (cN (nx 1 (nx 1 (nx 1 s)))) vc, .int .i64 0] ∧ MAt w5 x ∧ HasM (fun q => WB.heap.size ≤ q) x ∧ x.c = pM s ∧ RdS w5 R (mS s)) := by
      refine ⟨⟨⟨nB 1 (nx 1 s), nB 1 (nx 1 (nx 1 s)), 4, 0, 0, 0, 0, 0, 0, nB 1 (nx 1 (nx 1 (nx 1 s))), nB 3 (nx 1 (nx 1 (nx 1 (nx 1 s)))), 0, none, none, none, none, ba, pa, va, 0, 0, 0, 0, 0, 0, 0, 0, bl.length, bc, pl.length, pc, cN (nx 1 (nx 1 (nx 1 s))), vc⟩, [], [], [], bl, pl, [], nV (nx 1 (hS4 (nx 1 (nx 1 (nx 1 s))))) (cN (nx 1 (nx 1 (nx 1 s))))⟩, rfl, ⟨⟨rfl, rfl, rfl, rfl, rfl, (nV_length _ _).symm, by simp, by rw [nV_length]; have := hn4; omega, by simp, ⟨.inl rfl, fun s h => by cases h⟩, (list_nilM _), (list_nilM _), hL1, hL2, hI5⟩, (nilM _), rfl⟩, NewM.has (x := ⟨⟨nB 1 (nx 1 s), nB 1 (nx 1 (nx 1 s)), 4, 0, 0, 0, 0, 0, 0, nB 1 (nx 1 (nx 1 (nx 1 s))), nB 3 (nx 1 (nx 1 (nx 1 (nx 1 s)))), 0, none, none, none, none, ba, pa, va, 0, 0, 0, 0, 0, 0, 0, 0, bl.length, bc, pl.length, pc, cN (nx 1 (nx 1 (nx 1 s))), vc⟩, [], [], [], bl, pl, [], nV (nx 1 (hS4 (nx 1 (nx 1 (nx 1 s))))) (cN (nx 1 (nx 1 (nx 1 s))))⟩) ⟨(fun _ _ e => by cases e), ⟨(fun _ _ e => by cases e), (fun p hp => by cases hp)⟩, ⟨(fun _ _ e => by cases e), (fun p hp => by cases hp)⟩, (fun _ _ e => by cases e), hF1, hF2, hf5⟩, ?_, ?_⟩
      · simp only [MV.c, pM, HKI.out, hq1, hq2]; rfl
      · simp only [mS, HKI.out]
        exact hR5
    clear hq1 hq2 hL1 hL2 hF1 hF2 hI5
    have HQ : Hid (∀ q, q ≠ MB → (((((w5.setCell ⟨MB, 13, none⟩ (.int .i64 (nB 1 (nx 1 (nx 1 (nx 1 s)))))).setCell ⟨MB, 14, none⟩ (.int .i64 (nB 3 (nx 1 (nx 1 (nx 1 (nx 1 s))))))).setCell ⟨MB, 15, none⟩ (.slice ba bl.length bc)).setCell ⟨MB, 16, none⟩ (.slice pa pl.length pc)).setCell ⟨MB, 17, none⟩ (.slice va (cN (nx 1 (nx 1 (nx 1 s)))) vc)).heap[q]? = w5.heap[q]?) := by
      show ∀ _, _
      intro q hq1
      exact ((heap_setCell_other _ ⟨MB, 17, none⟩ q _ hq1).trans ((heap_setCell_other _ ⟨MB, 16, none⟩ q _ hq1).trans ((heap_setCell_other _ ⟨MB, 15, none⟩ q _ hq1).trans ((heap_setCell_other _ ⟨MB, 14, none⟩ q _ hq1).trans ((heap_setCell_other _ ⟨MB, 13, none⟩ q _ hq1).trans (rfl : w5.heap[q]? = w5.heap[q]?))))))
    have HZ : Hid ((((((w5.setCell ⟨MB, 13, none⟩ (.int .i64 (nB 1 (nx 1 (nx 1 (nx 1 s)))))).setCell ⟨MB, 14, none⟩ (.int .i64 (nB 3 (nx 1 (nx 1 (nx 1 (nx 1 s))))))).setCell ⟨MB, 15, none⟩ (.slice ba bl.length bc)).setCell ⟨MB, 16, none⟩ (.slice pa pl.length pc)).setCell ⟨MB, 17, none⟩ (.slice va (cN (nx 1 (nx 1 (nx 1 s)))) vc)).heap.size = w5.heap.size) := by show _ = _; simp
    have HO : Hid ((((((w5.setCell ⟨MB, 13, none⟩ (.int .i64 (nB 1 (nx 1 (nx 1 (nx 1 s)))))).setCell ⟨MB, 14, none⟩ (.int .i64 (nB 3 (nx 1 (nx 1 (nx 1 (nx 1 s))))))).setCell ⟨MB, 15, none⟩ (.slice ba bl.length bc)).setCell ⟨MB, 16, none⟩ (.slice pa pl.length pc)).setCell ⟨MB, 17, none⟩ (.slice va (cN (nx 1 (nx 1 (nx 1 s)))) vc)).os = w5.os ∧ (((((w5.setCell ⟨MB, 13, none⟩ (.int .i64 (nB 1 (nx 1 (nx 1 (nx 1 s)))))).setCell ⟨MB, 14, none⟩ (.int .i64 (nB 3 (nx 1 (nx 1 (nx 1 (nx 1 s))))))).setCell ⟨MB, 15, none⟩ (.slice ba bl.length bc)).setCell ⟨MB, 16, none⟩ (.slice pa pl.length pc)).setCell ⟨MB, 17, none⟩ (.slice va (cN (nx 1 (nx 1 (nx 1 s)))) vc)).tape = w5.tape ∧ (((((w5.setCell ⟨MB, 13, none⟩ (.int .i64 (nB 1 (nx 1 (nx 1 (nx 1 s)))))).setCell ⟨MB, 14, none⟩ (.int .i64 (nB 3 (nx 1 (nx 1 (nx 1 (nx 1 s))))))).setCell ⟨MB, 15, none⟩ (.slice ba bl.length bc)).setCell ⟨MB, 16, none⟩ (.slice pa pl.length pc)).setCell ⟨MB, 17, none⟩ (.slice va (cN (nx 1 (nx 1 (nx 1 s)))) vc)).output = w5.output) := ⟨rfl, rfl, rfl⟩
    go_upto_region 13 with fail
    generalize (((((w5.setCell ⟨MB, 13, none⟩ (.int .i64 (nB 1 (nx 1 (nx 1 (nx 1 s)))))).setCell ⟨MB, 14, none⟩ (.int .i64 (nB 3 (nx 1 (nx 1 (nx 1 (nx 1 s))))))).setCell ⟨MB, 15, none⟩ (.slice ba bl.length bc)).setCell ⟨MB, 16, none⟩ (.slice pa pl.length pc)).setCell ⟨MB, 17, none⟩ (.slice va (cN (nx 1 (nx 1 (nx 1 s)))) vc)) = VF at rF zF HQ HZ HO ⊢
    clear r5 z5 x13 y13 x14 y14 x15 y15 x16 y16 x17 y17
    go_wp2_with (first | refine wpList_load_row rfl 37 _ rfl MB rfl 37 #[.int .i64 (nB 1 (nx 1 s)), .int .i64 (nB 1 (nx 1 (nx 1 s))), .int .i64 4, .int .i64 0, .int .i64 0, .slice none 0 0, .int .i64 0, .int .i64 0, .slice none 0 0, .slice none 0 0, .int .i64 0, .int .i64 0, .slice none 0 0, .int .i64 (nB 1 (nx 1 (nx 1 (nx 1 s)))), .int .i64 (nB 3 (nx 1 (nx 1 (nx 1 (nx 1 s))))), .slice ba bl.length bc, .slice pa pl.length pc, .slice va (cN (nx 1 (nx 1 (nx 1 s)))) vc, .int .i64 0] (0, 0) _ rF Try.underlying37 rfl sMsg' ?_ | refine wpList_store_row rfl 37 _ _ rfl w.heap.size #[.int .i64 (nB 1 (nx 1 s)), .int .i64 (nB 1 (nx 1 (nx 1 s))), .int .i64 4, .int .i64 0, .int .i64 0, .slice none 0 0, .int .i64 0, .int .i64 0, .slice none 0 0, .slice none 0 0, .int .i64 0, .int .i64 0, .slice none 0 0, .int .i64 (nB 1 (nx 1 (nx 1 (nx 1 s)))), .int .i64 (nB 3 (nx 1 (nx 1 (nx 1 (nx 1 s))))), .slice ba bl.length bc, .slice pa pl.length pc, .slice va (cN (nx 1 (nx 1 (nx 1 s)))) vc, .int .i64 0] rfl rfl 37 _ zF sMsg' rfl (by simp [Value.oneCell']) ?_)
    obtain ⟨x, hxe, hxM, hxH, hxc, hxR⟩ := HX.out
    refine bodyPost_ret (v := .agg #[.int .i64 (nB 1 (nx 1 s)), .int .i64 (nB 1 (nx 1 (nx 1 s))), .int .i64 4, .int .i64 0, .int .i64 0, .slice none 0 0, .int .i64 0, .int .i64 0, .slice none 0 0, .slice none 0 0, .int .i64 0, .int .i64 0, .slice none 0 0, .int .i64 (nB 1 (nx 1 (nx 1 (nx 1 s)))), .int .i64 (nB 3 (nx 1 (nx 1 (nx 1 (nx 1 s))))), .slice ba bl.length bc, .slice pa pl.length pc, .slice va (cN (nx 1 (nx 1 (nx 1 s)))) vc, .int .i64 0]) (results_cell_row (fn := Try.f36) (p := 2) (ty := 37) rfl _ _ w.heap.size 37 _ (0, 0) _ rfl (setRow_heap _ _ _ _ _ _ zF) Try.underlying37 rfl sMsg') rfl ⟨x, by rw [hxe], ?_, hxH.mono (fun q hq => by omega), hxc, ?_, ?_⟩
    · refine hxM.stays (G := fun q => WB.heap.size ≤ q) (fun q hq => ?_) hxH
      exact (setRow_other _ w.heap.size q _ (by omega)).trans (HQ.out q (by omega))
    · refine RdrAt.stays hxR (fun q hq => ?_)
      exact (setRow_other _ w.heap.size q _ (by omega)).trans (HQ.out q (by omega))
    · have hOw := hOw0.trans hO5
      refine ⟨HO.out.1.trans hOw.os, HO.out.2.1.trans hOw.tape, HO.out.2.2.trans hOw.output, by have := hOw.size; have := HZ.out; simp [World.setRow]; omega, fun q hq hn => ?_⟩
      exact ((setRow_other _ w.heap.size q _ (by omega)).trans (HQ.out q (by omega))).trans (hOw.block q hq hn)
  · rw [hk] at qM c2 ⊢
    have HKI : Hid (nB 1 s = 5) := hk
    clear hk
    go_wp2_with fail
    refine (round_st R (nx 1 (nx 1 (nx 1 s))) WB hRM hgs3).mono ?_
    rintro e w5 ⟨he, hR5, ho5⟩
    subst he
    dsimp only
    have r5 := (ho5.block _ hszM (by omega)).trans qM
    have z5 := (ho5.block _ (by omega) (by omega)).trans zM
    have hO5 := hOM.trans ho5
    have hne0 : w.heap.size ≠ MB := by omega
    have hneM := hne0
    have x18 : w5.cell? ⟨MB, 18, none⟩ = some (.int .i64 0) := cells_at r5 18 _ rfl
    have y18 := frozen_at r5 18
    have rF : (w5.setCell ⟨MB, 18, none⟩ (.int .i64 (nB 3 (nx 1 (nx 1 (nx 1 s)))))).heap[MB]? = some (.cells #[.int .i64 (nB 1 (nx 1 s)), .int .i64 (nB 1 (nx 1 (nx 1 s))), .int .i64 5, .int .i64 0, .int .i64 0, .slice none 0 0, .int .i64 0, .int .i64 0, .slice none 0 0, .slice none 0 0, .int .i64 0, .int .i64 0, .slice none 0 0, .int .i64 0, .int .i64 0, .slice none 0 0, .slice none 0 0, .slice none 0 0, .int .i64 (nB 3 (nx 1 (nx 1 (nx 1 s))))] 37 (0, 0)) := by simpa using (heap_setCell_same _ _ 18 _ _ (.int .i64 (nB 3 (nx 1 (nx 1 (nx 1 s))))) r5)
    have zF := (heap_far (j := 18) (v := .int .i64 (nB 3 (nx 1 (nx 1 (nx 1 s))))) z5 hneM)
    have HX : Hid (∃ x : MV, (.agg #[.int .i64 x.m.fr, .int .i64 x.m.tt, .int .i64 x.m.ki, .int .i64 x.m.bau, .int .i64 x.m.bnu, .slice x.m.bta x.m.btn x.m.btc, .int .i64 x.m.hau, .int .i64 x.m.hrd, .slice x.m.hba x.m.hbn x.m.hbc, .slice x.m.hpa x.m.hpn x.m.hpc, .int .i64 x.m.sau, .int .i64 x.m.srd, .slice x.m.sda x.m.sdn x.m.sdc, .int .i64 x.m.cau, .int .i64 x.m.crd, .slice x.m.cba x.m.cbn x.m.cbc, .slice x.m.cpa x.m.cpn x.m.cpc, .slice x.m.cva x.m.cvn x.m.cvc, .int .i64 x.m.ro] : Value) = .agg #[.int .i64 (nB 1 (nx 1 s)), .int .i64 (nB 1 (nx 1 (nx 1 s))), .int .i64 5, .int .i64 0, .int .i64 0, .slice none 0 0, .int .i64 0, .int .i64 0, .slice none 0 0, .slice none 0 0, .int .i64 0, .int .i64 0, .slice none 0 0, .int .i64 0, .int .i64 0, .slice none 0 0, .slice none 0 0, .slice none 0 0, .int .i64 (nB 3 (nx 1 (nx 1 (nx 1 s))))] ∧ MAt w5 x ∧ HasM (fun q => WB.heap.size ≤ q) x ∧ x.c = pM s ∧ RdS w5 R (mS s)) := by
      refine ⟨⟨⟨nB 1 (nx 1 s), nB 1 (nx 1 (nx 1 s)), 5, 0, 0, 0, 0, 0, 0, 0, 0, nB 3 (nx 1 (nx 1 (nx 1 s))), none, none, none, none, none, none, none, 0, 0, 0, 0, 0, 0, 0, 0, 0, 0, 0, 0, 0, 0⟩, [], [], [], [], [], [], []⟩, rfl, ⟨⟨rfl, rfl, rfl, rfl, rfl, rfl, by simp, by simp, by simp, ⟨.inl rfl, fun s h => by cases h⟩, (list_nilM _), (list_nilM _), (list_nilM _), (list_nilM _), ⟨.inl rfl⟩⟩, (nilM _), rfl⟩, NewM.has (x := ⟨⟨nB 1 (nx 1 s), nB 1 (nx 1 (nx 1 s)), 5, 0, 0, 0, 0, 0, 0, 0, 0, nB 3 (nx 1 (nx 1 (nx 1 s))), none, none, none, none, none, none, none, 0, 0, 0, 0, 0, 0, 0, 0, 0, 0, 0, 0, 0, 0⟩, [], [], [], [], [], [], []⟩) ⟨(fun _ _ e => by cases e), ⟨(fun _ _ e => by cases e), (fun p hp => by cases hp)⟩, ⟨(fun _ _ e => by cases e), (fun p hp => by cases hp)⟩, (fun _ _ e => by cases e), ⟨(fun _ _ e => by cases e), (fun p hp => by cases hp)⟩, ⟨(fun _ _ e => by cases e), (fun p hp => by cases hp)⟩, (fun _ _ e => by cases e)⟩, ?_, ?_⟩
      · simp only [MV.c, pM, HKI.out]; rfl
      · simp only [mS, HKI.out]
        exact hR5
    have HQ : Hid (∀ q, q ≠ MB → (w5.setCell ⟨MB, 18, none⟩ (.int .i64 (nB 3 (nx 1 (nx 1 (nx 1 s)))))).heap[q]? = w5.heap[q]?) := by
      show ∀ _, _
      intro q hq1
      exact ((heap_setCell_other _ ⟨MB, 18, none⟩ q _ hq1).trans (rfl : w5.heap[q]? = w5.heap[q]?))
    have HZ : Hid ((w5.setCell ⟨MB, 18, none⟩ (.int .i64 (nB 3 (nx 1 (nx 1 (nx 1 s)))))).heap.size = w5.heap.size) := by show _ = _; simp
    have HO : Hid ((w5.setCell ⟨MB, 18, none⟩ (.int .i64 (nB 3 (nx 1 (nx 1 (nx 1 s)))))).os = w5.os ∧ (w5.setCell ⟨MB, 18, none⟩ (.int .i64 (nB 3 (nx 1 (nx 1 (nx 1 s)))))).tape = w5.tape ∧ (w5.setCell ⟨MB, 18, none⟩ (.int .i64 (nB 3 (nx 1 (nx 1 (nx 1 s)))))).output = w5.output) := ⟨rfl, rfl, rfl⟩
    go_upto_region 13 with fail
    generalize (w5.setCell ⟨MB, 18, none⟩ (.int .i64 (nB 3 (nx 1 (nx 1 (nx 1 s)))))) = VF at rF zF HQ HZ HO ⊢
    clear r5 z5 x18 y18
    go_wp2_with (first | refine wpList_load_row rfl 37 _ rfl MB rfl 37 #[.int .i64 (nB 1 (nx 1 s)), .int .i64 (nB 1 (nx 1 (nx 1 s))), .int .i64 5, .int .i64 0, .int .i64 0, .slice none 0 0, .int .i64 0, .int .i64 0, .slice none 0 0, .slice none 0 0, .int .i64 0, .int .i64 0, .slice none 0 0, .int .i64 0, .int .i64 0, .slice none 0 0, .slice none 0 0, .slice none 0 0, .int .i64 (nB 3 (nx 1 (nx 1 (nx 1 s))))] (0, 0) _ rF Try.underlying37 rfl sMsg' ?_ | refine wpList_store_row rfl 37 _ _ rfl w.heap.size #[.int .i64 (nB 1 (nx 1 s)), .int .i64 (nB 1 (nx 1 (nx 1 s))), .int .i64 5, .int .i64 0, .int .i64 0, .slice none 0 0, .int .i64 0, .int .i64 0, .slice none 0 0, .slice none 0 0, .int .i64 0, .int .i64 0, .slice none 0 0, .int .i64 0, .int .i64 0, .slice none 0 0, .slice none 0 0, .slice none 0 0, .int .i64 (nB 3 (nx 1 (nx 1 (nx 1 s))))] rfl rfl 37 _ zF sMsg' rfl (by simp [Value.oneCell']) ?_)
    obtain ⟨x, hxe, hxM, hxH, hxc, hxR⟩ := HX.out
    refine bodyPost_ret (v := .agg #[.int .i64 (nB 1 (nx 1 s)), .int .i64 (nB 1 (nx 1 (nx 1 s))), .int .i64 5, .int .i64 0, .int .i64 0, .slice none 0 0, .int .i64 0, .int .i64 0, .slice none 0 0, .slice none 0 0, .int .i64 0, .int .i64 0, .slice none 0 0, .int .i64 0, .int .i64 0, .slice none 0 0, .slice none 0 0, .slice none 0 0, .int .i64 (nB 3 (nx 1 (nx 1 (nx 1 s))))]) (results_cell_row (fn := Try.f36) (p := 2) (ty := 37) rfl _ _ w.heap.size 37 _ (0, 0) _ rfl (setRow_heap _ _ _ _ _ _ zF) Try.underlying37 rfl sMsg') rfl ⟨x, by rw [hxe], ?_, hxH.mono (fun q hq => by omega), hxc, ?_, ?_⟩
    · refine hxM.stays (G := fun q => WB.heap.size ≤ q) (fun q hq => ?_) hxH
      exact (setRow_other _ w.heap.size q _ (by omega)).trans (HQ.out q (by omega))
    · refine RdrAt.stays hxR (fun q hq => ?_)
      exact (setRow_other _ w.heap.size q _ (by omega)).trans (HQ.out q (by omega))
    · have hOw := hOw0.trans hO5
      refine ⟨HO.out.1.trans hOw.os, HO.out.2.1.trans hOw.tape, HO.out.2.2.trans hOw.output, by have := hOw.size; have := HZ.out; simp [World.setRow]; omega, fun q hq hn => ?_⟩
      exact ((setRow_other _ w.heap.size q _ (by omega)).trans (HQ.out q (by omega))).trans (hOw.block q hq hn)
end Go.Proofs.Ythijfhbmkpfnkaa
