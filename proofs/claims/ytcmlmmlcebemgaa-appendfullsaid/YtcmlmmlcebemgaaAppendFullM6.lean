/- wire.checkDigests, for every list. -/
import Derived.Test.YtcmlmmlcebemgaaAppD
import Derived.Test.YtcmlmmlcebemgaaCertF
import Derived.Test.YtcmlmmlcebemgaaAppendFullM0
import Derived.Test.YtcmlmmlcebemgaaMsgF
import Derived.Test.YtcmlmmlcebemgaaCheckM
import Derived.Test.YtcmlmmlcebemgaaHeadK
import Derived.Test.YtcmlmmlcebemgaaBunF
import Derived.Test.YtcmlmmlcebemgaaStrs
import Derived.Test.YtcmlmmlcebemgaaDigs
namespace Go.Proofs.Ytcmlmmlcebemgaa
open Go.RowKit

/-- P2.6: the bytes of a header. -/
def headB (au rd : Int) (bl pl : List Part) : List Int := [au] ++ rd3 rd ++ digsB bl ++ digsB pl
set_option maxRecDepth 100000 in
set_option maxHeartbeats 1000000 in
theorem appendHeader_w (base : Nat) (v : Value) (k : Nat) (bs : List Int) (au rd : Int) (ba : Option Addr) (bn bc : Nat) (bl : List Part) (pa : Option Addr) (pn pc : Nat) (pl : List Part) (w : World) (ha : 0 ≤ au ∧ au < 4) (hr : 0 ≤ rd ∧ rd ≤ 1048576) (hbn : bn = bl.length) (hpn : pn = pl.length) (hbl : bl.length ≤ 4) (hpl : pl.length ≤ 4) (hb32 : ∀ p ∈ bl, p.bs.length = 32) (hp32 : ∀ p ∈ pl, p.bs.length = 32)
    (hLb : ListAt w ba bc bl) (hOb : OffW w v ba bl) (hLp : ListAt w pa pc pl) (hOp : OffW w v pa pl)
    (ho : w.ownsRow base 5 1 v k (ub bs)) (hB : base ≤ w.heap.size) (hk : k ≤ 80000) :
    Calls Try.prog 37 #[v, .agg #[.int .i64 au, .int .i64 rd, .slice ba bn bc, .slice pa pn pc]] w fun e w' => ∃ v', e = .returned v' ∧ w'.ownsRow base 5 1 v' (k + (headB au rd bl pl).length) (ub (bs ++ headB au rd bl pl)) ∧ Grew w v w' v' := by
  subst hbn hpn
  obtain ⟨i, hi, hz0, hz1, hz2⟩ := info_parts infoU8
  obtain ⟨ha0, ha1⟩ := ha
  have hvne : v.ownBlock ≠ some w.heap.size := fun e => by have := (ho.lt _ e).2; omega
  go_enter Try.func37, Try.ntmps37
  go_wp2_with (at_builtin; refine wpList_append_own_at _ rfl _ _ 26 rfl base 5 i (.int .u8 0) 1 1 Try.underlying26 hi hz0 hz1 hz2 rfl (by decide) _ k _ rfl (World.ownsRow.alloc (World.ownsRow.alloc ho _) _) ⟨w.heap.size + 1, 0, none⟩ 1 1 [.int .u8 au] rfl rfl (by have := cells_new (w.alloc (.cells #[.int .i64 au, .int .i64 rd, .slice ba bl.length bc, .slice pa pl.length pc] 40)) [.int .u8 au] 5; rw [size_alloc] at this; exact this) (u8_one [_]) (by unfold maxLen; omega) (by omega) (le_alloc (le_alloc hB _) _) ?_; intro v1 w1 ho1 hg1 _ hat; have G1 := Grew.of hg1 hat; have r1 := G1.row (heap_alloc2_old w _ _) hvne; have c1 : w1.cell? ⟨w.heap.size, 1, none⟩ = some (.int .i64 rd) := cells_at r1 1 _ rfl)
  have ho1' : w1.ownsRow base 5 1 v1 (k + 1) (ub (bs ++ [au])) := by simpa [ub] using ho1
  have hv1ne : v1.ownBlock ≠ some w.heap.size := fun e => by
    rcases G1.fresh _ e with g | g
    · exact hvne g
    · rw [size_alloc, size_alloc] at g; omega
  have G0 := G1.alloc.alloc
  clear ho1 hg1 hat G1
  refine (appendRound_any base v1 (k + 1) _ rd _ hr ho1' (Nat.le_trans hB G0.grown.size) (by omega)).mono ?_
  rintro e w2 ⟨v2, rfl, ho2, G2⟩
  have r2 := G2.row r1 hv1ne
  have c2 : w2.cell? ⟨w.heap.size, 2, none⟩ = some (.slice ba bl.length bc) := cells_at r2 2 _ rfl
  have hv2ne : v2.ownBlock ≠ some w.heap.size := fun e => by
    rcases G2.fresh _ e with g | g
    · exact hv1ne g
    · have := lt_of_heap r1; omega
  have G02 := G0.trans G2
  have hD1 := appendDigests_w base v2 (k + 1 + 3) _ ba _ bc bl w2 rfl hbl hb32 (G02.listW hLb hOb) (G02.offW hOb) ho2 (Nat.le_trans hB G02.grown.size) (by omega)
  clear r1 c1
  go_wp2_with fail
  refine hD1.mono ?_
  rintro e w3 ⟨v3, rfl, ho3, G3⟩
  have r3 := G3.row r2 hv2ne
  have c3 : w3.cell? ⟨w.heap.size, 3, none⟩ = some (.slice pa pl.length pc) := cells_at r3 3 _ rfl
  have G03 := G02.trans G3
  have hlb := flatB_length bl hb32
  have hD2 := appendDigests_w base v3 (k + 1 + 3 + (digsB bl).length) _ pa _ pc pl w3 rfl hpl hp32 (G03.listW hLp hOp) (G03.offW hOp) ho3 (Nat.le_trans hB G03.grown.size) (by simp [digsB]; omega)
  clear r2 c2 hD1 hlb
  go_wp2_with fail
  refine hD2.mono ?_
  rintro e w4 ⟨v4, rfl, ho4, G4⟩
  go_wp2_with fail
  go_ret
  refine ⟨v4, rfl, ?_, G03.trans G4⟩
  rw [show k + (headB au rd bl pl).length = k + 1 + 3 + (digsB bl).length + (digsB pl).length by simp [headB, rd3]; omega, show bs ++ headB au rd bl pl = bs ++ [au] ++ rd3 rd ++ digsB bl ++ digsB pl by simp [headB]]
  exact ho4
set_option maxRecDepth 100000 in
theorem appendHeader_any (base : Nat) (v : Value) (k : Nat) (bs : List Int) (au rd : Int) (ba : Option Addr) (bn bc : Nat) (bl : List Part) (pa : Option Addr) (pn pc : Nat) (pl : List Part) (w : World) (ha : 0 ≤ au ∧ au < 4) (hr : 0 ≤ rd ∧ rd ≤ 1048576) (hbn : bn = bl.length) (hpn : pn = pl.length) (hbl : bl.length ≤ 4) (hpl : pl.length ≤ 4) (hb32 : ∀ p ∈ bl, p.bs.length = 32) (hp32 : ∀ p ∈ pl, p.bs.length = 32)
    (hLb : ListAt w ba bc bl) (hOb : Off w v ba bl) (hLp : ListAt w pa pc pl) (hOp : Off w v pa pl)
    (ho : w.ownsRow base 5 1 v k (ub bs)) (hB : base ≤ w.heap.size) (hk : k ≤ 80000) :
    Calls Try.prog 37 #[v, .agg #[.int .i64 au, .int .i64 rd, .slice ba bn bc, .slice pa pn pc]] w fun e w' => ∃ v', e = .returned v' ∧ w'.ownsRow base 5 1 v' (k + (headB au rd bl pl).length) (ub (bs ++ headB au rd bl pl)) ∧ Grew w v w' v' :=
  appendHeader_w base v k bs au rd ba bn bc bl pa pn pc pl w ha hr hbn hpn hbl hpl hb32 hp32 hLb hOb.weak hLp hOp.weak ho hB hk
end Go.Proofs.Ytcmlmmlcebemgaa

namespace Go.Proofs.Ytcmlmmlcebemgaa
open Go.RowKit

set_option maxRecDepth 100000 in
theorem headB_le (au rd : Int) (bl pl : List Part) (hbl : bl.length ≤ 4) (hpl : pl.length ≤ 4) (hb32 : ∀ p ∈ bl, p.bs.length = 32) (hp32 : ∀ p ∈ pl, p.bs.length = 32) : (headB au rd bl pl).length ≤ 300 := by
  have h1 := flatB_length bl hb32
  have h2 := flatB_length pl hp32
  simp [headB, rd3, digsB]; omega
end Go.Proofs.Ytcmlmmlcebemgaa

namespace Go.Proofs.Ytcmlmmlcebemgaa
open Go.RowKit

/-- P2.9: the bytes of a certificate. -/
def certB (au rd : Int) (bl pl : List Part) (vl : List Int) : List Int := headB au rd bl pl ++ [(vl.length : Int)] ++ vl
set_option maxRecDepth 100000 in
set_option maxHeartbeats 1000000 in
theorem appendCert_w (base : Nat) (v : Value) (k : Nat) (bs : List Int) (au rd : Int) (ba : Option Addr) (bn bc : Nat) (bl : List Part) (pa : Option Addr) (pn pc : Nat) (pl : List Part) (va : Option Addr) (vn vc : Nat) (vl : List Int) (w : World) (ha : 0 ≤ au ∧ au < 4) (hr : 0 ≤ rd ∧ rd ≤ 1048576) (hbn : bn = bl.length) (hpn : pn = pl.length) (hvn : vn = vl.length) (hbl : bl.length ≤ 4) (hpl : pl.length ≤ 4) (hvl : vl.length ≤ 4) (hb32 : ∀ p ∈ bl, p.bs.length = 32) (hp32 : ∀ p ∈ pl, p.bs.length = 32) (hv4 : ∀ x ∈ vl, 0 ≤ x ∧ x < 4)
    (hLb : ListAt w ba bc bl) (hOb : OffW w v ba bl) (hLp : ListAt w pa pc pl) (hOp : OffW w v pa pl) (hI : IntsAt w va vl) (hne : ∀ sb so, va = some ⟨sb, so, none⟩ → sb < w.heap.size ∧ v.ownBlock ≠ some sb)
    (ho : w.ownsRow base 5 1 v k (ub bs)) (hB : base ≤ w.heap.size) (hk : k ≤ 80000) :
    Calls Try.prog 39 #[v, .agg #[.int .i64 au, .int .i64 rd, .slice ba bn bc, .slice pa pn pc, .slice va vn vc]] w fun e w' => ∃ v', e = .returned v' ∧ w'.ownsRow base 5 1 v' (k + (certB au rd bl pl vl).length) (ub (bs ++ certB au rd bl pl vl)) ∧ Grew w v w' v' := by
  subst hvn
  obtain ⟨i, hi, hz0, hz1, hz2⟩ := info_parts infoU8
  have hvne : v.ownBlock ≠ some w.heap.size := fun e => by have := (ho.lt _ e).2; omega
  have hA : Below w.heap.size w (w.alloc (.cells #[.int .i64 au, .int .i64 rd, .slice ba bn bc, .slice pa pn pc, .slice va vl.length vc] 45)) := (Below.refl _ _).alloc (Nat.le_refl _) _
  have hH := appendHeader_w base v k bs au rd ba bn bc bl pa pn pc pl _ ha hr hbn hpn hbl hpl hb32 hp32 (hLb.below hA) (hOb.alloc (.cells #[.int .i64 au, .int .i64 rd, .slice ba bn bc, .slice pa pn pc, .slice va vl.length vc] 45)) (hLp.below hA) (hOp.alloc _) (World.ownsRow.alloc ho _) (le_alloc hB _) hk
  have hle := headB_le au rd bl pl hbl hpl hb32 hp32
  clear hbn hpn
  go_enter Try.func39, Try.ntmps39
  go_wp2_with fail
  refine hH.mono ?_
  rintro e w1 ⟨v1, rfl, ho1, G1⟩
  have r1 := G1.row (heap_alloc_new w _) hvne
  have c4 : w1.cell? ⟨w.heap.size, 4, none⟩ = some (.slice va vl.length vc) := cells_at r1 4 _ rfl
  have hv1ne : v1.ownBlock ≠ some w.heap.size := fun e => by
    rcases G1.fresh _ e with g | g
    · exact hvne g
    · rw [size_alloc] at g; omega
  have G0 := G1.alloc
  clear hH G1
  have hC : certB au rd bl pl vl = headB au rd bl pl ++ [(vl.length : Int)] ++ vl := rfl
  generalize headB au rd bl pl = HB at *
  have HC : Hid (certB au rd bl pl vl = HB ++ [(vl.length : Int)] ++ vl) := hC
  clear hC
  go_wp2_with (at_builtin; refine wpList_append_own_at _ rfl _ _ 26 rfl base 5 i (.int .u8 0) 1 1 Try.underlying26 hi hz0 hz1 hz2 rfl (by decide) _ (k + HB.length) _ rfl (World.ownsRow.alloc ho1 _) ⟨w1.heap.size, 0, none⟩ 1 1 [.int .u8 (vl.length : Int)] rfl rfl (cells_new _ _ _) (u8_one [_]) (by unfold maxLen; omega) (by omega) (le_alloc (Nat.le_trans hB G0.grown.size) _) ?_; intro v2 w2 ho2 hg2 _ hat; have G2 := (Grew.of hg2 hat).alloc; have r2 := G2.row r1 hv1ne; have d4 : w2.cell? ⟨w.heap.size, 4, none⟩ = some (.slice va vl.length vc) := cells_at r2 4 _ rfl)
  have ho2' : w2.ownsRow base 5 1 v2 (k + HB.length + 1) (ub (bs ++ HB ++ [(vl.length : Int)])) := by simpa [ub] using ho2
  have G02 := G0.trans G2
  clear ho2 hg2 hat c4 r1
  go_loopw [21, 0] (fun j t wr => ∃ (m : Nat) (tv : Value), m ≤ vl.length ∧ j = .int .i64 m ∧ tv = t ∧ wr.ownsRow base 5 1 tv (k + HB.length + 1 + m) (ub (bs ++ HB ++ [(vl.length : Int)] ++ vl.take m)) ∧ Grew w v wr tv) (fun j _ _ => vl.length - (intOf j).toNat)
  case atStart => exact ⟨0, _, Nat.zero_le _, rfl, rfl, by simpa using ho2', G02⟩
  case round =>
    clear ho2' G02 r2 d4
    obtain ⟨m, tv, hm, rfl, rfl, ho, G⟩ := hrel
    by_cases hlt : m < vl.length
    · obtain ⟨sb, so, rfl, hc⟩ : ∃ sb so, va = some ⟨sb, so, none⟩ ∧ ∀ j, j < vl.length → w.cell? ⟨sb, so + j, none⟩ = some (.int .i64 (vl.getD j 0)) := by
        rcases hI.cells with h | h
        · rw [h] at hlt; simp at hlt
        · exact h
      have ck0 := hc m hlt
      have ck : wr.cell? ⟨sb, so + m, none⟩ = some (.int .i64 (vl.getD m 0)) := (World.cell?_of_block (G.grown.block sb (block_lt_of_cell ck0) (fun e => (hne sb so rfl).2 e.symm))).trans ck0
      obtain ⟨hx0, hx1⟩ := hv4 (vl.getD m 0) (by simp [List.getD, hlt])
      have hst : Hid (vl.take (m + 1) = vl.take m ++ [vl.getD m 0]) := by
        show _ = _
        rw [List.take_succ_eq_append_getElem hlt]
        simp only [List.getD, List.getElem?_eq_getElem hlt, Option.getD_some]
      have hltI : (m : Int) < vl.length := by omega
      clear hc ck0
      generalize vl.getD m 0 = x at ck hst hx0 hx1
      have hBr : base ≤ wr.heap.size := Nat.le_trans hB G.grown.size
      go_wp2_with (at_builtin; refine wpList_append_own_at _ rfl _ _ 26 rfl base 5 i (.int .u8 0) 1 1 Try.underlying26 hi hz0 hz1 hz2 rfl (by decide) _ (k + HB.length + 1 + m) _ rfl (World.ownsRow.alloc ho _) ⟨wr.heap.size, 0, none⟩ 1 1 [.int .u8 x] rfl rfl (cells_new _ _ _) (u8_one [_]) (by unfold maxLen; omega) (by omega) (le_alloc hBr _) ?_; intro v5 w5 ho5 hg5 _ hat5)
      go_roundw
      case rel =>
        have hR : ∃ (m' : Nat) (tv' : Value), m' ≤ vl.length ∧ (Value.int .i64 ((m : Int) + 1)) = .int .i64 m' ∧ tv' = v5 ∧ w5.ownsRow base 5 1 tv' (k + HB.length + 1 + m') (ub (bs ++ HB ++ [(vl.length : Int)] ++ vl.take m')) ∧ Grew w v w5 tv' :=
          ⟨m + 1, v5, by omega, by go_num, rfl, by rw [hst.out, ← List.append_assoc]; exact owns_snoc ho5, G.trans (Grew.of hg5 hat5).alloc⟩
        first | exact hR | ((repeat apply Exists.intro); exact ⟨hR, rfl⟩)
      case measure => simp [intOf]; omega
    · obtain rfl : m = vl.length := by omega
      rw [List.take_of_length_le (Nat.le_refl _)] at ho
      have hltI : ¬ (vl.length : Int) < vl.length := by omega
      go_wp2_with fail
      go_ret
      refine ⟨_, rfl, ?_, G⟩
      rw [HC.out, show k + (HB ++ [(vl.length : Int)] ++ vl).length = k + HB.length + 1 + vl.length by simp; omega, show bs ++ (HB ++ [(vl.length : Int)] ++ vl) = bs ++ HB ++ [(vl.length : Int)] ++ vl by simp]
      exact ho
set_option maxRecDepth 100000 in
theorem appendCert_any (base : Nat) (v : Value) (k : Nat) (bs : List Int) (au rd : Int) (ba : Option Addr) (bn bc : Nat) (bl : List Part) (pa : Option Addr) (pn pc : Nat) (pl : List Part) (va : Option Addr) (vn vc : Nat) (vl : List Int) (w : World) (ha : 0 ≤ au ∧ au < 4) (hr : 0 ≤ rd ∧ rd ≤ 1048576) (hbn : bn = bl.length) (hpn : pn = pl.length) (hvn : vn = vl.length) (hbl : bl.length ≤ 4) (hpl : pl.length ≤ 4) (hvl : vl.length ≤ 4) (hb32 : ∀ p ∈ bl, p.bs.length = 32) (hp32 : ∀ p ∈ pl, p.bs.length = 32) (hv4 : ∀ x ∈ vl, 0 ≤ x ∧ x < 4)
    (hLb : ListAt w ba bc bl) (hOb : Off w v ba bl) (hLp : ListAt w pa pc pl) (hOp : Off w v pa pl) (hI : IntsAt w va vl) (hne : ∀ sb so, va = some ⟨sb, so, none⟩ → sb < w.heap.size ∧ v.ownBlock ≠ some sb)
    (ho : w.ownsRow base 5 1 v k (ub bs)) (hB : base ≤ w.heap.size) (hk : k ≤ 80000) :
    Calls Try.prog 39 #[v, .agg #[.int .i64 au, .int .i64 rd, .slice ba bn bc, .slice pa pn pc, .slice va vn vc]] w fun e w' => ∃ v', e = .returned v' ∧ w'.ownsRow base 5 1 v' (k + (certB au rd bl pl vl).length) (ub (bs ++ certB au rd bl pl vl)) ∧ Grew w v w' v' :=
  appendCert_w base v k bs au rd ba bn bc bl pa pn pc pl va vn vc vl w ha hr hbn hpn hvn hbl hpl hvl hb32 hp32 hv4 hLb hOb.weak hLp hOp.weak hI hne ho hB hk
end Go.Proofs.Ytcmlmmlcebemgaa

namespace Go.Proofs.Ytcmlmmlcebemgaa
open Go.RowKit

/-- What the kind carries, as bytes. -/
def bodyB (m : Msg) (ss : List ByteArray) (bl pl cbl cpl : List Part) (ds vl : List Int) : List Int := if m.ki = 1 then batchB m.bau m.bnu ss else if m.ki = 2 then headB m.hau m.hrd bl pl else if m.ki = 3 then [m.sau] ++ rd3 m.srd ++ ds else if m.ki = 4 then certB m.cau m.crd cbl cpl vl else rd3 m.ro
/-- P2.9. -/
def msgB (m : Msg) (ss : List ByteArray) (bl pl cbl cpl : List Part) (ds vl : List Int) : List Int := [m.ki, m.fr, m.tt] ++ bodyB m ss bl pl cbl cpl ds vl
set_option maxRecDepth 100000 in
theorem checkF_ok {m : Msg} {e : Int} (h : checkF m e = 0) : (0 ≤ m.fr ∧ m.fr < 4) ∧ (0 ≤ m.tt ∧ m.tt < 4) ∧ e = 0 ∧ msgEmpty (strip m) = true := by
  unfold checkF at h
  split at h
  · cases h
  · rename_i h1
    split at h
    · rename_i h2; exact absurd h h2
    · rename_i h2
      split at h
      · rename_i h3
        exact ⟨by omega, by omega, by simpa using h2, h3⟩
      · cases h
set_option maxRecDepth 100000 in
theorem checkF_zero {m : Msg} {e : Int} (hf : 0 ≤ m.fr ∧ m.fr < 4) (ht : 0 ≤ m.tt ∧ m.tt < 4) (he : e = 0) (hm : msgEmpty (strip m) = true) : checkF m e = 0 := by
  rw [checkF, if_neg (by omega), if_neg (by simp [he]), if_pos hm]
set_option maxRecDepth 100000 in
theorem carriedF_kind {m : Msg} {ss : List ByteArray} {bl pl cbl cpl : List Part} {vl : List Int} (h : carriedF m ss bl pl cbl cpl vl = 0) : m.ki = 1 ∨ m.ki = 2 ∨ m.ki = 3 ∨ m.ki = 4 ∨ m.ki = 5 := by
  unfold carriedF at h
  repeat' split at h
  all_goals first | (cases h; done) | omega
set_option maxRecDepth 100000 in
theorem slotF_ok {au rd : Int} {n : Nat} (h : slotF au rd n = 0) : (0 ≤ au ∧ au < 4) ∧ (1 ≤ rd ∧ rd ≤ 1048576) ∧ n = 32 := by
  unfold slotF at h
  split at h
  · cases h
  · split at h
    · cases h
    · exact ⟨by omega, by omega, by omega⟩
set_option maxRecDepth 100000 in
theorem vTo_zero (vl : List Int) (k : Nat) (h : vTo vl k = 0) : ∀ j, j < k → vAt vl j = 0 := by
  induction k with
  | zero => intro j hj; omega
  | succ k ih =>
    rw [vTo] at h
    split at h
    · rename_i h1; exact absurd h h1
    · rename_i h1
      intro j hj
      rcases Nat.lt_or_ge j k with g | g
      · exact ih (by simpa using h1) j g
      · obtain rfl : j = k := by omega
        exact h
set_option maxRecDepth 100000 in
theorem certF_ok {au rd : Int} {bl pl : List Part} {vl : List Int} (h : certF au rd bl pl vl = 0) : headerF au rd bl pl = 0 ∧ vl.length ≤ 4 ∧ 3 ≤ vl.length ∧ ∀ x ∈ vl, 0 ≤ x ∧ x < 4 := by
  unfold certF at h
  split at h
  · rename_i h1; exact absurd h h1
  · rename_i h1
    split at h
    · cases h
    · rename_i h2
      unfold votersF at h
      split at h
      · rename_i h3; exact absurd h h3
      · rename_i h3
        split at h
        · cases h
        · refine ⟨by simpa using h1, by omega, by omega, fun x hx => ?_⟩
          obtain ⟨j, hj, rfl⟩ := List.getElem_of_mem hx
          have h4 := vTo_zero vl vl.length (by simpa using h3) j hj
          rw [vAt] at h4
          split at h4
          · cases h4
          · rename_i h5
            have h6 : vl.getD j 0 = vl[j] := by simp [List.getD, hj]
            rw [h6] at h5
            omega
set_option maxRecDepth 100000 in
theorem bodyB1 {m : Msg} (h : m.ki = 1) (ss : List ByteArray) (bl pl cbl cpl : List Part) (ds vl : List Int) : bodyB m ss bl pl cbl cpl ds vl = batchB m.bau m.bnu ss := by simp [bodyB, h]
set_option maxRecDepth 100000 in
theorem bodyB2 {m : Msg} (h : m.ki = 2) (ss : List ByteArray) (bl pl cbl cpl : List Part) (ds vl : List Int) : bodyB m ss bl pl cbl cpl ds vl = headB m.hau m.hrd bl pl := by simp [bodyB, h]
set_option maxRecDepth 100000 in
theorem bodyB3 {m : Msg} (h : m.ki = 3) (ss : List ByteArray) (bl pl cbl cpl : List Part) (ds vl : List Int) : bodyB m ss bl pl cbl cpl ds vl = [m.sau] ++ rd3 m.srd ++ ds := by simp [bodyB, h]
set_option maxRecDepth 100000 in
theorem bodyB4 {m : Msg} (h : m.ki = 4) (ss : List ByteArray) (bl pl cbl cpl : List Part) (ds vl : List Int) : bodyB m ss bl pl cbl cpl ds vl = certB m.cau m.crd cbl cpl vl := by simp [bodyB, h]
set_option maxRecDepth 100000 in
theorem bodyB5 {m : Msg} (h : m.ki = 5) (ss : List ByteArray) (bl pl cbl cpl : List Part) (ds vl : List Int) : bodyB m ss bl pl cbl cpl ds vl = rd3 m.ro := by simp [bodyB, h]
set_option maxRecDepth 100000 in
theorem carried1 {m : Msg} (h : m.ki = 1) (ss : List ByteArray) (bl pl cbl cpl : List Part) (vl : List Int) : carriedF m ss bl pl cbl cpl vl = batchF m.bau m.bnu ss := by simp [carriedF, h]
set_option maxRecDepth 100000 in
theorem carried2 {m : Msg} (h : m.ki = 2) (ss : List ByteArray) (bl pl cbl cpl : List Part) (vl : List Int) : carriedF m ss bl pl cbl cpl vl = headerF m.hau m.hrd bl pl := by simp [carriedF, h]
set_option maxRecDepth 100000 in
theorem carried3 {m : Msg} (h : m.ki = 3) (ss : List ByteArray) (bl pl cbl cpl : List Part) (vl : List Int) : carriedF m ss bl pl cbl cpl vl = slotF m.sau m.srd m.sdn := by simp [carriedF, h]
set_option maxRecDepth 100000 in
theorem carried4 {m : Msg} (h : m.ki = 4) (ss : List ByteArray) (bl pl cbl cpl : List Part) (vl : List Int) : carriedF m ss bl pl cbl cpl vl = certF m.cau m.crd cbl cpl vl := by simp [carriedF, h]
set_option maxRecDepth 100000 in
theorem carried5 {m : Msg} (h : m.ki = 5) (ss : List ByteArray) (bl pl cbl cpl : List Part) (vl : List Int) : carriedF m ss bl pl cbl cpl vl = if 1 ≤ m.ro ∧ m.ro ≤ 1048576 then 0 else 2 := by simp [carriedF, h]
set_option maxRecDepth 100000 in
theorem bodyB_le {m : Msg} {ss : List ByteArray} {bl pl cbl cpl : List Part} {ds vl : List Int} (hn : m.sdn = ds.length) (h : carriedF m ss bl pl cbl cpl vl = 0) : (bodyB m ss bl pl cbl cpl ds vl).length ≤ 320 := by
  rcases carriedF_kind h with k | k | k | k | k
  · rw [carried1 k] at h
    obtain ⟨_, _, h3, h4⟩ := batchF_ok h
    have := txsB_le ss (fun s hs => (h4 s hs).2)
    rw [bodyB1 k]
    simp [batchB, rd3]; omega
  · rw [carried2 k] at h
    obtain ⟨_, _, h3, h4, h5, h6⟩ := headerF_ok h
    have := headB_le m.hau m.hrd bl pl (by omega) h4 h5 h6
    rw [bodyB2 k]
    omega
  · rw [carried3 k] at h
    obtain ⟨_, _, h3⟩ := slotF_ok h
    rw [bodyB3 k]
    simp [rd3]; omega
  · rw [carried4 k] at h
    obtain ⟨g1, g2, _, _⟩ := certF_ok h
    obtain ⟨_, _, h3, h4, h5, h6⟩ := headerF_ok g1
    have := headB_le m.cau m.crd cbl cpl (by omega) h4 h5 h6
    rw [bodyB4 k]
    simp [certB]; omega
  · rw [bodyB5 k]
    simp [rd3]
end Go.Proofs.Ytcmlmmlcebemgaa

namespace Go.Proofs.Ytcmlmmlcebemgaa
open Go.RowKit

set_option maxRecDepth 100000 in
set_option maxHeartbeats 1000000 in
theorem checkBatch_any (au nu : Int) (sa : Option Addr) (n cap : Nat) (ss : List ByteArray) (w : World) (hn : n = ss.length) (hm : n ≤ maxLen) (hs : StrsAt w sa ss) :
    Calls Try.prog 57 #[.agg #[.int .i64 au, .int .i64 nu, .slice sa n cap]] w fun e w' => e = .returned (.int .i64 (batchF au nu ss)) ∧ Below w.heap.size w w' := by
  subst hn
  unfold maxLen at hm
  by_cases ha : 0 ≤ au ∧ au < 4
  · by_cases hr : 1 ≤ nu ∧ nu ≤ 1048576
    · by_cases hl : ss.length < 1 ∨ 4 < ss.length
      · have hF : Hid (batchF au nu ss = 1) := by show _ = _; rw [batchF, if_neg (by simp [ha, hr]), if_pos hl]
        have hlI : ¬ (1 ≤ (ss.length : Int) ∧ (ss.length : Int) ≤ 4) := by omega
        rcases hl with hl | hl
        · have hl0 : ss.length = 0 := by omega
          rw [hl0]
          go_enter Try.func57, Try.ntmps57
          go_wp2_with (first | (go_at_call 50; first | (refine (isNode_true _ _ (by omega)).mono ?_; rintro e w' ⟨rfl, rfl⟩) | (refine (isNode_false _ _ (by omega)).mono ?_; rintro e w' ⟨rfl, rfl⟩)) | (go_at_call 61; first | (refine (isRound_true _ _ (by omega)).mono ?_; rintro e w' ⟨rfl, rfl⟩) | (refine (isRound_false _ _ (by omega)).mono ?_; rintro e w' ⟨rfl, rfl⟩)))
          go_ret
          exact ⟨ret_int hF.out.symm, (Below.refl _ _).alloc (Nat.le_refl _) _⟩
        · have hl1 : (4 : Int) < ss.length := by omega
          have hl2 : ¬ (ss.length : Int) < 1 := by omega
          go_enter Try.func57, Try.ntmps57
          go_wp2_with (first | (go_at_call 50; first | (refine (isNode_true _ _ (by omega)).mono ?_; rintro e w' ⟨rfl, rfl⟩) | (refine (isNode_false _ _ (by omega)).mono ?_; rintro e w' ⟨rfl, rfl⟩)) | (go_at_call 61; first | (refine (isRound_true _ _ (by omega)).mono ?_; rintro e w' ⟨rfl, rfl⟩) | (refine (isRound_false _ _ (by omega)).mono ?_; rintro e w' ⟨rfl, rfl⟩)))
          go_ret
          exact ⟨ret_int hF.out.symm, (Below.refl _ _).alloc (Nat.le_refl _) _⟩
      · have hF : Hid (batchF au nu ss = if ss.all txOk then 0 else 1) := by show _ = _; rw [batchF, if_neg (by simp [ha, hr]), if_neg hl]
        have hl1 : ¬ (4 : Int) < ss.length := by omega
        have hl2 : ¬ (ss.length : Int) < 1 := by omega
        go_enter Try.func57, Try.ntmps57
        go_wp2_with (first | (go_at_call 50; first | (refine (isNode_true _ _ (by omega)).mono ?_; rintro e w' ⟨rfl, rfl⟩) | (refine (isNode_false _ _ (by omega)).mono ?_; rintro e w' ⟨rfl, rfl⟩)) | (go_at_call 61; first | (refine (isRound_true _ _ (by omega)).mono ?_; rintro e w' ⟨rfl, rfl⟩) | (refine (isRound_false _ _ (by omega)).mono ?_; rintro e w' ⟨rfl, rfl⟩)))
        go_loop [28] (fun i => ∃ k : Nat, k ≤ ss.length ∧ i = .int .i64 k ∧ ∀ q, q < k → txOk (ss.getD q ByteArray.empty) = true) (fun i => ss.length - (intOf i).toNat)
        case atStart => exact ⟨0, Nat.zero_le _, rfl, fun q hq => by omega⟩
        case round =>
          obtain ⟨k, hk, rfl, hall⟩ := hrel
          by_cases hlt : k < ss.length
          · rcases hs.cells with hc | ⟨sb, so, rfl, hc⟩
            · subst hc; simp at hlt
            have hltI : (k : Int) < ss.length := by omega
            have ck := hc k hlt
            have ck2 := (((Below.refl w.heap.size w).alloc (Nat.le_refl _) (.cells #[.int .i64 au, .int .i64 nu, .slice (some ⟨sb, so, none⟩) ss.length cap] 37)).cell (p := ⟨sb, so + k, none⟩) (block_lt_of_cell ck)).trans ck
            have hz : (ss.getD k ByteArray.empty).size ≤ 9223372036854775807 := hs.size _ (by simp [List.getD, hlt])
            have hT : txOk (ss.getD k ByteArray.empty) = decide (1 ≤ (ss.getD k ByteArray.empty).size ∧ (ss.getD k ByteArray.empty).size ≤ 20) := rfl
            have hstep : Hid (txOk (ss.getD k ByteArray.empty) = true → ∀ q, q < k + 1 → txOk (ss.getD q ByteArray.empty) = true) := by
              show _ → _
              intro h q hq
              rcases Nat.lt_or_ge q k with g | g
              · exact hall q g
              · obtain rfl : q = k := by omega
                exact h
            have hno : Hid (txOk (ss.getD k ByteArray.empty) = false → ss.all txOk = false) := by
              show _ → _
              exact all_false ss txOk ByteArray.empty k hlt
            clear hall hc ck
            generalize ss.getD k ByteArray.empty = s at *
            by_cases h1 : 1 ≤ s.size
            · have h1I : ¬ (s.size : Int) < 1 := by omega
              by_cases h2 : s.size ≤ 20
              · have h2I : ¬ (20 : Int) < s.size := by omega
                have hst := hstep.out (by rw [hT]; simp [h1, h2])
                clear hT hstep hno
                go_wp2_with fail
                go_round
                case rel => exact ⟨k + 1, by omega, by go_num, hst⟩
                case measure => simp [intOf]; omega
              · have h2I : (20 : Int) < s.size := by omega
                have hst := hno.out (by rw [hT]; simp [h2])
                clear hT hstep hno
                rw [hst] at hF
                go_wp2_with fail
                go_ret
                exact ⟨ret_int (by rw [hF.out]; rfl), (Below.refl _ _).alloc (Nat.le_refl _) _⟩
            · have h1I : (s.size : Int) < 1 := by omega
              have hst := hno.out (by rw [hT]; simp [h1])
              clear hT hstep hno
              rw [hst] at hF
              go_wp2_with fail
              go_ret
              exact ⟨ret_int (by rw [hF.out]; rfl), (Below.refl _ _).alloc (Nat.le_refl _) _⟩
          · obtain rfl : k = ss.length := by omega
            have hst := all_true ss txOk ByteArray.empty hall
            rw [hst] at hF
            go_wp2_with fail
            go_ret
            exact ⟨ret_int (by rw [hF.out]; rfl), (Below.refl _ _).alloc (Nat.le_refl _) _⟩
    · have hF : Hid (batchF au nu ss = 2) := by show _ = _; simp [batchF, hr]
      go_enter Try.func57, Try.ntmps57
      go_wp2_with (first | (go_at_call 50; first | (refine (isNode_true _ _ (by omega)).mono ?_; rintro e w' ⟨rfl, rfl⟩) | (refine (isNode_false _ _ (by omega)).mono ?_; rintro e w' ⟨rfl, rfl⟩)) | (go_at_call 61; first | (refine (isRound_true _ _ (by omega)).mono ?_; rintro e w' ⟨rfl, rfl⟩) | (refine (isRound_false _ _ (by omega)).mono ?_; rintro e w' ⟨rfl, rfl⟩)))
      go_ret
      exact ⟨ret_int hF.out.symm, (Below.refl _ _).alloc (Nat.le_refl _) _⟩
  · have hF : Hid (batchF au nu ss = 2) := by show _ = _; simp [batchF, ha]
    go_enter Try.func57, Try.ntmps57
    go_wp2_with (first | (go_at_call 50; first | (refine (isNode_true _ _ (by omega)).mono ?_; rintro e w' ⟨rfl, rfl⟩) | (refine (isNode_false _ _ (by omega)).mono ?_; rintro e w' ⟨rfl, rfl⟩)) | (go_at_call 61; first | (refine (isRound_true _ _ (by omega)).mono ?_; rintro e w' ⟨rfl, rfl⟩) | (refine (isRound_false _ _ (by omega)).mono ?_; rintro e w' ⟨rfl, rfl⟩)))
    go_ret
    exact ⟨ret_int hF.out.symm, (Below.refl _ _).alloc (Nat.le_refl _) _⟩
end Go.Proofs.Ytcmlmmlcebemgaa

namespace Go.Proofs.Ytcmlmmlcebemgaa
open Go.RowKit

def anyOf (ps : List Part) (q : Part) (k : Nat) : Bool := (List.range k).any fun j => decide (txL (partAt ps j).bs = txL q.bs)
set_option maxRecDepth 100000 in
theorem anyOf_yes (ps : List Part) (q : Part) (k m : Nat) (hm : m < k) (h : txL (partAt ps m).bs = txL q.bs) : anyOf ps q k = true := by
  simp only [anyOf, List.any_eq_true]
  exact ⟨m, by simpa using hm, by simpa using h⟩
set_option maxRecDepth 100000 in
theorem anyOf_no (ps : List Part) (q : Part) (k : Nat) (h : ∀ j, j < k → ¬ txL (partAt ps j).bs = txL q.bs) : anyOf ps q k = false := by
  simp only [anyOf, List.any_eq_false]
  intro j hj
  simpa using h j (by simpa using hj)

set_option maxRecDepth 100000 in
set_option maxHeartbeats 1000000 in
theorem indexFunc_any (ps : List Part) (q : Part) (sa : Option Addr) (k cap g : Nat) (w : World) (hk : k ≤ ps.length) (hk2 : k ≤ 9000000000000000000) (hp : PartsAt w sa ps) (hq : SliceAt w q.sa q.cap q.bs) (hg : w.cell? ⟨g, 0, none⟩ = some (.slice q.sa q.bs.length q.cap)) :
    Calls Try.prog 82 #[.slice sa k cap, .func (.func 76) #[] #[.pointer (some ⟨g, 0, none⟩)]] w fun e w' => w = w' ∧ ∃ r : Int, e = .returned (.int .i64 r) ∧ ((anyOf ps q k = true ∧ 0 ≤ r) ∨ (anyOf ps q k = false ∧ r = -1)) := by
  go_enter Try.func82, Try.ntmps82
  go_wp2_with fail
  go_loop [8] (fun i => ∃ m : Nat, m ≤ k ∧ i = .int .i64 m ∧ ∀ j, j < m → ¬ txL (partAt ps j).bs = txL q.bs) (fun i => k - (intOf i).toNat)
  case atStart => exact ⟨0, Nat.zero_le _, rfl, fun j hj => by omega⟩
  case round =>
    obtain ⟨m, hm, rfl, hno⟩ := hrel
    by_cases hlt : m < k
    · rcases hp.cells with hc | ⟨sb, so, rfl, hc⟩
      · subst hc; simp at hk; omega
      have hmp : m < ps.length := by omega
      have ck := hc m hmp
      have hx := hp.each (ps[m]) (List.getElem_mem hmp)
      have hltI : (m : Int) < k := by omega
      have hpe := partAt_get ps m hmp
      have Hyes : Hid (txL (ps[m]).bs = txL q.bs → anyOf ps q k = true) := by
        show _ → _
        intro h
        exact anyOf_yes ps q k m hlt (by rw [hpe]; exact h)
      have Hno : Hid (¬ txL (ps[m]).bs = txL q.bs → ∀ j, j < m + 1 → ¬ txL (partAt ps j).bs = txL q.bs) := by
        show _ → _
        intro h j hj
        rcases Nat.lt_or_ge j m with g | g
        · exact hno j g
        · obtain rfl : j = m := by omega
          rw [hpe]; exact h
      clear hno hpe hc
      generalize ps[m] = p at *
      go_wp2_with fail
      refine (same_closure p.bs q.bs p.sa q.sa _ _ p.cap q.cap g w rfl rfl hx hq hg).mono ?_
      rintro e w1 ⟨he, rfl⟩
      subst he
      dsimp only
      by_cases h : txL p.bs = txL q.bs
      · have hy := Hyes.out h
        rw [decide_eq_true h]
        clear Hyes Hno h
        go_wp2_with fail
        go_ret
        exact ⟨rfl, (m : Int), rfl, .inl ⟨hy, by omega⟩⟩
      · have hn := Hno.out h
        rw [decide_eq_false h]
        clear Hyes Hno h
        go_wp2_with fail
        go_round
        case rel => exact ⟨m + 1, by omega, by go_num, hn⟩
        case measure => simp [intOf]; omega
    · obtain rfl : m = k := by omega
      have hn : Hid (anyOf ps q m = false) := anyOf_no ps q m hno
      go_wp2_with fail
      go_ret
      refine ⟨rfl, (-1 : Int), rfl, ?_⟩
      exact .inr ⟨hn.out, rfl⟩
set_option maxRecDepth 100000 in
set_option maxHeartbeats 400000 in
theorem containsFunc_any (ps : List Part) (q : Part) (sa : Option Addr) (k cap g : Nat) (w : World) (hk : k ≤ ps.length) (hk2 : k ≤ 9000000000000000000) (hp : PartsAt w sa ps) (hq : SliceAt w q.sa q.cap q.bs) (hg : w.cell? ⟨g, 0, none⟩ = some (.slice q.sa q.bs.length q.cap)) :
    Calls Try.prog 78 #[.slice sa k cap, .func (.func 76) #[] #[.pointer (some ⟨g, 0, none⟩)]] w fun e w' => e = .returned (.bool (anyOf ps q k)) ∧ w = w' := by
  go_enter Try.func78, Try.ntmps78
  go_wp2_with fail
  refine (indexFunc_any ps q sa k cap g w hk hk2 hp hq hg).mono ?_
  rintro e w1 ⟨rfl, r, he, hr⟩
  subst he
  dsimp only
  rcases hr with ⟨ha, hr⟩ | ⟨ha, rfl⟩
  · go_wp2_with fail
    go_ret
    exact ⟨ret_bool (by rw [ha]), rfl⟩
  · go_wp2_with fail
    go_ret
    exact ⟨ret_bool (by rw [ha]), rfl⟩

set_option maxRecDepth 100000 in
set_option maxHeartbeats 1000000 in
theorem checkDigests_any (ps : List Part) (sa : Option Addr) (n cap : Nat) (w : World) (hn : n = ps.length) (hc0 : n ≤ cap) (_hcm : cap ≤ 9223372036854775807) (hnm : n ≤ 9000000000000000000) (hsa : cap = 0 ∨ ∃ sb so, sa = some ⟨sb, so, none⟩) (hp : PartsAt w sa ps) :
    Calls Try.prog 68 #[.slice sa n cap] w fun e w' => e = .returned (.int .i64 (digF ps)) ∧ Below w.heap.size w w' := by
  subst hn
  have hmf : ∀ (fn : Fn) (first cap : Array Value) (w : World), (Instr.makeFunc fn first cap).run Try.prog w = .ok (.func fn first cap) w := fun _ _ _ _ => rfl
  go_enter Try.func68, Try.ntmps68
  go_wp2_with fail
  go_loopw [8] (fun i wr => ∃ k : Nat, k ≤ ps.length ∧ i = .int .i64 k ∧ digTo1 ps k = 0 ∧ Below w.heap.size w wr) (fun i _ => ps.length - (intOf i).toNat)
  case atStart => exact ⟨0, Nat.zero_le _, rfl, rfl, Below.refl _ _⟩
  case round =>
    obtain ⟨k, hk, rfl, h0, hb⟩ := hrel
    by_cases hlt : k < ps.length
    · obtain ⟨sb, so, rfl⟩ : ∃ sb so, sa = some ⟨sb, so, none⟩ := by
        rcases hsa with h | h
        · omega
        · exact h
      have hpw := hp.below hb
      have hx := hpw.each (ps[k]) (List.getElem_mem hlt)
      have hpe := partAt_get ps k hlt
      have ck : wr.cell? ⟨sb, so + k, none⟩ = some (.slice (ps[k]).sa (ps[k]).bs.length (ps[k]).cap) := by
        rcases hpw.cells with hc | ⟨sb', so', e, hc⟩
        · rw [hc] at hlt; simp at hlt
        · cases e; exact hc k hlt
      have hltI : (k : Int) < ps.length := by omega
      have hkc : (k : Int) ≤ cap := by omega
      have hAt : Hid (digAt ps k = if (ps[k]).bs.length ≠ 32 then 4 else if anyOf ps (ps[k]) k then 7 else 0) := by
        show _ = _
        rw [digAt, twice, hpe]
        rfl
      have hF : Hid (digAt ps k ≠ 0 → digF ps = digAt ps k) := by
        show _ → _
        exact digF_at ps k hlt h0
      have hS : Hid (digAt ps k = 0 → digTo1 ps (k + 1) = 0) := by
        show _ → _
        intro h
        rw [digTo1, h0, h]; rfl
      clear hpe
      have hxl : (ps[k]).bs.length ≤ 9223372036854775807 := Nat.le_trans hx.le hx.max
      generalize ps[k] = p at *
      by_cases h32 : p.bs.length = 32
      · have hAl : Below wr.heap.size wr (wr.alloc (.cells #[.slice p.sa 32 p.cap] 26)) := (Below.refl _ _).alloc (Nat.le_refl _) _
        have hg : (wr.alloc (.cells #[.slice p.sa 32 p.cap] 26)).cell? ⟨wr.heap.size, 0, none⟩ = some (.slice p.sa p.bs.length p.cap) := by
          rw [h32]; exact laid_cell _ _ _ 0 _ rfl
        have hC := containsFunc_any ps p (some ⟨sb, so, none⟩) k cap wr.heap.size _ hk (by omega) (hpw.below hAl) (hx.below hAl) hg
        clear hg hx hpw
        by_cases hT : anyOf ps p k = true
        · rw [hT] at hC
          have e7 : digF ps = 7 := by
            have : digAt ps k = 7 := by rw [hAt.out, if_neg (by simp [h32]), hT]; rfl
            rw [hF.out (by rw [this]; decide), this]
          clear hAt hF hS hT
          go_wp2_with fail
          refine hC.mono ?_
          rintro e w2 ⟨he, rfl⟩
          subst he
          dsimp only
          go_wp2_with fail
          go_ret
          exact ⟨ret_int e7.symm, hb.alloc hb.size _⟩
        · have hT' : anyOf ps p k = false := by simpa using hT
          rw [hT'] at hC
          have e0 := hS.out (by rw [hAt.out, if_neg (by simp [h32]), hT']; rfl)
          clear hAt hF hS hT hT'
          go_wp2_with fail
          refine hC.mono ?_
          rintro e w2 ⟨he, rfl⟩
          subst he
          dsimp only
          go_wp2_with fail
          go_roundw
          case rel => exact ⟨k + 1, by omega, by go_num, e0, hb.alloc hb.size _⟩
          case measure => simp [intOf]; omega
      · have h32I : ¬ (p.bs.length : Int) = 32 := by omega
        have e4 : digF ps = 4 := by
          have : digAt ps k = 4 := by rw [hAt.out, if_pos h32]
          rw [hF.out (by rw [this]; decide), this]
        clear hAt hF hS
        go_wp2_with fail
        go_ret
        exact ⟨ret_int e4.symm, hb.alloc hb.size _⟩
    · obtain rfl : k = ps.length := by omega
      go_wp2_with fail
      go_ret
      exact ⟨ret_int h0.symm, hb⟩
end Go.Proofs.Ytcmlmmlcebemgaa
