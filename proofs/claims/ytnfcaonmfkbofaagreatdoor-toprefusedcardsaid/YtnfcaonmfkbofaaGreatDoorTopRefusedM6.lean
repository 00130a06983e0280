/- wire.CheckBatch: what it answers, for every batch. -/
import Derived.Test.YtnfcaonmfkbofaaGreatDoorAppR
import Derived.Test.YtnfcaonmfkbofaaGreatDoorTopRefusedM0
import Derived.Test.YtnfcaonmfkbofaaGreatDoorStrsAt
import Derived.Test.YtnfcaonmfkbofaaGreatDoorAppD
import Derived.Test.YtnfcaonmfkbofaaGreatDoorCertF
import Derived.Test.YtnfcaonmfkbofaaGreatDoorMsgF
import Derived.Test.YtnfcaonmfkbofaaGreatDoorCheckM
import Derived.Test.YtnfcaonmfkbofaaGreatDoorHeadK
import Derived.Test.YtnfcaonmfkbofaaGreatDoorBunF
import Derived.Test.YtnfcaonmfkbofaaGreatDoorStrs
namespace Go.Proofs.YtnfcaonmfkbofaaGreatDoor
open Go.RowKit

/-- P2.6: the texts of a batch, each behind its length. -/
def txsB : List ByteArray → List Int
  | [] => []
  | s :: l => (s.size : Int) :: (tb s ++ txsB l)
set_option maxRecDepth 100000 in
theorem txsB_snoc (l : List ByteArray) (s : ByteArray) : txsB (l ++ [s]) = txsB l ++ ((s.size : Int) :: tb s) := by
  induction l with
  | nil => simp [txsB]
  | cons x l ih => simp [txsB, ih]
set_option maxRecDepth 100000 in
theorem txsB_le (l : List ByteArray) (h : ∀ s ∈ l, s.size ≤ 20) : (txsB l).length ≤ 21 * l.length := by
  induction l with
  | nil => simp [txsB]
  | cons x l ih =>
    have h1 := h x (by simp)
    have h2 := ih (fun s hs => h s (by simp [hs]))
    simp [txsB, tb_length]; omega
/-- P2.6: the bytes of a batch. -/
def batchB (au nu : Int) (ss : List ByteArray) : List Int := [au] ++ rd3 nu ++ [(ss.length : Int)] ++ txsB ss
set_option maxRecDepth 100000 in
set_option maxHeartbeats 1000000 in
theorem appendBatch_any (base : Nat) (v : Value) (k : Nat) (bs : List Int) (au nu : Int) (sa : Option Addr) (n cap : Nat) (ss : List ByteArray) (w : World) (ha : 0 ≤ au ∧ au < 4) (hr : 0 ≤ nu ∧ nu ≤ 1048576) (hn : n = ss.length) (hl : ss.length ≤ 4) (hz : ∀ s ∈ ss, s.size ≤ 20) (hs : StrsAt w sa ss) (hne : ∀ sb so, sa = some ⟨sb, so, none⟩ → sb < w.heap.size ∧ v.ownBlock ≠ some sb)
    (ho : w.ownsRow base 5 1 v k (ub bs)) (hB : base ≤ w.heap.size) (hk : k ≤ 90000) :
    Calls Tryz.prog 39 #[v, .agg #[.int .i64 au, .int .i64 nu, .slice sa n cap]] w fun e w' => ∃ v', e = .returned v' ∧ w'.ownsRow base 5 1 v' (k + (batchB au nu ss).length) (ub (bs ++ batchB au nu ss)) ∧ Grew w v w' v' := by
  subst hn
  obtain ⟨i, hi, hz0, hz1, hz2⟩ := info_parts infoU8
  obtain ⟨ha0, ha1⟩ := ha
  have hvne : v.ownBlock ≠ some w.heap.size := fun e => by have := (ho.lt _ e).2; omega
  go_enter Tryz.func39, Tryz.ntmps39
  go_wp2_with (at_builtin; refine wpList_append_own_at _ rfl _ _ 51 rfl base 5 i (.int .u8 0) 1 1 Tryz.underlying51 hi hz0 hz1 hz2 rfl (by decide) _ k _ rfl (World.ownsRow.alloc (World.ownsRow.alloc ho _) _) ⟨w.heap.size + 1, 0, none⟩ 1 1 [.int .u8 au] rfl rfl (by have := cells_new (w.alloc (.cells #[.int .i64 au, .int .i64 nu, .slice sa ss.length cap] 73)) [.int .u8 au] 5; rw [size_alloc] at this; exact this) (u8_one [_]) (by unfold maxLen; omega) (by omega) (le_alloc (le_alloc hB _) _) ?_; intro v1 w1 ho1 hg1 _ hat; have G1 := Grew.of hg1 hat; have r1 := G1.row (heap_alloc2_old w _ _) hvne; have c1 : w1.cell? ⟨w.heap.size, 1, none⟩ = some (.int .i64 nu) := cells_at r1 1 _ rfl)
  have ho1' : w1.ownsRow base 5 1 v1 (k + 1) (ub (bs ++ [au])) := by simpa [ub] using ho1
  have hv1ne : v1.ownBlock ≠ some w.heap.size := fun e => by
    rcases G1.fresh _ e with g | g
    · exact hvne g
    · rw [size_alloc, size_alloc] at g; omega
  have G0 := G1.alloc.alloc
  clear ho1 hg1 hat G1
  refine (appendRound_any base v1 (k + 1) _ nu _ hr ho1' (Nat.le_trans hB G0.grown.size) (by omega)).mono ?_
  rintro e w2 ⟨v2, rfl, ho2, G2⟩
  have r2 := G2.row r1 hv1ne
  have c2 : w2.cell? ⟨w.heap.size, 2, none⟩ = some (.slice sa ss.length cap) := cells_at r2 2 _ rfl
  have hv2ne : v2.ownBlock ≠ some w.heap.size := fun e => by
    rcases G2.fresh _ e with g | g
    · exact hv1ne g
    · have := lt_of_heap r1; omega
  have G02 := G0.trans G2
  clear r1 c1
  go_wp2_with (at_builtin; refine wpList_append_own_at _ rfl _ _ 51 rfl base 5 i (.int .u8 0) 1 1 Tryz.underlying51 hi hz0 hz1 hz2 rfl (by decide) _ (k + 1 + 3) _ rfl (World.ownsRow.alloc ho2 _) ⟨w2.heap.size, 0, none⟩ 1 1 [.int .u8 (ss.length : Int)] rfl rfl (cells_new _ _ _) (u8_one [_]) (by unfold maxLen; omega) (by omega) (le_alloc (Nat.le_trans hB G02.grown.size) _) ?_; intro v3 w3 ho3 hg3 _ hat3; have G3 := (Grew.of hg3 hat3).alloc; have r3 := G3.row r2 hv2ne; have c3 : w3.cell? ⟨w.heap.size, 2, none⟩ = some (.slice sa ss.length cap) := cells_at r3 2 _ rfl)
  have ho3' : w3.ownsRow base 5 1 v3 (k + 1 + 3 + 1) (ub (bs ++ [au] ++ rd3 nu ++ [(ss.length : Int)])) := by simpa [ub] using ho3
  have G03 := G02.trans G3
  have hv3ne : v3.ownBlock ≠ some w.heap.size := fun e => by
    rcases G3.fresh _ e with g | g
    · exact hv2ne g
    · have := lt_of_heap r2; omega
  clear r2 c2 ho3 hg3 hat3 G3 ho2 G2 G0 G02 hv2ne hv1ne
  go_loopw [27, 0] (fun j t wr => ∃ m : Nat, m ≤ ss.length ∧ j = .int .i64 m ∧ wr.ownsRow base 5 1 t (k + 1 + 3 + 1 + (txsB (ss.take m)).length) (ub (bs ++ [au] ++ rd3 nu ++ [(ss.length : Int)] ++ txsB (ss.take m))) ∧ Grew w v wr t) (fun j _ _ => ss.length - (intOf j).toNat)
  case atStart => exact ⟨0, Nat.zero_le _, rfl, by simpa [txsB] using ho3', G03⟩
  case round =>
    clear ho3' G03 r3 c3 hv3ne
    obtain ⟨m, hm, rfl, ho, G⟩ := hrel
    by_cases hlt : m < ss.length
    · obtain ⟨sb, so, rfl, hc⟩ : ∃ sb so, sa = some ⟨sb, so, none⟩ ∧ ∀ j, j < ss.length → w.cell? ⟨sb, so + j, none⟩ = some (.string (ss.getD j ByteArray.empty)) := by
        rcases hs.cells with h | h
        · rw [h] at hlt; simp at hlt
        · exact h
      have ck0 := hc m hlt
      have ck : wr.cell? ⟨sb, so + m, none⟩ = some (.string (ss.getD m ByteArray.empty)) := (World.cell?_of_block (G.grown.block sb (block_lt_of_cell ck0) (fun e => (hne sb so rfl).2 e.symm))).trans ck0
      have hsz : (ss.getD m ByteArray.empty).size ≤ 20 := hz _ (by simp [List.getD, hlt])
      have hst : Hid (txsB (ss.take (m + 1)) = txsB (ss.take m) ++ (((ss.getD m ByteArray.empty).size : Int) :: tb (ss.getD m ByteArray.empty))) := by
        show _ = _
        rw [List.take_succ_eq_append_getElem hlt, txsB_snoc]
        simp only [List.getD, List.getElem?_eq_getElem hlt, Option.getD_some]
      have hLe : (txsB (ss.take m)).length ≤ 84 := by
        have h1 := txsB_le (ss.take m) (fun s h => hz s (List.mem_of_mem_take h))
        have h2 : (ss.take m).length ≤ 4 := by rw [List.length_take]; omega
        omega
      have hltI : (m : Int) < ss.length := by omega
      clear hc ck0
      generalize ss.getD m ByteArray.empty = x at ck hst hsz
      generalize txsB (ss.take m) = T at ho hst hLe
      have hBr : base ≤ wr.heap.size := Nat.le_trans hB G.grown.size
      go_wp2_with (at_builtin; first | (refine wpList_append_own_at _ rfl _ _ 51 rfl base 5 i (.int .u8 0) 1 1 Tryz.underlying51 hi hz0 hz1 hz2 rfl (by decide) _ (k + 1 + 3 + 1 + T.length) _ rfl (World.ownsRow.alloc ho _) ⟨wr.heap.size, 0, none⟩ 1 1 [.int .u8 (x.size : Int)] rfl rfl (cells_new _ _ _) (u8_one [_]) (by unfold maxLen; omega) (by omega) (le_alloc hBr _) ?_; intro v4 w4 ho4 hg4 _ hat4; have G4 := G.trans (Grew.of hg4 hat4).alloc; have ho4' : w4.ownsRow base 5 1 v4 (k + 1 + 3 + 1 + T.length + 1) (ub (bs ++ [au] ++ rd3 nu ++ [(ss.length : Int)] ++ T ++ [(x.size : Int)])) := (by simpa [ub] using ho4); clear ho4 hg4 hat4) | (refine wpList_append_str rfl _ _ rfl base _ (k + 1 + 3 + 1 + T.length + 1) _ rfl ho4' x rfl (by omega) (Nat.le_trans hB G4.grown.size) ?_; intro v5 w5 ho5 G5))
      go_roundw
      case rel =>
        have hR : ∃ m' : Nat, m' ≤ ss.length ∧ (Value.int .i64 ((m : Int) + 1)) = .int .i64 m' ∧ w5.ownsRow base 5 1 v5 (k + 1 + 3 + 1 + (txsB (ss.take m')).length) (ub (bs ++ [au] ++ rd3 nu ++ [(ss.length : Int)] ++ txsB (ss.take m'))) ∧ Grew w v w5 v5 :=
          ⟨m + 1, by omega, by go_num, by rw [hst.out]; simp only [List.length_append, List.length_cons, tb_length]; rw [show k + 1 + 3 + 1 + (T.length + (x.size + 1)) = k + 1 + 3 + 1 + T.length + 1 + x.size by omega]; simpa using ho5, G4.trans G5⟩
        first | exact hR | ((repeat apply Exists.intro); exact ⟨hR, rfl⟩)
      case measure => simp [intOf]; omega
    · obtain rfl : m = ss.length := by omega
      rw [List.take_of_length_le (Nat.le_refl _)] at ho
      have hltI : ¬ (ss.length : Int) < ss.length := by omega
      go_wp2_with fail
      go_ret
      refine ⟨_, rfl, ?_, G⟩
      have e : k + (batchB au nu ss).length = k + 1 + 3 + 1 + (txsB ss).length := by simp [batchB, rd3]; omega
      rw [e, show bs ++ batchB au nu ss = bs ++ [au] ++ rd3 nu ++ [(ss.length : Int)] ++ txsB ss by simp [batchB]]
      exact ho
end Go.Proofs.YtnfcaonmfkbofaaGreatDoor

namespace Go.Proofs.YtnfcaonmfkbofaaGreatDoor
open Go.RowKit

/-- P2.6: the bytes of a header. -/
def headB (au rd : Int) (bl pl : List Part) : List Int := [au] ++ rd3 rd ++ digsB bl ++ digsB pl
set_option maxRecDepth 100000 in
set_option maxHeartbeats 1000000 in
theorem appendHeader_w (base : Nat) (v : Value) (k : Nat) (bs : List Int) (au rd : Int) (ba : Option Addr) (bn bc : Nat) (bl : List Part) (pa : Option Addr) (pn pc : Nat) (pl : List Part) (w : World) (ha : 0 ≤ au ∧ au < 4) (hr : 0 ≤ rd ∧ rd ≤ 1048576) (hbn : bn = bl.length) (hpn : pn = pl.length) (hbl : bl.length ≤ 4) (hpl : pl.length ≤ 4) (hb32 : ∀ p ∈ bl, p.bs.length = 32) (hp32 : ∀ p ∈ pl, p.bs.length = 32)
    (hLb : ListAt w ba bc bl) (hOb : OffW w v ba bl) (hLp : ListAt w pa pc pl) (hOp : OffW w v pa pl)
    (ho : w.ownsRow base 5 1 v k (ub bs)) (hB : base ≤ w.heap.size) (hk : k ≤ 80000) :
    Calls Tryz.prog 40 #[v, .agg #[.int .i64 au, .int .i64 rd, .slice ba bn bc, .slice pa pn pc]] w fun e w' => ∃ v', e = .returned v' ∧ w'.ownsRow base 5 1 v' (k + (headB au rd bl pl).length) (ub (bs ++ headB au rd bl pl)) ∧ Grew w v w' v' := by
  subst hbn hpn
  obtain ⟨i, hi, hz0, hz1, hz2⟩ := info_parts infoU8
  obtain ⟨ha0, ha1⟩ := ha
  have hvne : v.ownBlock ≠ some w.heap.size := fun e => by have := (ho.lt _ e).2; omega
  go_enter Tryz.func40, Tryz.ntmps40
  go_wp2_with (at_builtin; refine wpList_append_own_at _ rfl _ _ 51 rfl base 5 i (.int .u8 0) 1 1 Tryz.underlying51 hi hz0 hz1 hz2 rfl (by decide) _ k _ rfl (World.ownsRow.alloc (World.ownsRow.alloc ho _) _) ⟨w.heap.size + 1, 0, none⟩ 1 1 [.int .u8 au] rfl rfl (by have := cells_new (w.alloc (.cells #[.int .i64 au, .int .i64 rd, .slice ba bl.length bc, .slice pa pl.length pc] 67)) [.int .u8 au] 5; rw [size_alloc] at this; exact this) (u8_one [_]) (by unfold maxLen; omega) (by omega) (le_alloc (le_alloc hB _) _) ?_; intro v1 w1 ho1 hg1 _ hat; have G1 := Grew.of hg1 hat; have r1 := G1.row (heap_alloc2_old w _ _) hvne; have c1 : w1.cell? ⟨w.heap.size, 1, none⟩ = some (.int .i64 rd) := cells_at r1 1 _ rfl)
  have ho1' : w1.ownsRow base 5 1 v1 (k + 1) (ub (bs ++ [au])) := by simpa [ub] using ho1
  have hv1ne : v1.ownBlock ≠ some w.heap.size := fun e => by
    rcases G1.fresh _ e with g | g
    · exact hvne g
    · rw [size_alloc, size_alloc] at g; omega
  have G0 := G1.alloc.alloc
  clear ho1 hg1 hat G1
  refine (appendRound_any base v1 (k + 1) _ rd _ hr ho1' (Nat.le_trans hB G0.grown.size) (by omega)).mono ?_
  rintro e w2 ⟨v2, rfl, ho2, G2⟩
  have r2 := G2.row r1 hv1ne
  have c2 : w2.cell? ⟨w.heap.size, 2, none⟩ = some (.slice ba bl.length bc) := cells_at r2 2 _ rfl
  have hv2ne : v2.ownBlock ≠ some w.heap.size := fun e => by
    rcases G2.fresh _ e with g | g
    · exact hv1ne g
    · have := lt_of_heap r1; omega
  have G02 := G0.trans G2
  have hD1 := appendDigests_w base v2 (k + 1 + 3) _ ba _ bc bl w2 rfl hbl hb32 (G02.listW hLb hOb) (G02.offW hOb) ho2 (Nat.le_trans hB G02.grown.size) (by omega)
  clear r1 c1
  go_wp2_with fail
  refine hD1.mono ?_
  rintro e w3 ⟨v3, rfl, ho3, G3⟩
  have r3 := G3.row r2 hv2ne
  have c3 : w3.cell? ⟨w.heap.size, 3, none⟩ = some (.slice pa pl.length pc) := cells_at r3 3 _ rfl
  have G03 := G02.trans G3
  have hlb := flatB_length bl hb32
  have hD2 := appendDigests_w base v3 (k + 1 + 3 + (digsB bl).length) _ pa _ pc pl w3 rfl hpl hp32 (G03.listW hLp hOp) (G03.offW hOp) ho3 (Nat.le_trans hB G03.grown.size) (by simp [digsB]; omega)
  clear r2 c2 hD1 hlb
  go_wp2_with fail
  refine hD2.mono ?_
  rintro e w4 ⟨v4, rfl, ho4, G4⟩
  go_wp2_with fail
  go_ret
  refine ⟨v4, rfl, ?_, G03.trans G4⟩
  rw [show k + (headB au rd bl pl).length = k + 1 + 3 + (digsB bl).length + (digsB pl).length by simp [headB, rd3]; omega, show bs ++ headB au rd bl pl = bs ++ [au] ++ rd3 rd ++ digsB bl ++ digsB pl by simp [headB]]
  exact ho4
set_option maxRecDepth 100000 in
theorem appendHeader_any (base : Nat) (v : Value) (k : Nat) (bs : List Int) (au rd : Int) (ba : Option Addr) (bn bc : Nat) (bl : List Part) (pa : Option Addr) (pn pc : Nat) (pl : List Part) (w : World) (ha : 0 ≤ au ∧ au < 4) (hr : 0 ≤ rd ∧ rd ≤ 1048576) (hbn : bn = bl.length) (hpn : pn = pl.length) (hbl : bl.length ≤ 4) (hpl : pl.length ≤ 4) (hb32 : ∀ p ∈ bl, p.bs.length = 32) (hp32 : ∀ p ∈ pl, p.bs.length = 32)
    (hLb : ListAt w ba bc bl) (hOb : Off w v ba bl) (hLp : ListAt w pa pc pl) (hOp : Off w v pa pl)
    (ho : w.ownsRow base 5 1 v k (ub bs)) (hB : base ≤ w.heap.size) (hk : k ≤ 80000) :
    Calls Tryz.prog 40 #[v, .agg #[.int .i64 au, .int .i64 rd, .slice ba bn bc, .slice pa pn pc]] w fun e w' => ∃ v', e = .returned v' ∧ w'.ownsRow base 5 1 v' (k + (headB au rd bl pl).length) (ub (bs ++ headB au rd bl pl)) ∧ Grew w v w' v' :=
  appendHeader_w base v k bs au rd ba bn bc bl pa pn pc pl w ha hr hbn hpn hbl hpl hb32 hp32 hLb hOb.weak hLp hOp.weak ho hB hk
end Go.Proofs.YtnfcaonmfkbofaaGreatDoor

namespace Go.Proofs.YtnfcaonmfkbofaaGreatDoor
open Go.RowKit

set_option maxRecDepth 100000 in
theorem headB_le (au rd : Int) (bl pl : List Part) (hbl : bl.length ≤ 4) (hpl : pl.length ≤ 4) (hb32 : ∀ p ∈ bl, p.bs.length = 32) (hp32 : ∀ p ∈ pl, p.bs.length = 32) : (headB au rd bl pl).length ≤ 300 := by
  have h1 := flatB_length bl hb32
  have h2 := flatB_length pl hp32
  simp [headB, rd3, digsB]; omega
end Go.Proofs.YtnfcaonmfkbofaaGreatDoor

namespace Go.Proofs.YtnfcaonmfkbofaaGreatDoor
open Go.RowKit

/-- P2.9: the bytes of a certificate. -/
def certB (au rd : Int) (bl pl : List Part) (vl : List Int) : List Int := headB au rd bl pl ++ [(vl.length : Int)] ++ vl
set_option maxRecDepth 100000 in
set_option maxHeartbeats 1000000 in
theorem appendCert_w (base : Nat) (v : Value) (k : Nat) (bs : List Int) (au rd : Int) (ba : Option Addr) (bn bc : Nat) (bl : List Part) (pa : Option Addr) (pn pc : Nat) (pl : List Part) (va : Option Addr) (vn vc : Nat) (vl : List Int) (w : World) (ha : 0 ≤ au ∧ au < 4) (hr : 0 ≤ rd ∧ rd ≤ 1048576) (hbn : bn = bl.length) (hpn : pn = pl.length) (hvn : vn = vl.length) (hbl : bl.length ≤ 4) (hpl : pl.length ≤ 4) (hvl : vl.length ≤ 4) (hb32 : ∀ p ∈ bl, p.bs.length = 32) (hp32 : ∀ p ∈ pl, p.bs.length = 32) (hv4 : ∀ x ∈ vl, 0 ≤ x ∧ x < 4)
    (hLb : ListAt w ba bc bl) (hOb : OffW w v ba bl) (hLp : ListAt w pa pc pl) (hOp : OffW w v pa pl) (hI : IntsAt w va vl) (hne : ∀ sb so, va = some ⟨sb, so, none⟩ → sb < w.heap.size ∧ v.ownBlock ≠ some sb)
    (ho : w.ownsRow base 5 1 v k (ub bs)) (hB : base ≤ w.heap.size) (hk : k ≤ 80000) :
    Calls Tryz.prog 42 #[v, .agg #[.int .i64 au, .int .i64 rd, .slice ba bn bc, .slice pa pn pc, .slice va vn vc]] w fun e w' => ∃ v', e = .returned v' ∧ w'.ownsRow base 5 1 v' (k + (certB au rd bl pl vl).length) (ub (bs ++ certB au rd bl pl vl)) ∧ Grew w v w' v' := by
  subst hvn
  obtain ⟨i, hi, hz0, hz1, hz2⟩ := info_parts infoU8
  have hvne : v.ownBlock ≠ some w.heap.size := fun e => by have := (ho.lt _ e).2; omega
  have hA : Below w.heap.size w (w.alloc (.cells #[.int .i64 au, .int .i64 rd, .slice ba bn bc, .slice pa pn pc, .slice va vl.length vc] 70)) := (Below.refl _ _).alloc (Nat.le_refl _) _
  have hH := appendHeader_w base v k bs au rd ba bn bc bl pa pn pc pl _ ha hr hbn hpn hbl hpl hb32 hp32 (hLb.below hA) (hOb.alloc (.cells #[.int .i64 au, .int .i64 rd, .slice ba bn bc, .slice pa pn pc, .slice va vl.length vc] 70)) (hLp.below hA) (hOp.alloc _) (World.ownsRow.alloc ho _) (le_alloc hB _) hk
  have hle := headB_le au rd bl pl hbl hpl hb32 hp32
  clear hbn hpn
  go_enter Tryz.func42, Tryz.ntmps42
  go_wp2_with fail
  refine hH.mono ?_
  rintro e w1 ⟨v1, rfl, ho1, G1⟩
  have r1 := G1.row (heap_alloc_new w _) hvne
  have c4 : w1.cell? ⟨w.heap.size, 4, none⟩ = some (.slice va vl.length vc) := cells_at r1 4 _ rfl
  have hv1ne : v1.ownBlock ≠ some w.heap.size := fun e => by
    rcases G1.fresh _ e with g | g
    · exact hvne g
    · rw [size_alloc] at g; omega
  have G0 := G1.alloc
  clear hH G1
  have hC : certB au rd bl pl vl = headB au rd bl pl ++ [(vl.length : Int)] ++ vl := rfl
  generalize headB au rd bl pl = HB at *
  have HC : Hid (certB au rd bl pl vl = HB ++ [(vl.length : Int)] ++ vl) := hC
  clear hC
  go_wp2_with (at_builtin; refine wpList_append_own_at _ rfl _ _ 51 rfl base 5 i (.int .u8 0) 1 1 Tryz.underlying51 hi hz0 hz1 hz2 rfl (by decide) _ (k + HB.length) _ rfl (World.ownsRow.alloc ho1 _) ⟨w1.heap.size, 0, none⟩ 1 1 [.int .u8 (vl.length : Int)] rfl rfl (cells_new _ _ _) (u8_one [_]) (by unfold maxLen; omega) (by omega) (le_alloc (Nat.le_trans hB G0.grown.size) _) ?_; intro v2 w2 ho2 hg2 _ hat; have G2 := (Grew.of hg2 hat).alloc; have r2 := G2.row r1 hv1ne; have d4 : w2.cell? ⟨w.heap.size, 4, none⟩ = some (.slice va vl.length vc) := cells_at r2 4 _ rfl)
  have ho2' : w2.ownsRow base 5 1 v2 (k + HB.length + 1) (ub (bs ++ HB ++ [(vl.length : Int)])) := by simpa [ub] using ho2
  have G02 := G0.trans G2
  clear ho2 hg2 hat c4 r1
  go_loopw [21, 0] (fun j t wr => ∃ (m : Nat) (tv : Value), m ≤ vl.length ∧ j = .int .i64 m ∧ tv = t ∧ wr.ownsRow base 5 1 tv (k + HB.length + 1 + m) (ub (bs ++ HB ++ [(vl.length : Int)] ++ vl.take m)) ∧ Grew w v wr tv) (fun j _ _ => vl.length - (intOf j).toNat)
  case atStart => exact ⟨0, _, Nat.zero_le _, rfl, rfl, by simpa using ho2', G02⟩
  case round =>
    clear ho2' G02 r2 d4
    obtain ⟨m, tv, hm, rfl, rfl, ho, G⟩ := hrel
    by_cases hlt : m < vl.length
    · obtain ⟨sb, so, rfl, hc⟩ : ∃ sb so, va = some ⟨sb, so, none⟩ ∧ ∀ j, j < vl.length → w.cell? ⟨sb, so + j, none⟩ = some (.int .i64 (vl.getD j 0)) := by
        rcases hI.cells with h | h
        · rw [h] at hlt; simp at hlt
        · exact h
      have ck0 := hc m hlt
      have ck : wr.cell? ⟨sb, so + m, none⟩ = some (.int .i64 (vl.getD m 0)) := (World.cell?_of_block (G.grown.block sb (block_lt_of_cell ck0) (fun e => (hne sb so rfl).2 e.symm))).trans ck0
      obtain ⟨hx0, hx1⟩ := hv4 (vl.getD m 0) (by simp [List.getD, hlt])
      have hst : Hid (vl.take (m + 1) = vl.take m ++ [vl.getD m 0]) := by
        show _ = _
        rw [List.take_succ_eq_append_getElem hlt]
        simp only [List.getD, List.getElem?_eq_getElem hlt, Option.getD_some]
      have hltI : (m : Int) < vl.length := by omega
      clear hc ck0
      generalize vl.getD m 0 = x at ck hst hx0 hx1
      have hBr : base ≤ wr.heap.size := Nat.le_trans hB G.grown.size
      go_wp2_with (at_builtin; refine wpList_append_own_at _ rfl _ _ 51 rfl base 5 i (.int .u8 0) 1 1 Tryz.underlying51 hi hz0 hz1 hz2 rfl (by decide) _ (k + HB.length + 1 + m) _ rfl (World.ownsRow.alloc ho _) ⟨wr.heap.size, 0, none⟩ 1 1 [.int .u8 x] rfl rfl (cells_new _ _ _) (u8_one [_]) (by unfold maxLen; omega) (by omega) (le_alloc hBr _) ?_; intro v5 w5 ho5 hg5 _ hat5)
      go_roundw
      case rel =>
        have hR : ∃ (m' : Nat) (tv' : Value), m' ≤ vl.length ∧ (Value.int .i64 ((m : Int) + 1)) = .int .i64 m' ∧ tv' = v5 ∧ w5.ownsRow base 5 1 tv' (k + HB.length + 1 + m') (ub (bs ++ HB ++ [(vl.length : Int)] ++ vl.take m')) ∧ Grew w v w5 tv' :=
          ⟨m + 1, v5, by omega, by go_num, rfl, by rw [hst.out, ← List.append_assoc]; exact owns_snoc ho5, G.trans (Grew.of hg5 hat5).alloc⟩
        first | exact hR | ((repeat apply Exists.intro); exact ⟨hR, rfl⟩)
      case measure => simp [intOf]; omega
    · obtain rfl : m = vl.length := by omega
      rw [List.take_of_length_le (Nat.le_refl _)] at ho
      have hltI : ¬ (vl.length : Int) < vl.length := by omega
      go_wp2_with fail
      go_ret
      refine ⟨_, rfl, ?_, G⟩
      rw [HC.out, show k + (HB ++ [(vl.length : Int)] ++ vl).length = k + HB.length + 1 + vl.length by simp; omega, show bs ++ (HB ++ [(vl.length : Int)] ++ vl) = bs ++ HB ++ [(vl.length : Int)] ++ vl by simp]
      exact ho
set_option maxRecDepth 100000 in
theorem appendCert_any (base : Nat) (v : Value) (k : Nat) (bs : List Int) (au rd : Int) (ba : Option Addr) (bn bc : Nat) (bl : List Part) (pa : Option Addr) (pn pc : Nat) (pl : List Part) (va : Option Addr) (vn vc : Nat) (vl : List Int) (w : World) (ha : 0 ≤ au ∧ au < 4) (hr : 0 ≤ rd ∧ rd ≤ 1048576) (hbn : bn = bl.length) (hpn : pn = pl.length) (hvn : vn = vl.length) (hbl : bl.length ≤ 4) (hpl : pl.length ≤ 4) (hvl : vl.length ≤ 4) (hb32 : ∀ p ∈ bl, p.bs.length = 32) (hp32 : ∀ p ∈ pl, p.bs.length = 32) (hv4 : ∀ x ∈ vl, 0 ≤ x ∧ x < 4)
    (hLb : ListAt w ba bc bl) (hOb : Off w v ba bl) (hLp : ListAt w pa pc pl) (hOp : Off w v pa pl) (hI : IntsAt w va vl) (hne : ∀ sb so, va = some ⟨sb, so, none⟩ → sb < w.heap.size ∧ v.ownBlock ≠ some sb)
    (ho : w.ownsRow base 5 1 v k (ub bs)) (hB : base ≤ w.heap.size) (hk : k ≤ 80000) :
    Calls Tryz.prog 42 #[v, .agg #[.int .i64 au, .int .i64 rd, .slice ba bn bc, .slice pa pn pc, .slice va vn vc]] w fun e w' => ∃ v', e = .returned v' ∧ w'.ownsRow base 5 1 v' (k + (certB au rd bl pl vl).length) (ub (bs ++ certB au rd bl pl vl)) ∧ Grew w v w' v' :=
  appendCert_w base v k bs au rd ba bn bc bl pa pn pc pl va vn vc vl w ha hr hbn hpn hvn hbl hpl hvl hb32 hp32 hv4 hLb hOb.weak hLp hOp.weak hI hne ho hB hk
end Go.Proofs.YtnfcaonmfkbofaaGreatDoor

namespace Go.Proofs.YtnfcaonmfkbofaaGreatDoor
open Go.RowKit

/-- What the kind carries, as bytes. -/
def bodyB (m : Msg) (ss : List ByteArray) (bl pl cbl cpl : List Part) (ds vl : List Int) : List Int := if m.ki = 1 then batchB m.bau m.bnu ss else if m.ki = 2 then headB m.hau m.hrd bl pl else if m.ki = 3 then [m.sau] ++ rd3 m.srd ++ ds else if m.ki = 4 then certB m.cau m.crd cbl cpl vl else rd3 m.ro
/-- P2.9. -/
def msgB (m : Msg) (ss : List ByteArray) (bl pl cbl cpl : List Part) (ds vl : List Int) : List Int := [m.ki, m.fr, m.tt] ++ bodyB m ss bl pl cbl cpl ds vl
set_option maxRecDepth 100000 in
theorem checkF_ok {m : Msg} {e : Int} (h : checkF m e = 0) : (0 ≤ m.fr ∧ m.fr < 4) ∧ (0 ≤ m.tt ∧ m.tt < 4) ∧ e = 0 ∧ msgEmpty (strip m) = true := by
  unfold checkF at h
  split at h
  · cases h
  · rename_i h1
    split at h
    · rename_i h2; exact absurd h h2
    · rename_i h2
      split at h
      · rename_i h3
        exact ⟨by omega, by omega, by simpa using h2, h3⟩
      · cases h
set_option maxRecDepth 100000 in
theorem checkF_zero {m : Msg} {e : Int} (hf : 0 ≤ m.fr ∧ m.fr < 4) (ht : 0 ≤ m.tt ∧ m.tt < 4) (he : e = 0) (hm : msgEmpty (strip m) = true) : checkF m e = 0 := by
  rw [checkF, if_neg (by omega), if_neg (by simp [he]), if_pos hm]
set_option maxRecDepth 100000 in
theorem carriedF_kind {m : Msg} {ss : List ByteArray} {bl pl cbl cpl : List Part} {vl : List Int} (h : carriedF m ss bl pl cbl cpl vl = 0) : m.ki = 1 ∨ m.ki = 2 ∨ m.ki = 3 ∨ m.ki = 4 ∨ m.ki = 5 := by
  unfold carriedF at h
  repeat' split at h
  all_goals first | (cases h; done) | omega
set_option maxRecDepth 100000 in
theorem slotF_ok {au rd : Int} {n : Nat} (h : slotF au rd n = 0) : (0 ≤ au ∧ au < 4) ∧ (1 ≤ rd ∧ rd ≤ 1048576) ∧ n = 32 := by
  unfold slotF at h
  split at h
  · cases h
  · split at h
    · cases h
    · exact ⟨by omega, by omega, by omega⟩
set_option maxRecDepth 100000 in
theorem vTo_zero (vl : List Int) (k : Nat) (h : vTo vl k = 0) : ∀ j, j < k → vAt vl j = 0 := by
  induction k with
  | zero => intro j hj; omega
  | succ k ih =>
    rw [vTo] at h
    split at h
    · rename_i h1; exact absurd h h1
    · rename_i h1
      intro j hj
      rcases Nat.lt_or_ge j k with g | g
      · exact ih (by simpa using h1) j g
      · obtain rfl : j = k := by omega
        exact h
set_option maxRecDepth 100000 in
theorem certF_ok {au rd : Int} {bl pl : List Part} {vl : List Int} (h : certF au rd bl pl vl = 0) : headerF au rd bl pl = 0 ∧ vl.length ≤ 4 ∧ 3 ≤ vl.length ∧ ∀ x ∈ vl, 0 ≤ x ∧ x < 4 := by
  unfold certF at h
  split at h
  · rename_i h1; exact absurd h h1
  · rename_i h1
    split at h
    · cases h
    · rename_i h2
      unfold votersF at h
      split at h
      · rename_i h3; exact absurd h h3
      · rename_i h3
        split at h
        · cases h
        · refine ⟨by simpa using h1, by omega, by omega, fun x hx => ?_⟩
          obtain ⟨j, hj, rfl⟩ := List.getElem_of_mem hx
          have h4 := vTo_zero vl vl.length (by simpa using h3) j hj
          rw [vAt] at h4
          split at h4
          · cases h4
          · rename_i h5
            have h6 : vl.getD j 0 = vl[j] := by simp [List.getD, hj]
            rw [h6] at h5
            omega
set_option maxRecDepth 100000 in
theorem bodyB1 {m : Msg} (h : m.ki = 1) (ss : List ByteArray) (bl pl cbl cpl : List Part) (ds vl : List Int) : bodyB m ss bl pl cbl cpl ds vl = batchB m.bau m.bnu ss := by simp [bodyB, h]
set_option maxRecDepth 100000 in
theorem bodyB2 {m : Msg} (h : m.ki = 2) (ss : List ByteArray) (bl pl cbl cpl : List Part) (ds vl : List Int) : bodyB m ss bl pl cbl cpl ds vl = headB m.hau m.hrd bl pl := by simp [bodyB, h]
set_option maxRecDepth 100000 in
theorem bodyB3 {m : Msg} (h : m.ki = 3) (ss : List ByteArray) (bl pl cbl cpl : List Part) (ds vl : List Int) : bodyB m ss bl pl cbl cpl ds vl = [m.sau] ++ rd3 m.srd ++ ds := by simp [bodyB, h]
set_option maxRecDepth 100000 in
theorem bodyB4 {m : Msg} (h : m.ki = 4) (ss : List ByteArray) (bl pl cbl cpl : List Part) (ds vl : List Int) : bodyB m ss bl pl cbl cpl ds vl = certB m.cau m.crd cbl cpl vl := by simp [bodyB, h]
set_option maxRecDepth 100000 in
theorem bodyB5 {m : Msg} (h : m.ki = 5) (ss : List ByteArray) (bl pl cbl cpl : List Part) (ds vl : List Int) : bodyB m ss bl pl cbl cpl ds vl = rd3 m.ro := by simp [bodyB, h]
set_option maxRecDepth 100000 in
theorem carried1 {m : Msg} (h : m.ki = 1) (ss : List ByteArray) (bl pl cbl cpl : List Part) (vl : List Int) : carriedF m ss bl pl cbl cpl vl = batchF m.bau m.bnu ss := by simp [carriedF, h]
set_option maxRecDepth 100000 in
theorem carried2 {m : Msg} (h : m.ki = 2) (ss : List ByteArray) (bl pl cbl cpl : List Part) (vl : List Int) : carriedF m ss bl pl cbl cpl vl = headerF m.hau m.hrd bl pl := by simp [carriedF, h]
set_option maxRecDepth 100000 in
theorem carried3 {m : Msg} (h : m.ki = 3) (ss : List ByteArray) (bl pl cbl cpl : List Part) (vl : List Int) : carriedF m ss bl pl cbl cpl vl = slotF m.sau m.srd m.sdn := by simp [carriedF, h]
set_option maxRecDepth 100000 in
theorem carried4 {m : Msg} (h : m.ki = 4) (ss : List ByteArray) (bl pl cbl cpl : List Part) (vl : List Int) : carriedF m ss bl pl cbl cpl vl = certF m.cau m.crd cbl cpl vl := by simp [carriedF, h]
set_option maxRecDepth 100000 in
theorem carried5 {m : Msg} (h : m.ki = 5) (ss : List ByteArray) (bl pl cbl cpl : List Part) (vl : List Int) : carriedF m ss bl pl cbl cpl vl = if 1 ≤ m.ro ∧ m.ro ≤ 1048576 then 0 else 2 := by simp [carriedF, h]
set_option maxRecDepth 100000 in
theorem bodyB_le {m : Msg} {ss : List ByteArray} {bl pl cbl cpl : List Part} {ds vl : List Int} (hn : m.sdn = ds.length) (h : carriedF m ss bl pl cbl cpl vl = 0) : (bodyB m ss bl pl cbl cpl ds vl).length ≤ 320 := by
  rcases carriedF_kind h with k | k | k | k | k
  · rw [carried1 k] at h
    obtain ⟨_, _, h3, h4⟩ := batchF_ok h
    have := txsB_le ss (fun s hs => (h4 s hs).2)
    rw [bodyB1 k]
    simp [batchB, rd3]; omega
  · rw [carried2 k] at h
    obtain ⟨_, _, h3, h4, h5, h6⟩ := headerF_ok h
    have := headB_le m.hau m.hrd bl pl (by omega) h4 h5 h6
    rw [bodyB2 k]
    omega
  · rw [carried3 k] at h
    obtain ⟨_, _, h3⟩ := slotF_ok h
    rw [bodyB3 k]
    simp [rd3]; omega
  · rw [carried4 k] at h
    obtain ⟨g1, g2, _, _⟩ := certF_ok h
    obtain ⟨_, _, h3, h4, h5, h6⟩ := headerF_ok g1
    have := headB_le m.cau m.crd cbl cpl (by omega) h4 h5 h6
    rw [bodyB4 k]
    simp [certB]; omega
  · rw [bodyB5 k]
    simp [rd3]
end Go.Proofs.YtnfcaonmfkbofaaGreatDoor

namespace Go.Proofs.YtnfcaonmfkbofaaGreatDoor
open Go.RowKit

set_option maxRecDepth 100000 in
set_option maxHeartbeats 1000000 in
theorem checkBatch_any (au nu : Int) (sa : Option Addr) (n cap : Nat) (ss : List ByteArray) (w : World) (hn : n = ss.length) (hm : n ≤ maxLen) (hs : StrsAt w sa ss) :
    Calls Tryz.prog 87 #[.agg #[.int .i64 au, .int .i64 nu, .slice sa n cap]] w fun e w' => e = .returned (.int .i64 (batchF au nu ss)) ∧ Below w.heap.size w w' := by
  subst hn
  unfold maxLen at hm
  by_cases ha : 0 ≤ au ∧ au < 4
  · by_cases hr : 1 ≤ nu ∧ nu ≤ 1048576
    · by_cases hl : ss.length < 1 ∨ 4 < ss.length
      · have hF : Hid (batchF au nu ss = 1) := by show _ = _; rw [batchF, if_neg (by simp [ha, hr]), if_pos hl]
        have hlI : ¬ (1 ≤ (ss.length : Int) ∧ (ss.length : Int) ≤ 4) := by omega
        rcases hl with hl | hl
        · have hl0 : ss.length = 0 := by omega
          rw [hl0]
          go_enter Tryz.func87, Tryz.ntmps87
          go_wp2_with (first | (go_at_call 64; first | (refine (isNode_true _ _ (by omega)).mono ?_; rintro e w' ⟨rfl, rfl⟩) | (refine (isNode_false _ _ (by omega)).mono ?_; rintro e w' ⟨rfl, rfl⟩)) | (go_at_call 91; first | (refine (isRound_true _ _ (by omega)).mono ?_; rintro e w' ⟨rfl, rfl⟩) | (refine (isRound_false _ _ (by omega)).mono ?_; rintro e w' ⟨rfl, rfl⟩)))
          go_ret
          exact ⟨ret_int hF.out.symm, (Below.refl _ _).alloc (Nat.le_refl _) _⟩
        · have hl1 : (4 : Int) < ss.length := by omega
          have hl2 : ¬ (ss.length : Int) < 1 := by omega
          go_enter Tryz.func87, Tryz.ntmps87
          go_wp2_with (first | (go_at_call 64; first | (refine (isNode_true _ _ (by omega)).mono ?_; rintro e w' ⟨rfl, rfl⟩) | (refine (isNode_false _ _ (by omega)).mono ?_; rintro e w' ⟨rfl, rfl⟩)) | (go_at_call 91; first | (refine (isRound_true _ _ (by omega)).mono ?_; rintro e w' ⟨rfl, rfl⟩) | (refine (isRound_false _ _ (by omega)).mono ?_; rintro e w' ⟨rfl, rfl⟩)))
          go_ret
          exact ⟨ret_int hF.out.symm, (Below.refl _ _).alloc (Nat.le_refl _) _⟩
      · have hF : Hid (batchF au nu ss = if ss.all txOk then 0 else 1) := by show _ = _; rw [batchF, if_neg (by simp [ha, hr]), if_neg hl]
        have hl1 : ¬ (4 : Int) < ss.length := by omega
        have hl2 : ¬ (ss.length : Int) < 1 := by omega
        go_enter Tryz.func87, Tryz.ntmps87
        go_wp2_with (first | (go_at_call 64; first | (refine (isNode_true _ _ (by omega)).mono ?_; rintro e w' ⟨rfl, rfl⟩) | (refine (isNode_false _ _ (by omega)).mono ?_; rintro e w' ⟨rfl, rfl⟩)) | (go_at_call 91; first | (refine (isRound_true _ _ (by omega)).mono ?_; rintro e w' ⟨rfl, rfl⟩) | (refine (isRound_false _ _ (by omega)).mono ?_; rintro e w' ⟨rfl, rfl⟩)))
        go_loop [28] (fun i => ∃ k : Nat, k ≤ ss.length ∧ i = .int .i64 k ∧ ∀ q, q < k → txOk (ss.getD q ByteArray.empty) = true) (fun i => ss.length - (intOf i).toNat)
        case atStart => exact ⟨0, Nat.zero_le _, rfl, fun q hq => by omega⟩
        case round =>
          obtain ⟨k, hk, rfl, hall⟩ := hrel
          by_cases hlt : k < ss.length
          · rcases hs.cells with hc | ⟨sb, so, rfl, hc⟩
            · subst hc; simp at hlt
            have hltI : (k : Int) < ss.length := by omega
            have ck := hc k hlt
            have ck2 := (((Below.refl w.heap.size w).alloc (Nat.le_refl _) (.cells #[.int .i64 au, .int .i64 nu, .slice (some ⟨sb, so, none⟩) ss.length cap] 73)).cell (p := ⟨sb, so + k, none⟩) (block_lt_of_cell ck)).trans ck
            have hz : (ss.getD k ByteArray.empty).size ≤ 9223372036854775807 := hs.size _ (by simp [List.getD, hlt])
            have hT : txOk (ss.getD k ByteArray.empty) = decide (1 ≤ (ss.getD k ByteArray.empty).size ∧ (ss.getD k ByteArray.empty).size ≤ 20) := rfl
            have hstep : Hid (txOk (ss.getD k ByteArray.empty) = true → ∀ q, q < k + 1 → txOk (ss.getD q ByteArray.empty) = true) := by
              show _ → _
              intro h q hq
              rcases Nat.lt_or_ge q k with g | g
              · exact hall q g
              · obtain rfl : q = k := by omega
                exact h
            have hno : Hid (txOk (ss.getD k ByteArray.empty) = false → ss.all txOk = false) := by
              show _ → _
              exact all_false ss txOk ByteArray.empty k hlt
            clear hall hc ck
            generalize ss.getD k ByteArray.empty = s at *
            by_cases h1 : 1 ≤ s.size
            · have h1I : ¬ (s.size : Int) < 1 := by omega
              by_cases h2 : s.size ≤ 20
              · have h2I : ¬ (20 : Int) < s.size := by omega
                have hst := hstep.out (by rw [hT]; simp [h1, h2])
                clear hT hstep hno
                go_wp2_with fail
                go_round
                case rel => exact ⟨k + 1, by omega, by go_num, hst⟩
                case measure => simp [intOf]; omega
              · have h2I : (20 : Int) < s.size := by omega
                have hst := hno.out (by rw [hT]; simp [h2])
                clear hT hstep hno
                rw [hst] at hF
                go_wp2_with fail
                go_ret
                exact ⟨ret_int (by rw [hF.out]; rfl), (Below.refl _ _).alloc (Nat.le_refl _) _⟩
            · have h1I : (s.size : Int) < 1 := by omega
              have hst := hno.out (by rw [hT]; simp [h1])
              clear hT hstep hno
              rw [hst] at hF
              go_wp2_with fail
              go_ret
              exact ⟨ret_int (by rw [hF.out]; rfl), (Below.refl _ _).alloc (Nat.le_refl _) _⟩
          · obtain rfl : k = ss.length := by omega
            have hst := all_true ss txOk ByteArray.empty hall
            rw [hst] at hF
            go_wp2_with fail
            go_ret
            exact ⟨ret_int (by rw [hF.out]; rfl), (Below.refl _ _).alloc (Nat.le_refl _) _⟩
    · have hF : Hid (batchF au nu ss = 2) := by show _ = _; simp [batchF, hr]
      go_enter Tryz.func87, Tryz.ntmps87
      go_wp2_with (first | (go_at_call 64; first | (refine (isNode_true _ _ (by omega)).mono ?_; rintro e w' ⟨rfl, rfl⟩) | (refine (isNode_false _ _ (by omega)).mono ?_; rintro e w' ⟨rfl, rfl⟩)) | (go_at_call 91; first | (refine (isRound_true _ _ (by omega)).mono ?_; rintro e w' ⟨rfl, rfl⟩) | (refine (isRound_false _ _ (by omega)).mono ?_; rintro e w' ⟨rfl, rfl⟩)))
      go_ret
      exact ⟨ret_int hF.out.symm, (Below.refl _ _).alloc (Nat.le_refl _) _⟩
  · have hF : Hid (batchF au nu ss = 2) := by show _ = _; simp [batchF, ha]
    go_enter Tryz.func87, Tryz.ntmps87
    go_wp2_with (first | (go_at_call 64; first | (refine (isNode_true _ _ (by omega)).mono ?_; rintro e w' ⟨rfl, rfl⟩) | (refine (isNode_false _ _ (by omega)).mono ?_; rintro e w' ⟨rfl, rfl⟩)) | (go_at_call 91; first | (refine (isRound_true _ _ (by omega)).mono ?_; rintro e w' ⟨rfl, rfl⟩) | (refine (isRound_false _ _ (by omega)).mono ?_; rintro e w' ⟨rfl, rfl⟩)))
    go_ret
    exact ⟨ret_int hF.out.symm, (Below.refl _ _).alloc (Nat.le_refl _) _⟩
end Go.Proofs.YtnfcaonmfkbofaaGreatDoor
