/- The law sheaveskeep.TapeTorn answers true for every argument, and each argument reads behind the call as it read before: no condition but the form's own reach. -/
import Derived.Test.YthpocgndgphedaaTapeTornM60
import Derived.Test.YthpocgndgphedaaTapeTornM72
import Derived.Test.YthpocgndgphedaaTapeTornM30
import Derived.Test.YthpocgndgphedaaPicked
import Derived.Test.YthpocgndgphedaaTapeTornM66
import Derived.Test.YthpocgndgphedaaRows
import Derived.Test.YthpocgndgphedaaOpenB
import Derived.WalkKit
import Derived.ProofKit
import Derived.OpenShut
import Derived.Deep.DeepHandedRow
import Derived.SevenTiedAt
import Derived.Below
namespace Go.Proofs.Ythpocgndgphedaa
open Go.RowKit

set_option maxRecDepth 100000 in
theorem recs_rowU {w w' : World} {e : Ending} {N : Nat} (h : RecsIs w w' e N) : ∃ (sa : Option Addr) (cap : Nat) (ms : List MV), e = .returned (.slice sa ms.length cap) ∧ ms.length = N ∧ MsRow w' sa ms ∧ (∀ x ∈ ms, MAt w' x ∧ IsRec x) ∧ Below w.heap.size w w' ∧ ∀ x ∈ ms, U8M x.bl x.pl x.cbl x.cpl x.ds := by
  obtain ⟨v, ms, he, hl, ho, ha, hb, hu⟩ := h.out
  obtain ⟨sa, cap, rfl, -, -, -, hr⟩ := msRow_of_owns ho
  exact ⟨sa, cap, ms, he, hl, hr, fun x hx => ⟨(ha x hx).1, (ha x hx).2.1⟩, hb, hu⟩
set_option maxRecDepth 100000 in
theorem recs_row {w w' : World} {e : Ending} {N : Nat} (h : RecsIs w w' e N) : ∃ (sa : Option Addr) (cap : Nat) (ms : List MV), e = .returned (.slice sa ms.length cap) ∧ ms.length = N ∧ MsRow w' sa ms ∧ (∀ x ∈ ms, MAt w' x ∧ IsRec x) ∧ Below w.heap.size w w' := by
  obtain ⟨sa, cap, ms, h1, h2, h3, h4, h5, -⟩ := recs_rowU h
  exact ⟨sa, cap, ms, h1, h2, h3, h4, h5⟩
set_option maxRecDepth 100000 in
theorem encode_rec (x : MV) (w : World) (hM : MAt w x) (hI : IsRec x) :
    Calls Try.prog 31 #[.agg #[.int .i64 x.m.fr, .int .i64 x.m.tt, .int .i64 x.m.ki, .int .i64 x.m.bau, .int .i64 x.m.bnu, .slice x.m.bta x.m.btn x.m.btc, .int .i64 x.m.hau, .int .i64 x.m.hrd, .slice x.m.hba x.m.hbn x.m.hbc, .slice x.m.hpa x.m.hpn x.m.hpc, .int .i64 x.m.sau, .int .i64 x.m.srd, .slice x.m.sda x.m.sdn x.m.sdc, .int .i64 x.m.cau, .int .i64 x.m.crd, .slice x.m.cba x.m.cbn x.m.cbc, .slice x.m.cpa x.m.cpn x.m.cpc, .slice x.m.cva x.m.cvn x.m.cvc, .int .i64 x.m.ro]] w fun e w' => ∃ v, e = .returned (.tuple #[v, .int .i64 0]) ∧ w'.ownsRow w.heap.size 5 1 v x.bytes.length (ub x.bytes) ∧ Below w.heap.size w w' := by
  have h := encode_any x.m x.ss x.bl x.pl x.cbl x.cpl x.ds x.vl w hM.at' hM.dig hM.dn
  have h0 : checkF x.m (carriedF x.m x.ss x.bl x.pl x.cbl x.cpl x.vl) = 0 := hI.check
  rw [h0] at h
  exact h
set_option maxRecDepth 100000 in
theorem sync_ok (bs : List Int) (sa : Option Addr) (n cap : Nat) (sy : Int) (w : World) (hn : n = bs.length) (hs : SliceAt w sa cap bs) (hl : bs.length ≤ 400000) (hy : 0 ≤ sy ∧ sy ≤ bs.length) :
    Calls Try.prog 12 #[.agg #[.slice sa n cap, .int .i64 sy]] w fun e w' => TapeIs w w' e bs bs.length 0 := by
  have h := tapeSync_any bs sa n cap sy w hn hs (by omega)
  have hk : tapeOk bs.length sy = true := tapeOk_iff.2 ⟨hl, hy.1, hy.2⟩
  rw [syncN, if_pos hk, syncF, if_pos hk, List.take_of_length_le (Nat.le_refl _)] at h
  exact h
set_option maxRecDepth 100000 in
theorem crash_ok (bs : List Int) (sa : Option Addr) (n cap : Nat) (sy keep : Int) (w : World) (hn : n = bs.length) (hs : SliceAt w sa cap bs) (hl : bs.length ≤ 400000) (hy : 0 ≤ sy ∧ sy ≤ bs.length) (hk : 0 ≤ keep ∧ keep ≤ 1000000) :
    Calls Try.prog 14 #[.agg #[.slice sa n cap, .int .i64 sy], .int .i64 keep] w fun e w' => TapeIs w w' e (bs.take (leftN bs.length sy keep)) (leftN bs.length sy keep) 0 := by
  have h := tapeCrash_any bs sa n cap sy keep w hn hs (by omega) (by omega) (by omega)
  have ht : tapeOk bs.length sy = true := tapeOk_iff.2 ⟨hl, hy.1, hy.2⟩
  rw [crashN, if_pos ⟨ht, hk.1⟩, crashF, if_pos ht, if_neg (by omega)] at h
  exact h
set_option maxRecDepth 100000 in
theorem crash_neg (bs : List Int) (sa : Option Addr) (n cap : Nat) (sy keep : Int) (w : World) (hn : n = bs.length) (hs : SliceAt w sa cap bs) (hl : bs.length ≤ 400000) (hy : 0 ≤ sy ∧ sy ≤ bs.length) (hk : keep < 0 ∧ -1000000 ≤ keep) :
    Calls Try.prog 14 #[.agg #[.slice sa n cap, .int .i64 sy], .int .i64 keep] w fun e w' => TapeIs w w' e [] 0 2 := by
  have h := tapeCrash_any bs sa n cap sy keep w hn hs (by omega) (by omega) (by omega)
  have ht : tapeOk bs.length sy = true := tapeOk_iff.2 ⟨hl, hy.1, hy.2⟩
  rw [crashN, if_neg (by omega), crashF, if_pos ht, if_pos hk.1] at h
  exact h
set_option maxRecDepth 100000 in
theorem tapeB_small {ms : List MV} {w : World} (h : ms.length ≤ 100) (hM : ∀ x ∈ ms, MAt w x ∧ IsRec x) : (tapeB ms).length ≤ 32500 := by
  have := tapeB_le ms (fun x hx => ((hM x hx).2.len (hM x hx).1.dn).2)
  omega
/-- A message that stands for none. -/
def noX : MV := ⟨⟨0, 0, 0, 0, 0, 0, 0, 0, 0, 0, 0, 0, none, none, none, none, none, none, none, 0, 0, 0, 0, 0, 0, 0, 0, 0, 0, 0, 0, 0, 0⟩, [], [], [], [], [], [], []⟩
end Go.Proofs.Ythpocgndgphedaa

namespace Go.Proofs.Ythpocgndgphedaa
open Go.RowKit

/-- What is recovered of the first k bytes of records. -/
structure RcvK (w w' : World) (e : Ending) (ms : List MV) (k : Nat) (sy : Int) : Prop where
  out : ∃ (ya : Option Addr) (yc : Nat) (ys : List MV) (ra : Option Addr) (rc : Nat), e = .returned (.tuple #[.slice ya ys.length yc, .agg #[.slice ra (tapeB ys).length rc, .int .i64 (min sy (tapeB ys).length)], .int .i64 0]) ∧ MsRow w' ya ys ∧ (∀ y ∈ ys, MAt w' y ∧ IsRec y) ∧ (∀ y ∈ ys, U8M y.bl y.pl y.cbl y.cpl y.ds) ∧ SliceAt w' ra rc (tapeB ys) ∧ Agree ys ms ∧ (∀ j, j ≤ ms.length → (tapeB (ms.take j)).length ≤ k → j ≤ ys.length) ∧ (tapeB ys).length ≤ k ∧ Below w.heap.size w w'
set_option maxRecDepth 100000 in
theorem Agree.good {ys ms : List MV} (h : Agree ys ms) (hu : ∀ x ∈ ms, U8M x.bl x.pl x.cbl x.cpl x.ds) : ∀ y ∈ ys, U8M y.bl y.pl y.cbl y.cpl y.ds := by
  intro y hy
  obtain ⟨i, hi, e⟩ := List.getElem_of_mem hy
  have hi2 : i < ms.length := by have := h.le; omega
  have h1 := h.same i hi hi2
  rw [e] at h1
  exact u8_same h1 (hu _ (List.getElem_mem hi2))
set_option maxRecDepth 100000 in
theorem recover_part (ms : List MV) (k : Nat) (sa : Option Addr) (n cap : Nat) (sy : Int) (w : World) (hn : n = ((tapeB ms).take k).length) (hs : SliceAt w sa cap ((tapeB ms).take k)) (hm : ∀ x ∈ ms, MAt w x ∧ IsRec x) (hu : ∀ x ∈ ms, U8M x.bl x.pl x.cbl x.cpl x.ds) (hl : (tapeB ms).length ≤ 400000) (hy : 0 ≤ sy ∧ sy ≤ n) :
    Calls Try.prog 15 #[.agg #[.slice sa n cap, .int .i64 sy]] w fun e w' => RcvK w w' e ms k sy := by
  have hL : ((tapeB ms).take k).length ≤ 400000 := by rw [List.length_take]; omega
  refine (recover_any ((tapeB ms).take k) sa n cap sy w hn hs (fun z hz => u8_tape hm hu z (List.mem_of_mem_take hz)) (by omega)).mono ?_
  intro e w' h
  have hk : tapeOk ((tapeB ms).take k).length sy = true := tapeOk_iff.2 ⟨hL, hy.1, by omega⟩
  rcases h.out with ⟨h0, -⟩ | ⟨-, v, ys, r, ra, rc, h1, h2, h3, h4, h5, -, h7⟩
  · rw [hk] at h0; cases h0
  · obtain ⟨ya, yc, rfl, -, -, -, hr⟩ := msRow_of_owns h3
    obtain ⟨a1, a2, a3⟩ := tape_scan ms ys r k hm (fun y hy => ⟨(h4 y hy).1, (h4 y hy).2.1⟩) h1 h2
    exact ⟨ya, yc, ys, ra, rc, h7, hr, fun y hy => ⟨(h4 y hy).1, (h4 y hy).2.1⟩, a1.good hu, h5, a1, a2, a3, h.below⟩
set_option maxRecDepth 100000 in
/-- A tape of nothing. -/
theorem recover_none (w : World) :
    Calls Try.prog 15 #[.agg #[.slice none 0 0, .int .i64 0]] w fun e w' => ∃ ya yc ra rc, e = .returned (.tuple #[.slice ya 0 yc, .agg #[.slice ra 0 rc, .int .i64 0], .int .i64 0]) ∧ Below w.heap.size w w' := by
  refine (recover_part [] 0 none 0 0 0 w rfl (nilSliceT w) (fun x hx => by cases hx) (fun x hx => by cases hx) (by simp [tapeB]) ⟨by omega, by omega⟩).mono ?_
  intro e w' h
  obtain ⟨ya, yc, ys, ra, rc, he, -, -, -, -, ha, -, -, hb⟩ := h.out
  have hz : ys = [] := List.eq_nil_of_length_eq_zero (by have := ha.le; simp at this; simp [this])
  subst hz
  exact ⟨ya, yc, ra, rc, he, hb⟩
set_option maxRecDepth 100000 in
/-- One that may not be. -/
theorem recover_bad (w : World) :
    Calls Try.prog 15 #[.agg #[.slice none 0 0, .int .i64 1]] w fun e w' => e = .returned (.tuple #[.slice none 0 0, .agg #[.slice none 0 0, .int .i64 0], .int .i64 12]) ∧ Below w.heap.size w w' := by
  refine (recover_any [] none 0 0 1 w rfl (nilSliceT w) (fun z hz => by cases hz) (by simp)).mono ?_
  intro e w' h
  rcases h.out with ⟨-, he⟩ | ⟨h0, -⟩
  · exact ⟨he, h.below⟩
  · exact absurd h0 (by decide)
set_option maxRecDepth 100000 in
theorem begins_agree (ys ms : List MV) (sa sc : Option Addr) (n m ca cc : Nat) (w : World) (hn : n = ys.length) (hm : m = ms.length) (h : Agree ys ms) (hl : ms.length ≤ 1000000) (ra : MsRow w sa ys) (rb : MsRow w sc ms) (hy : ∀ y ∈ ys, MAt w y ∧ IsRec y) (hx : ∀ x ∈ ms, MAt w x ∧ IsRec x) (hu : ∀ y ∈ ys, U8M y.bl y.pl y.cbl y.cpl y.ds) :
    Calls Try.prog 16 #[.slice sa n ca, .slice sc m cc] w fun e w' => e = .returned (.bool true) ∧ Below w.heap.size w w' :=
  begins_eq ys ms sa sc n m ca cc w hn hm h.le hl ra rb (fun i h1 h2 => ⟨⟨(hy _ (List.getElem_mem h1)).1, (hy _ (List.getElem_mem h1)).2.check, hu _ (List.getElem_mem h1)⟩, (hx _ (List.getElem_mem h2)).1, h.same i h1 h2⟩)
end Go.Proofs.Ythpocgndgphedaa

namespace Go.Proofs.Ythpocgndgphedaa
open Go.RowKit

set_option maxRecDepth 100000 in
set_option maxHeartbeats 4000000 in
theorem tapeTorn_walk (sa : Option Addr) (cap : Nat) (rs : List Rt) (at_ : Int) (w : World) (hr : RawTs w sa rs) (_hc : rs.length ≤ cap) (ha1 : -9223372036854775808 ≤ at_) (ha2 : at_ ≤ 9223372036854775807) :
    Calls Try.prog 4 #[.slice sa rs.length cap, .int .i64 at_] w fun e w' => e = .returned (.bool true) ∧ Below w.heap.size w w' := by
  go_enter Try.func4, Try.ntmps4
  go_wp2_with fail
  refine (records_any rs sa _ cap w rfl hr).mono ?_
  intro e w1 hrec
  obtain ⟨ma, mc, ms, he, hlen, hrow, hM, hb1, hU⟩ := recs_rowU hrec
  subst he
  dsimp only
  clear hrec
  have hm24 : ms.length ≤ 24 := by rw [hlen]; omega
  have hL := tapeB_small (by omega) hM
  have HR : Hid (∀ W : World, Below w1.heap.size w1 W → MsRow W ma ms ∧ ∀ x ∈ ms, MAt W x ∧ IsRec x) := by
    show ∀ _, _
    intro W hW
    exact ⟨hrow.below hW, fun x hx => ⟨(hM x hx).1.below hW, (hM x hx).2⟩⟩
  have HU : Hid _ := hU
  have hT := taped_any ms ma _ mc w1 rfl (by omega) hrow hM
  clear hlen hrow hM hU
  go_wp2_with fail
  refine hT.mono ?_
  rintro e w2 ⟨ta, tc, he, hS, -, hb2⟩
  subst he
  dsimp only
  clear hT
  have hB2 := hb1.trans (hb2.mono hb1.size)
  obtain ⟨D, hD⟩ : ∃ D, tapeB ms = D := ⟨_, rfl⟩
  rw [hD] at hS hL ⊢
  have HD : Hid (tapeB ms = D) := hD
  clear hD
  obtain ⟨pa0, pa1⟩ := pk_bounds at_ ((D.length : Int) + 1) (by omega)
  have hA2 : Below w2.heap.size w2 (w2.alloc (.cells #[.slice ta D.length tc, .int .i64 0] 28)) := (Below.refl _ _).alloc (Nat.le_refl _) _
  have qT := heap_alloc_new w2 (.cells #[.slice ta D.length tc, .int .i64 0] 28)
  have hwl : IntKind.i64.wrap ((D.length : Int) + 1) = (D.length : Int) + 1 := by rw [IntKind.wrap_i64]; omega
  go_upto_region 4 with (go_at_call 10; refine (picked_any _ _ _ (by omega) (by omega) (by omega) (by omega)).mono ?_; rintro e w9 ⟨rfl, rfl⟩)
  obtain ⟨K, hK⟩ : ∃ K : Nat, pk at_ ((D.length : Int) + 1) = K := ⟨(pk at_ ((D.length : Int) + 1)).toNat, by omega⟩
  rw [hK] at pa1 ⊢
  clear hK pa0 hwl
  have hKD : K ≤ D.length := by omega
  generalize hTB : w2.heap.size = TB at qT ⊢
  clear hTB
  generalize w2.alloc (.cells #[.slice ta D.length tc, .int .i64 0] 28) = W2 at hA2 qT ⊢
  have hB2A := hB2.trans (hA2.mono hB2.size)
  have h12 := hb2.trans (hA2.mono hb2.size)
  have hSA := hS.below hA2
  have htc := hS.le
  have hKl : (D.take K).length = K := by rw [List.length_take]; omega
  have hS2 : SliceAt W2 ta K (D.take K) := hSA.takeT K K hKD (Nat.le_refl _) (by omega) (fun h => by have := hSA.nil h; omega)
  have hR1 := recover_part ms K ta K K 0 W2 (by rw [HD.out]; exact hKl.symm) (by rw [HD.out]; exact hS2) (HR.out W2 h12).2 HU.out (by rw [HD.out]; omega) ⟨by omega, by omega⟩
  have c0 : W2.cell? ⟨TB, 0, none⟩ = some (.slice ta D.length tc) := cells_at qT 0 _ rfl
  have kI : (K : Int) ≤ tc := by omega
  have k0 : (0 : Int) ≤ K := by omega
  clear hS hA2 hb1 hb2 hB2 hKl hS2
  go_wp2_with fail
  refine hR1.mono ?_
  intro e w3 h3
  obtain ⟨ya, yc, ys, ra, rc, he, hyr, hym, hyu, hyS, hya, hyl, hyk, hb3⟩ := h3.out
  subst he
  dsimp only
  clear hR1 h3 c0
  have hB3 := hB2A.trans (hb3.mono hB2A.size)
  have hW3 := h12.trans (hb3.mono h12.size)
  have s3 := (hb3.block _ (lt_of_heap qT)).trans qT
  have hyn := hya.le
  have hX : Hid ((ys.length = ms.length → K = D.length) ∧ (K = D.length → ys.length = ms.length)) := by
    show _ ∧ _
    constructor
    · intro h
      have h1 := hya.tape
      rw [h, List.take_of_length_le (Nat.le_refl _), HD.out] at h1
      rw [h1] at hyk
      omega
    · intro h
      have h1 := hyl ms.length (Nat.le_refl _) (by rw [List.take_of_length_le (Nat.le_refl _), HD.out]; omega)
      omega
  have HY : Hid (∀ W : World, Below w3.heap.size w3 W → MsRow W ya ys ∧ ∀ x ∈ ys, MAt W x ∧ IsRec x) := by
    show ∀ _, _
    intro W hW
    exact ⟨hyr.below hW, fun x hx => ⟨(hym x hx).1.below hW, (hym x hx).2⟩⟩
  have HYU : Hid _ := hyu
  have HYA : Hid _ := hya
  obtain ⟨Y, hY⟩ : ∃ Y, tapeB ys = Y := ⟨_, rfl⟩
  rw [hY] at hyS hyk ⊢
  have HYD : Hid (tapeB ys = Y) := hY
  have hmin : min (0 : Int) (Y.length : Int) = 0 := by omega
  rw [hmin]
  clear hyr hym hyu hya hyl hY hmin
  have hA3 : Below w3.heap.size w3 (w3.alloc (.cells #[.slice ra Y.length rc, .int .i64 0] 28)) := (Below.refl _ _).alloc (Nat.le_refl _) _
  have qU := heap_alloc_new w3 (.cells #[.slice ra Y.length rc, .int .i64 0] 28)
  have s3A := (hA3.block _ (lt_of_heap s3)).trans s3
  go_upto_region 5 with fail
  generalize hUB : w3.heap.size = UB at qU ⊢
  clear hUB
  generalize w3.alloc (.cells #[.slice ra Y.length rc, .int .i64 0] 28) = W3 at hA3 qU s3A ⊢
  have hB3A := hB3.trans (hA3.mono hB3.size)
  have hW3A := hW3.trans (hA3.mono hW3.size)
  have hyS3 := hyS.below hA3
  have hR2 := recover_part ys Y.length ra Y.length rc 0 W3 (by rw [HYD.out, List.take_of_length_le (Nat.le_refl _)]) (by rw [HYD.out, List.take_of_length_le (Nat.le_refl _)]; exact hyS3) (HY.out W3 hA3).2 HYU.out (by rw [HYD.out]; omega) ⟨by omega, by omega⟩
  have c0 : W3.cell? ⟨UB, 0, none⟩ = some (.slice ra Y.length rc) := cells_at qU 0 _ rfl
  have c1 : W3.cell? ⟨UB, 1, none⟩ = some (.int .i64 0) := cells_at qU 1 _ rfl
  go_wp2_with fail
  refine hR2.mono ?_
  intro e w4 h4
  obtain ⟨za, zc, zs, va, vc, he, -, -, -, hzS, hza, hzl, -, hb4⟩ := h4.out
  subst he
  dsimp only
  clear hR2 h4 c0 c1
  have hzn : zs.length = ys.length := by
    have h1 := hzl ys.length (Nat.le_refl _) (by rw [List.take_of_length_le (Nat.le_refl _), HYD.out]; exact Nat.le_refl _)
    have h2 := hza.le
    omega
  have hzY : tapeB zs = Y := by rw [hza.tape, hzn, List.take_of_length_le (Nat.le_refl _), HYD.out]
  rw [hzY] at hzS ⊢
  rw [hzn]
  clear hza hzl hzY hzn
  have hmin : min (0 : Int) (Y.length : Int) = 0 := by omega
  rw [hmin]
  clear hmin
  have hB4 := hB3A.trans (hb4.mono hB3A.size)
  have hW4 := hW3A.trans (hb4.mono hW3A.size)
  have h34 := hA3.trans (hb4.mono hA3.size)
  have s4 := (hb4.block _ (lt_of_heap s3A)).trans s3A
  have u4 := (hb4.block _ (lt_of_heap qU)).trans qU
  have hyS4 := hyS3.below hb4
  have hA4 : Below w4.heap.size w4 (w4.alloc (.cells #[.slice va Y.length vc, .int .i64 0] 28)) := (Below.refl _ _).alloc (Nat.le_refl _) _
  have qV := heap_alloc_new w4 (.cells #[.slice va Y.length vc, .int .i64 0] 28)
  have s4A := (hA4.block _ (lt_of_heap s4)).trans s4
  have u4A := (hA4.block _ (lt_of_heap u4)).trans u4
  go_upto_region 6 with fail
  generalize hVB : w4.heap.size = VB at qV ⊢
  clear hVB
  generalize w4.alloc (.cells #[.slice va Y.length vc, .int .i64 0] 28) = W4 at hA4 qV s4A u4A ⊢
  have hB4A := hB4.trans (hA4.mono hB4.size)
  have hW4A := hW4.trans (hA4.mono hW4.size)
  have h34A := h34.trans (hA4.mono h34.size)
  have hyS4A := hyS4.below hA4
  have hzS4A := hzS.below hA4
  go_wp2_with fail
  refine (recover_bad W4).mono ?_
  rintro e w5 ⟨he, hb5⟩
  subst he
  dsimp only
  have hB5 := hB4A.trans (hb5.mono hB4A.size)
  have hW5 := hW4A.trans (hb5.mono hW4A.size)
  have h35 := h34A.trans (hb5.mono h34A.size)
  have s5 := (hb5.block _ (lt_of_heap s4A)).trans s4A
  have u5 := (hb5.block _ (lt_of_heap u4A)).trans u4A
  have v5 := (hb5.block _ (lt_of_heap qV)).trans qV
  have hA5 : Below w5.heap.size w5 (w5.alloc (.cells #[.slice none 0 0, .int .i64 0] 28)) := (Below.refl _ _).alloc (Nat.le_refl _) _
  have s5A := (hA5.block _ (lt_of_heap s5)).trans s5
  have u5A := (hA5.block _ (lt_of_heap u5)).trans u5
  have v5A := (hA5.block _ (lt_of_heap v5)).trans v5
  have qX := heap_alloc_new w5 (.cells #[.slice none 0 0, .int .i64 0] 28)
  go_upto_region 7 with fail
  generalize hXB : w5.heap.size = XB at qX ⊢
  clear hXB
  generalize w5.alloc (.cells #[.slice none 0 0, .int .i64 0] 28) = W5 at hA5 qX s5A u5A v5A ⊢
  have hB5A := hB5.trans (hA5.mono hB5.size)
  have hW5A := hW5.trans (hA5.mono hW5.size)
  have h35A := h35.trans (hA5.mono h35.size)
  have hyS5 := (hyS4A.below hb5).below hA5
  have hzS5 := (hzS4A.below hb5).below hA5
  have hBg := begins_agree ys ms ya ma _ _ yc mc W5 rfl rfl HYA.out (by omega) (HY.out W5 h35A).1 (HR.out W5 hW5A).1 (HY.out W5 h35A).2 (HR.out W5 hW5A).2 HYU.out
  have HSm : Hid (∀ W : World, Below W5.heap.size W5 W → Calls Try.prog 17 #[.slice ra Y.length rc, .slice va Y.length vc] W fun e w' => e = .returned (.bool true) ∧ W = w') := by
    show ∀ _, _
    intro W hW
    exact same_eq Y ra va _ _ rc vc W rfl rfl (hyS5.below hW) (hzS5.below hW)
  have hYK : (Y.length : Int) ≤ K := by omega
  clear hyS5 hzS5 hyS4A hzS4A hyS4 hzS hyS3 hyS HD HYD HYA HYU HR HY HU
  obtain ⟨bb, hb1, hb2⟩ : ∃ bb : Bool, ((ys.length : Int) == ms.length) = bb ∧ ((K : Int) == D.length) = bb := by
    by_cases h : K = D.length
    · exact ⟨true, by have := hX.out.2 h; rw [beq_iff_eq]; omega, by rw [beq_iff_eq]; omega⟩
    · refine ⟨false, ?_, ?_⟩
      · rw [beq_eq_false_iff_ne]
        intro h1
        exact h (hX.out.1 (by omega))
      · rw [beq_eq_false_iff_ne]; omega
  clear hX
  go_wp2_with fail
  refine hBg.mono ?_
  rintro e w6 ⟨he, hb6⟩
  subst he
  dsimp only
  clear hBg
  have hB6 := hB5A.trans (hb6.mono hB5A.size)
  have s6 := (hb6.block _ (lt_of_heap s5A)).trans s5A
  have u6 := (hb6.block _ (lt_of_heap u5A)).trans u5A
  have v6 := (hb6.block _ (lt_of_heap v5A)).trans v5A
  have x0 := cells_at s6 0 _ rfl
  have x1 := cells_at u6 0 _ rfl
  have x2 := cells_at v6 0 _ rfl
  go_wp2_with fail
  refine (HSm.out w6 hb6).mono ?_
  rintro e w7 ⟨he, hw7⟩
  subst he hw7
  dsimp only
  go_wp2_with fail
  go_ret
  refine ⟨?_, hB6⟩
  cases bb <;> simp_all
end Go.Proofs.Ythpocgndgphedaa

namespace Go.Proofs.Ythpocgndgphedaa.tapeTorn
open Go.ChangeShapes Go.WideShapes Go.ChangeAt Go.RowKit

set_option maxRecDepth 100000 in
/-- What the walk gives, for every argument and every world. -/
theorem contract (H : Type) (enc : TypeId × Value → H) (W : World) (base : Nat) (args : Array Value) (ds gs : List (DataW H)) (before : List MemPlace)
    (hval : ∀ (j : Nat) t v, Try.f4.params[j]? = some t → args[j]? = some v → Value.okWide Try.prog W .any base t v)
    (hW : DataW.Whole enc Try.prog Try.f4.params.toList Rows.tapeTornSpec.vars false W args.toList ds gs before) (hsz : (DataW.weightsEach Try.prog (Try.f4.params.toList ++ (OpenSpec.ofChange Rows.tapeTornSpec).bare.plain.varTypes Try.prog) (ds ++ gs)).all (· ≤ reachBytes) = true) (_hL : laidMetH Try.prog Rows.tapeTornRow.laid W) :
    Calls Try.prog 4 args W fun e W' => ∃ v, e = .returned v ∧ Rows.tapeTornSpec.post enc Try.prog Try.f4 false true false false W args v W' := by
  have hW' := hW
  obtain ⟨p, q, hA0, hV, rfl, hfz, hnd⟩ := hW
  have hA : DataW.TrodAll enc Try.prog W 0 (fun _ => true) true Try.f4.params.toList args.toList ds p := hA0
  rw [Try.params4] at hA hval hsz
  obtain ⟨v0, vs0, d0, ds0, p0, q0, hargs, rfl, rfl, h0, r0⟩ := trodAll_cons hA
  obtain ⟨v1, vs1, d1, ds1, p1, q1, rfl, rfl, rfl, h1, r1⟩ := trodAll_cons r0
  obtain ⟨rfl, rfl, rfl⟩ := trodAll_nil r1
  obtain rfl : args = #[v0, v1] := by cases args; simp_all
  obtain ⟨rfl, rfl⟩ := trodVars_none hV
  have k0 := h0
  have lt0 : ∀ x ∈ p0, x.block < W.heap.size := by obtain ⟨m, hm⟩ := k0; exact DataW.trod_lt m _ _ _ hm
  obtain ⟨sa0, cap0, rs0, rfl, q0_0, q0_1⟩ := open_rawts (hval 0 22 v0 rfl rfl) h0 (fit_each hsz (j := 0) rfl rfl)
  obtain ⟨a1, rfl, rfl, rfl, w1⟩ := open_int Try.underlying3 (hval 1 3 v1 rfl rfl) h1
  obtain ⟨lo1, hi1⟩ := bounds_i64 w1
  clear hA0
  refine (tapeTorn_walk sa0 cap0 rs0 a1 W q0_0 q0_1 lo1 hi1).mono fun e W' ⟨he, bel⟩ => ?_
  subst he
  exact ⟨_, rfl, _, _, _, [], _, [], hW', trodAll_mk1 (shut_bool Try.underlying4 _), (trodAll_cons_mk (Below.trod laidOut (by kernel_rfl) (of_decide_eq_true (by kernel_rfl)) k0 bel lt0) (trodAll_cons_mk (shut_int Try.underlying3 w1) trodAll_mk0)), rfl, bel.frame _, fun h => by cases h⟩

set_option maxRecDepth 100000 in
theorem laid_met (os : Os) : laidMet Try.prog Rows.tapeTornRow.laid ((World.holding Try.prog os ⟨#[], #[], []⟩).forCall (fun _ _ => 0) ⟨#[], #[.slice none 0 0, .int .i64 0], []⟩).memory :=
  laidMet_of_run' 8 (by kernel_rfl) (by kernel_rfl)
set_option maxRecDepth 100000 in
theorem reads (os : Os) {H : Type} (enc : TypeId × Value → H) : ∃ places, DataW.whole enc Try.prog ((World.holding Try.prog os ⟨#[], #[], []⟩).forCall (fun _ _ => 0) ⟨#[], #[.slice none 0 0, .int .i64 0], []⟩).memory Try.f4.params.toList Rows.tapeTornSpec.vars false (#[.slice none 0 0, .int .i64 0] : Array Value).toList 8 = some ([.nil, .lit (.int .i64 0)], [], places) :=
  ⟨[], by kernel_rfl⟩

set_option maxRecDepth 100000 in
theorem lifted (os : Os) (started : os.Started) (H : Type) (enc : TypeId × Value → H) (F : Stop.Interp) :
    ReturnsInHanded {} Try.checked os 4 .any ((OpenSpec.ofChange Rows.tapeTornSpec).preRow enc Try.prog Try.f4 Rows.tapeTornRow.domain false Rows.tapeTornRow.laid) (((OpenSpec.ofChange Rows.tapeTornSpec).at F).post enc Try.prog Try.f4 false true false false) := by
  obtain ⟨places, hx⟩ := reads os enc
  refine returnsInHanded_of_row (C := Try.checked) (s := OpenSpec.ofChange Rows.tapeTornSpec) own started (by kernel_rfl) Try.func4
    (witness_row_at (enc := enc) (C := Try.checked) false (World.holding Try.prog os ⟨#[], #[], []⟩) #[.slice none 0 0, .int .i64 0] rfl (by kernel_rfl) (by kernel_rfl) (by kernel_rfl)
      (OpenSpec.preRow_of_cond 8 hx (by kernel_rfl) (fun k hk => by cases hk) (by kernel_rfl) (laid_met os))) ?_
  intro W base args ds gs before hval hW _ _ hsz hL _ _
  exact contract H enc W base args ds gs before hval hW hsz hL

set_option maxRecDepth 100000 in
theorem said : Rows.TapeTornSaid :=
  OpenClaim.holds_of_cond 4 Try.f4 rfl rfl rfl rfl rfl rfl rfl ⟨rfl, rfl, rfl, rfl, rfl⟩ rfl rfl rfl rfl rfl (by kernel_rfl) Try.func4 (by kernel_rfl)
    (of_decide_eq_true (by kernel_rfl)) (by unfold Func.isWrapper; first | (rw [if_pos (by decide +kernel)]; kernel_rfl) | (rw [if_neg (by decide +kernel)]; exact ⟨rfl, rfl⟩))
    (fun os started H enc _ F => by rw [OpenClaim.pre_eq_preRow]; exact lifted os started H enc F)

end Go.Proofs.Ythpocgndgphedaa.tapeTorn
namespace Go.Proofs.Ythpocgndgphedaa
set_option maxRecDepth 100000 in
theorem tapeTorn_holds : Rows.TapeTornSaid := tapeTorn.said
#print axioms tapeTorn_holds
end Go.Proofs.Ythpocgndgphedaa
