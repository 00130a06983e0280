/- The law sheaveskeep.SyncSafe answers true for every argument, and each argument reads behind the call as it read before: no condition but the form's own reach. -/
import Derived.Test.YthpocgndgphedaaSyncSafeM60
import Derived.Test.YthpocgndgphedaaSyncSafeM72
import Derived.Test.YthpocgndgphedaaSyncSafeM30
import Derived.Test.YthpocgndgphedaaPicked
import Derived.Test.YthpocgndgphedaaSyncSafeM66
import Derived.Deep.CutRange
import Derived.Deep.DeepCutAuto
import Derived.Test.YthpocgndgphedaaRows
import Derived.Test.YthpocgndgphedaaOpenB
import Derived.WalkKit
import Derived.ProofKit
import Derived.OpenShut
import Derived.Deep.DeepHandedRow
import Derived.SevenTiedAt
import Derived.Below
namespace Go.Proofs.Ythpocgndgphedaa
open Go.RowKit

set_option maxRecDepth 100000 in
theorem recs_rowU {w w' : World} {e : Ending} {N : Nat} (h : RecsIs w w' e N) : ∃ (sa : Option Addr) (cap : Nat) (ms : List MV), e = .returned (.slice sa ms.length cap) ∧ ms.length = N ∧ MsRow w' sa ms ∧ (∀ x ∈ ms, MAt w' x ∧ IsRec x) ∧ Below w.heap.size w w' ∧ ∀ x ∈ ms, U8M x.bl x.pl x.cbl x.cpl x.ds := by
  obtain ⟨v, ms, he, hl, ho, ha, hb, hu⟩ := h.out
  obtain ⟨sa, cap, rfl, -, -, -, hr⟩ := msRow_of_owns ho
  exact ⟨sa, cap, ms, he, hl, hr, fun x hx => ⟨(ha x hx).1, (ha x hx).2.1⟩, hb, hu⟩
set_option maxRecDepth 100000 in
theorem recs_row {w w' : World} {e : Ending} {N : Nat} (h : RecsIs w w' e N) : ∃ (sa : Option Addr) (cap : Nat) (ms : List MV), e = .returned (.slice sa ms.length cap) ∧ ms.length = N ∧ MsRow w' sa ms ∧ (∀ x ∈ ms, MAt w' x ∧ IsRec x) ∧ Below w.heap.size w w' := by
  obtain ⟨sa, cap, ms, h1, h2, h3, h4, h5, -⟩ := recs_rowU h
  exact ⟨sa, cap, ms, h1, h2, h3, h4, h5⟩
set_option maxRecDepth 100000 in
theorem encode_rec (x : MV) (w : World) (hM : MAt w x) (hI : IsRec x) :
    Calls Try.prog 31 #[.agg #[.int .i64 x.m.fr, .int .i64 x.m.tt, .int .i64 x.m.ki, .int .i64 x.m.bau, .int .i64 x.m.bnu, .slice x.m.bta x.m.btn x.m.btc, .int .i64 x.m.hau, .int .i64 x.m.hrd, .slice x.m.hba x.m.hbn x.m.hbc, .slice x.m.hpa x.m.hpn x.m.hpc, .int .i64 x.m.sau, .int .i64 x.m.srd, .slice x.m.sda x.m.sdn x.m.sdc, .int .i64 x.m.cau, .int .i64 x.m.crd, .slice x.m.cba x.m.cbn x.m.cbc, .slice x.m.cpa x.m.cpn x.m.cpc, .slice x.m.cva x.m.cvn x.m.cvc, .int .i64 x.m.ro]] w fun e w' => ∃ v, e = .returned (.tuple #[v, .int .i64 0]) ∧ w'.ownsRow w.heap.size 5 1 v x.bytes.length (ub x.bytes) ∧ Below w.heap.size w w' := by
  have h := encode_any x.m x.ss x.bl x.pl x.cbl x.cpl x.ds x.vl w hM.at' hM.dig hM.dn
  have h0 : checkF x.m (carriedF x.m x.ss x.bl x.pl x.cbl x.cpl x.vl) = 0 := hI.check
  rw [h0] at h
  exact h
set_option maxRecDepth 100000 in
theorem sync_ok (bs : List Int) (sa : Option Addr) (n cap : Nat) (sy : Int) (w : World) (hn : n = bs.length) (hs : SliceAt w sa cap bs) (hl : bs.length ≤ 400000) (hy : 0 ≤ sy ∧ sy ≤ bs.length) :
    Calls Try.prog 12 #[.agg #[.slice sa n cap, .int .i64 sy]] w fun e w' => TapeIs w w' e bs bs.length 0 := by
  have h := tapeSync_any bs sa n cap sy w hn hs (by omega)
  have hk : tapeOk bs.length sy = true := tapeOk_iff.2 ⟨hl, hy.1, hy.2⟩
  rw [syncN, if_pos hk, syncF, if_pos hk, List.take_of_length_le (Nat.le_refl _)] at h
  exact h
set_option maxRecDepth 100000 in
theorem crash_ok (bs : List Int) (sa : Option Addr) (n cap : Nat) (sy keep : Int) (w : World) (hn : n = bs.length) (hs : SliceAt w sa cap bs) (hl : bs.length ≤ 400000) (hy : 0 ≤ sy ∧ sy ≤ bs.length) (hk : 0 ≤ keep ∧ keep ≤ 1000000) :
    Calls Try.prog 14 #[.agg #[.slice sa n cap, .int .i64 sy], .int .i64 keep] w fun e w' => TapeIs w w' e (bs.take (leftN bs.length sy keep)) (leftN bs.length sy keep) 0 := by
  have h := tapeCrash_any bs sa n cap sy keep w hn hs (by omega) (by omega) (by omega)
  have ht : tapeOk bs.length sy = true := tapeOk_iff.2 ⟨hl, hy.1, hy.2⟩
  rw [crashN, if_pos ⟨ht, hk.1⟩, crashF, if_pos ht, if_neg (by omega)] at h
  exact h
set_option maxRecDepth 100000 in
theorem crash_neg (bs : List Int) (sa : Option Addr) (n cap : Nat) (sy keep : Int) (w : World) (hn : n = bs.length) (hs : SliceAt w sa cap bs) (hl : bs.length ≤ 400000) (hy : 0 ≤ sy ∧ sy ≤ bs.length) (hk : keep < 0 ∧ -1000000 ≤ keep) :
    Calls Try.prog 14 #[.agg #[.slice sa n cap, .int .i64 sy], .int .i64 keep] w fun e w' => TapeIs w w' e [] 0 2 := by
  have h := tapeCrash_any bs sa n cap sy keep w hn hs (by omega) (by omega) (by omega)
  have ht : tapeOk bs.length sy = true := tapeOk_iff.2 ⟨hl, hy.1, hy.2⟩
  rw [crashN, if_neg (by omega), crashF, if_pos ht, if_pos hk.1] at h
  exact h
set_option maxRecDepth 100000 in
theorem tapeB_small {ms : List MV} {w : World} (h : ms.length ≤ 100) (hM : ∀ x ∈ ms, MAt w x ∧ IsRec x) : (tapeB ms).length ≤ 32500 := by
  have := tapeB_le ms (fun x hx => ((hM x hx).2.len (hM x hx).1.dn).2)
  omega
/-- A message that stands for none. -/
def noX : MV := ⟨⟨0, 0, 0, 0, 0, 0, 0, 0, 0, 0, 0, 0, none, none, none, none, none, none, none, 0, 0, 0, 0, 0, 0, 0, 0, 0, 0, 0, 0, 0, 0⟩, [], [], [], [], [], [], []⟩
end Go.Proofs.Ythpocgndgphedaa

namespace Go.Proofs.Ythpocgndgphedaa
open Go.RowKit

/-- What is recovered of the first k bytes of records. -/
structure RcvK (w w' : World) (e : Ending) (ms : List MV) (k : Nat) (sy : Int) : Prop where
  out : ∃ (ya : Option Addr) (yc : Nat) (ys : List MV) (ra : Option Addr) (rc : Nat), e = .returned (.tuple #[.slice ya ys.length yc, .agg #[.slice ra (tapeB ys).length rc, .int .i64 (min sy (tapeB ys).length)], .int .i64 0]) ∧ MsRow w' ya ys ∧ (∀ y ∈ ys, MAt w' y ∧ IsRec y) ∧ (∀ y ∈ ys, U8M y.bl y.pl y.cbl y.cpl y.ds) ∧ SliceAt w' ra rc (tapeB ys) ∧ Agree ys ms ∧ (∀ j, j ≤ ms.length → (tapeB (ms.take j)).length ≤ k → j ≤ ys.length) ∧ (tapeB ys).length ≤ k ∧ Below w.heap.size w w'
set_option maxRecDepth 100000 in
theorem Agree.good {ys ms : List MV} (h : Agree ys ms) (hu : ∀ x ∈ ms, U8M x.bl x.pl x.cbl x.cpl x.ds) : ∀ y ∈ ys, U8M y.bl y.pl y.cbl y.cpl y.ds := by
  intro y hy
  obtain ⟨i, hi, e⟩ := List.getElem_of_mem hy
  have hi2 : i < ms.length := by have := h.le; omega
  have h1 := h.same i hi hi2
  rw [e] at h1
  exact u8_same h1 (hu _ (List.getElem_mem hi2))
set_option maxRecDepth 100000 in
theorem recover_part (ms : List MV) (k : Nat) (sa : Option Addr) (n cap : Nat) (sy : Int) (w : World) (hn : n = ((tapeB ms).take k).length) (hs : SliceAt w sa cap ((tapeB ms).take k)) (hm : ∀ x ∈ ms, MAt w x ∧ IsRec x) (hu : ∀ x ∈ ms, U8M x.bl x.pl x.cbl x.cpl x.ds) (hl : (tapeB ms).length ≤ 400000) (hy : 0 ≤ sy ∧ sy ≤ n) :
    Calls Try.prog 15 #[.agg #[.slice sa n cap, .int .i64 sy]] w fun e w' => RcvK w w' e ms k sy := by
  have hL : ((tapeB ms).take k).length ≤ 400000 := by rw [List.length_take]; omega
  refine (recover_any ((tapeB ms).take k) sa n cap sy w hn hs (fun z hz => u8_tape hm hu z (List.mem_of_mem_take hz)) (by omega)).mono ?_
  intro e w' h
  have hk : tapeOk ((tapeB ms).take k).length sy = true := tapeOk_iff.2 ⟨hL, hy.1, by omega⟩
  rcases h.out with ⟨h0, -⟩ | ⟨-, v, ys, r, ra, rc, h1, h2, h3, h4, h5, -, h7⟩
  · rw [hk] at h0; cases h0
  · obtain ⟨ya, yc, rfl, -, -, -, hr⟩ := msRow_of_owns h3
    obtain ⟨a1, a2, a3⟩ := tape_scan ms ys r k hm (fun y hy => ⟨(h4 y hy).1, (h4 y hy).2.1⟩) h1 h2
    exact ⟨ya, yc, ys, ra, rc, h7, hr, fun y hy => ⟨(h4 y hy).1, (h4 y hy).2.1⟩, a1.good hu, h5, a1, a2, a3, h.below⟩
set_option maxRecDepth 100000 in
/-- A tape of nothing. -/
theorem recover_none (w : World) :
    Calls Try.prog 15 #[.agg #[.slice none 0 0, .int .i64 0]] w fun e w' => ∃ ya yc ra rc, e = .returned (.tuple #[.slice ya 0 yc, .agg #[.slice ra 0 rc, .int .i64 0], .int .i64 0]) ∧ Below w.heap.size w w' := by
  refine (recover_part [] 0 none 0 0 0 w rfl (nilSliceT w) (fun x hx => by cases hx) (fun x hx => by cases hx) (by simp [tapeB]) ⟨by omega, by omega⟩).mono ?_
  intro e w' h
  obtain ⟨ya, yc, ys, ra, rc, he, -, -, -, -, ha, -, -, hb⟩ := h.out
  have hz : ys = [] := List.eq_nil_of_length_eq_zero (by have := ha.le; simp at this; simp [this])
  subst hz
  exact ⟨ya, yc, ra, rc, he, hb⟩
set_option maxRecDepth 100000 in
/-- One that may not be. -/
theorem recover_bad (w : World) :
    Calls Try.prog 15 #[.agg #[.slice none 0 0, .int .i64 1]] w fun e w' => e = .returned (.tuple #[.slice none 0 0, .agg #[.slice none 0 0, .int .i64 0], .int .i64 12]) ∧ Below w.heap.size w w' := by
  refine (recover_any [] none 0 0 1 w rfl (nilSliceT w) (fun z hz => by cases hz) (by simp)).mono ?_
  intro e w' h
  rcases h.out with ⟨-, he⟩ | ⟨h0, -⟩
  · exact ⟨he, h.below⟩
  · exact absurd h0 (by decide)
set_option maxRecDepth 100000 in
theorem begins_agree (ys ms : List MV) (sa sc : Option Addr) (n m ca cc : Nat) (w : World) (hn : n = ys.length) (hm : m = ms.length) (h : Agree ys ms) (hl : ms.length ≤ 1000000) (ra : MsRow w sa ys) (rb : MsRow w sc ms) (hy : ∀ y ∈ ys, MAt w y ∧ IsRec y) (hx : ∀ x ∈ ms, MAt w x ∧ IsRec x) (hu : ∀ y ∈ ys, U8M y.bl y.pl y.cbl y.cpl y.ds) :
    Calls Try.prog 16 #[.slice sa n ca, .slice sc m cc] w fun e w' => e = .returned (.bool true) ∧ Below w.heap.size w w' :=
  begins_eq ys ms sa sc n m ca cc w hn hm h.le hl ra rb (fun i h1 h2 => ⟨⟨(hy _ (List.getElem_mem h1)).1, (hy _ (List.getElem_mem h1)).2.check, hu _ (List.getElem_mem h1)⟩, (hx _ (List.getElem_mem h2)).1, h.same i h1 h2⟩)
end Go.Proofs.Ythpocgndgphedaa

namespace Go.Proofs.Ythpocgndgphedaa
open Go.RowKit

set_option maxRecDepth 100000 in
set_option maxHeartbeats 4000000 in
theorem syncSafe_walk (sa : Option Addr) (cap : Nat) (rs : List Rt) (keep : Int) (w : World) (hr : RawTs w sa rs) (_hc : rs.length ≤ cap) (ha1 : -9223372036854775808 ≤ keep) (ha2 : keep ≤ 9223372036854775807) :
    Calls Try.prog 6 #[.slice sa rs.length cap, .int .i64 keep] w fun e w' => e = .returned (.bool true) ∧ Below w.heap.size w w' := by
  obtain ⟨pk0, pk1⟩ := pk_bounds keep 99 (by decide)
  go_enter Try.func6, Try.ntmps6
  go_wp2_with fail
  refine (records_any rs sa _ cap w rfl hr).mono ?_
  intro e w1 hrec
  obtain ⟨ma, mc, ms, he, hlen, hrow, hM, hb1, hU⟩ := recs_rowU hrec
  subst he
  dsimp only
  clear hrec
  have hm24 : ms.length ≤ 24 := by rw [hlen]; omega
  have hL := tapeB_small (by omega) hM
  have HR : Hid (∀ W : World, Below w1.heap.size w1 W → MsRow W ma ms ∧ ∀ x ∈ ms, MAt W x ∧ IsRec x) := by
    show ∀ _, _
    intro W hW
    exact ⟨hrow.below hW, fun x hx => ⟨(hM x hx).1.below hW, (hM x hx).2⟩⟩
  have HU : Hid _ := hU
  have hT := taped_any ms ma _ mc w1 rfl (by omega) hrow hM
  clear hlen hrow hM hU
  go_wp2_with fail
  refine hT.mono ?_
  rintro e w2 ⟨ta, tc, he, hS, -, hb2⟩
  subst he
  dsimp only
  clear hT
  have hB2 := hb1.trans (hb2.mono hb1.size)
  obtain ⟨D, hD⟩ : ∃ D, tapeB ms = D := ⟨_, rfl⟩
  rw [hD] at hS hL ⊢
  have HD : Hid (tapeB ms = D) := hD
  clear hD
  have hA2 : Below w2.heap.size w2 (w2.alloc (.cells #[.slice ta D.length tc, .int .i64 0] 28)) := (Below.refl _ _).alloc (Nat.le_refl _) _
  have qT := heap_alloc_new w2 (.cells #[.slice ta D.length tc, .int .i64 0] 28)
  go_upto_region 3 with fail
  have hTBl : w2.heap.size ≤ w2.heap.size := Nat.le_refl _
  generalize hTB : w2.heap.size = TB at qT hTBl ⊢
  generalize w2.alloc (.cells #[.slice ta D.length tc, .int .i64 0] 28) = W2 at hA2 qT ⊢
  have hTB1 : w1.heap.size ≤ TB := by rw [← hTB]; exact hb2.size
  have hTB0 : w.heap.size ≤ TB := by rw [← hTB]; exact hB2.size
  clear hTB hTBl
  have hB2A := hB2.trans (hA2.mono hB2.size)
  have h12 := hb2.trans (hA2.mono hb2.size)
  have hSA := hS.below hA2
  have c0 : W2.cell? ⟨TB, 0, none⟩ = some (.slice ta D.length tc) := cells_at qT 0 _ rfl
  have c1 : W2.cell? ⟨TB, 1, none⟩ = some (.int .i64 0) := cells_at qT 1 _ rfl
  clear hS hA2 hb1 hb2 hB2
  go_wp2_with fail
  refine (sync_ok D ta _ tc 0 W2 rfl hSA (by omega) ⟨by omega, by omega⟩).mono ?_
  rintro e w3 ⟨ya, yc, he, hS3, hfy, hb3⟩
  subst he
  dsimp only
  clear c0 c1
  have hTW : TB < W2.heap.size := lt_of_heap qT
  have s3 := (hb3.block _ (lt_of_heap qT)).trans qT
  have d0 : w3.cell? ⟨TB, 0, none⟩ = some (.slice ta D.length tc) := cells_at s3 0 _ rfl
  have d1 : w3.cell? ⟨TB, 1, none⟩ = some (.int .i64 0) := cells_at s3 1 _ rfl
  have f0 := frozen_at s3 0
  have f1 := frozen_at s3 1
  have hB3 := hB2A.trans (hb3.mono hB2A.size)
  have hW3 := h12.trans (hb3.mono h12.size)
  have qT3 : ((w3.setCell ⟨TB, 0, none⟩ (.slice ya D.length yc)).setCell ⟨TB, 1, none⟩ (.int .i64 (D.length : Int))).heap[TB]? = some (.cells #[.slice ya D.length yc, .int .i64 (D.length : Int)] 28 (0, 0)) := by simpa using heap_setCell_same _ _ 1 _ _ (.int .i64 (D.length : Int)) (heap_setCell_same _ _ 0 _ _ (.slice ya D.length yc) s3)
  have hB3A := (hB3.setCell (p := ⟨TB, 0, none⟩) hTB0 (.slice ya D.length yc)).setCell (p := ⟨TB, 1, none⟩) hTB0 (.int .i64 (D.length : Int))
  have hW3A := (hW3.setCell (p := ⟨TB, 0, none⟩) hTB1 (.slice ya D.length yc)).setCell (p := ⟨TB, 1, none⟩) hTB1 (.int .i64 (D.length : Int))
  have hS3A := (hS3.setCellT TB 0 (.slice ya D.length yc) (fun sb so e => by have := (hfy sb so e).1; omega)).setCellT TB 1 (.int .i64 (D.length : Int)) (fun sb so e => by have := (hfy sb so e).1; omega)
  go_upto_region 4 with fail
  generalize (w3.setCell ⟨TB, 0, none⟩ (.slice ya D.length yc)).setCell ⟨TB, 1, none⟩ (.int .i64 (D.length : Int)) = W3 at qT3 hB3A hW3A hS3A ⊢
  clear hB3 hW3 hS3 d0 d1 f0 f1 s3 hfy hb3 hSA qT hB2A h12 hTW
  have HPk : Hid (∀ W : World, Calls Try.prog 10 #[.int .i64 keep, .int .i64 99] W fun e w' => e = .returned (.int .i64 (pk keep 99)) ∧ W = w') := by
    show ∀ _, _
    intro W
    exact picked_any keep 99 W ha1 ha2 (by decide) (by decide)
  generalize pk keep 99 = KP at *
  have HC : Hid (∀ W : World, Below W3.heap.size W3 W → Calls Try.prog 14 #[.agg #[.slice ya D.length yc, .int .i64 (D.length : Int)], .int .i64 KP] W fun e w' => TapeIs W w' e D D.length 0) := by
    show ∀ _, _
    intro W hW
    have h := crash_ok D ya _ yc D.length KP W rfl (hS3A.below hW) (by omega) ⟨by omega, by omega⟩ ⟨by omega, by omega⟩
    rw [show leftN D.length D.length KP = D.length by rw [leftN, if_neg (by omega)], List.take_of_length_le (Nat.le_refl _)] at h
    exact h
  have HP : Hid (∀ W : World, Calls Try.prog 10 #[.int .i64 keep, .int .i64 99] W fun e w' => e = .returned (.int .i64 KP) ∧ W = w') := HPk
  clear HPk
  go_cut [9, 10] (fun p q wx => ∃ (b : Nat) (ca : Option Addr) (cc : Nat), p = .pointer (some ⟨b, 0, none⟩) ∧ q = .int .i64 0 ∧ Below W3.heap.size W3 wx ∧ wx.heap[b]? = some (.cells #[.slice ca D.length cc, .int .i64 (D.length : Int)] 28 (0, 0)) ∧ wx.heap[TB]? = some (.cells #[.slice ya D.length yc, .int .i64 (D.length : Int)] 28 (0, 0)) ∧ SliceAt wx ca cc D)
  case first =>
    have hV0t : Below W3.heap.size W3 W3.drew := (Below.refl _ _).drew
    have qT0t : W3.drew.heap[TB]? = some (.cells #[.slice ya D.length yc, .int .i64 (D.length : Int)] 28 (0, 0)) := qT3
    refine wp_region_held_drew (S := fun w' => w'.cell? ⟨TB, 0, none⟩ = some (.slice ya D.length yc) ∧ w'.cell? ⟨TB, 1, none⟩ = some (.int .i64 (D.length : Int))) (by kernel_rfl) ⟨cells_at qT0t 0 _ rfl, cells_at qT0t 1 _ rfl⟩ (fun hHeld => ?_)
    generalize W3.drew = V0t at qT0t hV0t hHeld ⊢
    refine take_dst (i := 0) (d := 30) (v := .agg #[.slice ya D.length yc, .int .i64 (D.length : Int)]) rfl rfl (by kernel_rfl) (by kernel_rfl) (by kernel_rfl) (fun _ _ _ h => h) (Or.inl ⟨by rfl, ?_⟩) hHeld ?_
    · (intro w0 hSw; (try dsimp only at hSw); go_simp)
    simp only [Act.put, List.setIfInBounds_toArray, List.set_cons_zero, List.set_cons_succ]
    refine take_dst (i := 1) (d := 31) (v := .int .i64 keep) rfl rfl (by kernel_rfl) (by kernel_rfl) (by kernel_rfl) (fun _ _ _ h => h) (Or.inl ⟨by rfl, ?_⟩) hHeld ?_
    · (intro w0 hSw; (try dsimp only at hSw); go_simp)
    simp only [Act.put, List.setIfInBounds_toArray, List.set_cons_zero, List.set_cons_succ]
    refine wpAnyH_ready (rs := [2, 7]) (by kernel_rfl) (by simp) (AllReadyH.cons rfl (fun K hK => ?_) (AllReadyH.cons rfl (fun K hK => ?_) AllReadyH.nil))
    · skip
      refine step_calls_dst rfl 32 rfl 10 [.tmp 31, .const (.int .i64 99)] #[3, 3] rfl [.int .i64 keep, .int .i64 99] rfl (enters_of Try.func10 (by kernel_rfl) rfl) (fun v w' => v = .int .i64 KP ∧ V0t = w') ((HP.out V0t).mono (by rintro e w' ⟨rfl, h⟩; exact ⟨_, rfl, rfl, h⟩)) ?_
      rintro v wq ⟨rfl, hwq⟩
      subst hwq
      refine hK.out _ _ ⟨cells_at qT0t 0 _ rfl, cells_at qT0t 1 _ rfl⟩ (fun hHeld => ?_)
      simp only [Act.put, List.setIfInBounds_toArray, List.set_cons_zero, List.set_cons_succ]
      refine wpAnyH_ready (rs := [3, 7]) (by kernel_rfl) (by simp) (AllReadyH.cons rfl (fun K hK => ?_) (AllReadyH.cons rfl (fun K hK => ?_) AllReadyH.nil))
      · skip
        refine step_calls_dst rfl 33 rfl 14 [.tmp 30, .tmp 32] #[28, 3] rfl [.agg #[.slice ya D.length yc, .int .i64 (D.length : Int)], .int .i64 KP] rfl (enters_of Try.func14 (by kernel_rfl) rfl) (fun v w' => (∃ ca cc, v = .tuple #[.agg #[.slice ca D.length cc, .int .i64 (D.length : Int)], .int .i64 0] ∧ SliceAt w' ca cc D ∧ (∀ sb so, ca = some ⟨sb, so, none⟩ → V0t.heap.size ≤ sb ∧ sb < w'.heap.size)) ∧ Below V0t.heap.size V0t w') ((HC.out V0t hV0t).mono (fun e w2 h => by obtain ⟨ca, cc, he, h1, h2, h3⟩ := h; exact ⟨_, he, ⟨ca, cc, rfl, h1, h2⟩, h3⟩)) ?_
        rintro v Vt2 ⟨⟨ca, cc, rfl, hSc, hfc⟩, hb_t2⟩
        have hl_t2 := hV0t.size
        have qT_t3 := (hb_t2.block _ (lt_of_heap qT0t)).trans qT0t
        have hB_t3 := hV0t.trans (hb_t2.mono hV0t.size)
        refine hK.out _ _ ⟨cells_at qT_t3 0 _ rfl, cells_at qT_t3 1 _ rfl⟩ (fun hHeld => ?_)
        simp only [Act.put, List.setIfInBounds_toArray, List.set_cons_zero, List.set_cons_succ]
        refine take_dst (i := 4) (d := 29) (v := .tuple #[.agg #[.slice ca D.length cc, .int .i64 (D.length : Int)], .int .i64 0]) rfl rfl (by kernel_rfl) (by kernel_rfl) (by kernel_rfl) (fun _ _ _ h => h) (Or.inl ⟨by rfl, ?_⟩) hHeld ?_
        · (intro w0 hSw; (try dsimp only at hSw); go_simp)
        simp only [Act.put, List.setIfInBounds_toArray, List.set_cons_zero, List.set_cons_succ]
        refine take_dst (i := 5) (d := 34) (v := .agg #[.slice ca D.length cc, .int .i64 (D.length : Int)]) rfl rfl (by kernel_rfl) (by kernel_rfl) (by kernel_rfl) (fun _ _ _ h => h) (Or.inl ⟨by rfl, ?_⟩) hHeld ?_
        · (intro w0 hSw; (try dsimp only at hSw); go_simp)
        simp only [Act.put, List.setIfInBounds_toArray, List.set_cons_zero, List.set_cons_succ]
        refine take_dst (i := 6) (d := 35) (v := .int .i64 0) rfl rfl (by kernel_rfl) (by kernel_rfl) (by kernel_rfl) (fun _ _ _ h => h) (Or.inl ⟨by rfl, ?_⟩) hHeld ?_
        · (intro w0 hSw; (try dsimp only at hSw); go_simp)
        simp only [Act.put, List.setIfInBounds_toArray, List.set_cons_zero, List.set_cons_succ]
        refine wpAnyH_ready (rs := [7]) (by kernel_rfl) (by simp) (AllReadyH.cons rfl (fun K hK => ?_) AllReadyH.nil)
        refine step_run rfl 9 rfl (.pointer (some ⟨Vt2.heap.size, 0, none⟩)) (Vt2.alloc (.cells #[.slice none 0 0, .int .i64 0] 28)) (by go_simp) ?_
        have hA_t4 : Below Vt2.heap.size Vt2 (Vt2.alloc (.cells #[.slice none 0 0, .int .i64 0] 28)) := (Below.refl _ _).alloc (Nat.le_refl _) _
        have N_t4 := heap_alloc_new Vt2 (.cells #[.slice none 0 0, .int .i64 0] 28)
        have hnqT_t4 := Nat.ne_of_lt (lt_of_heap qT_t3)
        have hl_t4 : W3.heap.size ≤ Vt2.heap.size := hB_t3.size
        have hx_ca_t4 : ∀ sb so, ca = some ⟨sb, so, none⟩ → sb ≠ Vt2.heap.size := fun sb so e => Nat.ne_of_lt (hfc sb so e).2
        have qT_t5 := (hA_t4.block _ (lt_of_heap qT_t3)).trans qT_t3
        have hSc_t5 := hSc.below hA_t4
        have hB_t5 := hB_t3.trans (hA_t4.mono hB_t3.size)
        refine hK.out _ _ ⟨cells_at qT_t5 0 _ rfl, cells_at qT_t5 1 _ rfl⟩ (fun hHeld => ?_)
        simp only [Act.put, List.setIfInBounds_toArray, List.set_cons_zero, List.set_cons_succ]
        generalize Vt2.alloc (.cells #[.slice none 0 0, .int .i64 0] 28) = Vt4 at hA_t4 N_t4 qT_t5 hSc_t5 hB_t5 hHeld ⊢
        clear hA_t4
        generalize Vt2.heap.size = bt4 at N_t4 hnqT_t4 hl_t4 hx_ca_t4 ⊢
        have z0_t6 := cells_at N_t4 0 _ rfl
        have y0_t6 := frozen_at N_t4 0
        have z1_t6 := cells_at N_t4 1 _ rfl
        have y1_t6 := frozen_at N_t4 1
        refine wpAnyH_ready (rs := [8]) (by kernel_rfl) (by simp) (AllReadyH.cons rfl (fun K hK => ?_) AllReadyH.nil)
        have hxB_ca_t6 : ∀ sb so, ca = some ⟨sb, so, none⟩ → bt4 ≠ sb := fun sb so e => by have := hx_ca_t4 sb so e; omega
        refine step_store rfl rfl ((Vt4.setCell ⟨bt4, 0, none⟩ (.slice ca D.length cc)).setCell ⟨bt4, 1, none⟩ (.int .i64 (D.length : Int))) (by go_simp) ?_
        have N_t6 : ((Vt4.setCell ⟨bt4, 0, none⟩ (.slice ca D.length cc)).setCell ⟨bt4, 1, none⟩ (.int .i64 (D.length : Int))).heap[bt4]? = some (.cells #[.slice ca D.length cc, .int .i64 (D.length : Int)] 28 (0, 0)) := by simpa using (heap_setCell_same _ _ 1 _ _ (.int .i64 (D.length : Int)) (heap_setCell_same _ _ 0 _ _ (.slice ca D.length cc) N_t4))
        have qT_t6 := (heap_far (j := 1) (v := .int .i64 (D.length : Int)) (heap_far (j := 0) (v := .slice ca D.length cc) qT_t5 hnqT_t4) hnqT_t4)
        have hSc_t6 := ((hSc_t5.setCellT bt4 0 (.slice ca D.length cc) hxB_ca_t6).setCellT bt4 1 (.int .i64 (D.length : Int)) hxB_ca_t6)
        have hB_t6 := ((hB_t5.setCell (p := ⟨bt4, 0, none⟩) hl_t4 (.slice ca D.length cc)).setCell (p := ⟨bt4, 1, none⟩) hl_t4 (.int .i64 (D.length : Int)))
        refine hK.out _ _ ⟨cells_at qT_t6 0 _ rfl, cells_at qT_t6 1 _ rfl⟩ (fun hHeld => ?_)
        generalize ((Vt4.setCell ⟨bt4, 0, none⟩ (.slice ca D.length cc)).setCell ⟨bt4, 1, none⟩ (.int .i64 (D.length : Int))) = VEt6 at qT_t6 N_t6 hSc_t6 hB_t6 hHeld ⊢
        refine take_dst (i := 9) (d := 10) (v := .int .i64 0) rfl rfl (by kernel_rfl) (by kernel_rfl) (by kernel_rfl) (fun _ _ _ h => h) (Or.inl ⟨by rfl, ?_⟩) hHeld ?_
        · (intro w0 hSw; (try dsimp only at hSw); go_simp)
        simp only [Act.put, List.setIfInBounds_toArray, List.set_cons_zero, List.set_cons_succ]
        refine wpAnyH_done (by kernel_rfl) ?_ _
        go_wp2_with fail
        go_meet
        case rel => exact ⟨bt4, ca, cc, rfl, rfl, hB_t6, N_t6, qT_t6, hSc_t6⟩
      · skip
        refine step_run rfl 9 rfl (.pointer (some ⟨V0t.heap.size, 0, none⟩)) (V0t.alloc (.cells #[.slice none 0 0, .int .i64 0] 28)) (by go_simp) ?_
        have hA_t7 : Below V0t.heap.size V0t (V0t.alloc (.cells #[.slice none 0 0, .int .i64 0] 28)) := (Below.refl _ _).alloc (Nat.le_refl _) _
        have N_t7 := heap_alloc_new V0t (.cells #[.slice none 0 0, .int .i64 0] 28)
        have hnqT_t7 := Nat.ne_of_lt (lt_of_heap qT0t)
        have hl_t7 : W3.heap.size ≤ V0t.heap.size := hV0t.size
        have qT_t8 := (hA_t7.block _ (lt_of_heap qT0t)).trans qT0t
        have hB_t8 := hV0t.trans (hA_t7.mono hV0t.size)
        refine hK.out _ _ ⟨cells_at qT_t8 0 _ rfl, cells_at qT_t8 1 _ rfl⟩ (fun hHeld => ?_)
        simp only [Act.put, List.setIfInBounds_toArray, List.set_cons_zero, List.set_cons_succ]
        generalize V0t.alloc (.cells #[.slice none 0 0, .int .i64 0] 28) = Vt7 at hA_t7 N_t7 qT_t8 hB_t8 hHeld ⊢
        clear hA_t7
        generalize V0t.heap.size = bt7 at N_t7 hnqT_t7 hl_t7 ⊢
        refine wpAnyH_ready (rs := [3]) (by kernel_rfl) (by simp) (AllReadyH.cons rfl (fun K hK => ?_) AllReadyH.nil)
        refine step_calls_dst rfl 33 rfl 14 [.tmp 30, .tmp 32] #[28, 3] rfl [.agg #[.slice ya D.length yc, .int .i64 (D.length : Int)], .int .i64 KP] rfl (enters_of Try.func14 (by kernel_rfl) rfl) (fun v w' => (∃ ca cc, v = .tuple #[.agg #[.slice ca D.length cc, .int .i64 (D.length : Int)], .int .i64 0] ∧ SliceAt w' ca cc D ∧ (∀ sb so, ca = some ⟨sb, so, none⟩ → Vt7.heap.size ≤ sb ∧ sb < w'.heap.size)) ∧ Below Vt7.heap.size Vt7 w') ((HC.out Vt7 hB_t8).mono (fun e w2 h => by obtain ⟨ca, cc, he, h1, h2, h3⟩ := h; exact ⟨_, he, ⟨ca, cc, rfl, h1, h2⟩, h3⟩)) ?_
        rintro v Vt9 ⟨⟨ca, cc, rfl, hSc, hfc⟩, hb_t9⟩
        have hl_t9 := hB_t8.size
        have hbe_t9 := lt_of_heap N_t7
        have qT_t10 := (hb_t9.block _ (lt_of_heap qT_t8)).trans qT_t8
        have N_t10 := (hb_t9.block _ (lt_of_heap N_t7)).trans N_t7
        have hB_t10 := hB_t8.trans (hb_t9.mono hB_t8.size)
        have hx_ca_t9 : ∀ sb so, ca = some ⟨sb, so, none⟩ → sb ≠ bt7 := fun sb so e => by have := (hfc sb so e).1; omega
        refine hK.out _ _ ⟨cells_at qT_t10 0 _ rfl, cells_at qT_t10 1 _ rfl⟩ (fun hHeld => ?_)
        simp only [Act.put, List.setIfInBounds_toArray, List.set_cons_zero, List.set_cons_succ]
        refine take_dst (i := 4) (d := 29) (v := .tuple #[.agg #[.slice ca D.length cc, .int .i64 (D.length : Int)], .int .i64 0]) rfl rfl (by kernel_rfl) (by kernel_rfl) (by kernel_rfl) (fun _ _ _ h => h) (Or.inl ⟨by rfl, ?_⟩) hHeld ?_
        · (intro w0 hSw; (try dsimp only at hSw); go_simp)
        simp only [Act.put, List.setIfInBounds_toArray, List.set_cons_zero, List.set_cons_succ]
        refine take_dst (i := 5) (d := 34) (v := .agg #[.slice ca D.length cc, .int .i64 (D.length : Int)]) rfl rfl (by kernel_rfl) (by kernel_rfl) (by kernel_rfl) (fun _ _ _ h => h) (Or.inl ⟨by rfl, ?_⟩) hHeld ?_
        · (intro w0 hSw; (try dsimp only at hSw); go_simp)
        simp only [Act.put, List.setIfInBounds_toArray, List.set_cons_zero, List.set_cons_succ]
        refine take_dst (i := 6) (d := 35) (v := .int .i64 0) rfl rfl (by kernel_rfl) (by kernel_rfl) (by kernel_rfl) (fun _ _ _ h => h) (Or.inl ⟨by rfl, ?_⟩) hHeld ?_
        · (intro w0 hSw; (try dsimp only at hSw); go_simp)
        simp only [Act.put, List.setIfInBounds_toArray, List.set_cons_zero, List.set_cons_succ]
        have z0_t11 := cells_at N_t10 0 _ rfl
        have y0_t11 := frozen_at N_t10 0
        have z1_t11 := cells_at N_t10 1 _ rfl
        have y1_t11 := frozen_at N_t10 1
        refine wpAnyH_ready (rs := [8]) (by kernel_rfl) (by simp) (AllReadyH.cons rfl (fun K hK => ?_) AllReadyH.nil)
        have hxB_ca_t11 : ∀ sb so, ca = some ⟨sb, so, none⟩ → bt7 ≠ sb := fun sb so e => by have := hx_ca_t9 sb so e; omega
        refine step_store rfl rfl ((Vt9.setCell ⟨bt7, 0, none⟩ (.slice ca D.length cc)).setCell ⟨bt7, 1, none⟩ (.int .i64 (D.length : Int))) (by go_simp) ?_
        have N_t11 : ((Vt9.setCell ⟨bt7, 0, none⟩ (.slice ca D.length cc)).setCell ⟨bt7, 1, none⟩ (.int .i64 (D.length : Int))).heap[bt7]? = some (.cells #[.slice ca D.length cc, .int .i64 (D.length : Int)] 28 (0, 0)) := by simpa using (heap_setCell_same _ _ 1 _ _ (.int .i64 (D.length : Int)) (heap_setCell_same _ _ 0 _ _ (.slice ca D.length cc) N_t10))
        have qT_t11 := (heap_far (j := 1) (v := .int .i64 (D.length : Int)) (heap_far (j := 0) (v := .slice ca D.length cc) qT_t10 hnqT_t7) hnqT_t7)
        have hSc_t11 := ((hSc.setCellT bt7 0 (.slice ca D.length cc) hxB_ca_t11).setCellT bt7 1 (.int .i64 (D.length : Int)) hxB_ca_t11)
        have hB_t11 := ((hB_t10.setCell (p := ⟨bt7, 0, none⟩) hl_t7 (.slice ca D.length cc)).setCell (p := ⟨bt7, 1, none⟩) hl_t7 (.int .i64 (D.length : Int)))
        refine hK.out _ _ ⟨cells_at qT_t11 0 _ rfl, cells_at qT_t11 1 _ rfl⟩ (fun hHeld => ?_)
        generalize ((Vt9.setCell ⟨bt7, 0, none⟩ (.slice ca D.length cc)).setCell ⟨bt7, 1, none⟩ (.int .i64 (D.length : Int))) = VEt11 at qT_t11 N_t11 hSc_t11 hB_t11 hHeld ⊢
        refine take_dst (i := 9) (d := 10) (v := .int .i64 0) rfl rfl (by kernel_rfl) (by kernel_rfl) (by kernel_rfl) (fun _ _ _ h => h) (Or.inl ⟨by rfl, ?_⟩) hHeld ?_
        · (intro w0 hSw; (try dsimp only at hSw); go_simp)
        simp only [Act.put, List.setIfInBounds_toArray, List.set_cons_zero, List.set_cons_succ]
        refine wpAnyH_done (by kernel_rfl) ?_ _
        go_wp2_with fail
        go_meet
        case rel => exact ⟨bt7, ca, cc, rfl, rfl, hB_t11, N_t11, qT_t11, hSc_t11⟩
    · skip
      refine step_run rfl 9 rfl (.pointer (some ⟨V0t.heap.size, 0, none⟩)) (V0t.alloc (.cells #[.slice none 0 0, .int .i64 0] 28)) (by go_simp) ?_
      have hA_t12 : Below V0t.heap.size V0t (V0t.alloc (.cells #[.slice none 0 0, .int .i64 0] 28)) := (Below.refl _ _).alloc (Nat.le_refl _) _
      have N_t12 := heap_alloc_new V0t (.cells #[.slice none 0 0, .int .i64 0] 28)
      have hnqT_t12 := Nat.ne_of_lt (lt_of_heap qT0t)
      have hl_t12 : W3.heap.size ≤ V0t.heap.size := hV0t.size
      have qT_t13 := (hA_t12.block _ (lt_of_heap qT0t)).trans qT0t
      have hB_t13 := hV0t.trans (hA_t12.mono hV0t.size)
      refine hK.out _ _ ⟨cells_at qT_t13 0 _ rfl, cells_at qT_t13 1 _ rfl⟩ (fun hHeld => ?_)
      simp only [Act.put, List.setIfInBounds_toArray, List.set_cons_zero, List.set_cons_succ]
      generalize V0t.alloc (.cells #[.slice none 0 0, .int .i64 0] 28) = Vt12 at hA_t12 N_t12 qT_t13 hB_t13 hHeld ⊢
      clear hA_t12
      generalize V0t.heap.size = bt12 at N_t12 hnqT_t12 hl_t12 ⊢
      refine wpAnyH_ready (rs := [2]) (by kernel_rfl) (by simp) (AllReadyH.cons rfl (fun K hK => ?_) AllReadyH.nil)
      refine step_calls_dst rfl 32 rfl 10 [.tmp 31, .const (.int .i64 99)] #[3, 3] rfl [.int .i64 keep, .int .i64 99] rfl (enters_of Try.func10 (by kernel_rfl) rfl) (fun v w' => v = .int .i64 KP ∧ Vt12 = w') ((HP.out Vt12).mono (by rintro e w' ⟨rfl, h⟩; exact ⟨_, rfl, rfl, h⟩)) ?_
      rintro v wq ⟨rfl, hwq⟩
      subst hwq
      refine hK.out _ _ ⟨cells_at qT_t13 0 _ rfl, cells_at qT_t13 1 _ rfl⟩ (fun hHeld => ?_)
      simp only [Act.put, List.setIfInBounds_toArray, List.set_cons_zero, List.set_cons_succ]
      refine wpAnyH_ready (rs := [3]) (by kernel_rfl) (by simp) (AllReadyH.cons rfl (fun K hK => ?_) AllReadyH.nil)
      refine step_calls_dst rfl 33 rfl 14 [.tmp 30, .tmp 32] #[28, 3] rfl [.agg #[.slice ya D.length yc, .int .i64 (D.length : Int)], .int .i64 KP] rfl (enters_of Try.func14 (by kernel_rfl) rfl) (fun v w' => (∃ ca cc, v = .tuple #[.agg #[.slice ca D.length cc, .int .i64 (D.length : Int)], .int .i64 0] ∧ SliceAt w' ca cc D ∧ (∀ sb so, ca = some ⟨sb, so, none⟩ → Vt12.heap.size ≤ sb ∧ sb < w'.heap.size)) ∧ Below Vt12.heap.size Vt12 w') ((HC.out Vt12 hB_t13).mono (fun e w2 h => by obtain ⟨ca, cc, he, h1, h2, h3⟩ := h; exact ⟨_, he, ⟨ca, cc, rfl, h1, h2⟩, h3⟩)) ?_
      rintro v Vt15 ⟨⟨ca, cc, rfl, hSc, hfc⟩, hb_t15⟩
      have hl_t15 := hB_t13.size
      have hbe_t15 := lt_of_heap N_t12
      have qT_t16 := (hb_t15.block _ (lt_of_heap qT_t13)).trans qT_t13
      have N_t16 := (hb_t15.block _ (lt_of_heap N_t12)).trans N_t12
      have hB_t16 := hB_t13.trans (hb_t15.mono hB_t13.size)
      have hx_ca_t15 : ∀ sb so, ca = some ⟨sb, so, none⟩ → sb ≠ bt12 := fun sb so e => by have := (hfc sb so e).1; omega
      refine hK.out _ _ ⟨cells_at qT_t16 0 _ rfl, cells_at qT_t16 1 _ rfl⟩ (fun hHeld => ?_)
      simp only [Act.put, List.setIfInBounds_toArray, List.set_cons_zero, List.set_cons_succ]
      refine take_dst (i := 4) (d := 29) (v := .tuple #[.agg #[.slice ca D.length cc, .int .i64 (D.length : Int)], .int .i64 0]) rfl rfl (by kernel_rfl) (by kernel_rfl) (by kernel_rfl) (fun _ _ _ h => h) (Or.inl ⟨by rfl, ?_⟩) hHeld ?_
      · (intro w0 hSw; (try dsimp only at hSw); go_simp)
      simp only [Act.put, List.setIfInBounds_toArray, List.set_cons_zero, List.set_cons_succ]
      refine take_dst (i := 5) (d := 34) (v := .agg #[.slice ca D.length cc, .int .i64 (D.length : Int)]) rfl rfl (by kernel_rfl) (by kernel_rfl) (by kernel_rfl) (fun _ _ _ h => h) (Or.inl ⟨by rfl, ?_⟩) hHeld ?_
      · (intro w0 hSw; (try dsimp only at hSw); go_simp)
      simp only [Act.put, List.setIfInBounds_toArray, List.set_cons_zero, List.set_cons_succ]
      refine take_dst (i := 6) (d := 35) (v := .int .i64 0) rfl rfl (by kernel_rfl) (by kernel_rfl) (by kernel_rfl) (fun _ _ _ h => h) (Or.inl ⟨by rfl, ?_⟩) hHeld ?_
      · (intro w0 hSw; (try dsimp only at hSw); go_simp)
      simp only [Act.put, List.setIfInBounds_toArray, List.set_cons_zero, List.set_cons_succ]
      have z0_t17 := cells_at N_t16 0 _ rfl
      have y0_t17 := frozen_at N_t16 0
      have z1_t17 := cells_at N_t16 1 _ rfl
      have y1_t17 := frozen_at N_t16 1
      refine wpAnyH_ready (rs := [8]) (by kernel_rfl) (by simp) (AllReadyH.cons rfl (fun K hK => ?_) AllReadyH.nil)
      have hxB_ca_t17 : ∀ sb so, ca = some ⟨sb, so, none⟩ → bt12 ≠ sb := fun sb so e => by have := hx_ca_t15 sb so e; omega
      refine step_store rfl rfl ((Vt15.setCell ⟨bt12, 0, none⟩ (.slice ca D.length cc)).setCell ⟨bt12, 1, none⟩ (.int .i64 (D.length : Int))) (by go_simp) ?_
      have N_t17 : ((Vt15.setCell ⟨bt12, 0, none⟩ (.slice ca D.length cc)).setCell ⟨bt12, 1, none⟩ (.int .i64 (D.length : Int))).heap[bt12]? = some (.cells #[.slice ca D.length cc, .int .i64 (D.length : Int)] 28 (0, 0)) := by simpa using (heap_setCell_same _ _ 1 _ _ (.int .i64 (D.length : Int)) (heap_setCell_same _ _ 0 _ _ (.slice ca D.length cc) N_t16))
      have qT_t17 := (heap_far (j := 1) (v := .int .i64 (D.length : Int)) (heap_far (j := 0) (v := .slice ca D.length cc) qT_t16 hnqT_t12) hnqT_t12)
      have hSc_t17 := ((hSc.setCellT bt12 0 (.slice ca D.length cc) hxB_ca_t17).setCellT bt12 1 (.int .i64 (D.length : Int)) hxB_ca_t17)
      have hB_t17 := ((hB_t16.setCell (p := ⟨bt12, 0, none⟩) hl_t12 (.slice ca D.length cc)).setCell (p := ⟨bt12, 1, none⟩) hl_t12 (.int .i64 (D.length : Int)))
      refine hK.out _ _ ⟨cells_at qT_t17 0 _ rfl, cells_at qT_t17 1 _ rfl⟩ (fun hHeld => ?_)
      generalize ((Vt15.setCell ⟨bt12, 0, none⟩ (.slice ca D.length cc)).setCell ⟨bt12, 1, none⟩ (.int .i64 (D.length : Int))) = VEt17 at qT_t17 N_t17 hSc_t17 hB_t17 hHeld ⊢
      refine take_dst (i := 9) (d := 10) (v := .int .i64 0) rfl rfl (by kernel_rfl) (by kernel_rfl) (by kernel_rfl) (fun _ _ _ h => h) (Or.inl ⟨by rfl, ?_⟩) hHeld ?_
      · (intro w0 hSw; (try dsimp only at hSw); go_simp)
      simp only [Act.put, List.setIfInBounds_toArray, List.set_cons_zero, List.set_cons_succ]
      refine wpAnyH_done (by kernel_rfl) ?_ _
      go_wp2_with fail
      go_meet
      case rel => exact ⟨bt12, ca, cc, rfl, rfl, hB_t17, N_t17, qT_t17, hSc_t17⟩
  case rest =>
    obtain ⟨UB, ca, cc, rfl, rfl, hb4, qU, qT4, hS4⟩ := hcut
    generalize wc = W4 at hb4 qU qT4 hS4 ⊢
    apply_assumption
    have hB4 := hB3A.trans (hb4.mono hB3A.size)
    have hW4 := hW3A.trans (hb4.mono hW3A.size)
    have hST4 := hS3A.below hb4
    clear HC HP hb4 hB3A hW3A hS3A qT3
    have c0 : W4.cell? ⟨UB, 0, none⟩ = some (.slice ca D.length cc) := cells_at qU 0 _ rfl
    have c1 : W4.cell? ⟨UB, 1, none⟩ = some (.int .i64 (D.length : Int)) := cells_at qU 1 _ rfl
    have hR1 := recover_part ms D.length ca D.length cc D.length W4 (by rw [HD.out, List.take_of_length_le (Nat.le_refl _)]) (by rw [HD.out, List.take_of_length_le (Nat.le_refl _)]; exact hS4) (HR.out W4 hW4).2 HU.out (by rw [HD.out]; omega) ⟨by omega, by omega⟩
    go_wp2_with fail
    refine hR1.mono ?_
    intro e w5 h5
    obtain ⟨xa, xc, ys, ra, rc, he, hyr, hym, hyu, hyS, hya, hyl, -, hb5⟩ := h5.out
    subst he
    dsimp only
    clear hR1 h5 c0 c1
    have hyn : ys.length = ms.length := by
      have h1 := hyl ms.length (Nat.le_refl _) (by rw [List.take_of_length_le (Nat.le_refl _), HD.out]; exact Nat.le_refl _)
      have h2 := hya.le
      omega
    have hyD : tapeB ys = D := by rw [hya.tape, hyn, List.take_of_length_le (Nat.le_refl _), HD.out]
    rw [hyD] at hyS ⊢
    rw [show min (D.length : Int) (D.length : Int) = D.length by omega]
    clear hyl hyD
    have hB5 := hB4.trans (hb5.mono hB4.size)
    have hW5 := hW4.trans (hb5.mono hW4.size)
    have t5 := (hb5.block _ (lt_of_heap qT4)).trans qT4
    have hST5 := hST4.below hb5
    have hA5 : Below w5.heap.size w5 (w5.alloc (.cells #[.slice ra D.length rc, .int .i64 (D.length : Int)] 28)) := (Below.refl _ _).alloc (Nat.le_refl _) _
    have qV := heap_alloc_new w5 (.cells #[.slice ra D.length rc, .int .i64 (D.length : Int)] 28)
    have t5A := (hA5.block _ (lt_of_heap t5)).trans t5
    have hyc : ∀ W, Below w5.heap.size w5 W → Calls Try.prog 16 #[.slice xa ys.length xc, .slice ma ms.length mc] W fun e w' => e = .returned (.bool true) ∧ Below W.heap.size W w' := by
      intro W hW
      obtain ⟨hr9, hm9⟩ := HR.out W (hW5.trans (hW.mono hW5.size))
      exact begins_agree ys ms xa ma _ _ xc mc W rfl rfl hya (by omega) (hyr.below hW) hr9 (fun y hy => ⟨(hym y hy).1.below hW, (hym y hy).2⟩) hm9 hyu
    have HBg : Hid _ := hyc
    clear hyr hym hyu hya hyc
    go_upto_region 6 with fail
    generalize hVB : w5.heap.size = VB at qV ⊢
    clear hVB
    generalize w5.alloc (.cells #[.slice ra D.length rc, .int .i64 (D.length : Int)] 28) = W5 at hA5 qV t5A ⊢
    have hB5A := hB5.trans (hA5.mono hB5.size)
    have hyS5 := hyS.below hA5
    have hST5A := hST5.below hA5
    go_wp2_with fail
    refine (recover_none W5).mono ?_
    rintro e w6 ⟨na, nc, oa, oc, he, hb6⟩
    subst he
    dsimp only
    have hB6 := hB5A.trans (hb6.mono hB5A.size)
    have h56 := hA5.trans (hb6.mono hA5.size)
    have t6 := (hb6.block _ (lt_of_heap t5A)).trans t5A
    have v6 := (hb6.block _ (lt_of_heap qV)).trans qV
    have hA6 : Below w6.heap.size w6 (w6.alloc (.cells #[.slice oa 0 oc, .int .i64 0] 28)) := (Below.refl _ _).alloc (Nat.le_refl _) _
    have t6A := (hA6.block _ (lt_of_heap t6)).trans t6
    have v6A := (hA6.block _ (lt_of_heap v6)).trans v6
    have qX := heap_alloc_new w6 (.cells #[.slice oa 0 oc, .int .i64 0] 28)
    go_upto_region 7 with fail
    generalize hXB : w6.heap.size = XB at qX ⊢
    clear hXB
    generalize w6.alloc (.cells #[.slice oa 0 oc, .int .i64 0] 28) = W6 at hA6 qX t6A v6A ⊢
    have hB6A := hB6.trans (hA6.mono hB6.size)
    have h56A := h56.trans (hA6.mono h56.size)
    have hyS6 := (hyS5.below hb6).below hA6
    have hST6 := (hST5A.below hb6).below hA6
    have hBg := HBg.out W6 h56A
    have HSm : Hid (∀ W : World, Below W6.heap.size W6 W → Calls Try.prog 17 #[.slice ra D.length rc, .slice ya D.length yc] W fun e w' => e = .returned (.bool true) ∧ W = w') := by
      show ∀ _, _
      intro W hW
      exact same_eq D ra ya _ _ rc yc W rfl rfl (hyS6.below hW) (hST6.below hW)
    rw [hyn] at hBg ⊢
    rename_i K1 h1 K2 h2
    clear h1 hyn HBg hyS6 hST6 hyS5 hST5A hyS hST5 hST4 HD HR HU hS4 qT4 t5
    go_wp2_with fail
    refine hBg.mono ?_
    rintro e w7 ⟨he, hb7⟩
    subst he
    dsimp only
    clear hBg
    have hB7 := hB6A.trans (hb7.mono hB6A.size)
    have s7 := (hb7.block _ (lt_of_heap t6A)).trans t6A
    have u7 := (hb7.block _ (lt_of_heap v6A)).trans v6A
    have v7 := (hb7.block _ (lt_of_heap qX)).trans qX
    have x0 := cells_at s7 0 _ rfl
    have x1 := cells_at s7 1 _ rfl
    have x2 := cells_at u7 0 _ rfl
    have x3 := cells_at v7 0 _ rfl
    go_wp2_with fail
    refine (HSm.out w7 hb7).mono ?_
    rintro e w8 ⟨he, hw8⟩
    subst he hw8
    dsimp only
    go_wp2_with fail
    go_ret
    exact ⟨rfl, hB7⟩
end Go.Proofs.Ythpocgndgphedaa

namespace Go.Proofs.Ythpocgndgphedaa.syncSafe
open Go.ChangeShapes Go.WideShapes Go.ChangeAt Go.RowKit

set_option maxRecDepth 100000 in
/-- What the walk gives, for every argument and every world. -/
theorem contract (H : Type) (enc : TypeId × Value → H) (W : World) (base : Nat) (args : Array Value) (ds gs : List (DataW H)) (before : List MemPlace)
    (hval : ∀ (j : Nat) t v, Try.f6.params[j]? = some t → args[j]? = some v → Value.okWide Try.prog W .any base t v)
    (hW : DataW.Whole enc Try.prog Try.f6.params.toList Rows.syncSafeSpec.vars false W args.toList ds gs before) (hsz : (DataW.weightsEach Try.prog (Try.f6.params.toList ++ (OpenSpec.ofChange Rows.syncSafeSpec).bare.plain.varTypes Try.prog) (ds ++ gs)).all (· ≤ reachBytes) = true) (_hL : laidMetH Try.prog Rows.syncSafeRow.laid W) :
    Calls Try.prog 6 args W fun e W' => ∃ v, e = .returned v ∧ Rows.syncSafeSpec.post enc Try.prog Try.f6 false true false false W args v W' := by
  have hW' := hW
  obtain ⟨p, q, hA0, hV, rfl, hfz, hnd⟩ := hW
  have hA : DataW.TrodAll enc Try.prog W 0 (fun _ => true) true Try.f6.params.toList args.toList ds p := hA0
  rw [Try.params6] at hA hval hsz
  obtain ⟨v0, vs0, d0, ds0, p0, q0, hargs, rfl, rfl, h0, r0⟩ := trodAll_cons hA
  obtain ⟨v1, vs1, d1, ds1, p1, q1, rfl, rfl, rfl, h1, r1⟩ := trodAll_cons r0
  obtain ⟨rfl, rfl, rfl⟩ := trodAll_nil r1
  obtain rfl : args = #[v0, v1] := by cases args; simp_all
  obtain ⟨rfl, rfl⟩ := trodVars_none hV
  have k0 := h0
  have lt0 : ∀ x ∈ p0, x.block < W.heap.size := by obtain ⟨m, hm⟩ := k0; exact DataW.trod_lt m _ _ _ hm
  obtain ⟨sa0, cap0, rs0, rfl, q0_0, q0_1⟩ := open_rawts (hval 0 22 v0 rfl rfl) h0 (fit_each hsz (j := 0) rfl rfl)
  obtain ⟨a1, rfl, rfl, rfl, w1⟩ := open_int Try.underlying3 (hval 1 3 v1 rfl rfl) h1
  obtain ⟨lo1, hi1⟩ := bounds_i64 w1
  clear hA0
  refine (syncSafe_walk sa0 cap0 rs0 a1 W q0_0 q0_1 lo1 hi1).mono fun e W' ⟨he, bel⟩ => ?_
  subst he
  exact ⟨_, rfl, _, _, _, [], _, [], hW', trodAll_mk1 (shut_bool Try.underlying4 _), (trodAll_cons_mk (Below.trod laidOut (by kernel_rfl) (of_decide_eq_true (by kernel_rfl)) k0 bel lt0) (trodAll_cons_mk (shut_int Try.underlying3 w1) trodAll_mk0)), rfl, bel.frame _, fun h => by cases h⟩

set_option maxRecDepth 100000 in
theorem laid_met (os : Os) : laidMet Try.prog Rows.syncSafeRow.laid ((World.holding Try.prog os ⟨#[], #[], []⟩).forCall (fun _ _ => 0) ⟨#[], #[.slice none 0 0, .int .i64 0], []⟩).memory :=
  laidMet_of_run' 8 (by kernel_rfl) (by kernel_rfl)
set_option maxRecDepth 100000 in
theorem reads (os : Os) {H : Type} (enc : TypeId × Value → H) : ∃ places, DataW.whole enc Try.prog ((World.holding Try.prog os ⟨#[], #[], []⟩).forCall (fun _ _ => 0) ⟨#[], #[.slice none 0 0, .int .i64 0], []⟩).memory Try.f6.params.toList Rows.syncSafeSpec.vars false (#[.slice none 0 0, .int .i64 0] : Array Value).toList 8 = some ([.nil, .lit (.int .i64 0)], [], places) :=
  ⟨[], by kernel_rfl⟩

set_option maxRecDepth 100000 in
theorem lifted (os : Os) (started : os.Started) (H : Type) (enc : TypeId × Value → H) (F : Stop.Interp) :
    ReturnsInHanded {} Try.checked os 6 .any ((OpenSpec.ofChange Rows.syncSafeSpec).preRow enc Try.prog Try.f6 Rows.syncSafeRow.domain false Rows.syncSafeRow.laid) (((OpenSpec.ofChange Rows.syncSafeSpec).at F).post enc Try.prog Try.f6 false true false false) := by
  obtain ⟨places, hx⟩ := reads os enc
  refine returnsInHanded_of_row (C := Try.checked) (s := OpenSpec.ofChange Rows.syncSafeSpec) own started (by kernel_rfl) Try.func6
    (witness_row_at (enc := enc) (C := Try.checked) false (World.holding Try.prog os ⟨#[], #[], []⟩) #[.slice none 0 0, .int .i64 0] rfl (by kernel_rfl) (by kernel_rfl) (by kernel_rfl)
      (OpenSpec.preRow_of_cond 8 hx (by kernel_rfl) (fun k hk => by cases hk) (by kernel_rfl) (laid_met os))) ?_
  intro W base args ds gs before hval hW _ _ hsz hL _ _
  exact contract H enc W base args ds gs before hval hW hsz hL

set_option maxRecDepth 100000 in
theorem said : Rows.SyncSafeSaid :=
  OpenClaim.holds_of_cond 6 Try.f6 rfl rfl rfl rfl rfl rfl rfl ⟨rfl, rfl, rfl, rfl, rfl⟩ rfl rfl rfl rfl rfl (by kernel_rfl) Try.func6 (by kernel_rfl)
    (of_decide_eq_true (by kernel_rfl)) (by unfold Func.isWrapper; first | (rw [if_pos (by decide +kernel)]; kernel_rfl) | (rw [if_neg (by decide +kernel)]; exact ⟨rfl, rfl⟩))
    (fun os started H enc _ F => by rw [OpenClaim.pre_eq_preRow]; exact lifted os started H enc F)

end Go.Proofs.Ythpocgndgphedaa.syncSafe
namespace Go.Proofs.Ythpocgndgphedaa
set_option maxRecDepth 100000 in
theorem syncSafe_holds : Rows.SyncSafeSaid := syncSafe.said
#print axioms syncSafe_holds
end Go.Proofs.Ythpocgndgphedaa
