/- The law sheaveskeep.TapeKeeps answers true for every argument, and each argument reads behind the call as it read before: no condition but the form's own reach. -/
import Derived.Test.YthpocgndgphedaaTapeKeepsM60
import Derived.Test.YthpocgndgphedaaTapeKeepsM72
import Derived.Test.YthpocgndgphedaaTapeKeepsM30
import Derived.Test.YthpocgndgphedaaPicked
import Derived.Test.YthpocgndgphedaaTapeKeepsM66
import Derived.Deep.MidRow
import Derived.Deep.CutRange
import Derived.Deep.DeepCutAuto
import Derived.Test.YthpocgndgphedaaRows
import Derived.Test.YthpocgndgphedaaOpenB
import Derived.WalkKit
import Derived.ProofKit
import Derived.OpenShut
import Derived.Deep.DeepHandedRow
import Derived.SevenTiedAt
import Derived.Below
namespace Go.Proofs.Ythpocgndgphedaa
open Go.RowKit

set_option maxRecDepth 100000 in
theorem recs_rowU {w w' : World} {e : Ending} {N : Nat} (h : RecsIs w w' e N) : ∃ (sa : Option Addr) (cap : Nat) (ms : List MV), e = .returned (.slice sa ms.length cap) ∧ ms.length = N ∧ MsRow w' sa ms ∧ (∀ x ∈ ms, MAt w' x ∧ IsRec x) ∧ Below w.heap.size w w' ∧ ∀ x ∈ ms, U8M x.bl x.pl x.cbl x.cpl x.ds := by
  obtain ⟨v, ms, he, hl, ho, ha, hb, hu⟩ := h.out
  obtain ⟨sa, cap, rfl, -, -, -, hr⟩ := msRow_of_owns ho
  exact ⟨sa, cap, ms, he, hl, hr, fun x hx => ⟨(ha x hx).1, (ha x hx).2.1⟩, hb, hu⟩
set_option maxRecDepth 100000 in
theorem recs_row {w w' : World} {e : Ending} {N : Nat} (h : RecsIs w w' e N) : ∃ (sa : Option Addr) (cap : Nat) (ms : List MV), e = .returned (.slice sa ms.length cap) ∧ ms.length = N ∧ MsRow w' sa ms ∧ (∀ x ∈ ms, MAt w' x ∧ IsRec x) ∧ Below w.heap.size w w' := by
  obtain ⟨sa, cap, ms, h1, h2, h3, h4, h5, -⟩ := recs_rowU h
  exact ⟨sa, cap, ms, h1, h2, h3, h4, h5⟩
set_option maxRecDepth 100000 in
theorem encode_rec (x : MV) (w : World) (hM : MAt w x) (hI : IsRec x) :
    Calls Try.prog 31 #[.agg #[.int .i64 x.m.fr, .int .i64 x.m.tt, .int .i64 x.m.ki, .int .i64 x.m.bau, .int .i64 x.m.bnu, .slice x.m.bta x.m.btn x.m.btc, .int .i64 x.m.hau, .int .i64 x.m.hrd, .slice x.m.hba x.m.hbn x.m.hbc, .slice x.m.hpa x.m.hpn x.m.hpc, .int .i64 x.m.sau, .int .i64 x.m.srd, .slice x.m.sda x.m.sdn x.m.sdc, .int .i64 x.m.cau, .int .i64 x.m.crd, .slice x.m.cba x.m.cbn x.m.cbc, .slice x.m.cpa x.m.cpn x.m.cpc, .slice x.m.cva x.m.cvn x.m.cvc, .int .i64 x.m.ro]] w fun e w' => ∃ v, e = .returned (.tuple #[v, .int .i64 0]) ∧ w'.ownsRow w.heap.size 5 1 v x.bytes.length (ub x.bytes) ∧ Below w.heap.size w w' := by
  have h := encode_any x.m x.ss x.bl x.pl x.cbl x.cpl x.ds x.vl w hM.at' hM.dig hM.dn
  have h0 : checkF x.m (carriedF x.m x.ss x.bl x.pl x.cbl x.cpl x.vl) = 0 := hI.check
  rw [h0] at h
  exact h
set_option maxRecDepth 100000 in
theorem sync_ok (bs : List Int) (sa : Option Addr) (n cap : Nat) (sy : Int) (w : World) (hn : n = bs.length) (hs : SliceAt w sa cap bs) (hl : bs.length ≤ 400000) (hy : 0 ≤ sy ∧ sy ≤ bs.length) :
    Calls Try.prog 12 #[.agg #[.slice sa n cap, .int .i64 sy]] w fun e w' => TapeIs w w' e bs bs.length 0 := by
  have h := tapeSync_any bs sa n cap sy w hn hs (by omega)
  have hk : tapeOk bs.length sy = true := tapeOk_iff.2 ⟨hl, hy.1, hy.2⟩
  rw [syncN, if_pos hk, syncF, if_pos hk, List.take_of_length_le (Nat.le_refl _)] at h
  exact h
set_option maxRecDepth 100000 in
theorem crash_ok (bs : List Int) (sa : Option Addr) (n cap : Nat) (sy keep : Int) (w : World) (hn : n = bs.length) (hs : SliceAt w sa cap bs) (hl : bs.length ≤ 400000) (hy : 0 ≤ sy ∧ sy ≤ bs.length) (hk : 0 ≤ keep ∧ keep ≤ 1000000) :
    Calls Try.prog 14 #[.agg #[.slice sa n cap, .int .i64 sy], .int .i64 keep] w fun e w' => TapeIs w w' e (bs.take (leftN bs.length sy keep)) (leftN bs.length sy keep) 0 := by
  have h := tapeCrash_any bs sa n cap sy keep w hn hs (by omega) (by omega) (by omega)
  have ht : tapeOk bs.length sy = true := tapeOk_iff.2 ⟨hl, hy.1, hy.2⟩
  rw [crashN, if_pos ⟨ht, hk.1⟩, crashF, if_pos ht, if_neg (by omega)] at h
  exact h
set_option maxRecDepth 100000 in
theorem crash_neg (bs : List Int) (sa : Option Addr) (n cap : Nat) (sy keep : Int) (w : World) (hn : n = bs.length) (hs : SliceAt w sa cap bs) (hl : bs.length ≤ 400000) (hy : 0 ≤ sy ∧ sy ≤ bs.length) (hk : keep < 0 ∧ -1000000 ≤ keep) :
    Calls Try.prog 14 #[.agg #[.slice sa n cap, .int .i64 sy], .int .i64 keep] w fun e w' => TapeIs w w' e [] 0 2 := by
  have h := tapeCrash_any bs sa n cap sy keep w hn hs (by omega) (by omega) (by omega)
  have ht : tapeOk bs.length sy = true := tapeOk_iff.2 ⟨hl, hy.1, hy.2⟩
  rw [crashN, if_neg (by omega), crashF, if_pos ht, if_pos hk.1] at h
  exact h
set_option maxRecDepth 100000 in
theorem tapeB_small {ms : List MV} {w : World} (h : ms.length ≤ 100) (hM : ∀ x ∈ ms, MAt w x ∧ IsRec x) : (tapeB ms).length ≤ 32500 := by
  have := tapeB_le ms (fun x hx => ((hM x hx).2.len (hM x hx).1.dn).2)
  omega
/-- A message that stands for none. -/
def noX : MV := ⟨⟨0, 0, 0, 0, 0, 0, 0, 0, 0, 0, 0, 0, none, none, none, none, none, none, none, 0, 0, 0, 0, 0, 0, 0, 0, 0, 0, 0, 0, 0, 0⟩, [], [], [], [], [], [], []⟩
end Go.Proofs.Ythpocgndgphedaa

namespace Go.Proofs.Ythpocgndgphedaa
open Go.RowKit

/-- What is recovered of the first k bytes of records. -/
structure RcvK (w w' : World) (e : Ending) (ms : List MV) (k : Nat) (sy : Int) : Prop where
  out : ∃ (ya : Option Addr) (yc : Nat) (ys : List MV) (ra : Option Addr) (rc : Nat), e = .returned (.tuple #[.slice ya ys.length yc, .agg #[.slice ra (tapeB ys).length rc, .int .i64 (min sy (tapeB ys).length)], .int .i64 0]) ∧ MsRow w' ya ys ∧ (∀ y ∈ ys, MAt w' y ∧ IsRec y) ∧ (∀ y ∈ ys, U8M y.bl y.pl y.cbl y.cpl y.ds) ∧ SliceAt w' ra rc (tapeB ys) ∧ Agree ys ms ∧ (∀ j, j ≤ ms.length → (tapeB (ms.take j)).length ≤ k → j ≤ ys.length) ∧ (tapeB ys).length ≤ k ∧ Below w.heap.size w w'
set_option maxRecDepth 100000 in
theorem Agree.good {ys ms : List MV} (h : Agree ys ms) (hu : ∀ x ∈ ms, U8M x.bl x.pl x.cbl x.cpl x.ds) : ∀ y ∈ ys, U8M y.bl y.pl y.cbl y.cpl y.ds := by
  intro y hy
  obtain ⟨i, hi, e⟩ := List.getElem_of_mem hy
  have hi2 : i < ms.length := by have := h.le; omega
  have h1 := h.same i hi hi2
  rw [e] at h1
  exact u8_same h1 (hu _ (List.getElem_mem hi2))
set_option maxRecDepth 100000 in
theorem recover_part (ms : List MV) (k : Nat) (sa : Option Addr) (n cap : Nat) (sy : Int) (w : World) (hn : n = ((tapeB ms).take k).length) (hs : SliceAt w sa cap ((tapeB ms).take k)) (hm : ∀ x ∈ ms, MAt w x ∧ IsRec x) (hu : ∀ x ∈ ms, U8M x.bl x.pl x.cbl x.cpl x.ds) (hl : (tapeB ms).length ≤ 400000) (hy : 0 ≤ sy ∧ sy ≤ n) :
    Calls Try.prog 15 #[.agg #[.slice sa n cap, .int .i64 sy]] w fun e w' => RcvK w w' e ms k sy := by
  have hL : ((tapeB ms).take k).length ≤ 400000 := by rw [List.length_take]; omega
  refine (recover_any ((tapeB ms).take k) sa n cap sy w hn hs (fun z hz => u8_tape hm hu z (List.mem_of_mem_take hz)) (by omega)).mono ?_
  intro e w' h
  have hk : tapeOk ((tapeB ms).take k).length sy = true := tapeOk_iff.2 ⟨hL, hy.1, by omega⟩
  rcases h.out with ⟨h0, -⟩ | ⟨-, v, ys, r, ra, rc, h1, h2, h3, h4, h5, -, h7⟩
  · rw [hk] at h0; cases h0
  · obtain ⟨ya, yc, rfl, -, -, -, hr⟩ := msRow_of_owns h3
    obtain ⟨a1, a2, a3⟩ := tape_scan ms ys r k hm (fun y hy => ⟨(h4 y hy).1, (h4 y hy).2.1⟩) h1 h2
    exact ⟨ya, yc, ys, ra, rc, h7, hr, fun y hy => ⟨(h4 y hy).1, (h4 y hy).2.1⟩, a1.good hu, h5, a1, a2, a3, h.below⟩
set_option maxRecDepth 100000 in
/-- A tape of nothing. -/
theorem recover_none (w : World) :
    Calls Try.prog 15 #[.agg #[.slice none 0 0, .int .i64 0]] w fun e w' => ∃ ya yc ra rc, e = .returned (.tuple #[.slice ya 0 yc, .agg #[.slice ra 0 rc, .int .i64 0], .int .i64 0]) ∧ Below w.heap.size w w' := by
  refine (recover_part [] 0 none 0 0 0 w rfl (nilSliceT w) (fun x hx => by cases hx) (fun x hx => by cases hx) (by simp [tapeB]) ⟨by omega, by omega⟩).mono ?_
  intro e w' h
  obtain ⟨ya, yc, ys, ra, rc, he, -, -, -, -, ha, -, -, hb⟩ := h.out
  have hz : ys = [] := List.eq_nil_of_length_eq_zero (by have := ha.le; simp at this; simp [this])
  subst hz
  exact ⟨ya, yc, ra, rc, he, hb⟩
set_option maxRecDepth 100000 in
/-- One that may not be. -/
theorem recover_bad (w : World) :
    Calls Try.prog 15 #[.agg #[.slice none 0 0, .int .i64 1]] w fun e w' => e = .returned (.tuple #[.slice none 0 0, .agg #[.slice none 0 0, .int .i64 0], .int .i64 12]) ∧ Below w.heap.size w w' := by
  refine (recover_any [] none 0 0 1 w rfl (nilSliceT w) (fun z hz => by cases hz) (by simp)).mono ?_
  intro e w' h
  rcases h.out with ⟨-, he⟩ | ⟨h0, -⟩
  · exact ⟨he, h.below⟩
  · exact absurd h0 (by decide)
set_option maxRecDepth 100000 in
theorem begins_agree (ys ms : List MV) (sa sc : Option Addr) (n m ca cc : Nat) (w : World) (hn : n = ys.length) (hm : m = ms.length) (h : Agree ys ms) (hl : ms.length ≤ 1000000) (ra : MsRow w sa ys) (rb : MsRow w sc ms) (hy : ∀ y ∈ ys, MAt w y ∧ IsRec y) (hx : ∀ x ∈ ms, MAt w x ∧ IsRec x) (hu : ∀ y ∈ ys, U8M y.bl y.pl y.cbl y.cpl y.ds) :
    Calls Try.prog 16 #[.slice sa n ca, .slice sc m cc] w fun e w' => e = .returned (.bool true) ∧ Below w.heap.size w w' :=
  begins_eq ys ms sa sc n m ca cc w hn hm h.le hl ra rb (fun i h1 h2 => ⟨⟨(hy _ (List.getElem_mem h1)).1, (hy _ (List.getElem_mem h1)).2.check, hu _ (List.getElem_mem h1)⟩, (hx _ (List.getElem_mem h2)).1, h.same i h1 h2⟩)
end Go.Proofs.Ythpocgndgphedaa

namespace Go.Proofs.Ythpocgndgphedaa
open Go.RowKit

set_option maxRecDepth 100000 in
theorem MsRow.take {w : World} {sa : Option Addr} {ms : List MV} (h : MsRow w sa ms) (k : Nat) : MsRow w sa (ms.take k) := by
  rcases h with h | ⟨sb, so, e, h⟩
  · exact .inl (by rw [h]; simp)
  · refine .inr ⟨sb, so, e, fun i hi => ?_⟩
    rw [List.getElem_take]
    exact h i (by rw [List.length_take] at hi; omega)
set_option maxRecDepth 100000 in
theorem tapeB_mono (ms : List MV) (i j : Nat) (h : i ≤ j) : (tapeB (ms.take i)).length ≤ (tapeB (ms.take j)).length := by
  have e : ms.take j = ms.take i ++ (ms.take j).drop i := by
    rw [List.drop_take]
    rw [← List.take_append_drop i (ms.take j), List.take_take, Nat.min_eq_left h, List.drop_take]
  rw [e]
  simp [tapeB]
set_option maxRecDepth 100000 in
set_option maxHeartbeats 4000000 in
theorem tapeKeeps_walk (sa : Option Addr) (cap : Nat) (rs : List Rt) (at_ keep : Int) (w : World) (hr : RawTs w sa rs) (_hc : rs.length ≤ cap) (ha1 : -9223372036854775808 ≤ at_) (ha2 : at_ ≤ 9223372036854775807) (hk1 : -9223372036854775808 ≤ keep) (hk2 : keep ≤ 9223372036854775807) :
    Calls Try.prog 3 #[.slice sa rs.length cap, .int .i64 at_, .int .i64 keep] w fun e w' => e = .returned (.bool true) ∧ Below w.heap.size w w' := by
  obtain ⟨pk0, pk1⟩ := pk_bounds keep 900 (by decide)
  go_enter Try.func3, Try.ntmps3
  go_wp2_with fail
  refine (records_any rs sa _ cap w rfl hr).mono ?_
  intro e w1 hrec
  obtain ⟨ma, mc, ms, he, hlen, hrow, hM, hb1, hU⟩ := recs_rowU hrec
  subst he
  dsimp only
  have hmc : ms.length ≤ mc := by
    obtain ⟨v9, ms9, he9, hl9, ho9, -, -, -⟩ := hrec.out
    obtain ⟨sa9, cap9, rfl, -, hc9, -, -⟩ := msRow_of_owns ho9
    simp only [Ending.returned.injEq, Value.slice.injEq] at he9
    omega
  clear hrec
  have hm24 : ms.length ≤ 24 := by rw [hlen]; omega
  have hL := tapeB_small (by omega) hM
  have HR : Hid (∀ W : World, Below w1.heap.size w1 W → MsRow W ma ms ∧ ∀ x ∈ ms, MAt W x ∧ IsRec x) := by
    show ∀ _, _
    intro W hW
    exact ⟨hrow.below hW, fun x hx => ⟨(hM x hx).1.below hW, (hM x hx).2⟩⟩
  have HU : Hid _ := hU
  clear hlen hU
  obtain ⟨pa0, pa1⟩ := pk_bounds at_ ((ms.length : Int) + 1) (by omega)
  have hwl : IntKind.i64.wrap ((ms.length : Int) + 1) = (ms.length : Int) + 1 := by rw [IntKind.wrap_i64]; omega
  go_upto_region 3 with (go_at_call 10; refine (picked_any _ _ _ (by omega) (by omega) (by omega) (by omega)).mono ?_; rintro e w9 ⟨rfl, rfl⟩)
  obtain ⟨K, hK⟩ : ∃ K : Nat, pk at_ ((ms.length : Int) + 1) = K := ⟨(pk at_ ((ms.length : Int) + 1)).toNat, by omega⟩
  rw [hK] at pa1 ⊢
  clear hK pa0 hwl
  have hKm : K ≤ ms.length := by omega
  have hKl : (ms.take K).length = K := by rw [List.length_take]; omega
  have hT := taped_any (ms.take K) ma K K w1 hKl.symm (by omega) (hrow.take K) (fun x hx => hM x (List.mem_of_mem_take hx))
  have HLk : Hid (∀ j, (tapeB (ms.take j)).length ≤ 32500) := by
    show ∀ _, _
    intro j
    exact tapeB_small (by rw [List.length_take]; omega) (fun x hx => hM x (List.mem_of_mem_take hx))
  clear hrow hM hKl
  have kI : (K : Int) ≤ mc := by omega
  have k0 : (0 : Int) ≤ K := by omega
  go_wp2_with fail
  refine hT.mono ?_
  rintro e w2 ⟨ta, tc, he, hS, -, hb2⟩
  subst he
  dsimp only
  clear hT
  have hB2 := hb1.trans (hb2.mono hb1.size)
  obtain ⟨D0, hD0⟩ : ∃ D, tapeB (ms.take K) = D := ⟨_, rfl⟩
  rw [hD0] at hS ⊢
  have HD0 : Hid (tapeB (ms.take K) = D0) := hD0
  have hL0 : D0.length ≤ 32500 := by rw [← hD0]; exact HLk.out K
  clear hD0
  have hA2 : Below w2.heap.size w2 (w2.alloc (.cells #[.slice ta D0.length tc, .int .i64 0] 28)) := (Below.refl _ _).alloc (Nat.le_refl _) _
  have qT := heap_alloc_new w2 (.cells #[.slice ta D0.length tc, .int .i64 0] 28)
  go_upto_region 4 with fail
  generalize hTB : w2.heap.size = TB at qT ⊢
  generalize w2.alloc (.cells #[.slice ta D0.length tc, .int .i64 0] 28) = W2 at hA2 qT ⊢
  have hTB1 : w1.heap.size ≤ TB := by rw [← hTB]; exact hb2.size
  have hTB0 : w.heap.size ≤ TB := by rw [← hTB]; exact hB2.size
  clear hTB
  have hB2A := hB2.trans (hA2.mono hB2.size)
  have h12 := hb2.trans (hA2.mono hb2.size)
  have hSA := hS.below hA2
  have c0 : W2.cell? ⟨TB, 0, none⟩ = some (.slice ta D0.length tc) := cells_at qT 0 _ rfl
  have c1 : W2.cell? ⟨TB, 1, none⟩ = some (.int .i64 0) := cells_at qT 1 _ rfl
  clear hS hA2 hb2 hB2
  go_wp2_with fail
  refine (sync_ok D0 ta _ tc 0 W2 rfl hSA (by omega) ⟨by omega, by omega⟩).mono ?_
  rintro e w3 ⟨ya, yc, he, hS3, hfy, hb3⟩
  subst he
  dsimp only
  clear c0 c1
  have hTW : TB < W2.heap.size := lt_of_heap qT
  have s3 := (hb3.block _ (lt_of_heap qT)).trans qT
  have d0 : w3.cell? ⟨TB, 0, none⟩ = some (.slice ta D0.length tc) := cells_at s3 0 _ rfl
  have d1 : w3.cell? ⟨TB, 1, none⟩ = some (.int .i64 0) := cells_at s3 1 _ rfl
  have f0 := frozen_at s3 0
  have f1 := frozen_at s3 1
  have hW3 := h12.trans (hb3.mono h12.size)
  have qT3 : ((w3.setCell ⟨TB, 0, none⟩ (.slice ya D0.length yc)).setCell ⟨TB, 1, none⟩ (.int .i64 (D0.length : Int))).heap[TB]? = some (.cells #[.slice ya D0.length yc, .int .i64 (D0.length : Int)] 28 (0, 0)) := by simpa using heap_setCell_same _ _ 1 _ _ (.int .i64 (D0.length : Int)) (heap_setCell_same _ _ 0 _ _ (.slice ya D0.length yc) s3)
  have hW3A := (hW3.setCell (p := ⟨TB, 0, none⟩) hTB1 (.slice ya D0.length yc)).setCell (p := ⟨TB, 1, none⟩) hTB1 (.int .i64 (D0.length : Int))
  have hS3A := (hS3.setCellT TB 0 (.slice ya D0.length yc) (fun sb so e => by have := (hfy sb so e).1; omega)).setCellT TB 1 (.int .i64 (D0.length : Int)) (fun sb so e => by have := (hfy sb so e).1; omega)
  go_upto_region 5 with fail
  generalize (w3.setCell ⟨TB, 0, none⟩ (.slice ya D0.length yc)).setCell ⟨TB, 1, none⟩ (.int .i64 (D0.length : Int)) = W3 at qT3 hW3A hS3A ⊢
  clear hW3 hS3 d0 d1 f0 f1 s3 hfy hb3 hSA qT hB2A h12 hTW
  have c0 : W3.cell? ⟨TB, 0, none⟩ = some (.slice ya D0.length yc) := cells_at qT3 0 _ rfl
  go_upto_region 7 with fail
  clear c0
  go_loopw [13] (fun j wr => ∃ (k : Nat) (ta : Option Addr) (tc : Nat) (D : List Int), K ≤ k ∧ k ≤ ms.length ∧ j = .int .i64 k ∧ Hid (D = tapeB (ms.take k)) ∧ D0.length ≤ D.length ∧ Below w1.heap.size w1 wr ∧ wr.heap[TB]? = some (.cells #[.slice ta D.length tc, .int .i64 (D0.length : Int)] 28 (0, 0)) ∧ SliceAt wr ta tc D) (fun j _ => ms.length - (intOf j).toNat)
  case atStart => exact ⟨K, ya, yc, D0, Nat.le_refl _, hKm, rfl, HD0.out.symm, Nat.le_refl _, hW3A, qT3, hS3A⟩
  case round =>
    clear qT3 hW3A hS3A
    obtain ⟨k, ta, tc, D, hKk, hk, rfl, hD, hDD, hb, r1, hS⟩ := hrel
    have hDl : D.length ≤ 32500 := by rw [hD.out]; exact HLk.out k
    by_cases hlt : k < ms.length
    · have hltI : (k : Int) < ms.length := by omega
      obtain ⟨hrw, hMw⟩ := HR.out wr hb
      obtain ⟨sb, so, rfl, hrow⟩ : ∃ sb so, ma = some ⟨sb, so, none⟩ ∧ ∀ (k : Nat) (hk : k < ms.length), wr.rangeAt sb (so + k * 19) (mcell (ms[k]).m) := by
        rcases hrw with h | h
        · rw [h] at hlt; simp at hlt
        · exact h
      have hrg := hrow k hlt
      have hxm := hMw (ms[k]) (List.getElem_mem hlt)
      have hst : Hid (D ++ (ms[k]).onTape = tapeB (ms.take (k + 1))) := by
        show _ = _
        rw [List.take_succ_eq_append_getElem hlt, tapeB_snoc, hD.out]
      have hlen := hxm.2.len hxm.1.dn
      have hol := onTape_len (ms[k])
      clear hrow hrw hMw
      generalize ms[k] = x at *
      have HAp : Hid (∀ W : World, Below wr.heap.size wr W → Calls Try.prog 13 #[.agg #[.slice ta D.length tc, .int .i64 (D0.length : Int)], .agg #[.int .i64 x.m.fr, .int .i64 x.m.tt, .int .i64 x.m.ki, .int .i64 x.m.bau, .int .i64 x.m.bnu, .slice x.m.bta x.m.btn x.m.btc, .int .i64 x.m.hau, .int .i64 x.m.hrd, .slice x.m.hba x.m.hbn x.m.hbc, .slice x.m.hpa x.m.hpn x.m.hpc, .int .i64 x.m.sau, .int .i64 x.m.srd, .slice x.m.sda x.m.sdn x.m.sdc, .int .i64 x.m.cau, .int .i64 x.m.crd, .slice x.m.cba x.m.cbn x.m.cbc, .slice x.m.cpa x.m.cpn x.m.cpc, .slice x.m.cva x.m.cvn x.m.cvc, .int .i64 x.m.ro]] W fun e w' => TapeIs W w' e (D ++ x.onTape) D0.length 0) := by
        show ∀ _, _
        intro W hW
        exact rec_append x D ta _ tc D0.length W rfl (hS.below hW) (hxm.1.below hW) hxm.2 ⟨by omega, by omega⟩ (by omega)
      have hXl : D0.length ≤ (D ++ x.onTape).length := by rw [List.length_append, hol]; omega
      clear hxm hlen hol
      generalize D ++ x.onTape = XS at *
      have hTw : TB < wr.heap.size := lt_of_heap r1
      go_upto_region 9 with fail
      go_cut [14, 15] from 44 to 61 (fun p q wx => ∃ b xe xce, p = .pointer (some ⟨b, 0, none⟩) ∧ q = .int .i64 0 ∧ wr.heap.size ≤ b ∧ Below wr.heap.size wr wx ∧ wx.heap[b]? = some (.cells #[.slice xe XS.length xce, .int .i64 (D0.length : Int)] 28 (0, 0)) ∧ wx.heap[TB]? = some (.cells #[.slice ta D.length tc, .int .i64 (D0.length : Int)] 28 (0, 0)) ∧ SliceAt wx xe xce XS ∧ (∀ sb so, xe = some ⟨sb, so, none⟩ → wr.heap.size ≤ sb))
      case first =>
        have hV0t : Below wr.heap.size wr wr.drew := (Below.refl _ _).drew
        have qT0t : wr.drew.heap[TB]? = some (.cells #[.slice ta D.length tc, .int .i64 (D0.length : Int)] 28 (0, 0)) := r1
        have qR0t := range_below hrg ((Below.refl wr.heap.size wr).drew)
        refine wp_region_held_drew (S := fun w' => w'.cell? ⟨TB, 0, none⟩ = some (.slice ta D.length tc) ∧ w'.cell? ⟨TB, 1, none⟩ = some (.int .i64 (D0.length : Int)) ∧ w'.rangeAt sb (so + k * 19) (mcell x.m)) (by kernel_rfl) ⟨cells_at qT0t 0 _ rfl, cells_at qT0t 1 _ rfl, qR0t⟩ (fun hHeld => ?_)
        generalize wr.drew = V0t at qT0t qR0t hV0t hHeld ⊢
        refine take_dst (i := 0) (d := 51) (v := .agg #[.slice ta D.length tc, .int .i64 (D0.length : Int)]) rfl rfl (by kernel_rfl) (by kernel_rfl) (by kernel_rfl) (fun _ _ _ h => h) (Or.inl ⟨by rfl, ?_⟩) hHeld ?_
        · (intro w0 hSw; (try dsimp only at hSw); go_simp)
        simp only [Act.put, List.setIfInBounds_toArray, List.set_cons_zero, List.set_cons_succ]
        refine take_dst (i := 1) (d := 52) (v := .slice (some ⟨sb, so, none⟩) ms.length mc) rfl rfl (by kernel_rfl) (by kernel_rfl) (by kernel_rfl) (fun _ _ _ h => h) (Or.inl ⟨by rfl, ?_⟩) hHeld ?_
        · (intro w0 hSw; (try dsimp only at hSw); go_simp)
        simp only [Act.put, List.setIfInBounds_toArray, List.set_cons_zero, List.set_cons_succ]
        refine take_dst (i := 2) (d := 53) (v := .int .i64 (k : Int)) rfl rfl (by kernel_rfl) (by kernel_rfl) (by kernel_rfl) (fun _ _ _ h => h) (Or.inl ⟨by rfl, ?_⟩) hHeld ?_
        · (intro w0 hSw; (try dsimp only at hSw); go_simp)
        simp only [Act.put, List.setIfInBounds_toArray, List.set_cons_zero, List.set_cons_succ]
        refine take_dst (i := 3) (d := 54) (v := .pointer (some ⟨sb, so + k * 19, none⟩)) rfl rfl (by kernel_rfl) (by kernel_rfl) (by kernel_rfl) (fun _ _ _ h => h) (Or.inl ⟨by rfl, ?_⟩) hHeld ?_
        · (intro w0 hSw; (try dsimp only at hSw); go_simp)
        simp only [Act.put, List.setIfInBounds_toArray, List.set_cons_zero, List.set_cons_succ]
        refine take_dst (i := 4) (d := 55) (v := .agg #[.int .i64 x.m.fr, .int .i64 x.m.tt, .int .i64 x.m.ki, .int .i64 x.m.bau, .int .i64 x.m.bnu, .slice x.m.bta x.m.btn x.m.btc, .int .i64 x.m.hau, .int .i64 x.m.hrd, .slice x.m.hba x.m.hbn x.m.hbc, .slice x.m.hpa x.m.hpn x.m.hpc, .int .i64 x.m.sau, .int .i64 x.m.srd, .slice x.m.sda x.m.sdn x.m.sdc, .int .i64 x.m.cau, .int .i64 x.m.crd, .slice x.m.cba x.m.cbn x.m.cbc, .slice x.m.cpa x.m.cpn x.m.cpc, .slice x.m.cva x.m.cvn x.m.cvc, .int .i64 x.m.ro]) rfl rfl (by kernel_rfl) (by kernel_rfl) (by kernel_rfl) (fun _ _ _ h => h) (yieldsIf_load_mid rfl 47 _ rfl sb (so + k * 19) rfl (mcell x.m) _ (fun w0 h => h.2.2) Try.underlying47 rfl sMsg') hHeld ?_
        simp only [Act.put, List.setIfInBounds_toArray, List.set_cons_zero, List.set_cons_succ]
        refine wpAnyH_ready (rs := [5, 9]) (by kernel_rfl) (by simp) (AllReadyH.cons rfl (fun K hK => ?_) (AllReadyH.cons rfl (fun K hK => ?_) AllReadyH.nil))
        · skip
          refine step_calls_dst rfl 56 rfl 13 [.tmp 51, .tmp 55] #[28, 47] rfl [.agg #[.slice ta D.length tc, .int .i64 (D0.length : Int)], .agg #[.int .i64 x.m.fr, .int .i64 x.m.tt, .int .i64 x.m.ki, .int .i64 x.m.bau, .int .i64 x.m.bnu, .slice x.m.bta x.m.btn x.m.btc, .int .i64 x.m.hau, .int .i64 x.m.hrd, .slice x.m.hba x.m.hbn x.m.hbc, .slice x.m.hpa x.m.hpn x.m.hpc, .int .i64 x.m.sau, .int .i64 x.m.srd, .slice x.m.sda x.m.sdn x.m.sdc, .int .i64 x.m.cau, .int .i64 x.m.crd, .slice x.m.cba x.m.cbn x.m.cbc, .slice x.m.cpa x.m.cpn x.m.cpc, .slice x.m.cva x.m.cvn x.m.cvc, .int .i64 x.m.ro]] rfl (enters_of Try.func13 (by kernel_rfl) rfl) (fun v w' => (∃ xe xce, v = .tuple #[.agg #[.slice xe XS.length xce, .int .i64 (D0.length : Int)], .int .i64 0] ∧ SliceAt w' xe xce XS ∧ (∀ sb so, xe = some ⟨sb, so, none⟩ → V0t.heap.size ≤ sb ∧ sb < w'.heap.size)) ∧ Below V0t.heap.size V0t w') ((HAp.out V0t hV0t).mono (fun e w2 h => by obtain ⟨xe, xce, he, h1, h2, h3⟩ := h; exact ⟨_, he, ⟨xe, xce, rfl, h1, h2⟩, h3⟩)) ?_
          rintro v Vt1 ⟨⟨xe, xce, rfl, hSc, hfc⟩, hb_t1⟩
          have hl_t1 := hV0t.size
          have qT_t2 := (hb_t1.block _ (lt_of_heap qT0t)).trans qT0t
          have qR_t2 := range_below qR0t hb_t1
          have hB_t2 := hV0t.trans (hb_t1.mono hV0t.size)
          refine hK.out _ _ ⟨cells_at qT_t2 0 _ rfl, cells_at qT_t2 1 _ rfl, qR_t2⟩ (fun hHeld => ?_)
          simp only [Act.put, List.setIfInBounds_toArray, List.set_cons_zero, List.set_cons_succ]
          refine take_dst (i := 6) (d := 50) (v := .tuple #[.agg #[.slice xe XS.length xce, .int .i64 (D0.length : Int)], .int .i64 0]) rfl rfl (by kernel_rfl) (by kernel_rfl) (by kernel_rfl) (fun _ _ _ h => h) (Or.inl ⟨by rfl, ?_⟩) hHeld ?_
          · (intro w0 hSw; (try dsimp only at hSw); go_simp)
          simp only [Act.put, List.setIfInBounds_toArray, List.set_cons_zero, List.set_cons_succ]
          refine take_dst (i := 7) (d := 57) (v := .agg #[.slice xe XS.length xce, .int .i64 (D0.length : Int)]) rfl rfl (by kernel_rfl) (by kernel_rfl) (by kernel_rfl) (fun _ _ _ h => h) (Or.inl ⟨by rfl, ?_⟩) hHeld ?_
          · (intro w0 hSw; (try dsimp only at hSw); go_simp)
          simp only [Act.put, List.setIfInBounds_toArray, List.set_cons_zero, List.set_cons_succ]
          refine take_dst (i := 8) (d := 58) (v := .int .i64 0) rfl rfl (by kernel_rfl) (by kernel_rfl) (by kernel_rfl) (fun _ _ _ h => h) (Or.inl ⟨by rfl, ?_⟩) hHeld ?_
          · (intro w0 hSw; (try dsimp only at hSw); go_simp)
          simp only [Act.put, List.setIfInBounds_toArray, List.set_cons_zero, List.set_cons_succ]
          have HFW : ∀ sb so, xe = some ⟨sb, so, none⟩ → wr.heap.size ≤ sb := fun sb so e => by have h8 := (hfc sb so e).1; have h9 := hV0t.size; omega
          refine wpAnyH_ready (rs := [9]) (by kernel_rfl) (by simp) (AllReadyH.cons rfl (fun K hK => ?_) AllReadyH.nil)
          refine step_run rfl 14 rfl (.pointer (some ⟨Vt1.heap.size, 0, none⟩)) (Vt1.alloc (.cells #[.slice none 0 0, .int .i64 0] 28)) (by go_simp) ?_
          have hA_t3 : Below Vt1.heap.size Vt1 (Vt1.alloc (.cells #[.slice none 0 0, .int .i64 0] 28)) := (Below.refl _ _).alloc (Nat.le_refl _) _
          have N_t3 := heap_alloc_new Vt1 (.cells #[.slice none 0 0, .int .i64 0] 28)
          have hnqT_t3 := Nat.ne_of_lt (lt_of_heap qT_t2)
          have hnqR_t3 := Nat.ne_of_lt (range_lt qR_t2)
          have hl_t3 : wr.heap.size ≤ Vt1.heap.size := hB_t2.size
          have hx_xe_t3 : ∀ sb so, xe = some ⟨sb, so, none⟩ → sb ≠ Vt1.heap.size := fun sb so e => Nat.ne_of_lt (hfc sb so e).2
          have qT_t4 := (hA_t3.block _ (lt_of_heap qT_t2)).trans qT_t2
          have hSc_t4 := hSc.below hA_t3
          have qR_t4 := range_below qR_t2 hA_t3
          have hB_t4 := hB_t2.trans (hA_t3.mono hB_t2.size)
          refine hK.out _ _ ⟨cells_at qT_t4 0 _ rfl, cells_at qT_t4 1 _ rfl, qR_t4⟩ (fun hHeld => ?_)
          simp only [Act.put, List.setIfInBounds_toArray, List.set_cons_zero, List.set_cons_succ]
          generalize Vt1.alloc (.cells #[.slice none 0 0, .int .i64 0] 28) = Vt3 at hA_t3 N_t3 qT_t4 hSc_t4 qR_t4 hB_t4 hHeld ⊢
          clear hA_t3
          generalize Vt1.heap.size = bt3 at N_t3 hnqT_t3 hnqR_t3 hl_t3 hx_xe_t3 ⊢
          have z0_t5 := cells_at N_t3 0 _ rfl
          have y0_t5 := frozen_at N_t3 0
          have z1_t5 := cells_at N_t3 1 _ rfl
          have y1_t5 := frozen_at N_t3 1
          refine wpAnyH_ready (rs := [10]) (by kernel_rfl) (by simp) (AllReadyH.cons rfl (fun K hK => ?_) AllReadyH.nil)
          have hxB_xe_t5 : ∀ sb so, xe = some ⟨sb, so, none⟩ → bt3 ≠ sb := fun sb so e => by have := hx_xe_t3 sb so e; omega
          refine step_store rfl rfl ((Vt3.setCell ⟨bt3, 0, none⟩ (.slice xe XS.length xce)).setCell ⟨bt3, 1, none⟩ (.int .i64 (D0.length : Int))) (by go_simp) ?_
          have N_t5 : ((Vt3.setCell ⟨bt3, 0, none⟩ (.slice xe XS.length xce)).setCell ⟨bt3, 1, none⟩ (.int .i64 (D0.length : Int))).heap[bt3]? = some (.cells #[.slice xe XS.length xce, .int .i64 (D0.length : Int)] 28 (0, 0)) := by simpa using (heap_setCell_same _ _ 1 _ _ (.int .i64 (D0.length : Int)) (heap_setCell_same _ _ 0 _ _ (.slice xe XS.length xce) N_t3))
          have qT_t5 := (heap_far (j := 1) (v := .int .i64 (D0.length : Int)) (heap_far (j := 0) (v := .slice xe XS.length xce) qT_t4 hnqT_t3) hnqT_t3)
          have qR_t5 := (range_far (j := 1) (v := .int .i64 (D0.length : Int)) (range_far (j := 0) (v := .slice xe XS.length xce) qR_t4 hnqR_t3) hnqR_t3)
          have hSc_t5 := ((hSc_t4.setCellT bt3 0 (.slice xe XS.length xce) hxB_xe_t5).setCellT bt3 1 (.int .i64 (D0.length : Int)) hxB_xe_t5)
          have hB_t5 := ((hB_t4.setCell (p := ⟨bt3, 0, none⟩) hl_t3 (.slice xe XS.length xce)).setCell (p := ⟨bt3, 1, none⟩) hl_t3 (.int .i64 (D0.length : Int)))
          refine hK.out _ _ ⟨cells_at qT_t5 0 _ rfl, cells_at qT_t5 1 _ rfl, qR_t5⟩ (fun hHeld => ?_)
          generalize ((Vt3.setCell ⟨bt3, 0, none⟩ (.slice xe XS.length xce)).setCell ⟨bt3, 1, none⟩ (.int .i64 (D0.length : Int))) = VEt5 at qT_t5 N_t5 hSc_t5 qR_t5 hB_t5 hHeld ⊢
          refine take_dst (i := 11) (d := 15) (v := .int .i64 0) rfl rfl (by kernel_rfl) (by kernel_rfl) (by kernel_rfl) (fun _ _ _ h => h) (Or.inl ⟨by rfl, ?_⟩) hHeld ?_
          · (intro w0 hSw; (try dsimp only at hSw); go_simp)
          simp only [Act.put, List.setIfInBounds_toArray, List.set_cons_zero, List.set_cons_succ]
          refine wpAnyH_done (by kernel_rfl) ?_ _
          go_wp2_with fail
          go_meet
          case rel => exact ⟨bt3, xe, xce, rfl, rfl, hl_t3, hB_t5, N_t5, qT_t5, hSc_t5, HFW⟩
        · skip
          refine step_run rfl 14 rfl (.pointer (some ⟨V0t.heap.size, 0, none⟩)) (V0t.alloc (.cells #[.slice none 0 0, .int .i64 0] 28)) (by go_simp) ?_
          have hA_t6 : Below V0t.heap.size V0t (V0t.alloc (.cells #[.slice none 0 0, .int .i64 0] 28)) := (Below.refl _ _).alloc (Nat.le_refl _) _
          have N_t6 := heap_alloc_new V0t (.cells #[.slice none 0 0, .int .i64 0] 28)
          have hnqT_t6 := Nat.ne_of_lt (lt_of_heap qT0t)
          have hnqR_t6 := Nat.ne_of_lt (range_lt qR0t)
          have hl_t6 : wr.heap.size ≤ V0t.heap.size := hV0t.size
          have qT_t7 := (hA_t6.block _ (lt_of_heap qT0t)).trans qT0t
          have qR_t7 := range_below qR0t hA_t6
          have hB_t7 := hV0t.trans (hA_t6.mono hV0t.size)
          refine hK.out _ _ ⟨cells_at qT_t7 0 _ rfl, cells_at qT_t7 1 _ rfl, qR_t7⟩ (fun hHeld => ?_)
          simp only [Act.put, List.setIfInBounds_toArray, List.set_cons_zero, List.set_cons_succ]
          generalize V0t.alloc (.cells #[.slice none 0 0, .int .i64 0] 28) = Vt6 at hA_t6 N_t6 qT_t7 qR_t7 hB_t7 hHeld ⊢
          clear hA_t6
          generalize V0t.heap.size = bt6 at N_t6 hnqT_t6 hnqR_t6 hl_t6 ⊢
          refine wpAnyH_ready (rs := [5]) (by kernel_rfl) (by simp) (AllReadyH.cons rfl (fun K hK => ?_) AllReadyH.nil)
          refine step_calls_dst rfl 56 rfl 13 [.tmp 51, .tmp 55] #[28, 47] rfl [.agg #[.slice ta D.length tc, .int .i64 (D0.length : Int)], .agg #[.int .i64 x.m.fr, .int .i64 x.m.tt, .int .i64 x.m.ki, .int .i64 x.m.bau, .int .i64 x.m.bnu, .slice x.m.bta x.m.btn x.m.btc, .int .i64 x.m.hau, .int .i64 x.m.hrd, .slice x.m.hba x.m.hbn x.m.hbc, .slice x.m.hpa x.m.hpn x.m.hpc, .int .i64 x.m.sau, .int .i64 x.m.srd, .slice x.m.sda x.m.sdn x.m.sdc, .int .i64 x.m.cau, .int .i64 x.m.crd, .slice x.m.cba x.m.cbn x.m.cbc, .slice x.m.cpa x.m.cpn x.m.cpc, .slice x.m.cva x.m.cvn x.m.cvc, .int .i64 x.m.ro]] rfl (enters_of Try.func13 (by kernel_rfl) rfl) (fun v w' => (∃ xe xce, v = .tuple #[.agg #[.slice xe XS.length xce, .int .i64 (D0.length : Int)], .int .i64 0] ∧ SliceAt w' xe xce XS ∧ (∀ sb so, xe = some ⟨sb, so, none⟩ → Vt6.heap.size ≤ sb ∧ sb < w'.heap.size)) ∧ Below Vt6.heap.size Vt6 w') ((HAp.out Vt6 hB_t7).mono (fun e w2 h => by obtain ⟨xe, xce, he, h1, h2, h3⟩ := h; exact ⟨_, he, ⟨xe, xce, rfl, h1, h2⟩, h3⟩)) ?_
          rintro v Vt8 ⟨⟨xe, xce, rfl, hSc, hfc⟩, hb_t8⟩
          have hl_t8 := hB_t7.size
          have hbe_t8 := lt_of_heap N_t6
          have qT_t9 := (hb_t8.block _ (lt_of_heap qT_t7)).trans qT_t7
          have N_t9 := (hb_t8.block _ (lt_of_heap N_t6)).trans N_t6
          have qR_t9 := range_below qR_t7 hb_t8
          have hB_t9 := hB_t7.trans (hb_t8.mono hB_t7.size)
          have hx_xe_t8 : ∀ sb so, xe = some ⟨sb, so, none⟩ → sb ≠ bt6 := fun sb so e => by have := (hfc sb so e).1; omega
          refine hK.out _ _ ⟨cells_at qT_t9 0 _ rfl, cells_at qT_t9 1 _ rfl, qR_t9⟩ (fun hHeld => ?_)
          simp only [Act.put, List.setIfInBounds_toArray, List.set_cons_zero, List.set_cons_succ]
          refine take_dst (i := 6) (d := 50) (v := .tuple #[.agg #[.slice xe XS.length xce, .int .i64 (D0.length : Int)], .int .i64 0]) rfl rfl (by kernel_rfl) (by kernel_rfl) (by kernel_rfl) (fun _ _ _ h => h) (Or.inl ⟨by rfl, ?_⟩) hHeld ?_
          · (intro w0 hSw; (try dsimp only at hSw); go_simp)
          simp only [Act.put, List.setIfInBounds_toArray, List.set_cons_zero, List.set_cons_succ]
          refine take_dst (i := 7) (d := 57) (v := .agg #[.slice xe XS.length xce, .int .i64 (D0.length : Int)]) rfl rfl (by kernel_rfl) (by kernel_rfl) (by kernel_rfl) (fun _ _ _ h => h) (Or.inl ⟨by rfl, ?_⟩) hHeld ?_
          · (intro w0 hSw; (try dsimp only at hSw); go_simp)
          simp only [Act.put, List.setIfInBounds_toArray, List.set_cons_zero, List.set_cons_succ]
          refine take_dst (i := 8) (d := 58) (v := .int .i64 0) rfl rfl (by kernel_rfl) (by kernel_rfl) (by kernel_rfl) (fun _ _ _ h => h) (Or.inl ⟨by rfl, ?_⟩) hHeld ?_
          · (intro w0 hSw; (try dsimp only at hSw); go_simp)
          simp only [Act.put, List.setIfInBounds_toArray, List.set_cons_zero, List.set_cons_succ]
          have HFW : ∀ sb so, xe = some ⟨sb, so, none⟩ → wr.heap.size ≤ sb := fun sb so e => by have h8 := (hfc sb so e).1; have h9 := hB_t7.size; omega
          have z0_t10 := cells_at N_t9 0 _ rfl
          have y0_t10 := frozen_at N_t9 0
          have z1_t10 := cells_at N_t9 1 _ rfl
          have y1_t10 := frozen_at N_t9 1
          refine wpAnyH_ready (rs := [10]) (by kernel_rfl) (by simp) (AllReadyH.cons rfl (fun K hK => ?_) AllReadyH.nil)
          have hxB_xe_t10 : ∀ sb so, xe = some ⟨sb, so, none⟩ → bt6 ≠ sb := fun sb so e => by have := hx_xe_t8 sb so e; omega
          refine step_store rfl rfl ((Vt8.setCell ⟨bt6, 0, none⟩ (.slice xe XS.length xce)).setCell ⟨bt6, 1, none⟩ (.int .i64 (D0.length : Int))) (by go_simp) ?_
          have N_t10 : ((Vt8.setCell ⟨bt6, 0, none⟩ (.slice xe XS.length xce)).setCell ⟨bt6, 1, none⟩ (.int .i64 (D0.length : Int))).heap[bt6]? = some (.cells #[.slice xe XS.length xce, .int .i64 (D0.length : Int)] 28 (0, 0)) := by simpa using (heap_setCell_same _ _ 1 _ _ (.int .i64 (D0.length : Int)) (heap_setCell_same _ _ 0 _ _ (.slice xe XS.length xce) N_t9))
          have qT_t10 := (heap_far (j := 1) (v := .int .i64 (D0.length : Int)) (heap_far (j := 0) (v := .slice xe XS.length xce) qT_t9 hnqT_t6) hnqT_t6)
          have qR_t10 := (range_far (j := 1) (v := .int .i64 (D0.length : Int)) (range_far (j := 0) (v := .slice xe XS.length xce) qR_t9 hnqR_t6) hnqR_t6)
          have hSc_t10 := ((hSc.setCellT bt6 0 (.slice xe XS.length xce) hxB_xe_t10).setCellT bt6 1 (.int .i64 (D0.length : Int)) hxB_xe_t10)
          have hB_t10 := ((hB_t9.setCell (p := ⟨bt6, 0, none⟩) hl_t6 (.slice xe XS.length xce)).setCell (p := ⟨bt6, 1, none⟩) hl_t6 (.int .i64 (D0.length : Int)))
          refine hK.out _ _ ⟨cells_at qT_t10 0 _ rfl, cells_at qT_t10 1 _ rfl, qR_t10⟩ (fun hHeld => ?_)
          generalize ((Vt8.setCell ⟨bt6, 0, none⟩ (.slice xe XS.length xce)).setCell ⟨bt6, 1, none⟩ (.int .i64 (D0.length : Int))) = VEt10 at qT_t10 N_t10 hSc_t10 qR_t10 hB_t10 hHeld ⊢
          refine take_dst (i := 11) (d := 15) (v := .int .i64 0) rfl rfl (by kernel_rfl) (by kernel_rfl) (by kernel_rfl) (fun _ _ _ h => h) (Or.inl ⟨by rfl, ?_⟩) hHeld ?_
          · (intro w0 hSw; (try dsimp only at hSw); go_simp)
          simp only [Act.put, List.setIfInBounds_toArray, List.set_cons_zero, List.set_cons_succ]
          refine wpAnyH_done (by kernel_rfl) ?_ _
          go_wp2_with fail
          go_meet
          case rel => exact ⟨bt6, xe, xce, rfl, rfl, hl_t6, hB_t10, N_t10, qT_t10, hSc_t10, HFW⟩
      case rest =>
        obtain ⟨b, xe, xce, rfl, rfl, hbb, hbc, u2, uT, hx2, hfx⟩ := hcut
        have hBc := hb.trans (hbc.mono hb.size)
        have b0 : wc.cell? ⟨b, 0, none⟩ = some (.slice xe XS.length xce) := cells_at u2 0 _ rfl
        have b1 : wc.cell? ⟨b, 1, none⟩ = some (.int .i64 (D0.length : Int)) := cells_at u2 1 _ rfl
        have c0 : wc.cell? ⟨TB, 0, none⟩ = some (.slice ta D.length tc) := cells_at uT 0 _ rfl
        have c1 : wc.cell? ⟨TB, 1, none⟩ = some (.int .i64 (D0.length : Int)) := cells_at uT 1 _ rfl
        have f0 := frozen_at uT 0
        have f1 := frozen_at uT 1
        clear HAp
        go_wp2_with fail
        go_roundw
        case rel =>
          have e1 : ∀ sb so, xe = some ⟨sb, so, none⟩ → TB ≠ sb := fun sb so e => by have := hfx sb so e; omega
          exact ⟨k + 1, xe, xce, XS, by omega, by omega, by go_num, hst, hXl, (hBc.setCell (by simp; omega) _).setCell (by simp; omega) _, by simpa using heap_setCell_same _ _ 1 _ _ (.int .i64 (D0.length : Int)) (heap_setCell_same _ _ 0 _ _ (.slice xe XS.length xce) uT), (hx2.setCellT _ _ _ e1).setCellT _ _ _ e1⟩
        case measure => simp [intOf]; omega
    · obtain rfl : k = ms.length := by omega
      have hltI : ¬ (ms.length : Int) < ms.length := by omega
      rw [List.take_of_length_le (Nat.le_refl _)] at hD
      go_upto_region 13 with fail
      have HPk : Hid (∀ W : World, Calls Try.prog 10 #[.int .i64 keep, .int .i64 900] W fun e w' => ∃ v, e = .returned v ∧ (v = .int .i64 (pk keep 900) ∧ W = w')) := by
        show ∀ _, _
        intro W
        exact (picked_any keep 900 W hk1 hk2 (by decide) (by decide)).mono (fun e w' h => ⟨_, h.1, rfl, h.2⟩)
      generalize pk keep 900 = KP at *
      obtain ⟨N, hN⟩ : ∃ N, leftN D.length D0.length KP = N := ⟨_, rfl⟩
      have hNl : N ≤ D.length := by rw [← hN]; exact leftN_le (by omega)
      have hN0 : D0.length ≤ N := by rw [← hN, leftN]; split <;> omega
      have hNt : (D.take N).length = N := by rw [List.length_take]; omega
      have hTW : TB < wr.heap.size := lt_of_heap r1
      have HC : Hid (Calls Try.prog 14 #[.agg #[.slice ta D.length tc, .int .i64 (D0.length : Int)], .int .i64 KP] wr.drew fun e w' => ∃ v, e = .returned v ∧ ((∃ ca cc, v = .tuple #[.agg #[.slice ca N cc, .int .i64 (N : Int)], .int .i64 0] ∧ SliceAt w' ca cc (D.take N) ∧ (∀ sb so, ca = some ⟨sb, so, none⟩ → wr.heap.size ≤ sb ∧ sb < w'.heap.size)) ∧ Below wr.heap.size wr w')) := by
        show Calls _ _ _ _ _
        have h := crash_ok D ta _ tc D0.length KP wr.drew rfl (hS.below (Below.refl _ _).drew) (by omega) ⟨by omega, by omega⟩ ⟨by omega, by omega⟩
        rw [hN] at h
        refine h.mono (fun e w' h => ?_)
        obtain ⟨ca, cc, he, h1, h2, h3⟩ := h
        rw [hNt] at he
        exact ⟨_, he, ⟨ca, cc, rfl, h1, h2⟩, (Below.refl wr.heap.size wr).drew.trans h3⟩
      have HNt : Hid _ := hNt
      clear hN hNt
      have HentP : Hid _ := enters_of Try.func10 (by kernel_rfl) rfl
      have HentC : Hid _ := enters_of Try.func14 (by kernel_rfl) rfl
      have c0 : wr.cell? ⟨TB, 0, none⟩ = some (.slice ta D.length tc) := cells_at r1 0 _ rfl
      have c1 : wr.cell? ⟨TB, 1, none⟩ = some (.int .i64 (D0.length : Int)) := cells_at r1 1 _ rfl
      go_cut [16] (fun q wx => ∃ (ca : Option Addr) (cc : Nat), q = .int .i64 0 ∧ Below w1.heap.size w1 wx ∧ wx.heap[TB]? = some (.cells #[.slice ca N cc, .int .i64 (N : Int)] 28 (0, 0)) ∧ SliceAt wx ca cc (D.take N))
      case first =>
        go_region_law (first
          | (refine step_calls rfl 10 _ _ rfl [.int .i64 keep, .int .i64 900] rfl HentP.out (fun u w9 => u = .int .i64 KP ∧ wr.drew = w9) (HPk.out _) ?_; rintro _ _ ⟨rfl, rfl⟩)
          | (refine step_calls rfl 14 _ _ rfl [.agg #[.slice ta D.length tc, .int .i64 (D0.length : Int)], .int .i64 KP] rfl HentC.out (fun u w9 => (∃ ca cc, u = .tuple #[.agg #[.slice ca N cc, .int .i64 (N : Int)], .int .i64 0] ∧ SliceAt w9 ca cc (D.take N) ∧ (∀ sb so, ca = some ⟨sb, so, none⟩ → wr.heap.size ≤ sb ∧ sb < w9.heap.size)) ∧ Below wr.heap.size wr w9) HC.out ?_; rintro _ w3 ⟨⟨ca, cc, rfl, hSc, hfc⟩, hb3⟩; have s3 := (hb3.block _ (lt_of_heap r1)).trans r1; have d0 : w3.cell? ⟨TB, 0, none⟩ = some (.slice ta D.length tc) := cells_at s3 0 _ rfl; have d1 : w3.cell? ⟨TB, 1, none⟩ = some (.int .i64 (D0.length : Int)) := cells_at s3 1 _ rfl; have f0 := frozen_at s3 0; have f1 := frozen_at s3 1))
        all_goals
          go_wp2_with fail
          go_meet
          case rel =>
            refine ⟨ca, cc, rfl, ((hb.trans (hb3.mono hb.size)).setCell (p := ⟨TB, 0, none⟩) hTB1 _).setCell (p := ⟨TB, 1, none⟩) hTB1 _, by simpa using heap_setCell_same _ _ 1 _ _ (.int .i64 (N : Int)) (heap_setCell_same _ _ 0 _ _ (.slice ca N cc) s3), (hSc.setCellT TB 0 _ (fun sb so e => by have := (hfc sb so e).1; omega)).setCellT TB 1 _ (fun sb so e => by have := (hfc sb so e).1; omega)⟩
      case rest =>
        obtain ⟨ca, cc, rfl, hW3, qT3, hS3⟩ := hcut
        generalize wc = W3 at hW3 qT3 hS3 ⊢
        apply_assumption
        have hB3 := hb1.trans (hW3.mono hb1.size)
        clear HC HPk HentP HentC c0 c1 r1 hTW hS hb
        have c0 : W3.cell? ⟨TB, 0, none⟩ = some (.slice ca N cc) := cells_at qT3 0 _ rfl
        have c1 : W3.cell? ⟨TB, 1, none⟩ = some (.int .i64 (N : Int)) := cells_at qT3 1 _ rfl
        have hR1 := recover_part ms N ca N cc N W3 (by rw [← hD.out, HNt.out]) (by rw [← hD.out]; exact hS3) (HR.out W3 hW3).2 HU.out (by rw [← hD.out]; omega) ⟨by omega, by omega⟩
        go_wp2_with fail
        refine hR1.mono ?_
        intro e w5 h5
        obtain ⟨xa, xc, ys, va, vc, he, hyr, hym, hyu, hyS, hya, hyl, hyk, hb5⟩ := h5.out
        subst he
        dsimp only
        clear hR1 h5 c0 c1
        have hyK : K ≤ ys.length := hyl K hKk (by rw [HD0.out]; omega)
        have hyD : D0.length ≤ (tapeB ys).length := by rw [hya.tape, ← HD0.out]; exact tapeB_mono ms K _ hyK
        have hpos : 0 < K → 0 < D0.length := by
          intro h
          have h1 := tapeB_two (ms.take K) (fun y _ => onTape_two y)
          rw [HD0.out, List.length_take] at h1
          omega
        have hB5 := hB3.trans (hb5.mono hB3.size)
        have hW5 := hW3.trans (hb5.mono hW3.size)
        have hBg : ∀ W : World, Below w5.heap.size w5 W → Calls Try.prog 16 #[.slice xa ys.length xc, .slice ma ms.length mc] W fun e w' => e = .returned (.bool true) ∧ Below W.heap.size W w' := by
          intro W hW
          obtain ⟨hr9, hm9⟩ := HR.out W (hW5.trans (hW.mono hW5.size))
          exact begins_agree ys ms xa ma _ _ xc mc W rfl rfl hya (by omega) (hyr.below hW) hr9 (fun y hy => ⟨(hym y hy).1.below hW, (hym y hy).2⟩) hm9 hyu
        have HBg : Hid _ := hBg
        clear hBg hyr hym hyu hya hyl hyS
        generalize (tapeB ys).length = YL at *
        have hmn : min (N : Int) (YL : Int) = YL := by omega
        rw [hmn]
        clear hmn
        have hA5 : Below w5.heap.size w5 (w5.alloc (.cells #[.slice va YL vc, .int .i64 (YL : Int)] 28)) := (Below.refl _ _).alloc (Nat.le_refl _) _
        have qU := heap_alloc_new w5 (.cells #[.slice va YL vc, .int .i64 (YL : Int)] 28)
        go_upto_region 15 with fail
        generalize hUB : w5.heap.size = UB at qU ⊢
        clear hUB
        generalize w5.alloc (.cells #[.slice va YL vc, .int .i64 (YL : Int)] 28) = W5 at hA5 qU ⊢
        have hB5A := hB5.trans (hA5.mono hB5.size)
        have hBg := HBg.out W5 hA5
        have hyKI : (K : Int) ≤ ys.length := by omega
        have hyDI : (D0.length : Int) ≤ YL := by omega
        have HH : Hid (0 < K → 0 < D0.length) := hpos
        clear hpos HBg HD0 hD HNt HR HU HLk hS3 qT3
        go_wp2_with fail
        refine hBg.mono ?_
        rintro e w6 ⟨he, hb6⟩
        subst he
        dsimp only
        clear hBg
        have hB6 := hB5A.trans (hb6.mono hB5A.size)
        have u6 := (hb6.block _ (lt_of_heap qU)).trans qU
        have x0 := cells_at u6 0 _ rfl
        have x1 := cells_at u6 1 _ rfl
        by_cases hK0 : K = 0
        · subst hK0
          go_wp2_with fail
          go_ret
          exact ⟨rfl, hB6⟩
        · have hKb : ((K : Int) == 0) = false := by rw [beq_eq_false_iff_ne]; omega
          have hDp : (0 : Int) < D0.length := by have := HH.out (by omega); omega
          go_wp2_with fail
          go_ret
          refine ⟨?_, hB6⟩
          have hDq : 0 < D0.length := by omega
          simp [hDq]
end Go.Proofs.Ythpocgndgphedaa

namespace Go.Proofs.Ythpocgndgphedaa.tapeKeeps
open Go.ChangeShapes Go.WideShapes Go.ChangeAt Go.RowKit

set_option maxRecDepth 100000 in
/-- What the walk gives, for every argument and every world. -/
theorem contract (H : Type) (enc : TypeId × Value → H) (W : World) (base : Nat) (args : Array Value) (ds gs : List (DataW H)) (before : List MemPlace)
    (hval : ∀ (j : Nat) t v, Try.f3.params[j]? = some t → args[j]? = some v → Value.okWide Try.prog W .any base t v)
    (hW : DataW.Whole enc Try.prog Try.f3.params.toList Rows.tapeKeepsSpec.vars false W args.toList ds gs before) (hsz : (DataW.weightsEach Try.prog (Try.f3.params.toList ++ (OpenSpec.ofChange Rows.tapeKeepsSpec).bare.plain.varTypes Try.prog) (ds ++ gs)).all (· ≤ reachBytes) = true) (_hL : laidMetH Try.prog Rows.tapeKeepsRow.laid W) :
    Calls Try.prog 3 args W fun e W' => ∃ v, e = .returned v ∧ Rows.tapeKeepsSpec.post enc Try.prog Try.f3 false true false false W args v W' := by
  have hW' := hW
  obtain ⟨p, q, hA0, hV, rfl, hfz, hnd⟩ := hW
  have hA : DataW.TrodAll enc Try.prog W 0 (fun _ => true) true Try.f3.params.toList args.toList ds p := hA0
  rw [Try.params3] at hA hval hsz
  obtain ⟨v0, vs0, d0, ds0, p0, q0, hargs, rfl, rfl, h0, r0⟩ := trodAll_cons hA
  obtain ⟨v1, vs1, d1, ds1, p1, q1, rfl, rfl, rfl, h1, r1⟩ := trodAll_cons r0
  obtain ⟨v2, vs2, d2, ds2, p2, q2, rfl, rfl, rfl, h2, r2⟩ := trodAll_cons r1
  obtain ⟨rfl, rfl, rfl⟩ := trodAll_nil r2
  obtain rfl : args = #[v0, v1, v2] := by cases args; simp_all
  obtain ⟨rfl, rfl⟩ := trodVars_none hV
  have k0 := h0
  have lt0 : ∀ x ∈ p0, x.block < W.heap.size := by obtain ⟨m, hm⟩ := k0; exact DataW.trod_lt m _ _ _ hm
  obtain ⟨sa0, cap0, rs0, rfl, q0_0, q0_1⟩ := open_rawts (hval 0 22 v0 rfl rfl) h0 (fit_each hsz (j := 0) rfl rfl)
  obtain ⟨a1, rfl, rfl, rfl, w1⟩ := open_int Try.underlying3 (hval 1 3 v1 rfl rfl) h1
  obtain ⟨lo1, hi1⟩ := bounds_i64 w1
  obtain ⟨a2, rfl, rfl, rfl, w2⟩ := open_int Try.underlying3 (hval 2 3 v2 rfl rfl) h2
  obtain ⟨lo2, hi2⟩ := bounds_i64 w2
  clear hA0
  refine (tapeKeeps_walk sa0 cap0 rs0 a1 a2 W q0_0 q0_1 lo1 hi1 lo2 hi2).mono fun e W' ⟨he, bel⟩ => ?_
  subst he
  exact ⟨_, rfl, _, _, _, [], _, [], hW', trodAll_mk1 (shut_bool Try.underlying4 _), (trodAll_cons_mk (Below.trod laidOut (by kernel_rfl) (of_decide_eq_true (by kernel_rfl)) k0 bel lt0) (trodAll_cons_mk (shut_int Try.underlying3 w1) (trodAll_cons_mk (shut_int Try.underlying3 w2) trodAll_mk0))), rfl, bel.frame _, fun h => by cases h⟩

set_option maxRecDepth 100000 in
theorem laid_met (os : Os) : laidMet Try.prog Rows.tapeKeepsRow.laid ((World.holding Try.prog os ⟨#[], #[], []⟩).forCall (fun _ _ => 0) ⟨#[], #[.slice none 0 0, .int .i64 0, .int .i64 0], []⟩).memory :=
  laidMet_of_run' 8 (by kernel_rfl) (by kernel_rfl)
set_option maxRecDepth 100000 in
theorem reads (os : Os) {H : Type} (enc : TypeId × Value → H) : ∃ places, DataW.whole enc Try.prog ((World.holding Try.prog os ⟨#[], #[], []⟩).forCall (fun _ _ => 0) ⟨#[], #[.slice none 0 0, .int .i64 0, .int .i64 0], []⟩).memory Try.f3.params.toList Rows.tapeKeepsSpec.vars false (#[.slice none 0 0, .int .i64 0, .int .i64 0] : Array Value).toList 8 = some ([.nil, .lit (.int .i64 0), .lit (.int .i64 0)], [], places) :=
  ⟨[], by kernel_rfl⟩

set_option maxRecDepth 100000 in
theorem lifted (os : Os) (started : os.Started) (H : Type) (enc : TypeId × Value → H) (F : Stop.Interp) :
    ReturnsInHanded {} Try.checked os 3 .any ((OpenSpec.ofChange Rows.tapeKeepsSpec).preRow enc Try.prog Try.f3 Rows.tapeKeepsRow.domain false Rows.tapeKeepsRow.laid) (((OpenSpec.ofChange Rows.tapeKeepsSpec).at F).post enc Try.prog Try.f3 false true false false) := by
  obtain ⟨places, hx⟩ := reads os enc
  refine returnsInHanded_of_row (C := Try.checked) (s := OpenSpec.ofChange Rows.tapeKeepsSpec) own started (by kernel_rfl) Try.func3
    (witness_row_at (enc := enc) (C := Try.checked) false (World.holding Try.prog os ⟨#[], #[], []⟩) #[.slice none 0 0, .int .i64 0, .int .i64 0] rfl (by kernel_rfl) (by kernel_rfl) (by kernel_rfl)
      (OpenSpec.preRow_of_cond 8 hx (by kernel_rfl) (fun k hk => by cases hk) (by kernel_rfl) (laid_met os))) ?_
  intro W base args ds gs before hval hW _ _ hsz hL _ _
  exact contract H enc W base args ds gs before hval hW hsz hL

set_option maxRecDepth 100000 in
theorem said : Rows.TapeKeepsSaid :=
  OpenClaim.holds_of_cond 3 Try.f3 rfl rfl rfl rfl rfl rfl rfl ⟨rfl, rfl, rfl, rfl, rfl⟩ rfl rfl rfl rfl rfl (by kernel_rfl) Try.func3 (by kernel_rfl)
    (of_decide_eq_true (by kernel_rfl)) (by unfold Func.isWrapper; first | (rw [if_pos (by decide +kernel)]; kernel_rfl) | (rw [if_neg (by decide +kernel)]; exact ⟨rfl, rfl⟩))
    (fun os started H enc _ F => by rw [OpenClaim.pre_eq_preRow]; exact lifted os started H enc F)

end Go.Proofs.Ythpocgndgphedaa.tapeKeeps
namespace Go.Proofs.Ythpocgndgphedaa
set_option maxRecDepth 100000 in
theorem tapeKeeps_holds : Rows.TapeKeepsSaid := tapeKeeps.said
#print axioms tapeKeeps_holds
end Go.Proofs.Ythpocgndgphedaa
