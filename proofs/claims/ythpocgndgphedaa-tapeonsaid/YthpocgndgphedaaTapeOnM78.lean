/- The law sheaveskeep.TapeOn answers true for every argument, and each argument reads behind the call as it read before: no condition but the form's own reach. -/
import Derived.Test.YthpocgndgphedaaTapeOnM60
import Derived.Test.YthpocgndgphedaaTapeOnM72
import Derived.Test.YthpocgndgphedaaTapeOnM30
import Derived.Test.YthpocgndgphedaaPicked
import Derived.Test.YthpocgndgphedaaTapeOnM66
import Derived.Test.YthpocgndgphedaaTapeOnM54
import Derived.Deep.MidRow
import Derived.Deep.CutRange
import Derived.Deep.DeepCutAuto
import Derived.Test.YthpocgndgphedaaRows
import Derived.Test.YthpocgndgphedaaOpenB
import Derived.WalkKit
import Derived.ProofKit
import Derived.OpenShut
import Derived.Deep.DeepHandedRow
import Derived.SevenTiedAt
import Derived.Below
namespace Go.Proofs.Ythpocgndgphedaa
open Go.RowKit

set_option maxRecDepth 100000 in
theorem recs_rowU {w w' : World} {e : Ending} {N : Nat} (h : RecsIs w w' e N) : ∃ (sa : Option Addr) (cap : Nat) (ms : List MV), e = .returned (.slice sa ms.length cap) ∧ ms.length = N ∧ MsRow w' sa ms ∧ (∀ x ∈ ms, MAt w' x ∧ IsRec x) ∧ Below w.heap.size w w' ∧ ∀ x ∈ ms, U8M x.bl x.pl x.cbl x.cpl x.ds := by
  obtain ⟨v, ms, he, hl, ho, ha, hb, hu⟩ := h.out
  obtain ⟨sa, cap, rfl, -, -, -, hr⟩ := msRow_of_owns ho
  exact ⟨sa, cap, ms, he, hl, hr, fun x hx => ⟨(ha x hx).1, (ha x hx).2.1⟩, hb, hu⟩
set_option maxRecDepth 100000 in
theorem recs_row {w w' : World} {e : Ending} {N : Nat} (h : RecsIs w w' e N) : ∃ (sa : Option Addr) (cap : Nat) (ms : List MV), e = .returned (.slice sa ms.length cap) ∧ ms.length = N ∧ MsRow w' sa ms ∧ (∀ x ∈ ms, MAt w' x ∧ IsRec x) ∧ Below w.heap.size w w' := by
  obtain ⟨sa, cap, ms, h1, h2, h3, h4, h5, -⟩ := recs_rowU h
  exact ⟨sa, cap, ms, h1, h2, h3, h4, h5⟩
set_option maxRecDepth 100000 in
theorem encode_rec (x : MV) (w : World) (hM : MAt w x) (hI : IsRec x) :
    Calls Try.prog 31 #[.agg #[.int .i64 x.m.fr, .int .i64 x.m.tt, .int .i64 x.m.ki, .int .i64 x.m.bau, .int .i64 x.m.bnu, .slice x.m.bta x.m.btn x.m.btc, .int .i64 x.m.hau, .int .i64 x.m.hrd, .slice x.m.hba x.m.hbn x.m.hbc, .slice x.m.hpa x.m.hpn x.m.hpc, .int .i64 x.m.sau, .int .i64 x.m.srd, .slice x.m.sda x.m.sdn x.m.sdc, .int .i64 x.m.cau, .int .i64 x.m.crd, .slice x.m.cba x.m.cbn x.m.cbc, .slice x.m.cpa x.m.cpn x.m.cpc, .slice x.m.cva x.m.cvn x.m.cvc, .int .i64 x.m.ro]] w fun e w' => ∃ v, e = .returned (.tuple #[v, .int .i64 0]) ∧ w'.ownsRow w.heap.size 5 1 v x.bytes.length (ub x.bytes) ∧ Below w.heap.size w w' := by
  have h := encode_any x.m x.ss x.bl x.pl x.cbl x.cpl x.ds x.vl w hM.at' hM.dig hM.dn
  have h0 : checkF x.m (carriedF x.m x.ss x.bl x.pl x.cbl x.cpl x.vl) = 0 := hI.check
  rw [h0] at h
  exact h
set_option maxRecDepth 100000 in
theorem sync_ok (bs : List Int) (sa : Option Addr) (n cap : Nat) (sy : Int) (w : World) (hn : n = bs.length) (hs : SliceAt w sa cap bs) (hl : bs.length ≤ 400000) (hy : 0 ≤ sy ∧ sy ≤ bs.length) :
    Calls Try.prog 12 #[.agg #[.slice sa n cap, .int .i64 sy]] w fun e w' => TapeIs w w' e bs bs.length 0 := by
  have h := tapeSync_any bs sa n cap sy w hn hs (by omega)
  have hk : tapeOk bs.length sy = true := tapeOk_iff.2 ⟨hl, hy.1, hy.2⟩
  rw [syncN, if_pos hk, syncF, if_pos hk, List.take_of_length_le (Nat.le_refl _)] at h
  exact h
set_option maxRecDepth 100000 in
theorem crash_ok (bs : List Int) (sa : Option Addr) (n cap : Nat) (sy keep : Int) (w : World) (hn : n = bs.length) (hs : SliceAt w sa cap bs) (hl : bs.length ≤ 400000) (hy : 0 ≤ sy ∧ sy ≤ bs.length) (hk : 0 ≤ keep ∧ keep ≤ 1000000) :
    Calls Try.prog 14 #[.agg #[.slice sa n cap, .int .i64 sy], .int .i64 keep] w fun e w' => TapeIs w w' e (bs.take (leftN bs.length sy keep)) (leftN bs.length sy keep) 0 := by
  have h := tapeCrash_any bs sa n cap sy keep w hn hs (by omega) (by omega) (by omega)
  have ht : tapeOk bs.length sy = true := tapeOk_iff.2 ⟨hl, hy.1, hy.2⟩
  rw [crashN, if_pos ⟨ht, hk.1⟩, crashF, if_pos ht, if_neg (by omega)] at h
  exact h
set_option maxRecDepth 100000 in
theorem crash_neg (bs : List Int) (sa : Option Addr) (n cap : Nat) (sy keep : Int) (w : World) (hn : n = bs.length) (hs : SliceAt w sa cap bs) (hl : bs.length ≤ 400000) (hy : 0 ≤ sy ∧ sy ≤ bs.length) (hk : keep < 0 ∧ -1000000 ≤ keep) :
    Calls Try.prog 14 #[.agg #[.slice sa n cap, .int .i64 sy], .int .i64 keep] w fun e w' => TapeIs w w' e [] 0 2 := by
  have h := tapeCrash_any bs sa n cap sy keep w hn hs (by omega) (by omega) (by omega)
  have ht : tapeOk bs.length sy = true := tapeOk_iff.2 ⟨hl, hy.1, hy.2⟩
  rw [crashN, if_neg (by omega), crashF, if_pos ht, if_pos hk.1] at h
  exact h
set_option maxRecDepth 100000 in
theorem tapeB_small {ms : List MV} {w : World} (h : ms.length ≤ 100) (hM : ∀ x ∈ ms, MAt w x ∧ IsRec x) : (tapeB ms).length ≤ 32500 := by
  have := tapeB_le ms (fun x hx => ((hM x hx).2.len (hM x hx).1.dn).2)
  omega
/-- A message that stands for none. -/
def noX : MV := ⟨⟨0, 0, 0, 0, 0, 0, 0, 0, 0, 0, 0, 0, none, none, none, none, none, none, none, 0, 0, 0, 0, 0, 0, 0, 0, 0, 0, 0, 0, 0, 0⟩, [], [], [], [], [], [], []⟩
end Go.Proofs.Ythpocgndgphedaa

namespace Go.Proofs.Ythpocgndgphedaa
open Go.RowKit

/-- What is recovered of the first k bytes of records. -/
structure RcvK (w w' : World) (e : Ending) (ms : List MV) (k : Nat) (sy : Int) : Prop where
  out : ∃ (ya : Option Addr) (yc : Nat) (ys : List MV) (ra : Option Addr) (rc : Nat), e = .returned (.tuple #[.slice ya ys.length yc, .agg #[.slice ra (tapeB ys).length rc, .int .i64 (min sy (tapeB ys).length)], .int .i64 0]) ∧ MsRow w' ya ys ∧ (∀ y ∈ ys, MAt w' y ∧ IsRec y) ∧ (∀ y ∈ ys, U8M y.bl y.pl y.cbl y.cpl y.ds) ∧ SliceAt w' ra rc (tapeB ys) ∧ Agree ys ms ∧ (∀ j, j ≤ ms.length → (tapeB (ms.take j)).length ≤ k → j ≤ ys.length) ∧ (tapeB ys).length ≤ k ∧ Below w.heap.size w w'
set_option maxRecDepth 100000 in
theorem Agree.good {ys ms : List MV} (h : Agree ys ms) (hu : ∀ x ∈ ms, U8M x.bl x.pl x.cbl x.cpl x.ds) : ∀ y ∈ ys, U8M y.bl y.pl y.cbl y.cpl y.ds := by
  intro y hy
  obtain ⟨i, hi, e⟩ := List.getElem_of_mem hy
  have hi2 : i < ms.length := by have := h.le; omega
  have h1 := h.same i hi hi2
  rw [e] at h1
  exact u8_same h1 (hu _ (List.getElem_mem hi2))
set_option maxRecDepth 100000 in
theorem recover_part (ms : List MV) (k : Nat) (sa : Option Addr) (n cap : Nat) (sy : Int) (w : World) (hn : n = ((tapeB ms).take k).length) (hs : SliceAt w sa cap ((tapeB ms).take k)) (hm : ∀ x ∈ ms, MAt w x ∧ IsRec x) (hu : ∀ x ∈ ms, U8M x.bl x.pl x.cbl x.cpl x.ds) (hl : (tapeB ms).length ≤ 400000) (hy : 0 ≤ sy ∧ sy ≤ n) :
    Calls Try.prog 15 #[.agg #[.slice sa n cap, .int .i64 sy]] w fun e w' => RcvK w w' e ms k sy := by
  have hL : ((tapeB ms).take k).length ≤ 400000 := by rw [List.length_take]; omega
  refine (recover_any ((tapeB ms).take k) sa n cap sy w hn hs (fun z hz => u8_tape hm hu z (List.mem_of_mem_take hz)) (by omega)).mono ?_
  intro e w' h
  have hk : tapeOk ((tapeB ms).take k).length sy = true := tapeOk_iff.2 ⟨hL, hy.1, by omega⟩
  rcases h.out with ⟨h0, -⟩ | ⟨-, v, ys, r, ra, rc, h1, h2, h3, h4, h5, -, h7⟩
  · rw [hk] at h0; cases h0
  · obtain ⟨ya, yc, rfl, -, -, -, hr⟩ := msRow_of_owns h3
    obtain ⟨a1, a2, a3⟩ := tape_scan ms ys r k hm (fun y hy => ⟨(h4 y hy).1, (h4 y hy).2.1⟩) h1 h2
    exact ⟨ya, yc, ys, ra, rc, h7, hr, fun y hy => ⟨(h4 y hy).1, (h4 y hy).2.1⟩, a1.good hu, h5, a1, a2, a3, h.below⟩
set_option maxRecDepth 100000 in
/-- A tape of nothing. -/
theorem recover_none (w : World) :
    Calls Try.prog 15 #[.agg #[.slice none 0 0, .int .i64 0]] w fun e w' => ∃ ya yc ra rc, e = .returned (.tuple #[.slice ya 0 yc, .agg #[.slice ra 0 rc, .int .i64 0], .int .i64 0]) ∧ Below w.heap.size w w' := by
  refine (recover_part [] 0 none 0 0 0 w rfl (nilSliceT w) (fun x hx => by cases hx) (fun x hx => by cases hx) (by simp [tapeB]) ⟨by omega, by omega⟩).mono ?_
  intro e w' h
  obtain ⟨ya, yc, ys, ra, rc, he, -, -, -, -, ha, -, -, hb⟩ := h.out
  have hz : ys = [] := List.eq_nil_of_length_eq_zero (by have := ha.le; simp at this; simp [this])
  subst hz
  exact ⟨ya, yc, ra, rc, he, hb⟩
set_option maxRecDepth 100000 in
/-- One that may not be. -/
theorem recover_bad (w : World) :
    Calls Try.prog 15 #[.agg #[.slice none 0 0, .int .i64 1]] w fun e w' => e = .returned (.tuple #[.slice none 0 0, .agg #[.slice none 0 0, .int .i64 0], .int .i64 12]) ∧ Below w.heap.size w w' := by
  refine (recover_any [] none 0 0 1 w rfl (nilSliceT w) (fun z hz => by cases hz) (by simp)).mono ?_
  intro e w' h
  rcases h.out with ⟨-, he⟩ | ⟨h0, -⟩
  · exact ⟨he, h.below⟩
  · exact absurd h0 (by decide)
set_option maxRecDepth 100000 in
theorem begins_agree (ys ms : List MV) (sa sc : Option Addr) (n m ca cc : Nat) (w : World) (hn : n = ys.length) (hm : m = ms.length) (h : Agree ys ms) (hl : ms.length ≤ 1000000) (ra : MsRow w sa ys) (rb : MsRow w sc ms) (hy : ∀ y ∈ ys, MAt w y ∧ IsRec y) (hx : ∀ x ∈ ms, MAt w x ∧ IsRec x) (hu : ∀ y ∈ ys, U8M y.bl y.pl y.cbl y.cpl y.ds) :
    Calls Try.prog 16 #[.slice sa n ca, .slice sc m cc] w fun e w' => e = .returned (.bool true) ∧ Below w.heap.size w w' :=
  begins_eq ys ms sa sc n m ca cc w hn hm h.le hl ra rb (fun i h1 h2 => ⟨⟨(hy _ (List.getElem_mem h1)).1, (hy _ (List.getElem_mem h1)).2.check, hu _ (List.getElem_mem h1)⟩, (hx _ (List.getElem_mem h2)).1, h.same i h1 h2⟩)
end Go.Proofs.Ythpocgndgphedaa

namespace Go.Proofs.Ythpocgndgphedaa
open Go.RowKit

set_option maxRecDepth 100000 in
set_option maxHeartbeats 4000000 in
theorem tapeOn_walk (sa : Option Addr) (cap : Nat) (rs : List Rt) (keep : Int) (ki ra rb rc : Int) (ta0 : Option Addr) (tc0 : Nat) (ss : List ByteArray) (w : World) (hr : RawTs w sa rs) (_hc : rs.length ≤ cap) (ha1 : -9223372036854775808 ≤ keep) (ha2 : keep ≤ 9223372036854775807) (g1 : I64 ki) (g2 : I64 ra) (g3 : I64 rb) (g4 : I64 rc) (g5 : TextsAt w ta0 tc0 ss) :
    Calls Try.prog 5 #[.slice sa rs.length cap, .int .i64 keep, .agg #[.int .i64 ki, .int .i64 ra, .int .i64 rb, .int .i64 rc, .slice ta0 ss.length tc0]] w fun e w' => e = .returned (.bool true) ∧ Below w.heap.size w w' := by
  obtain ⟨pk0, pk1⟩ := pk_bounds keep 900 (by decide)
  have hA0 : Below w.heap.size w (w.alloc (.cells #[.int .i64 ki, .int .i64 ra, .int .i64 rb, .int .i64 rc, .slice ta0 ss.length tc0] 56)) := (Below.refl _ _).alloc (Nat.le_refl _) _
  have qR := heap_alloc_new w (.cells #[.int .i64 ki, .int .i64 ra, .int .i64 rb, .int .i64 rc, .slice ta0 ss.length tc0] 56)
  go_enter Try.func5, Try.ntmps5
  go_wp2_with fail
  generalize hRB : w.heap.size = RB at qR ⊢
  generalize w.alloc (.cells #[.int .i64 ki, .int .i64 ra, .int .i64 rb, .int .i64 rc, .slice ta0 ss.length tc0] 56) = W0 at hA0 qR ⊢
  refine (records_any rs sa _ cap W0 rfl (hr.below hA0)).mono ?_
  intro e w1 hrec
  obtain ⟨ma, mc, ms, he, hlen, hrow, hM, hb01, hU⟩ := recs_rowU hrec
  have hb1 := hA0.trans (hb01.mono hA0.size)
  have r1 := (hb01.block _ (lt_of_heap qR)).trans qR
  subst he
  dsimp only
  clear hrec
  have hm24 : ms.length ≤ 24 := by rw [hlen]; omega
  have hL := tapeB_small (by omega) hM
  have HR : Hid (∀ W : World, Below w1.heap.size w1 W → MsRow W ma ms ∧ ∀ x ∈ ms, MAt W x ∧ IsRec x) := by
    show ∀ _, _
    intro W hW
    exact ⟨hrow.below hW, fun x hx => ⟨(hM x hx).1.below hW, (hM x hx).2⟩⟩
  have HU : Hid _ := hU
  have hT := taped_any ms ma _ mc w1 rfl (by omega) hrow hM
  clear hlen hrow hM hU
  go_wp2_with fail
  refine hT.mono ?_
  rintro e w2 ⟨ta, tc, he, hS, -, hb2⟩
  subst he
  dsimp only
  clear hT
  have hB2 := hb1.trans (hb2.mono hb1.size)
  obtain ⟨D, hD⟩ : ∃ D, tapeB ms = D := ⟨_, rfl⟩
  rw [hD] at hS hL ⊢
  have HD : Hid (tapeB ms = D) := hD
  clear hD
  have hA2 : Below w2.heap.size w2 (w2.alloc (.cells #[.slice ta D.length tc, .int .i64 0] 28)) := (Below.refl _ _).alloc (Nat.le_refl _) _
  have qT := heap_alloc_new w2 (.cells #[.slice ta D.length tc, .int .i64 0] 28)
  have r2 := (hb2.block _ (lt_of_heap r1)).trans r1
  have hRT : RB ≠ w2.heap.size := Nat.ne_of_lt (lt_of_heap r2)
  have r2A := (hA2.block _ (lt_of_heap r2)).trans r2
  go_upto_region 2 with fail
  generalize hTB : w2.heap.size = TB at qT hRT ⊢
  generalize w2.alloc (.cells #[.slice ta D.length tc, .int .i64 0] 28) = W2 at hA2 qT r2A ⊢
  have hTB1 : w1.heap.size ≤ TB := by rw [← hTB]; exact hb2.size
  have hTB0 : w.heap.size ≤ TB := by rw [← hTB]; exact hB2.size
  have hB2A := hB2.trans (hA2.mono hB2.size)
  have h12 := hb2.trans (hA2.mono hb2.size)
  have hSA := hS.below hA2
  clear hTB hS hA2 hb2 hB2 r1 r2 qR
  have hTW : TB < W2.heap.size := lt_of_heap qT
  have HPk : Hid (∀ W : World, Calls Try.prog 10 #[.int .i64 keep, .int .i64 900] W fun e w' => ∃ v, e = .returned v ∧ (v = .int .i64 (pk keep 900) ∧ W = w')) := by
    show ∀ _, _
    intro W
    exact (picked_any keep 900 W ha1 ha2 (by decide) (by decide)).mono (fun e w' h => ⟨_, h.1, rfl, h.2⟩)
  generalize pk keep 900 = KP at *
  obtain ⟨N, hN⟩ : ∃ N, leftN D.length 0 KP = N := ⟨_, rfl⟩
  have hNl : N ≤ D.length := by rw [← hN]; exact leftN_le (by omega)
  have hNt : (D.take N).length = N := by rw [List.length_take]; omega
  have HC : Hid (Calls Try.prog 14 #[.agg #[.slice ta D.length tc, .int .i64 0], .int .i64 KP] W2.drew fun e w' => ∃ v, e = .returned v ∧ ((∃ ca cc, v = .tuple #[.agg #[.slice ca N cc, .int .i64 (N : Int)], .int .i64 0] ∧ SliceAt w' ca cc (D.take N) ∧ (∀ sb so, ca = some ⟨sb, so, none⟩ → W2.heap.size ≤ sb ∧ sb < w'.heap.size)) ∧ Below W2.heap.size W2 w')) := by
    show Calls _ _ _ _ _
    have h := crash_ok D ta _ tc 0 KP W2.drew rfl (hSA.below (Below.refl _ _).drew) (by omega) ⟨by omega, by omega⟩ ⟨by omega, by omega⟩
    rw [hN] at h
    refine h.mono (fun e w' h => ?_)
    obtain ⟨ca, cc, he, h1, h2, h3⟩ := h
    rw [hNt] at he
    exact ⟨_, he, ⟨ca, cc, rfl, h1, h2⟩, (Below.refl W2.heap.size W2).drew.trans h3⟩
  have HNt : Hid _ := hNt
  clear hN hNt
  have HentP : Hid _ := enters_of Try.func10 (by kernel_rfl) rfl
  have HentC : Hid _ := enters_of Try.func14 (by kernel_rfl) rfl
  have c0 : W2.cell? ⟨TB, 0, none⟩ = some (.slice ta D.length tc) := cells_at qT 0 _ rfl
  have c1 : W2.cell? ⟨TB, 1, none⟩ = some (.int .i64 0) := cells_at qT 1 _ rfl
  go_cut [9] (fun q wx => ∃ (ca : Option Addr) (cc : Nat), q = .int .i64 0 ∧ Below w1.heap.size w1 wx ∧ wx.heap[TB]? = some (.cells #[.slice ca N cc, .int .i64 (N : Int)] 28 (0, 0)) ∧ wx.heap[RB]? = some (.cells #[.int .i64 ki, .int .i64 ra, .int .i64 rb, .int .i64 rc, .slice ta0 ss.length tc0] 56 (0, 0)) ∧ SliceAt wx ca cc (D.take N))
  case first =>
    go_region_law (first
      | (refine step_calls rfl 10 _ _ rfl [.int .i64 keep, .int .i64 900] rfl HentP.out (fun u w9 => u = .int .i64 KP ∧ W2.drew = w9) (HPk.out _) ?_; rintro _ _ ⟨rfl, rfl⟩)
      | (refine step_calls rfl 14 _ _ rfl [.agg #[.slice ta D.length tc, .int .i64 0], .int .i64 KP] rfl HentC.out (fun u w9 => (∃ ca cc, u = .tuple #[.agg #[.slice ca N cc, .int .i64 (N : Int)], .int .i64 0] ∧ SliceAt w9 ca cc (D.take N) ∧ (∀ sb so, ca = some ⟨sb, so, none⟩ → W2.heap.size ≤ sb ∧ sb < w9.heap.size)) ∧ Below W2.heap.size W2 w9) HC.out ?_; rintro _ w3 ⟨⟨ca, cc, rfl, hSc, hfc⟩, hb3⟩; have s3 := (hb3.block _ (lt_of_heap qT)).trans qT; have r3 := (hb3.block _ (lt_of_heap r2A)).trans r2A; have d0 : w3.cell? ⟨TB, 0, none⟩ = some (.slice ta D.length tc) := cells_at s3 0 _ rfl; have d1 : w3.cell? ⟨TB, 1, none⟩ = some (.int .i64 0) := cells_at s3 1 _ rfl; have f0 := frozen_at s3 0; have f1 := frozen_at s3 1))
    all_goals
      go_wp2_with fail
      go_meet
      case rel =>
        refine ⟨ca, cc, rfl, ((h12.trans (hb3.mono h12.size)).setCell (p := ⟨TB, 0, none⟩) hTB1 _).setCell (p := ⟨TB, 1, none⟩) hTB1 _, by simpa using heap_setCell_same _ _ 1 _ _ (.int .i64 (N : Int)) (heap_setCell_same _ _ 0 _ _ (.slice ca N cc) s3), heap_far (j := 1) (v := .int .i64 (N : Int)) (heap_far (j := 0) (v := .slice ca N cc) r3 hRT) hRT, (hSc.setCellT TB 0 _ (fun sb so e => by have := (hfc sb so e).1; omega)).setCellT TB 1 _ (fun sb so e => by have := (hfc sb so e).1; omega)⟩
  case rest =>
    obtain ⟨ca, cc, rfl, hW3, qT3, r3, hS3⟩ := hcut
    generalize wc = W3 at hW3 qT3 r3 hS3 ⊢
    apply_assumption
    have hB3 := hb1.trans (hW3.mono hb1.size)
    clear HC HPk HentP HentC c0 c1 hSA hB2A h12 r2A qT hTW
    have c0 : W3.cell? ⟨TB, 0, none⟩ = some (.slice ca N cc) := cells_at qT3 0 _ rfl
    have c1 : W3.cell? ⟨TB, 1, none⟩ = some (.int .i64 (N : Int)) := cells_at qT3 1 _ rfl
    have hR1 := recover_part ms N ca N cc N W3 (by rw [HD.out, HNt.out]) (by rw [HD.out]; exact hS3) (HR.out W3 hW3).2 HU.out (by rw [HD.out]; omega) ⟨by omega, by omega⟩
    go_wp2_with fail
    refine hR1.mono ?_
    intro e w5 h5
    obtain ⟨xa, xc, ys, va, vc, he, hyr, hym, hyu, hyS, hya, -, hyk, hb5⟩ := h5.out
    subst he
    dsimp only
    clear hR1 h5 c0 c1
    have hyn : ys.length ≤ 24 := by have := hya.le; omega
    have hB5 := hB3.trans (hb5.mono hB3.size)
    have r5 := (hb5.block _ (lt_of_heap r3)).trans r3
    have HY : Hid (∀ W : World, Below w5.heap.size w5 W → MsRow W xa ys ∧ ∀ x ∈ ys, MAt W x ∧ IsRec x) := by
      show ∀ _, _
      intro W hW
      exact ⟨hyr.below hW, fun x hx => ⟨(hym x hx).1.below hW, (hym x hx).2⟩⟩
    have HYU : Hid _ := hyu
    obtain ⟨Y, hY⟩ : ∃ Y, tapeB ys = Y := ⟨_, rfl⟩
    rw [hY] at hyS hyk ⊢
    have HYD : Hid (tapeB ys = Y) := hY
    clear hyr hym hyu hya hY
    obtain ⟨SY, hSY⟩ : ∃ SY : Int, min (N : Int) (Y.length : Int) = SY := ⟨_, rfl⟩
    rw [hSY]
    have hSY1 : 0 ≤ SY ∧ SY ≤ Y.length := by omega
    clear hSY
    have hA5 : Below w5.heap.size w5 (w5.alloc (.cells #[.slice va Y.length vc, .int .i64 SY] 28)) := (Below.refl _ _).alloc (Nat.le_refl _) _
    have qU := heap_alloc_new w5 (.cells #[.slice va Y.length vc, .int .i64 SY] 28)
    have r5A := (hA5.block _ (lt_of_heap r5)).trans r5
    go_upto_region 4 with fail
    generalize hUB : w5.heap.size = UB at qU ⊢
    clear hUB
    generalize w5.alloc (.cells #[.slice va Y.length vc, .int .i64 SY] 28) = W5 at hA5 qU r5A ⊢
    have hB5A := hB5.trans (hA5.mono hB5.size)
    have hyS5 := hyS.below hA5
    have e0 : W5.cell? ⟨RB, 0, none⟩ = some (.int .i64 ki) := cells_at r5A 0 _ rfl
    have e1 : W5.cell? ⟨RB, 1, none⟩ = some (.int .i64 ra) := cells_at r5A 1 _ rfl
    have e2 : W5.cell? ⟨RB, 2, none⟩ = some (.int .i64 rb) := cells_at r5A 2 _ rfl
    have e3 : W5.cell? ⟨RB, 3, none⟩ = some (.int .i64 rc) := cells_at r5A 3 _ rfl
    have e4 : W5.cell? ⟨RB, 4, none⟩ = some (.slice ta0 ss.length tc0) := cells_at r5A 4 _ rfl
    clear hS3 qT3 r3 r5
    go_wp2_with fail
    refine (record_anyU ki ra rb rc ta0 tc0 ss W5 g1 g2 g3 g4 (g5.below hB5A)).mono ?_
    rintro e w6 ⟨x, he, hxM, hxI, -, hb6, hxU⟩
    subst he
    dsimp only
    clear e0 e1 e2 e3 e4
    have hB6 := hB5A.trans (hb6.mono hB5A.size)
    have h56 := hA5.trans (hb6.mono hA5.size)
    have u6 := (hb6.block _ (lt_of_heap qU)).trans qU
    have hyS6 := hyS5.below hb6
    have hxl := hxI.len hxM.dn
    have qz := heap_alloc_new w6 (.cells #[.int .i64 0, .int .i64 0, .int .i64 0, .int .i64 0, .int .i64 0, .slice none 0 0, .int .i64 0, .int .i64 0, .slice none 0 0, .slice none 0 0, .int .i64 0, .int .i64 0, .slice none 0 0, .int .i64 0, .int .i64 0, .slice none 0 0, .slice none 0 0, .slice none 0 0, .int .i64 0] 47)
    have hA6 : Below w6.heap.size w6 ((w6.alloc (.cells #[.int .i64 0, .int .i64 0, .int .i64 0, .int .i64 0, .int .i64 0, .slice none 0 0, .int .i64 0, .int .i64 0, .slice none 0 0, .slice none 0 0, .int .i64 0, .int .i64 0, .slice none 0 0, .int .i64 0, .int .i64 0, .slice none 0 0, .slice none 0 0, .slice none 0 0, .int .i64 0] 47)).setRow w6.heap.size #[.int .i64 x.m.fr, .int .i64 x.m.tt, .int .i64 x.m.ki, .int .i64 x.m.bau, .int .i64 x.m.bnu, .slice x.m.bta x.m.btn x.m.btc, .int .i64 x.m.hau, .int .i64 x.m.hrd, .slice x.m.hba x.m.hbn x.m.hbc, .slice x.m.hpa x.m.hpn x.m.hpc, .int .i64 x.m.sau, .int .i64 x.m.srd, .slice x.m.sda x.m.sdn x.m.sdc, .int .i64 x.m.cau, .int .i64 x.m.crd, .slice x.m.cba x.m.cbn x.m.cbc, .slice x.m.cpa x.m.cpn x.m.cpc, .slice x.m.cva x.m.cvn x.m.cvc, .int .i64 x.m.ro]) := laid_row w6 #[.int .i64 0, .int .i64 0, .int .i64 0, .int .i64 0, .int .i64 0, .slice none 0 0, .int .i64 0, .int .i64 0, .slice none 0 0, .slice none 0 0, .int .i64 0, .int .i64 0, .slice none 0 0, .int .i64 0, .int .i64 0, .slice none 0 0, .slice none 0 0, .slice none 0 0, .int .i64 0] #[.int .i64 x.m.fr, .int .i64 x.m.tt, .int .i64 x.m.ki, .int .i64 x.m.bau, .int .i64 x.m.bnu, .slice x.m.bta x.m.btn x.m.btc, .int .i64 x.m.hau, .int .i64 x.m.hrd, .slice x.m.hba x.m.hbn x.m.hbc, .slice x.m.hpa x.m.hpn x.m.hpc, .int .i64 x.m.sau, .int .i64 x.m.srd, .slice x.m.sda x.m.sdn x.m.sdc, .int .i64 x.m.cau, .int .i64 x.m.crd, .slice x.m.cba x.m.cbn x.m.cbc, .slice x.m.cpa x.m.cpn x.m.cpc, .slice x.m.cva x.m.cvn x.m.cvc, .int .i64 x.m.ro] 47
    have qM := setRow_heap _ _ _ #[.int .i64 x.m.fr, .int .i64 x.m.tt, .int .i64 x.m.ki, .int .i64 x.m.bau, .int .i64 x.m.bnu, .slice x.m.bta x.m.btn x.m.btc, .int .i64 x.m.hau, .int .i64 x.m.hrd, .slice x.m.hba x.m.hbn x.m.hbc, .slice x.m.hpa x.m.hpn x.m.hpc, .int .i64 x.m.sau, .int .i64 x.m.srd, .slice x.m.sda x.m.sdn x.m.sdc, .int .i64 x.m.cau, .int .i64 x.m.crd, .slice x.m.cba x.m.cbn x.m.cbc, .slice x.m.cpa x.m.cpn x.m.cpc, .slice x.m.cva x.m.cvn x.m.cvc, .int .i64 x.m.ro] _ _ qz
    have u6A := (hA6.block _ (lt_of_heap u6)).trans u6
    have HX : Hid (∀ W : World, Below w6.heap.size w6 W → MAt W x) := by show ∀ _, _; intro W hW; exact hxM.below hW
    have HXI : Hid (IsRec x ∧ U8M x.bl x.pl x.cbl x.cpl x.ds) := ⟨hxI, hxU⟩
    clear hxM hxI hxU
    go_upto_region 5 with (refine wpList_store_row rfl 47 _ _ rfl w6.heap.size #[.int .i64 x.m.fr, .int .i64 x.m.tt, .int .i64 x.m.ki, .int .i64 x.m.bau, .int .i64 x.m.bnu, .slice x.m.bta x.m.btn x.m.btc, .int .i64 x.m.hau, .int .i64 x.m.hrd, .slice x.m.hba x.m.hbn x.m.hbc, .slice x.m.hpa x.m.hpn x.m.hpc, .int .i64 x.m.sau, .int .i64 x.m.srd, .slice x.m.sda x.m.sdn x.m.sdc, .int .i64 x.m.cau, .int .i64 x.m.crd, .slice x.m.cba x.m.cbn x.m.cbc, .slice x.m.cpa x.m.cpn x.m.cpc, .slice x.m.cva x.m.cvn x.m.cvc, .int .i64 x.m.ro] rfl rfl 47 _ qz sMsg' rfl (by simp [Value.oneCell']) ?_)
    generalize hMB : w6.heap.size = MB at qM ⊢
    rw [hMB] at hA6 u6A
    generalize (w6.alloc (.cells #[.int .i64 0, .int .i64 0, .int .i64 0, .int .i64 0, .int .i64 0, .slice none 0 0, .int .i64 0, .int .i64 0, .slice none 0 0, .slice none 0 0, .int .i64 0, .int .i64 0, .slice none 0 0, .int .i64 0, .int .i64 0, .slice none 0 0, .slice none 0 0, .slice none 0 0, .int .i64 0] 47)).setRow MB #[.int .i64 x.m.fr, .int .i64 x.m.tt, .int .i64 x.m.ki, .int .i64 x.m.bau, .int .i64 x.m.bnu, .slice x.m.bta x.m.btn x.m.btc, .int .i64 x.m.hau, .int .i64 x.m.hrd, .slice x.m.hba x.m.hbn x.m.hbc, .slice x.m.hpa x.m.hpn x.m.hpc, .int .i64 x.m.sau, .int .i64 x.m.srd, .slice x.m.sda x.m.sdn x.m.sdc, .int .i64 x.m.cau, .int .i64 x.m.crd, .slice x.m.cba x.m.cbn x.m.cbc, .slice x.m.cpa x.m.cpn x.m.cpc, .slice x.m.cva x.m.cvn x.m.cvc, .int .i64 x.m.ro] = W6 at hA6 qM u6A ⊢
    rw [← hMB] at hA6
    clear qz hMB
    have hB6A := hB6.trans (hA6.mono hB6.size)
    have h56A := h56.trans (hA6.mono h56.size)
    have hyS6A := hyS6.below hA6
    have k0 : W6.cell? ⟨UB, 0, none⟩ = some (.slice va Y.length vc) := cells_at u6A 0 _ rfl
    have k1 : W6.cell? ⟨UB, 1, none⟩ = some (.int .i64 SY) := cells_at u6A 1 _ rfl
    have hAp := rec_append x Y va _ vc SY W6 rfl hyS6A (HX.out W6 hA6) HXI.out.1 hSY1 (by omega)
    go_wp2_with (refine wpList_load_row rfl 47 _ rfl MB rfl 47 #[.int .i64 x.m.fr, .int .i64 x.m.tt, .int .i64 x.m.ki, .int .i64 x.m.bau, .int .i64 x.m.bnu, .slice x.m.bta x.m.btn x.m.btc, .int .i64 x.m.hau, .int .i64 x.m.hrd, .slice x.m.hba x.m.hbn x.m.hbc, .slice x.m.hpa x.m.hpn x.m.hpc, .int .i64 x.m.sau, .int .i64 x.m.srd, .slice x.m.sda x.m.sdn x.m.sdc, .int .i64 x.m.cau, .int .i64 x.m.crd, .slice x.m.cba x.m.cbn x.m.cbc, .slice x.m.cpa x.m.cpn x.m.cpc, .slice x.m.cva x.m.cvn x.m.cvc, .int .i64 x.m.ro] (0, 0) _ qM Try.underlying47 rfl sMsg' ?_)
    refine hAp.mono ?_
    rintro e w7 ⟨pa, pc, he, hS7, -, hb7⟩
    subst he
    dsimp only
    clear hAp k0 k1
    have hB7 := hB6A.trans (hb7.mono hB6A.size)
    have h57 := h56A.trans (hb7.mono h56A.size)
    have h67 := hA6.trans (hb7.mono hA6.size)
    have m7 := (hb7.block _ (lt_of_heap qM)).trans qM
    have hPl : (Y ++ x.onTape).length ≤ 40000 := by rw [List.length_append, onTape_len]; omega
    have HP : Hid (tapeB (ys ++ [x]) = Y ++ x.onTape) := by show _ = _; rw [tapeB_snoc, HYD.out]
    generalize Y ++ x.onTape = P at *
    have hA7 : Below w7.heap.size w7 (w7.alloc (.cells #[.slice pa P.length pc, .int .i64 SY] 28)) := (Below.refl _ _).alloc (Nat.le_refl _) _
    have qV := heap_alloc_new w7 (.cells #[.slice pa P.length pc, .int .i64 SY] 28)
    have m7A := (hA7.block _ (lt_of_heap m7)).trans m7
    go_upto_region 6 with fail
    generalize hVB : w7.heap.size = VB at qV ⊢
    clear hVB
    generalize w7.alloc (.cells #[.slice pa P.length pc, .int .i64 SY] 28) = W7 at hA7 qV m7A ⊢
    have hB7A := hB7.trans (hA7.mono hB7.size)
    have h57A := h57.trans (hA7.mono h57.size)
    have h67A := h67.trans (hA7.mono h67.size)
    have hS7A := hS7.below hA7
    have k0 : W7.cell? ⟨VB, 0, none⟩ = some (.slice pa P.length pc) := cells_at qV 0 _ rfl
    have k1 : W7.cell? ⟨VB, 1, none⟩ = some (.int .i64 SY) := cells_at qV 1 _ rfl
    have hSYP : 0 ≤ SY ∧ SY ≤ P.length := by
      have h1 := congrArg List.length HP.out
      rw [tapeB_snoc, List.length_append, HYD.out] at h1
      omega
    have hR2 := recover_part (ys ++ [x]) P.length pa P.length pc SY W7 (by rw [HP.out, List.take_of_length_le (Nat.le_refl _)]) (by rw [HP.out, List.take_of_length_le (Nat.le_refl _)]; exact hS7A) (fun z hz => by
      rcases List.mem_append.1 hz with hz | hz
      · exact (HY.out W7 h57A).2 z hz
      · obtain rfl : z = x := by simpa using hz
        exact ⟨HX.out W7 h67A, HXI.out.1⟩) (fun z hz => by
      rcases List.mem_append.1 hz with hz | hz
      · exact HYU.out z hz
      · obtain rfl : z = x := by simpa using hz
        exact HXI.out.2) (by rw [HP.out]; omega) hSYP
    go_wp2_with fail
    refine hR2.mono ?_
    intro e w8 h8
    obtain ⟨za, zc, zs, oa, oc, he, hzr, hzm, hzu, -, hza, hzl, -, hb8⟩ := h8.out
    subst he
    dsimp only
    clear hR2 h8 k0 k1
    have hzn : zs.length = ys.length + 1 := by
      have h1 := hzl (ys ++ [x]).length (Nat.le_refl _) (by rw [List.take_of_length_le (Nat.le_refl _), HP.out]; exact Nat.le_refl _)
      have h2 := hza.le
      rw [List.length_append] at h1 h2
      simp at h1 h2
      omega
    have hB8 := hB7A.trans (hb8.mono hB7A.size)
    have h58 := h57A.trans (hb8.mono h57A.size)
    have h68 := h67A.trans (hb8.mono h67A.size)
    have m8 := (hb8.block _ (lt_of_heap m7A)).trans m7A
    generalize (tapeB zs).length = ZL at *
    generalize min SY (ZL : Int) = ZM at *
    have hA8 : Below w8.heap.size w8 (w8.alloc (.cells #[.slice oa ZL oc, .int .i64 ZM] 28)) := (Below.refl _ _).alloc (Nat.le_refl _) _
    have m8A := (hA8.block _ (lt_of_heap m8)).trans m8
    go_upto_region 7 with fail
    generalize w8.alloc (.cells #[.slice oa ZL oc, .int .i64 ZM] 28) = W8 at hA8 m8A ⊢
    have hB8A := hB8.trans (hA8.mono hB8.size)
    have h58A := h58.trans (hA8.mono h58.size)
    have h68A := h68.trans (hA8.mono h68.size)
    have hk1 : ys.length < zs.length := by omega
    have hsame : ∀ (i : Nat) (h1 : i < ys.length) (h2 : i < zs.length), (zs[i]).c = (ys[i]).c := by
      intro i h1 h2
      have h3 := hza.same i h2 (by simp; omega)
      rw [List.getElem_append_left h1] at h3
      exact h3.symm
    have hlast : (zs[ys.length]'hk1).c = x.c := by
      have h3 := hza.same ys.length hk1 (by simp)
      rw [List.getElem_append_right (Nat.le_refl _)] at h3
      simpa using h3.symm
    have HBg : Hid (∀ W : World, Below w8.heap.size w8 W → Calls Try.prog 16 #[.slice xa ys.length xc, .slice za (ys.length + 1) zc] W fun e w' => ∃ v, e = .returned v ∧ (v = .bool true ∧ Below W.heap.size W w')) := by
      show ∀ _, _
      intro W hW
      obtain ⟨hr9, hm9⟩ := HY.out W (h58.trans (hW.mono h58.size))
      exact (begins_eq ys zs xa za _ _ xc zc W rfl hzn.symm (by omega) (by omega) hr9 (hzr.below hW) (fun i h1 h2 => ⟨⟨(hm9 _ (List.getElem_mem h1)).1, (hm9 _ (List.getElem_mem h1)).2.check, HYU.out _ (List.getElem_mem h1)⟩, (hzm _ (List.getElem_mem h2)).1.below hW, hsame i h1 h2⟩)).mono (fun e w' h => ⟨_, h.1, rfl, h.2⟩)
    obtain ⟨z, hz⟩ : ∃ z, zs[ys.length]'hk1 = z := ⟨_, rfl⟩
    have hzG : z ∈ zs := by rw [← hz]; exact List.getElem_mem hk1
    rw [hz] at hlast
    obtain ⟨tb, tq, rfl, hrow⟩ : ∃ sb so, za = some ⟨sb, so, none⟩ ∧ ∀ (k : Nat) (hk : k < zs.length), w8.rangeAt sb (so + k * 19) (mcell (zs[k]).m) := by
      rcases hzr with h | h
      · rw [h] at hk1; simp at hk1
      · exact h
    have hrg := hrow ys.length hk1
    rw [hz] at hrg
    have HSm : Hid (∀ W : World, Below w8.heap.size w8 W → Calls Try.prog 19 #[.agg #[.int .i64 z.m.fr, .int .i64 z.m.tt, .int .i64 z.m.ki, .int .i64 z.m.bau, .int .i64 z.m.bnu, .slice z.m.bta z.m.btn z.m.btc, .int .i64 z.m.hau, .int .i64 z.m.hrd, .slice z.m.hba z.m.hbn z.m.hbc, .slice z.m.hpa z.m.hpn z.m.hpc, .int .i64 z.m.sau, .int .i64 z.m.srd, .slice z.m.sda z.m.sdn z.m.sdc, .int .i64 z.m.cau, .int .i64 z.m.crd, .slice z.m.cba z.m.cbn z.m.cbc, .slice z.m.cpa z.m.cpn z.m.cpc, .slice z.m.cva z.m.cvn z.m.cvc, .int .i64 z.m.ro], .agg #[.int .i64 x.m.fr, .int .i64 x.m.tt, .int .i64 x.m.ki, .int .i64 x.m.bau, .int .i64 x.m.bnu, .slice x.m.bta x.m.btn x.m.btc, .int .i64 x.m.hau, .int .i64 x.m.hrd, .slice x.m.hba x.m.hbn x.m.hbc, .slice x.m.hpa x.m.hpn x.m.hpc, .int .i64 x.m.sau, .int .i64 x.m.srd, .slice x.m.sda x.m.sdn x.m.sdc, .int .i64 x.m.cau, .int .i64 x.m.crd, .slice x.m.cba x.m.cbn x.m.cbc, .slice x.m.cpa x.m.cpn x.m.cpc, .slice x.m.cva x.m.cvn x.m.cvc, .int .i64 x.m.ro]] W fun e w' => ∃ v, e = .returned v ∧ (v = .bool true ∧ Below W.heap.size W w')) := by
      show ∀ _, _
      intro W hW
      exact (keep_same (x := z) (y := x) ⟨(hzm z hzG).1.below hW, (hzm z hzG).2.check, hzu z hzG⟩ (HX.out W (h68.trans (hW.mono h68.size))) hlast.symm).mono (fun e w' h => ⟨_, h.1, rfl, h.2⟩)
    have hrgA := range_below hrg hA8
    have hmr : W8.rangeAt MB 0 (mcell x.m) := fun j v hv => by
      rw [Nat.zero_add]
      exact cells_at m8A j v (by rw [← hv, mcell]; simp)
    have hyI : (ys.length : Int) < ((ys.length + 1 : Nat) : Int) := by omega
    have hwy : IntKind.i64.wrap ((ys.length : Int) + 1) = (ys.length : Int) + 1 := by rw [IntKind.wrap_i64]; omega
    have hnI : ¬ ((ys.length : Int) + 1 ≤ ys.length) := by omega
    rw [hzn]
    clear hlast hzG hz hsame hza hzl hzm hzu hzr hrow hk1 hzn HYD HP
    have hWd : Below w8.heap.size w8 W8.drew := hA8.drew
    have hBd := hB8A.drew
    refine wp_region_held_drew (S := fun w' => w'.rangeAt tb (tq + ys.length * 19) (mcell z.m) ∧ w'.rangeAt MB 0 (mcell x.m)) (by kernel_rfl) ⟨hrgA, hmr⟩ (fun hHeld => ?_)
    have hrg8 : W8.drew.rangeAt tb (tq + ys.length * 19) (mcell z.m) := hrgA
    have hmr8 : W8.drew.rangeAt MB 0 (mcell x.m) := hmr
    generalize W8.drew = V8 at hWd hBd hrg8 hmr8 hHeld ⊢
    refine take_dst (i := 0) (d := 52) (v := .bool true) rfl rfl (by kernel_rfl) (by kernel_rfl) (by kernel_rfl) (fun _ _ _ h => h) (Or.inl ⟨by rfl, ?_⟩) hHeld ?_
    · (intro w0 hSw; (try dsimp only at hSw); go_simp)
    simp only [Act.put, List.setIfInBounds_toArray, List.set_cons_zero, List.set_cons_succ]
    refine take_dst (i := 1) (d := 53) (v := .bool true) rfl rfl (by kernel_rfl) (by kernel_rfl) (by kernel_rfl) (fun _ _ _ h => h) (Or.inl ⟨by rfl, ?_⟩) hHeld ?_
    · (intro w0 hSw; (try dsimp only at hSw); go_simp)
    simp only [Act.put, List.setIfInBounds_toArray, List.set_cons_zero, List.set_cons_succ]
    refine take_dst (i := 2) (d := 54) (v := .int .i64 0) rfl rfl (by kernel_rfl) (by kernel_rfl) (by kernel_rfl) (fun _ _ _ h => h) (Or.inl ⟨by rfl, ?_⟩) hHeld ?_
    · (intro w0 hSw; (try dsimp only at hSw); go_simp)
    simp only [Act.put, List.setIfInBounds_toArray, List.set_cons_zero, List.set_cons_succ]
    refine take_dst (i := 3) (d := 55) (v := .bool true) rfl rfl (by kernel_rfl) (by kernel_rfl) (by kernel_rfl) (fun _ _ _ h => h) (Or.inl ⟨by rfl, ?_⟩) hHeld ?_
    · (intro w0 hSw; (try dsimp only at hSw); go_simp)
    simp only [Act.put, List.setIfInBounds_toArray, List.set_cons_zero, List.set_cons_succ]
    refine take_dst (i := 4) (d := 56) (v := .bool true) rfl rfl (by kernel_rfl) (by kernel_rfl) (by kernel_rfl) (fun _ _ _ h => h) (Or.inl ⟨by rfl, ?_⟩) hHeld ?_
    · (intro w0 hSw; (try dsimp only at hSw); go_simp)
    simp only [Act.put, List.setIfInBounds_toArray, List.set_cons_zero, List.set_cons_succ]
    refine take_dst (i := 5) (d := 57) (v := .bool true) rfl rfl (by kernel_rfl) (by kernel_rfl) (by kernel_rfl) (fun _ _ _ h => h) (Or.inl ⟨by rfl, ?_⟩) hHeld ?_
    · (intro w0 hSw; (try dsimp only at hSw); go_simp)
    simp only [Act.put, List.setIfInBounds_toArray, List.set_cons_zero, List.set_cons_succ]
    refine take_dst (i := 6) (d := 58) (v := .int .i64 0) rfl rfl (by kernel_rfl) (by kernel_rfl) (by kernel_rfl) (fun _ _ _ h => h) (Or.inl ⟨by rfl, ?_⟩) hHeld ?_
    · (intro w0 hSw; (try dsimp only at hSw); go_simp)
    simp only [Act.put, List.setIfInBounds_toArray, List.set_cons_zero, List.set_cons_succ]
    refine take_dst (i := 7) (d := 59) (v := .bool true) rfl rfl (by kernel_rfl) (by kernel_rfl) (by kernel_rfl) (fun _ _ _ h => h) (Or.inl ⟨by rfl, ?_⟩) hHeld ?_
    · (intro w0 hSw; (try dsimp only at hSw); go_simp)
    simp only [Act.put, List.setIfInBounds_toArray, List.set_cons_zero, List.set_cons_succ]
    refine take_dst (i := 8) (d := 60) (v := .bool true) rfl rfl (by kernel_rfl) (by kernel_rfl) (by kernel_rfl) (fun _ _ _ h => h) (Or.inl ⟨by rfl, ?_⟩) hHeld ?_
    · (intro w0 hSw; (try dsimp only at hSw); go_simp)
    simp only [Act.put, List.setIfInBounds_toArray, List.set_cons_zero, List.set_cons_succ]
    refine take_dst (i := 9) (d := 61) (v := .bool true) rfl rfl (by kernel_rfl) (by kernel_rfl) (by kernel_rfl) (fun _ _ _ h => h) (Or.inl ⟨by rfl, ?_⟩) hHeld ?_
    · (intro w0 hSw; (try dsimp only at hSw); go_simp)
    simp only [Act.put, List.setIfInBounds_toArray, List.set_cons_zero, List.set_cons_succ]
    refine take_dst (i := 10) (d := 62) (v := .int .i64 0) rfl rfl (by kernel_rfl) (by kernel_rfl) (by kernel_rfl) (fun _ _ _ h => h) (Or.inl ⟨by rfl, ?_⟩) hHeld ?_
    · (intro w0 hSw; (try dsimp only at hSw); go_simp)
    simp only [Act.put, List.setIfInBounds_toArray, List.set_cons_zero, List.set_cons_succ]
    refine take_dst (i := 11) (d := 63) (v := .bool true) rfl rfl (by kernel_rfl) (by kernel_rfl) (by kernel_rfl) (fun _ _ _ h => h) (Or.inl ⟨by rfl, ?_⟩) hHeld ?_
    · (intro w0 hSw; (try dsimp only at hSw); go_simp)
    simp only [Act.put, List.setIfInBounds_toArray, List.set_cons_zero, List.set_cons_succ]
    refine take_dst (i := 12) (d := 64) (v := .bool true) rfl rfl (by kernel_rfl) (by kernel_rfl) (by kernel_rfl) (fun _ _ _ h => h) (Or.inl ⟨by rfl, ?_⟩) hHeld ?_
    · (intro w0 hSw; (try dsimp only at hSw); go_simp)
    simp only [Act.put, List.setIfInBounds_toArray, List.set_cons_zero, List.set_cons_succ]
    refine take_dst (i := 13) (d := 65) (v := .bool true) rfl rfl (by kernel_rfl) (by kernel_rfl) (by kernel_rfl) (fun _ _ _ h => h) (Or.inl ⟨by rfl, ?_⟩) hHeld ?_
    · (intro w0 hSw; (try dsimp only at hSw); go_simp)
    simp only [Act.put, List.setIfInBounds_toArray, List.set_cons_zero, List.set_cons_succ]
    refine take_dst (i := 14) (d := 66) (v := .int .i64 0) rfl rfl (by kernel_rfl) (by kernel_rfl) (by kernel_rfl) (fun _ _ _ h => h) (Or.inl ⟨by rfl, ?_⟩) hHeld ?_
    · (intro w0 hSw; (try dsimp only at hSw); go_simp)
    simp only [Act.put, List.setIfInBounds_toArray, List.set_cons_zero, List.set_cons_succ]
    refine take_dst (i := 15) (d := 67) (v := .bool true) rfl rfl (by kernel_rfl) (by kernel_rfl) (by kernel_rfl) (fun _ _ _ h => h) (Or.inl ⟨by rfl, ?_⟩) hHeld ?_
    · (intro w0 hSw; (try dsimp only at hSw); go_simp)
    simp only [Act.put, List.setIfInBounds_toArray, List.set_cons_zero, List.set_cons_succ]
    refine take_dst (i := 16) (d := 68) (v := .bool true) rfl rfl (by kernel_rfl) (by kernel_rfl) (by kernel_rfl) (fun _ _ _ h => h) (Or.inl ⟨by rfl, ?_⟩) hHeld ?_
    · (intro w0 hSw; (try dsimp only at hSw); go_simp)
    simp only [Act.put, List.setIfInBounds_toArray, List.set_cons_zero, List.set_cons_succ]
    refine take_dst (i := 17) (d := 69) (v := .bool true) rfl rfl (by kernel_rfl) (by kernel_rfl) (by kernel_rfl) (fun _ _ _ h => h) (Or.inl ⟨by rfl, ?_⟩) hHeld ?_
    · (intro w0 hSw; (try dsimp only at hSw); go_simp)
    simp only [Act.put, List.setIfInBounds_toArray, List.set_cons_zero, List.set_cons_succ]
    refine take_dst (i := 18) (d := 70) (v := .slice (some ⟨tb, tq, none⟩) (ys.length + 1) zc) rfl rfl (by kernel_rfl) (by kernel_rfl) (by kernel_rfl) (fun _ _ _ h => h) (Or.inl ⟨by rfl, ?_⟩) hHeld ?_
    · (intro w0 hSw; (try dsimp only at hSw); go_simp)
    simp only [Act.put, List.setIfInBounds_toArray, List.set_cons_zero, List.set_cons_succ]
    refine take_dst (i := 19) (d := 71) (v := .int .i64 ((ys.length + 1 : Nat) : Int)) rfl rfl (by kernel_rfl) (by kernel_rfl) (by kernel_rfl) (fun _ _ _ h => h) (Or.inl ⟨by rfl, ?_⟩) hHeld ?_
    · (intro w0 hSw; (try dsimp only at hSw); go_simp)
    simp only [Act.put, List.setIfInBounds_toArray, List.set_cons_zero, List.set_cons_succ]
    refine take_dst (i := 20) (d := 72) (v := .slice xa ys.length xc) rfl rfl (by kernel_rfl) (by kernel_rfl) (by kernel_rfl) (fun _ _ _ h => h) (Or.inl ⟨by rfl, ?_⟩) hHeld ?_
    · (intro w0 hSw; (try dsimp only at hSw); go_simp)
    simp only [Act.put, List.setIfInBounds_toArray, List.set_cons_zero, List.set_cons_succ]
    refine take_dst (i := 21) (d := 73) (v := .int .i64 (ys.length : Int)) rfl rfl (by kernel_rfl) (by kernel_rfl) (by kernel_rfl) (fun _ _ _ h => h) (Or.inl ⟨by rfl, ?_⟩) hHeld ?_
    · (intro w0 hSw; (try dsimp only at hSw); go_simp)
    simp only [Act.put, List.setIfInBounds_toArray, List.set_cons_zero, List.set_cons_succ]
    refine take_dst (i := 22) (d := 74) (v := .int .i64 ((ys.length : Int) + 1)) rfl rfl (by kernel_rfl) (by kernel_rfl) (by kernel_rfl) (fun _ _ _ h => h) (Or.inl ⟨by rfl, ?_⟩) hHeld ?_
    · (intro w0 hSw; (try dsimp only at hSw); go_simp)
    simp only [Act.put, List.setIfInBounds_toArray, List.set_cons_zero, List.set_cons_succ]
    refine take_dst (i := 23) (d := 75) (v := .bool true) rfl rfl (by kernel_rfl) (by kernel_rfl) (by kernel_rfl) (fun _ _ _ h => h) (Or.inl ⟨by rfl, ?_⟩) hHeld ?_
    · (intro w0 hSw; (try dsimp only at hSw); go_simp)
    simp only [Act.put, List.setIfInBounds_toArray, List.set_cons_zero, List.set_cons_succ]
    refine take_dst (i := 24) (d := 76) (v := .bool true) rfl rfl (by kernel_rfl) (by kernel_rfl) (by kernel_rfl) (fun _ _ _ h => h) (Or.inl ⟨by rfl, ?_⟩) hHeld ?_
    · (intro w0 hSw; (try dsimp only at hSw); go_simp)
    simp only [Act.put, List.setIfInBounds_toArray, List.set_cons_zero, List.set_cons_succ]
    refine take_dst (i := 25) (d := 77) (v := .bool true) rfl rfl (by kernel_rfl) (by kernel_rfl) (by kernel_rfl) (fun _ _ _ h => h) (Or.inl ⟨by rfl, ?_⟩) hHeld ?_
    · (intro w0 hSw; (try dsimp only at hSw); go_simp)
    simp only [Act.put, List.setIfInBounds_toArray, List.set_cons_zero, List.set_cons_succ]
    refine take_dst (i := 26) (d := 78) (v := .slice xa ys.length xc) rfl rfl (by kernel_rfl) (by kernel_rfl) (by kernel_rfl) (fun _ _ _ h => h) (Or.inl ⟨by rfl, ?_⟩) hHeld ?_
    · (intro w0 hSw; (try dsimp only at hSw); go_simp)
    simp only [Act.put, List.setIfInBounds_toArray, List.set_cons_zero, List.set_cons_succ]
    refine take_dst (i := 27) (d := 79) (v := .slice (some ⟨tb, tq, none⟩) (ys.length + 1) zc) rfl rfl (by kernel_rfl) (by kernel_rfl) (by kernel_rfl) (fun _ _ _ h => h) (Or.inl ⟨by rfl, ?_⟩) hHeld ?_
    · (intro w0 hSw; (try dsimp only at hSw); go_simp)
    simp only [Act.put, List.setIfInBounds_toArray, List.set_cons_zero, List.set_cons_succ]
    refine wpAnyH_ready (rs := [28]) (by kernel_rfl) (by simp) (AllReadyH.cons rfl (fun KK hK => ?_) AllReadyH.nil)
    refine step_calls_on (by rfl) 80 rfl 16 [.tmp 78, .tmp 79] #[23, 23] rfl [.slice xa ys.length xc, .slice (some ⟨tb, tq, none⟩) (ys.length + 1) zc] rfl (enters_of Try.func16 (by kernel_rfl) rfl) (fun v w' => v = .bool true ∧ Below V8.heap.size V8 w') (HBg.out V8 hWd) ?_
    rintro v V9 ⟨rfl, hb9⟩
    have hW9 := hWd.trans (hb9.mono hWd.size)
    have hB9 := hBd.trans (hb9.mono hBd.size)
    have g9 := range_below hrg8 hb9
    have n9 := range_below hmr8 hb9
    refine hK.out _ _ ⟨g9, n9⟩ (fun hHeld => ?_)
    simp only [Act.put, List.setIfInBounds_toArray, List.set_cons_zero, List.set_cons_succ]
    refine take_dst (i := 29) (d := 81) (v := .bool true) rfl rfl (by kernel_rfl) (by kernel_rfl) (by kernel_rfl) (fun _ _ _ h => h) (Or.inl ⟨by rfl, ?_⟩) hHeld ?_
    · (intro w0 hSw; (try dsimp only at hSw); go_simp)
    simp only [Act.put, List.setIfInBounds_toArray, List.set_cons_zero, List.set_cons_succ]
    refine take_dst (i := 30) (d := 82) (v := .bool true) rfl rfl (by kernel_rfl) (by kernel_rfl) (by kernel_rfl) (fun _ _ _ h => h) (Or.inl ⟨by rfl, ?_⟩) hHeld ?_
    · (intro w0 hSw; (try dsimp only at hSw); go_simp)
    simp only [Act.put, List.setIfInBounds_toArray, List.set_cons_zero, List.set_cons_succ]
    refine take_dst (i := 31) (d := 83) (v := .slice (some ⟨tb, tq, none⟩) (ys.length + 1) zc) rfl rfl (by kernel_rfl) (by kernel_rfl) (by kernel_rfl) (fun _ _ _ h => h) (Or.inl ⟨by rfl, ?_⟩) hHeld ?_
    · (intro w0 hSw; (try dsimp only at hSw); go_simp)
    simp only [Act.put, List.setIfInBounds_toArray, List.set_cons_zero, List.set_cons_succ]
    refine take_dst (i := 32) (d := 84) (v := .slice xa ys.length xc) rfl rfl (by kernel_rfl) (by kernel_rfl) (by kernel_rfl) (fun _ _ _ h => h) (Or.inl ⟨by rfl, ?_⟩) hHeld ?_
    · (intro w0 hSw; (try dsimp only at hSw); go_simp)
    simp only [Act.put, List.setIfInBounds_toArray, List.set_cons_zero, List.set_cons_succ]
    refine take_dst (i := 33) (d := 85) (v := .int .i64 (ys.length : Int)) rfl rfl (by kernel_rfl) (by kernel_rfl) (by kernel_rfl) (fun _ _ _ h => h) (Or.inl ⟨by rfl, ?_⟩) hHeld ?_
    · (intro w0 hSw; (try dsimp only at hSw); go_simp)
    simp only [Act.put, List.setIfInBounds_toArray, List.set_cons_zero, List.set_cons_succ]
    refine take_dst (i := 34) (d := 86) (v := .pointer (some ⟨tb, tq + ys.length * 19, none⟩)) rfl rfl (by kernel_rfl) (by kernel_rfl) (by kernel_rfl) (fun _ _ _ h => h) (Or.inl ⟨by rfl, ?_⟩) hHeld ?_
    · (intro w0 hSw; (try dsimp only at hSw); go_simp)
    simp only [Act.put, List.setIfInBounds_toArray, List.set_cons_zero, List.set_cons_succ]
    refine take_dst (i := 35) (d := 87) (v := .agg #[.int .i64 z.m.fr, .int .i64 z.m.tt, .int .i64 z.m.ki, .int .i64 z.m.bau, .int .i64 z.m.bnu, .slice z.m.bta z.m.btn z.m.btc, .int .i64 z.m.hau, .int .i64 z.m.hrd, .slice z.m.hba z.m.hbn z.m.hbc, .slice z.m.hpa z.m.hpn z.m.hpc, .int .i64 z.m.sau, .int .i64 z.m.srd, .slice z.m.sda z.m.sdn z.m.sdc, .int .i64 z.m.cau, .int .i64 z.m.crd, .slice z.m.cba z.m.cbn z.m.cbc, .slice z.m.cpa z.m.cpn z.m.cpc, .slice z.m.cva z.m.cvn z.m.cvc, .int .i64 z.m.ro]) rfl rfl (by kernel_rfl) (by kernel_rfl) (by kernel_rfl) (fun _ _ _ h => h) (yieldsIf_load_mid (by rfl) 47 _ rfl tb (tq + ys.length * 19) rfl (mcell z.m) _ (fun w0 h => h.1) Try.underlying47 rfl sMsg') hHeld ?_
    simp only [Act.put, List.setIfInBounds_toArray, List.set_cons_zero, List.set_cons_succ]
    refine take_dst (i := 36) (d := 88) (v := .agg #[.int .i64 x.m.fr, .int .i64 x.m.tt, .int .i64 x.m.ki, .int .i64 x.m.bau, .int .i64 x.m.bnu, .slice x.m.bta x.m.btn x.m.btc, .int .i64 x.m.hau, .int .i64 x.m.hrd, .slice x.m.hba x.m.hbn x.m.hbc, .slice x.m.hpa x.m.hpn x.m.hpc, .int .i64 x.m.sau, .int .i64 x.m.srd, .slice x.m.sda x.m.sdn x.m.sdc, .int .i64 x.m.cau, .int .i64 x.m.crd, .slice x.m.cba x.m.cbn x.m.cbc, .slice x.m.cpa x.m.cpn x.m.cpc, .slice x.m.cva x.m.cvn x.m.cvc, .int .i64 x.m.ro]) rfl rfl (by kernel_rfl) (by kernel_rfl) (by kernel_rfl) (fun _ _ _ h => h) (yieldsIf_load_mid (by rfl) 47 _ rfl MB 0 rfl (mcell x.m) _ (fun w0 h => h.2) Try.underlying47 rfl sMsg') hHeld ?_
    simp only [Act.put, List.setIfInBounds_toArray, List.set_cons_zero, List.set_cons_succ]
    refine wpAnyH_ready (rs := [37]) (by kernel_rfl) (by simp) (AllReadyH.cons rfl (fun KK hK => ?_) AllReadyH.nil)
    refine step_calls_on (by rfl) 89 rfl 19 [.tmp 87, .tmp 88] #[47, 47] rfl [.agg #[.int .i64 z.m.fr, .int .i64 z.m.tt, .int .i64 z.m.ki, .int .i64 z.m.bau, .int .i64 z.m.bnu, .slice z.m.bta z.m.btn z.m.btc, .int .i64 z.m.hau, .int .i64 z.m.hrd, .slice z.m.hba z.m.hbn z.m.hbc, .slice z.m.hpa z.m.hpn z.m.hpc, .int .i64 z.m.sau, .int .i64 z.m.srd, .slice z.m.sda z.m.sdn z.m.sdc, .int .i64 z.m.cau, .int .i64 z.m.crd, .slice z.m.cba z.m.cbn z.m.cbc, .slice z.m.cpa z.m.cpn z.m.cpc, .slice z.m.cva z.m.cvn z.m.cvc, .int .i64 z.m.ro], .agg #[.int .i64 x.m.fr, .int .i64 x.m.tt, .int .i64 x.m.ki, .int .i64 x.m.bau, .int .i64 x.m.bnu, .slice x.m.bta x.m.btn x.m.btc, .int .i64 x.m.hau, .int .i64 x.m.hrd, .slice x.m.hba x.m.hbn x.m.hbc, .slice x.m.hpa x.m.hpn x.m.hpc, .int .i64 x.m.sau, .int .i64 x.m.srd, .slice x.m.sda x.m.sdn x.m.sdc, .int .i64 x.m.cau, .int .i64 x.m.crd, .slice x.m.cba x.m.cbn x.m.cbc, .slice x.m.cpa x.m.cpn x.m.cpc, .slice x.m.cva x.m.cvn x.m.cvc, .int .i64 x.m.ro]] rfl (enters_of Try.func19 (by kernel_rfl) rfl) (fun v w' => v = .bool true ∧ Below V9.heap.size V9 w') (HSm.out V9 hW9) ?_
    rintro v V10 ⟨rfl, hb10⟩
    have hB10 := hB9.trans (hb10.mono hB9.size)
    refine hK.out _ _ ⟨range_below g9 hb10, range_below n9 hb10⟩ (fun hHeld => ?_)
    simp only [Act.put, List.setIfInBounds_toArray, List.set_cons_zero, List.set_cons_succ]
    refine take_dst (i := 38) (d := 90) (v := .bool true) rfl rfl (by kernel_rfl) (by kernel_rfl) (by kernel_rfl) (fun _ _ _ h => h) (Or.inl ⟨by rfl, ?_⟩) hHeld ?_
    · (intro w0 hSw; (try dsimp only at hSw); go_simp)
    simp only [Act.put, List.setIfInBounds_toArray, List.set_cons_zero, List.set_cons_succ]
    refine take_dst (i := 39) (d := 6) (v := .bool true) rfl rfl (by kernel_rfl) (by kernel_rfl) (by kernel_rfl) (fun _ _ _ h => h) (Or.inl ⟨by rfl, ?_⟩) hHeld ?_
    · (intro w0 hSw; (try dsimp only at hSw); go_simp)
    simp only [Act.put, List.setIfInBounds_toArray, List.set_cons_zero, List.set_cons_succ]
    refine wpAnyH_done (by kernel_rfl) ?_ _
    go_wp2_with fail
    go_ret
    exact ⟨rfl, by rw [← hRB]; exact hB10⟩
end Go.Proofs.Ythpocgndgphedaa

namespace Go.Proofs.Ythpocgndgphedaa.tapeOn
open Go.ChangeShapes Go.WideShapes Go.ChangeAt Go.RowKit

set_option maxRecDepth 100000 in
/-- What the walk gives, for every argument and every world. -/
theorem contract (H : Type) (enc : TypeId × Value → H) (W : World) (base : Nat) (args : Array Value) (ds gs : List (DataW H)) (before : List MemPlace)
    (hval : ∀ (j : Nat) t v, Try.f5.params[j]? = some t → args[j]? = some v → Value.okWide Try.prog W .any base t v)
    (hW : DataW.Whole enc Try.prog Try.f5.params.toList Rows.tapeOnSpec.vars false W args.toList ds gs before) (hsz : (DataW.weightsEach Try.prog (Try.f5.params.toList ++ (OpenSpec.ofChange Rows.tapeOnSpec).bare.plain.varTypes Try.prog) (ds ++ gs)).all (· ≤ reachBytes) = true) (_hL : laidMetH Try.prog Rows.tapeOnRow.laid W) :
    Calls Try.prog 5 args W fun e W' => ∃ v, e = .returned v ∧ Rows.tapeOnSpec.post enc Try.prog Try.f5 false true false false W args v W' := by
  have hW' := hW
  obtain ⟨p, q, hA0, hV, rfl, hfz, hnd⟩ := hW
  have hA : DataW.TrodAll enc Try.prog W 0 (fun _ => true) true Try.f5.params.toList args.toList ds p := hA0
  rw [Try.params5] at hA hval hsz
  obtain ⟨v0, vs0, d0, ds0, p0, q0, hargs, rfl, rfl, h0, r0⟩ := trodAll_cons hA
  obtain ⟨v1, vs1, d1, ds1, p1, q1, rfl, rfl, rfl, h1, r1⟩ := trodAll_cons r0
  obtain ⟨v2, vs2, d2, ds2, p2, q2, rfl, rfl, rfl, h2, r2⟩ := trodAll_cons r1
  obtain ⟨rfl, rfl, rfl⟩ := trodAll_nil r2
  obtain rfl : args = #[v0, v1, v2] := by cases args; simp_all
  obtain ⟨rfl, rfl⟩ := trodVars_none hV
  have k0 := h0
  have lt0 : ∀ x ∈ p0, x.block < W.heap.size := by obtain ⟨m, hm⟩ := k0; exact DataW.trod_lt m _ _ _ hm
  obtain ⟨sa0, cap0, rs0, rfl, q0_0, q0_1⟩ := open_rawts (hval 0 22 v0 rfl rfl) h0 (fit_each hsz (j := 0) rfl rfl)
  obtain ⟨a1, rfl, rfl, rfl, w1⟩ := open_int Try.underlying3 (hval 1 3 v1 rfl rfl) h1
  obtain ⟨lo1, hi1⟩ := bounds_i64 w1
  have k2 := h2
  have lt2 : ∀ x ∈ p2, x.block < W.heap.size := by obtain ⟨m, hm⟩ := k2; exact DataW.trod_lt m _ _ _ hm
  obtain ⟨ki2, ra2, rb2, rc2, sa2, cap2, ss2, rfl, q2_0, q2_1, q2_2, q2_3, q2_4⟩ := open_raw (hval 2 56 v2 rfl rfl) h2 (fit_each hsz (j := 2) rfl rfl)
  clear hA0
  refine (tapeOn_walk sa0 cap0 rs0 a1 ki2 ra2 rb2 rc2 sa2 cap2 ss2 W q0_0 q0_1 lo1 hi1 q2_0 q2_1 q2_2 q2_3 q2_4).mono fun e W' ⟨he, bel⟩ => ?_
  subst he
  exact ⟨_, rfl, _, _, _, [], _, [], hW', trodAll_mk1 (shut_bool Try.underlying4 _), (trodAll_cons_mk (Below.trod laidOut (by kernel_rfl) (of_decide_eq_true (by kernel_rfl)) k0 bel lt0) (trodAll_cons_mk (shut_int Try.underlying3 w1) (trodAll_cons_mk (Below.trod laidOut (by kernel_rfl) (of_decide_eq_true (by kernel_rfl)) k2 bel lt2) trodAll_mk0))), rfl, bel.frame _, fun h => by cases h⟩

set_option maxRecDepth 100000 in
theorem laid_met (os : Os) : laidMet Try.prog Rows.tapeOnRow.laid ((World.holding Try.prog os ⟨#[], #[], []⟩).forCall (fun _ _ => 0) ⟨#[], #[.slice none 0 0, .int .i64 0, .agg #[.int .i64 0, .int .i64 0, .int .i64 0, .int .i64 0, .slice none 0 0]], []⟩).memory :=
  laidMet_of_run' 8 (by kernel_rfl) (by kernel_rfl)
set_option maxRecDepth 100000 in
theorem reads (os : Os) {H : Type} (enc : TypeId × Value → H) : ∃ places, DataW.whole enc Try.prog ((World.holding Try.prog os ⟨#[], #[], []⟩).forCall (fun _ _ => 0) ⟨#[], #[.slice none 0 0, .int .i64 0, .agg #[.int .i64 0, .int .i64 0, .int .i64 0, .int .i64 0, .slice none 0 0]], []⟩).memory Try.f5.params.toList Rows.tapeOnSpec.vars false (#[.slice none 0 0, .int .i64 0, .agg #[.int .i64 0, .int .i64 0, .int .i64 0, .int .i64 0, .slice none 0 0]] : Array Value).toList 8 = some ([.nil, .lit (.int .i64 0), .agg [.lit (.int .i64 0), .lit (.int .i64 0), .lit (.int .i64 0), .lit (.int .i64 0), .nil]], [], places) :=
  ⟨[], by kernel_rfl⟩

set_option maxRecDepth 100000 in
theorem lifted (os : Os) (started : os.Started) (H : Type) (enc : TypeId × Value → H) (F : Stop.Interp) :
    ReturnsInHanded {} Try.checked os 5 .any ((OpenSpec.ofChange Rows.tapeOnSpec).preRow enc Try.prog Try.f5 Rows.tapeOnRow.domain false Rows.tapeOnRow.laid) (((OpenSpec.ofChange Rows.tapeOnSpec).at F).post enc Try.prog Try.f5 false true false false) := by
  obtain ⟨places, hx⟩ := reads os enc
  refine returnsInHanded_of_row (C := Try.checked) (s := OpenSpec.ofChange Rows.tapeOnSpec) own started (by kernel_rfl) Try.func5
    (witness_row_at (enc := enc) (C := Try.checked) false (World.holding Try.prog os ⟨#[], #[], []⟩) #[.slice none 0 0, .int .i64 0, .agg #[.int .i64 0, .int .i64 0, .int .i64 0, .int .i64 0, .slice none 0 0]] rfl (by kernel_rfl) (by kernel_rfl) (by kernel_rfl)
      (OpenSpec.preRow_of_cond 8 hx (by kernel_rfl) (fun k hk => by cases hk) (by kernel_rfl) (laid_met os))) ?_
  intro W base args ds gs before hval hW _ _ hsz hL _ _
  exact contract H enc W base args ds gs before hval hW hsz hL

set_option maxRecDepth 100000 in
theorem said : Rows.TapeOnSaid :=
  OpenClaim.holds_of_cond 5 Try.f5 rfl rfl rfl rfl rfl rfl rfl ⟨rfl, rfl, rfl, rfl, rfl⟩ rfl rfl rfl rfl rfl (by kernel_rfl) Try.func5 (by kernel_rfl)
    (of_decide_eq_true (by kernel_rfl)) (by unfold Func.isWrapper; first | (rw [if_pos (by decide +kernel)]; kernel_rfl) | (rw [if_neg (by decide +kernel)]; exact ⟨rfl, rfl⟩))
    (fun os started H enc _ F => by rw [OpenClaim.pre_eq_preRow]; exact lifted os started H enc F)

end Go.Proofs.Ythpocgndgphedaa.tapeOn
namespace Go.Proofs.Ythpocgndgphedaa
set_option maxRecDepth 100000 in
theorem tapeOn_holds : Rows.TapeOnSaid := tapeOn.said
#print axioms tapeOn_holds
end Go.Proofs.Ythpocgndgphedaa
