/- The law sheaveskeep.TapeLong answers true for every argument, and each argument reads behind the call as it read before: no condition but the form's own reach. -/
import Derived.Test.YtcmlmmlcebemgaaApp
import Derived.Test.YtcmlmmlcebemgaaTapeLongM36
import Derived.Test.YtcmlmmlcebemgaaTapeLongM30
import Derived.Test.YtcmlmmlcebemgaaPicked
import Derived.Test.YtcmlmmlcebemgaaRows
import Derived.Test.YtcmlmmlcebemgaaOpenB
import Derived.WalkKit
import Derived.ProofKit
import Derived.OpenShut
import Derived.Deep.DeepHandedRow
import Derived.SevenTiedAt
import Derived.Below
namespace Go.Proofs.Ytcmlmmlcebemgaa
open Go.RowKit

set_option maxRecDepth 100000 in
set_option maxHeartbeats 400000 in
theorem same_eq (bs : List Int) (sa sb : Option Addr) (n m c d : Nat) (w : World) (hn : n = bs.length) (hm : m = bs.length) (ha : SliceAt w sa c bs) (hb : SliceAt w sb d bs) :
    Calls Try.prog 21 #[.slice sa n c, .slice sb m d] w fun e w' => e = .returned (.bool true) ∧ w = w' := by
  have h1 := run_text w sa n c bs hn ha
  have h2 := run_text w sb m d bs hm hb
  clear hn hm ha hb
  go_enter Try.func21, Try.ntmps21
  go_wp2_with fail
  go_ret
  exact ⟨by simp, rfl⟩
end Go.Proofs.Ytcmlmmlcebemgaa

namespace Go.Proofs.Ytcmlmmlcebemgaa
open Go.RowKit

set_option maxRecDepth 100000 in
theorem recs_row {w w' : World} {e : Ending} {N : Nat} (h : RecsIs w w' e N) : ∃ (sa : Option Addr) (cap : Nat) (ms : List MV), e = .returned (.slice sa ms.length cap) ∧ ms.length = N ∧ MsRow w' sa ms ∧ (∀ x ∈ ms, MAt w' x ∧ IsRec x) ∧ Below w.heap.size w w' := by
  obtain ⟨v, ms, he, hl, ho, ha, hb⟩ := h.out
  obtain ⟨sa, cap, rfl, -, -, -, hr⟩ := msRow_of_owns ho
  exact ⟨sa, cap, ms, he, hl, hr, fun x hx => ⟨(ha x hx).1, (ha x hx).2.1⟩, hb⟩
set_option maxRecDepth 100000 in
theorem encode_rec (x : MV) (w : World) (hM : MAt w x) (hI : IsRec x) :
    Calls Try.prog 25 #[.agg #[.int .i64 x.m.fr, .int .i64 x.m.tt, .int .i64 x.m.ki, .int .i64 x.m.bau, .int .i64 x.m.bnu, .slice x.m.bta x.m.btn x.m.btc, .int .i64 x.m.hau, .int .i64 x.m.hrd, .slice x.m.hba x.m.hbn x.m.hbc, .slice x.m.hpa x.m.hpn x.m.hpc, .int .i64 x.m.sau, .int .i64 x.m.srd, .slice x.m.sda x.m.sdn x.m.sdc, .int .i64 x.m.cau, .int .i64 x.m.crd, .slice x.m.cba x.m.cbn x.m.cbc, .slice x.m.cpa x.m.cpn x.m.cpc, .slice x.m.cva x.m.cvn x.m.cvc, .int .i64 x.m.ro]] w fun e w' => ∃ v, e = .returned (.tuple #[v, .int .i64 0]) ∧ w'.ownsRow w.heap.size 5 1 v x.bytes.length (ub x.bytes) ∧ Below w.heap.size w w' := by
  have h := encode_any x.m x.ss x.bl x.pl x.cbl x.cpl x.ds x.vl w hM.at' hM.dig hM.dn
  have h0 : checkF x.m (carriedF x.m x.ss x.bl x.pl x.cbl x.cpl x.vl) = 0 := hI.check
  rw [h0] at h
  exact h
set_option maxRecDepth 100000 in
theorem sync_ok (bs : List Int) (sa : Option Addr) (n cap : Nat) (sy : Int) (w : World) (hn : n = bs.length) (hs : SliceAt w sa cap bs) (hl : bs.length ≤ 400000) (hy : 0 ≤ sy ∧ sy ≤ bs.length) :
    Calls Try.prog 16 #[.agg #[.slice sa n cap, .int .i64 sy]] w fun e w' => TapeIs w w' e bs bs.length 0 := by
  have h := tapeSync_any bs sa n cap sy w hn hs (by omega)
  have hk : tapeOk bs.length sy = true := tapeOk_iff.2 ⟨hl, hy.1, hy.2⟩
  rw [syncN, if_pos hk, syncF, if_pos hk, List.take_of_length_le (Nat.le_refl _)] at h
  exact h
set_option maxRecDepth 100000 in
theorem crash_ok (bs : List Int) (sa : Option Addr) (n cap : Nat) (sy keep : Int) (w : World) (hn : n = bs.length) (hs : SliceAt w sa cap bs) (hl : bs.length ≤ 400000) (hy : 0 ≤ sy ∧ sy ≤ bs.length) (hk : 0 ≤ keep ∧ keep ≤ 1000000) :
    Calls Try.prog 18 #[.agg #[.slice sa n cap, .int .i64 sy], .int .i64 keep] w fun e w' => TapeIs w w' e (bs.take (leftN bs.length sy keep)) (leftN bs.length sy keep) 0 := by
  have h := tapeCrash_any bs sa n cap sy keep w hn hs (by omega) (by omega) (by omega)
  have ht : tapeOk bs.length sy = true := tapeOk_iff.2 ⟨hl, hy.1, hy.2⟩
  rw [crashN, if_pos ⟨ht, hk.1⟩, crashF, if_pos ht, if_neg (by omega)] at h
  exact h
set_option maxRecDepth 100000 in
theorem crash_neg (bs : List Int) (sa : Option Addr) (n cap : Nat) (sy keep : Int) (w : World) (hn : n = bs.length) (hs : SliceAt w sa cap bs) (hl : bs.length ≤ 400000) (hy : 0 ≤ sy ∧ sy ≤ bs.length) (hk : keep < 0 ∧ -1000000 ≤ keep) :
    Calls Try.prog 18 #[.agg #[.slice sa n cap, .int .i64 sy], .int .i64 keep] w fun e w' => TapeIs w w' e [] 0 2 := by
  have h := tapeCrash_any bs sa n cap sy keep w hn hs (by omega) (by omega) (by omega)
  have ht : tapeOk bs.length sy = true := tapeOk_iff.2 ⟨hl, hy.1, hy.2⟩
  rw [crashN, if_neg (by omega), crashF, if_pos ht, if_pos hk.1] at h
  exact h
set_option maxRecDepth 100000 in
theorem tapeB_small {ms : List MV} {w : World} (h : ms.length ≤ 100) (hM : ∀ x ∈ ms, MAt w x ∧ IsRec x) : (tapeB ms).length ≤ 32500 := by
  have := tapeB_le ms (fun x hx => ((hM x hx).2.len (hM x hx).1.dn).2)
  omega
/-- A message that stands for none. -/
def noX : MV := ⟨⟨0, 0, 0, 0, 0, 0, 0, 0, 0, 0, 0, 0, none, none, none, none, none, none, none, 0, 0, 0, 0, 0, 0, 0, 0, 0, 0, 0, 0, 0, 0⟩, [], [], [], [], [], [], []⟩
end Go.Proofs.Ytcmlmmlcebemgaa

namespace Go.Proofs.Ytcmlmmlcebemgaa
open Go.RowKit

set_option maxRecDepth 100000 in
set_option maxHeartbeats 8000000 in
theorem tapeLong_walk (sa : Option Addr) (cap : Nat) (rs : List Rt) (w : World) (hr : RawTs w sa rs) (_hc : rs.length ≤ cap) :
    Calls Try.prog 7 #[.slice sa rs.length cap] w fun e w' => e = .returned (.bool true) ∧ Below w.heap.size w w' := by
  go_enter Try.func7, Try.ntmps7
  go_wp2_with fail
  refine (records_any rs sa _ cap w rfl hr).mono ?_
  intro e w1 hrec
  obtain ⟨ra, rc, ms, he, hlen, hrow, hM, hb1⟩ := recs_row hrec
  subst he
  dsimp only
  clear hrec
  have hm24 : ms.length ≤ 24 := by rw [hlen]; omega
  have HR : Hid (∀ W : World, Below w1.heap.size w1 W → MsRow W ra ms ∧ ∀ x ∈ ms, MAt W x ∧ IsRec x) := by
    show ∀ _, _
    intro W hW
    exact ⟨hrow.below hW, fun x hx => ⟨(hM x hx).1.below hW, (hM x hx).2⟩⟩
  have hL := tapeB_small (by omega) hM
  have hT := taped_any ms ra _ rc w1 rfl (by omega) hrow hM
  clear hlen hrow hM
  go_wp2_with fail
  refine hT.mono ?_
  rintro e w2 ⟨ta, tc, he, hS, -, hb2⟩
  subst he
  dsimp only
  clear hT
  have hB1 := hb1
  have hB2 := hb1.trans (hb2.mono hb1.size)
  have hP : Hid (∀ j, j < ms.length → (tapeB (ms.take (j + 1))).length = (tapeB (ms.take j)).length + (2 + (ms.getD j noX).bytes.length)) := by
    show ∀ _, _
    intro j hj
    rw [List.take_succ_eq_append_getElem hj, tapeB_snoc, List.length_append, onTape_len]
    simp [List.getD, hj]
  have hPm : Hid (∀ j, (tapeB (ms.take j)).length ≤ 32500) := by
    show ∀ _, _
    intro j
    exact tapeB_small (by rw [List.length_take]; omega) (fun x hx => (HR.out w1 (Below.refl _ _)).2 x (List.mem_of_mem_take hx))
  generalize hDq : tapeB ms = D at *
  have HD : Hid (tapeB ms = D) := hDq
  clear hDq
  go_upto_region 5 with fail
  have hA2 : Below w2.heap.size w2 (w2.alloc (.cells #[.slice ta D.length tc, .int .i64 0] 28)) := (Below.refl _ _).alloc (Nat.le_refl _) _
  have qT := heap_alloc_new w2 (.cells #[.slice ta D.length tc, .int .i64 0] 28)
  generalize hTB : w2.heap.size = TB at qT ⊢
  have HTB : Hid (w2.heap.size = TB) := hTB
  clear hTB
  generalize w2.alloc (.cells #[.slice ta D.length tc, .int .i64 0] 28) = W2 at hA2 qT ⊢
  have hB2A := hB2.trans (hA2.mono hB2.size)
  have h12 := hb2.trans (hA2.mono hb2.size)
  have hSA := hS.below hA2
  clear hS hA2 hB2 hb2
  go_loopw [7, 6] (fun j v wr => ∃ (k : Nat) (L : Nat), k ≤ ms.length ∧ j = .int .i64 k ∧ v = .int .i64 (L : Int) ∧ Hid (L = (tapeB (ms.take k)).length) ∧ L ≤ 32500 ∧ Below W2.heap.size W2 wr) (fun j _ _ => ms.length - (intOf j).toNat)
  case atStart => exact ⟨0, 0, Nat.zero_le _, rfl, rfl, rfl, by omega, Below.refl _ _⟩
  case round =>
    obtain ⟨k, L, hk, rfl, rfl, hLk, hLm, hbr⟩ := hrel
    have hbr1 := h12.trans (hbr.mono h12.size)
    by_cases hlt : k < ms.length
    · have hltI : (k : Int) < ms.length := by omega
      obtain ⟨hrw, hMw⟩ := HR.out wr hbr1
      obtain ⟨sb, so, rfl, hrow⟩ : ∃ sb so, ra = some ⟨sb, so, none⟩ ∧ ∀ (k : Nat) (hk : k < ms.length), wr.rangeAt sb (so + k * 19) (mcell (ms[k]).m) := by
        rcases hrw with h | h
        · rw [h] at hlt; simp at hlt
        · exact h
      have hrg := hrow k hlt
      have hxm := hMw (ms[k]) (List.getElem_mem hlt)
      have hst : Hid ((tapeB (ms.take (k + 1))).length = L + (2 + (ms[k]).bytes.length)) := by
        show _ = _
        rw [hP.out k hlt, hLk.out]
        simp [List.getD, hlt]
      have hm1 := hPm.out (k + 1)
      rw [hst.out] at hm1
      have hE := encode_rec (ms[k]) wr hxm.1 hxm.2
      clear hrow hrw hMw hxm
      generalize ms[k] = x at *
      have HE : Hid _ := hE
      go_wp2_with (refine wpList_load_mid rfl 47 _ rfl sb (so + k * 19) rfl (mcell x.m) _ hrg Try.underlying47 rfl sMsg' ?_)
      refine hE.mono ?_
      rintro e w3 ⟨v3, he, ho3, hb3⟩
      subst he
      dsimp only
      clear hE HE
      obtain ⟨xa, xc, hv, -, -⟩ := owns_form ho3
      subst hv
      clear ho3
      have hbr3 := hbr.trans (hb3.mono hbr.size)
      go_wp2_with fail
      go_roundw
      case rel => exact ⟨k + 1, L + (2 + x.bytes.length), by omega, by go_num, by go_num, hst.out.symm, hm1, hbr3⟩
      case measure => simp [intOf]; omega
    · obtain rfl : k = ms.length := by omega
      have hltI : ¬ (ms.length : Int) < ms.length := by omega
      obtain rfl : L = D.length := by rw [hLk.out, List.take_of_length_le (Nat.le_refl _), HD.out]
      clear hLk hP hPm HD HR h12
      have s0 := (hbr.block _ (lt_of_heap qT)).trans qT
      have hB3 := hB2A.trans (hbr.mono hB2A.size)
      have hS3 := hSA.below hbr
      have c0 : wr.cell? ⟨TB, 0, none⟩ = some (.slice ta D.length tc) := cells_at s0 0 _ rfl
      have c1 : wr.cell? ⟨TB, 1, none⟩ = some (.int .i64 0) := cells_at s0 1 _ rfl
      go_wp2_with fail
      refine (sync_ok D ta _ tc 0 wr rfl hS3 (by omega) ⟨by omega, by omega⟩).mono ?_
      rintro e w4 ⟨ya, yc, he, hS4, -, hb4⟩
      subst he
      dsimp only
      have hB4 := hB3.trans (hb4.mono hB3.size)
      have s4 := (hb4.block _ (lt_of_heap s0)).trans s0
      have hS34 := hS3.below hb4
      clear c0 c1
      go_wp2_with fail
      have hA4 : Below w4.heap.size w4 (w4.alloc (.cells #[.slice ya D.length yc, .int .i64 (D.length : Int)] 28)) := (Below.refl _ _).alloc (Nat.le_refl _) _
      have qU := heap_alloc_new w4 (.cells #[.slice ya D.length yc, .int .i64 (D.length : Int)] 28)
      have s4A := heap_keep (o := .cells #[.slice ya D.length yc, .int .i64 (D.length : Int)] 28) s4
      generalize w4.alloc (.cells #[.slice ya D.length yc, .int .i64 (D.length : Int)] 28) = W4 at hA4 qU s4A ⊢
      have hB4A := hB4.trans (hA4.mono hB4.size)
      have hC := crash_ok D ya _ yc D.length 0 W4 rfl (hS4.below hA4) (by omega) ⟨by omega, by omega⟩ ⟨by omega, by omega⟩
      rw [show leftN D.length D.length 0 = D.length by rw [leftN, if_neg (by omega)], List.take_of_length_le (Nat.le_refl _)] at hC
      refine hC.mono ?_
      rintro e w5 ⟨za, zc, he, hS5, -, hb5⟩
      subst he
      dsimp only
      clear hC
      have hB5 := hB4A.trans (hb5.mono hB4A.size)
      have s5 := (hb5.block _ (lt_of_heap s4A)).trans s4A
      have u5 := (hb5.block _ (lt_of_heap qU)).trans qU
      have hS35 := (hS34.below hA4).below hb5
      have cA0 : (w5.alloc (.cells #[.slice za D.length zc, .int .i64 (D.length : Int)] 28)).cell? ⟨TB, 0, none⟩ = some (.slice ta D.length tc) := cells_at (heap_keep s5) 0 _ rfl
      have cA1 : (w5.alloc (.cells #[.slice za D.length zc, .int .i64 (D.length : Int)] 28)).cell? ⟨TB, 1, none⟩ = some (.int .i64 0) := cells_at (heap_keep s5) 1 _ rfl
      go_wp2_with fail
      have hA5 : Below w5.heap.size w5 (w5.alloc (.cells #[.slice za D.length zc, .int .i64 (D.length : Int)] 28)) := (Below.refl _ _).alloc (Nat.le_refl _) _
      have qV := heap_alloc_new w5 (.cells #[.slice za D.length zc, .int .i64 (D.length : Int)] 28)
      have s5A := heap_keep (o := .cells #[.slice za D.length zc, .int .i64 (D.length : Int)] 28) s5
      have u5A := heap_keep (o := .cells #[.slice za D.length zc, .int .i64 (D.length : Int)] 28) u5
      generalize w5.alloc (.cells #[.slice za D.length zc, .int .i64 (D.length : Int)] 28) = W5 at hA5 qV s5A u5A cA0 cA1 ⊢
      have hB5A := hB5.trans (hA5.mono hB5.size)
      refine (crash_neg D ta _ tc 0 (-1) W5 rfl (hS35.below hA5) (by omega) ⟨by omega, by omega⟩ ⟨by omega, by omega⟩).mono ?_
      rintro e w6 ⟨ga, gc, he, -, -, hb6⟩
      subst he
      dsimp only
      have hB6 := hB5A.trans (hb6.mono hB5A.size)
      have hA6 : Below w6.heap.size w6 (w6.alloc (.cells #[.slice ga 0 gc, .int .i64 0] 28)) := (Below.refl _ _).alloc (Nat.le_refl _) _
      have s6 := heap_keep (o := .cells #[.slice ga 0 gc, .int .i64 0] 28) ((hb6.block _ (lt_of_heap s5A)).trans s5A)
      have u6 := heap_keep (o := .cells #[.slice ga 0 gc, .int .i64 0] 28) ((hb6.block _ (lt_of_heap u5A)).trans u5A)
      have v6 := heap_keep (o := .cells #[.slice ga 0 gc, .int .i64 0] 28) ((hb6.block _ (lt_of_heap qV)).trans qV)
      have hB6A := hB6.trans (hA6.mono hB6.size)
      have hE1 := same_eq D za ta _ _ zc tc _ rfl rfl (((hS5.below hA5).below hb6).below hA6) (((hS35.below hA5).below hb6).below hA6)
      have x0 := cells_at s6 0 _ rfl
      have x1 := cells_at u6 1 _ rfl
      have x2 := cells_at v6 0 _ rfl
      clear cA0 cA1
      go_wp2_with fail
      refine hE1.mono ?_
      rintro e w7 ⟨he, hb7⟩
      subst he
      dsimp only
      go_wp2_with fail
      go_ret
      exact ⟨rfl, by first | exact hB6A.trans (hb7.mono hB6A.size) | (subst hb7; exact hB6A)⟩
end Go.Proofs.Ytcmlmmlcebemgaa

namespace Go.Proofs.Ytcmlmmlcebemgaa.tapeLong
open Go.ChangeShapes Go.WideShapes Go.ChangeAt Go.RowKit

set_option maxRecDepth 100000 in
/-- What the walk gives, for every argument and every world. -/
theorem contract (H : Type) (enc : TypeId × Value → H) (W : World) (base : Nat) (args : Array Value) (ds gs : List (DataW H)) (before : List MemPlace)
    (hval : ∀ (j : Nat) t v, Try.f7.params[j]? = some t → args[j]? = some v → Value.okWide Try.prog W .any base t v)
    (hW : DataW.Whole enc Try.prog Try.f7.params.toList Rows.tapeLongSpec.vars false W args.toList ds gs before) (hsz : (DataW.weightsEach Try.prog (Try.f7.params.toList ++ (OpenSpec.ofChange Rows.tapeLongSpec).bare.plain.varTypes Try.prog) (ds ++ gs)).all (· ≤ reachBytes) = true) (_hL : laidMetH Try.prog Rows.tapeLongRow.laid W) :
    Calls Try.prog 7 args W fun e W' => ∃ v, e = .returned v ∧ Rows.tapeLongSpec.post enc Try.prog Try.f7 false true false false W args v W' := by
  have hW' := hW
  obtain ⟨p, q, hA0, hV, rfl, hfz, hnd⟩ := hW
  have hA : DataW.TrodAll enc Try.prog W 0 (fun _ => true) true Try.f7.params.toList args.toList ds p := hA0
  rw [Try.params7] at hA hval hsz
  obtain ⟨v0, vs0, d0, ds0, p0, q0, hargs, rfl, rfl, h0, r0⟩ := trodAll_cons hA
  obtain ⟨rfl, rfl, rfl⟩ := trodAll_nil r0
  obtain rfl : args = #[v0] := by cases args; simp_all
  obtain ⟨rfl, rfl⟩ := trodVars_none hV
  have k0 := h0
  have lt0 : ∀ x ∈ p0, x.block < W.heap.size := by obtain ⟨m, hm⟩ := k0; exact DataW.trod_lt m _ _ _ hm
  obtain ⟨sa0, cap0, rs0, rfl, q0_0, q0_1⟩ := open_rawts (hval 0 22 v0 rfl rfl) h0 (fit_each hsz (j := 0) rfl rfl)
  clear hA0
  refine (tapeLong_walk sa0 cap0 rs0 W q0_0 q0_1).mono fun e W' ⟨he, bel⟩ => ?_
  subst he
  exact ⟨_, rfl, _, _, _, [], _, [], hW', trodAll_mk1 (shut_bool Try.underlying4 _), (trodAll_cons_mk (Below.trod laidOut (by kernel_rfl) (of_decide_eq_true (by kernel_rfl)) k0 bel lt0) trodAll_mk0), rfl, bel.frame _, fun h => by cases h⟩

set_option maxRecDepth 100000 in
theorem laid_met (os : Os) : laidMet Try.prog Rows.tapeLongRow.laid ((World.holding Try.prog os ⟨#[], #[], []⟩).forCall (fun _ _ => 0) ⟨#[], #[.slice none 0 0], []⟩).memory :=
  laidMet_of_run' 8 (by kernel_rfl) (by kernel_rfl)
set_option maxRecDepth 100000 in
theorem reads (os : Os) {H : Type} (enc : TypeId × Value → H) : ∃ places, DataW.whole enc Try.prog ((World.holding Try.prog os ⟨#[], #[], []⟩).forCall (fun _ _ => 0) ⟨#[], #[.slice none 0 0], []⟩).memory Try.f7.params.toList Rows.tapeLongSpec.vars false (#[.slice none 0 0] : Array Value).toList 8 = some ([.nil], [], places) :=
  ⟨[], by kernel_rfl⟩

set_option maxRecDepth 100000 in
theorem lifted (os : Os) (started : os.Started) (H : Type) (enc : TypeId × Value → H) (F : Stop.Interp) :
    ReturnsInHanded {} Try.checked os 7 .any ((OpenSpec.ofChange Rows.tapeLongSpec).preRow enc Try.prog Try.f7 Rows.tapeLongRow.domain false Rows.tapeLongRow.laid) (((OpenSpec.ofChange Rows.tapeLongSpec).at F).post enc Try.prog Try.f7 false true false false) := by
  obtain ⟨places, hx⟩ := reads os enc
  refine returnsInHanded_of_row (C := Try.checked) (s := OpenSpec.ofChange Rows.tapeLongSpec) own started (by kernel_rfl) Try.func7
    (witness_row_at (enc := enc) (C := Try.checked) false (World.holding Try.prog os ⟨#[], #[], []⟩) #[.slice none 0 0] rfl (by kernel_rfl) (by kernel_rfl) (by kernel_rfl)
      (OpenSpec.preRow_of_cond 8 hx (by kernel_rfl) (fun k hk => by cases hk) (by kernel_rfl) (laid_met os))) ?_
  intro W base args ds gs before hval hW _ _ hsz hL _ _
  exact contract H enc W base args ds gs before hval hW hsz hL

set_option maxRecDepth 100000 in
theorem said : Rows.TapeLongSaid :=
  OpenClaim.holds_of_cond 7 Try.f7 rfl rfl rfl rfl rfl rfl rfl ⟨rfl, rfl, rfl, rfl, rfl⟩ rfl rfl rfl rfl rfl (by kernel_rfl) Try.func7 (by kernel_rfl)
    (of_decide_eq_true (by kernel_rfl)) (by unfold Func.isWrapper; first | (rw [if_pos (by decide +kernel)]; kernel_rfl) | (rw [if_neg (by decide +kernel)]; exact ⟨rfl, rfl⟩))
    (fun os started H enc _ F => by rw [OpenClaim.pre_eq_preRow]; exact lifted os started H enc F)

end Go.Proofs.Ytcmlmmlcebemgaa.tapeLong
namespace Go.Proofs.Ytcmlmmlcebemgaa
set_option maxRecDepth 100000 in
theorem tapeLong_holds : Rows.TapeLongSaid := tapeLong.said
#print axioms tapeLong_holds
end Go.Proofs.Ytcmlmmlcebemgaa
