/- The law sheaveskeep.CrashJust answers true for every argument, and each argument reads behind the call as it read before: no condition but the form's own reach. -/
import Derived.Test.YtcmlmmlcebemgaaApp
import Derived.Test.YtcmlmmlcebemgaaCrashJustM36
import Derived.Test.YtcmlmmlcebemgaaCrashJustM30
import Derived.Test.YtcmlmmlcebemgaaPicked
import Derived.Test.YtcmlmmlcebemgaaRows
import Derived.Test.YtcmlmmlcebemgaaOpenB
import Derived.WalkKit
import Derived.ProofKit
import Derived.OpenShut
import Derived.Deep.DeepHandedRow
import Derived.SevenTiedAt
import Derived.Below
namespace Go.Proofs.Ytcmlmmlcebemgaa
open Go.RowKit

set_option maxRecDepth 100000 in
set_option maxHeartbeats 400000 in
theorem same_eq (bs : List Int) (sa sb : Option Addr) (n m c d : Nat) (w : World) (hn : n = bs.length) (hm : m = bs.length) (ha : SliceAt w sa c bs) (hb : SliceAt w sb d bs) :
    Calls Try.prog 21 #[.slice sa n c, .slice sb m d] w fun e w' => e = .returned (.bool true) ∧ w = w' := by
  have h1 := run_text w sa n c bs hn ha
  have h2 := run_text w sb m d bs hm hb
  clear hn hm ha hb
  go_enter Try.func21, Try.ntmps21
  go_wp2_with fail
  go_ret
  exact ⟨by simp, rfl⟩
end Go.Proofs.Ytcmlmmlcebemgaa

namespace Go.Proofs.Ytcmlmmlcebemgaa
open Go.RowKit

set_option maxRecDepth 100000 in
theorem recs_row {w w' : World} {e : Ending} {N : Nat} (h : RecsIs w w' e N) : ∃ (sa : Option Addr) (cap : Nat) (ms : List MV), e = .returned (.slice sa ms.length cap) ∧ ms.length = N ∧ MsRow w' sa ms ∧ (∀ x ∈ ms, MAt w' x ∧ IsRec x) ∧ Below w.heap.size w w' := by
  obtain ⟨v, ms, he, hl, ho, ha, hb⟩ := h.out
  obtain ⟨sa, cap, rfl, -, -, -, hr⟩ := msRow_of_owns ho
  exact ⟨sa, cap, ms, he, hl, hr, fun x hx => ⟨(ha x hx).1, (ha x hx).2.1⟩, hb⟩
set_option maxRecDepth 100000 in
theorem encode_rec (x : MV) (w : World) (hM : MAt w x) (hI : IsRec x) :
    Calls Try.prog 25 #[.agg #[.int .i64 x.m.fr, .int .i64 x.m.tt, .int .i64 x.m.ki, .int .i64 x.m.bau, .int .i64 x.m.bnu, .slice x.m.bta x.m.btn x.m.btc, .int .i64 x.m.hau, .int .i64 x.m.hrd, .slice x.m.hba x.m.hbn x.m.hbc, .slice x.m.hpa x.m.hpn x.m.hpc, .int .i64 x.m.sau, .int .i64 x.m.srd, .slice x.m.sda x.m.sdn x.m.sdc, .int .i64 x.m.cau, .int .i64 x.m.crd, .slice x.m.cba x.m.cbn x.m.cbc, .slice x.m.cpa x.m.cpn x.m.cpc, .slice x.m.cva x.m.cvn x.m.cvc, .int .i64 x.m.ro]] w fun e w' => ∃ v, e = .returned (.tuple #[v, .int .i64 0]) ∧ w'.ownsRow w.heap.size 5 1 v x.bytes.length (ub x.bytes) ∧ Below w.heap.size w w' := by
  have h := encode_any x.m x.ss x.bl x.pl x.cbl x.cpl x.ds x.vl w hM.at' hM.dig hM.dn
  have h0 : checkF x.m (carriedF x.m x.ss x.bl x.pl x.cbl x.cpl x.vl) = 0 := hI.check
  rw [h0] at h
  exact h
set_option maxRecDepth 100000 in
theorem sync_ok (bs : List Int) (sa : Option Addr) (n cap : Nat) (sy : Int) (w : World) (hn : n = bs.length) (hs : SliceAt w sa cap bs) (hl : bs.length ≤ 400000) (hy : 0 ≤ sy ∧ sy ≤ bs.length) :
    Calls Try.prog 16 #[.agg #[.slice sa n cap, .int .i64 sy]] w fun e w' => TapeIs w w' e bs bs.length 0 := by
  have h := tapeSync_any bs sa n cap sy w hn hs (by omega)
  have hk : tapeOk bs.length sy = true := tapeOk_iff.2 ⟨hl, hy.1, hy.2⟩
  rw [syncN, if_pos hk, syncF, if_pos hk, List.take_of_length_le (Nat.le_refl _)] at h
  exact h
set_option maxRecDepth 100000 in
theorem crash_ok (bs : List Int) (sa : Option Addr) (n cap : Nat) (sy keep : Int) (w : World) (hn : n = bs.length) (hs : SliceAt w sa cap bs) (hl : bs.length ≤ 400000) (hy : 0 ≤ sy ∧ sy ≤ bs.length) (hk : 0 ≤ keep ∧ keep ≤ 1000000) :
    Calls Try.prog 18 #[.agg #[.slice sa n cap, .int .i64 sy], .int .i64 keep] w fun e w' => TapeIs w w' e (bs.take (leftN bs.length sy keep)) (leftN bs.length sy keep) 0 := by
  have h := tapeCrash_any bs sa n cap sy keep w hn hs (by omega) (by omega) (by omega)
  have ht : tapeOk bs.length sy = true := tapeOk_iff.2 ⟨hl, hy.1, hy.2⟩
  rw [crashN, if_pos ⟨ht, hk.1⟩, crashF, if_pos ht, if_neg (by omega)] at h
  exact h
set_option maxRecDepth 100000 in
theorem crash_neg (bs : List Int) (sa : Option Addr) (n cap : Nat) (sy keep : Int) (w : World) (hn : n = bs.length) (hs : SliceAt w sa cap bs) (hl : bs.length ≤ 400000) (hy : 0 ≤ sy ∧ sy ≤ bs.length) (hk : keep < 0 ∧ -1000000 ≤ keep) :
    Calls Try.prog 18 #[.agg #[.slice sa n cap, .int .i64 sy], .int .i64 keep] w fun e w' => TapeIs w w' e [] 0 2 := by
  have h := tapeCrash_any bs sa n cap sy keep w hn hs (by omega) (by omega) (by omega)
  have ht : tapeOk bs.length sy = true := tapeOk_iff.2 ⟨hl, hy.1, hy.2⟩
  rw [crashN, if_neg (by omega), crashF, if_pos ht, if_pos hk.1] at h
  exact h
set_option maxRecDepth 100000 in
theorem tapeB_small {ms : List MV} {w : World} (h : ms.length ≤ 100) (hM : ∀ x ∈ ms, MAt w x ∧ IsRec x) : (tapeB ms).length ≤ 32500 := by
  have := tapeB_le ms (fun x hx => ((hM x hx).2.len (hM x hx).1.dn).2)
  omega
/-- A message that stands for none. -/
def noX : MV := ⟨⟨0, 0, 0, 0, 0, 0, 0, 0, 0, 0, 0, 0, none, none, none, none, none, none, none, 0, 0, 0, 0, 0, 0, 0, 0, 0, 0, 0, 0, 0, 0⟩, [], [], [], [], [], [], []⟩
end Go.Proofs.Ytcmlmmlcebemgaa

namespace Go.Proofs.Ytcmlmmlcebemgaa
open Go.RowKit

set_option maxRecDepth 100000 in
set_option maxHeartbeats 1000000 in
theorem crashJust_walk (sa : Option Addr) (cap : Nat) (rs : List Rt) (at_ keep : Int) (w : World) (hr : RawTs w sa rs) (_hc : rs.length ≤ cap) (ha1 : -9223372036854775808 ≤ at_) (ha2 : at_ ≤ 9223372036854775807) (hk1 : -9223372036854775808 ≤ keep) (hk2 : keep ≤ 9223372036854775807) :
    Calls Try.prog 8 #[.slice sa rs.length cap, .int .i64 at_, .int .i64 keep] w fun e w' => e = .returned (.bool true) ∧ Below w.heap.size w w' := by
  obtain ⟨pk0, pk1⟩ := pk_bounds keep 900 (by decide)
  go_enter Try.func8, Try.ntmps8
  go_wp2_with fail
  refine (records_any rs sa _ cap w rfl hr).mono ?_
  intro e w1 hrec
  obtain ⟨ra, rc, ms, he, hlen, hrow, hM, hb1⟩ := recs_row hrec
  subst he
  dsimp only
  clear hrec
  have hm24 : ms.length ≤ 24 := by rw [hlen]; omega
  have hL := tapeB_small (by omega) hM
  have hT := taped_any ms ra _ rc w1 rfl (by omega) hrow hM
  clear hlen hrow hM
  go_wp2_with fail
  refine hT.mono ?_
  rintro e w2 ⟨ta, tc, he, hS, -, hb2⟩
  subst he
  dsimp only
  clear hT
  have hB2 := hb1.trans (hb2.mono hb1.size)
  generalize tapeB ms = D at *
  obtain ⟨pa0, pa1⟩ := pk_bounds at_ ((D.length : Int) + 1) (by omega)
  have hA2 : Below w2.heap.size w2 (w2.alloc (.cells #[.slice ta D.length tc, .int .i64 0] 28)) := (Below.refl _ _).alloc (Nat.le_refl _) _
  have qT := heap_alloc_new w2 (.cells #[.slice ta D.length tc, .int .i64 0] 28)
  have hwl : IntKind.i64.wrap ((D.length : Int) + 1) = (D.length : Int) + 1 := by rw [IntKind.wrap_i64]; omega
  go_upto_region 4 with (go_at_call 14; refine (picked_any _ _ _ (by omega) (by omega) (by omega) (by omega)).mono ?_; rintro e w9 ⟨rfl, rfl⟩)
  generalize pk at_ ((D.length : Int) + 1) = S at *
  generalize pk keep 900 = KP at *
  clear hA2 qT hwl
  have hA2 : Below w2.heap.size w2 (w2.alloc (.cells #[.slice ta D.length tc, .int .i64 S] 28)) := (Below.refl _ _).alloc (Nat.le_refl _) _
  have qT := heap_alloc_new w2 (.cells #[.slice ta D.length tc, .int .i64 S] 28)
  generalize hTB : w2.heap.size = TB at qT ⊢
  clear hTB
  generalize w2.alloc (.cells #[.slice ta D.length tc, .int .i64 S] 28) = W2 at hA2 qT ⊢
  have hB2A := hB2.trans (hA2.mono hB2.size)
  have hSA := hS.below hA2
  have hC := crash_ok D ta _ tc S KP W2 rfl hSA (by omega) ⟨by omega, by omega⟩ ⟨by omega, by omega⟩
  have hN1 : leftN D.length S KP ≤ D.length := leftN_le pa0
  have hN2 : Hid (S + KP ≤ D.length → (leftN D.length S KP : Int) = S + KP) := by show _ → _; intro h; unfold leftN; split <;> omega
  have hN3 : Hid (¬ S + KP ≤ D.length → (leftN D.length S KP : Int) = D.length) := by show _ → _; intro h; unfold leftN; split <;> omega
  have hlT : (D.take (leftN D.length S KP)).length = leftN D.length S KP := by rw [List.length_take]; omega
  clear hS hA2 hb1 hb2 hB2
  generalize leftN D.length S KP = N at *
  have HlT : Hid ((D.take N).length = N) := hlT
  clear hlT
  have c0 : W2.cell? ⟨TB, 0, none⟩ = some (.slice ta D.length tc) := cells_at qT 0 _ rfl
  have c1 : W2.cell? ⟨TB, 1, none⟩ = some (.int .i64 S) := cells_at qT 1 _ rfl
  go_wp2_with fail
  refine hC.mono ?_
  rintro e w3 ⟨ya, yc, he, hS3, -, hb3⟩
  rw [HlT.out] at he
  subst he
  dsimp only
  clear hC c0 c1
  have hB3 := hB2A.trans (hb3.mono hB2A.size)
  have s3 := (hb3.block _ (lt_of_heap qT)).trans qT
  have hSA3 := hSA.below hb3
  have hA3 : Below w3.heap.size w3 (w3.alloc (.cells #[.slice ya N yc, .int .i64 (N : Int)] 28)) := (Below.refl _ _).alloc (Nat.le_refl _) _
  have qU := heap_alloc_new w3 (.cells #[.slice ya N yc, .int .i64 (N : Int)] 28)
  have s3A := heap_keep (o := .cells #[.slice ya N yc, .int .i64 (N : Int)] 28) s3
  have cA0 : (w3.alloc (.cells #[.slice ya N yc, .int .i64 (N : Int)] 28)).cell? ⟨TB, 0, none⟩ = some (.slice ta D.length tc) := cells_at s3A 0 _ rfl
  have cA1 : (w3.alloc (.cells #[.slice ya N yc, .int .i64 (N : Int)] 28)).cell? ⟨TB, 1, none⟩ = some (.int .i64 S) := cells_at s3A 1 _ rfl
  have hNI : (N : Int) ≤ D.length := by omega
  have hN0 : (0 : Int) ≤ N := by omega
  have hw1 : IntKind.i64.wrap (S + KP) = S + KP := by rw [IntKind.wrap_i64]; omega
  have hw2 : IntKind.i64.wrap (-1 - KP) = -1 - KP := by rw [IntKind.wrap_i64]; omega
  go_upto_region 5 with fail
  go_cut [12] (fun v wx => v = .int .i64 (N : Int) ∧ w3.alloc (.cells #[.slice ya N yc, .int .i64 (N : Int)] 28) = wx)
  case first =>
    by_cases hm : S + KP ≤ D.length
    · have hE := hN2.out (by omega)
      have HE : Hid ((N : Int) = S + KP) := hE
      clear hE
      go_wp2_with fail
      go_meet
      case rel => exact ⟨by rw [HE.out], rfl⟩
    · have hE := hN3.out (by omega)
      have HE : Hid ((N : Int) = D.length) := hE
      clear hE
      go_wp2_with fail
      go_meet
      case rel => exact ⟨by rw [HE.out], rfl⟩
  case rest =>
    obtain ⟨rfl, rfl⟩ := hcut
    generalize hUB : w3.heap.size = UB at qU ⊢
    clear hUB
    generalize w3.alloc (.cells #[.slice ya N yc, .int .i64 (N : Int)] 28) = W3 at hA3 qU s3A cA0 cA1 ⊢
    have hB3A := hB3.trans (hA3.mono hB3.size)
    have hSA3A := hSA3.below hA3
    have hS3A := hS3.below hA3
    apply_assumption
    go_wp2_with fail
    refine (crash_neg D ta _ tc S (-1 - KP) W3 rfl hSA3A (by omega) ⟨by omega, by omega⟩ ⟨by omega, by omega⟩).mono ?_
    rintro e w4 ⟨ga, gc, he, -, -, hb4⟩
    subst he
    dsimp only
    have hB4 := hB3A.trans (hb4.mono hB3A.size)
    have hA4 : Below w4.heap.size w4 (w4.alloc (.cells #[.slice ga 0 gc, .int .i64 0] 28)) := (Below.refl _ _).alloc (Nat.le_refl _) _
    have s4 := heap_keep (o := .cells #[.slice ga 0 gc, .int .i64 0] 28) ((hb4.block _ (lt_of_heap s3A)).trans s3A)
    have u4 := heap_keep (o := .cells #[.slice ga 0 gc, .int .i64 0] 28) ((hb4.block _ (lt_of_heap qU)).trans qU)
    have hB4A := hB4.trans (hA4.mono hB4.size)
    have hSl := (((hSA3A.below hb4).below hA4).takeT N tc hN1 (by have := hSA.le; omega) (Nat.le_refl _) hSA.nil)
    have HSm : Hid (∀ W : World, Below (w4.alloc (.cells #[.slice ga 0 gc, .int .i64 0] 28)).heap.size (w4.alloc (.cells #[.slice ga 0 gc, .int .i64 0] 28)) W → Calls Try.prog 21 #[.slice ya N yc, .slice ta N tc] W fun e w' => e = .returned (.bool true) ∧ W = w') := by
      show ∀ _, _
      intro W hW
      exact same_eq (D.take N) ya ta _ _ yc tc W HlT.out.symm HlT.out.symm (((hS3A.below hb4).below hA4).below hW) (hSl.below hW)
    have htc : (N : Int) ≤ tc := by have := hSA.le; omega
    have x0 := cells_at s4 0 _ rfl
    have y0 := cells_at u4 0 _ rfl
    have y1 := cells_at u4 1 _ rfl
    clear cA0 cA1 hSl hSA hSA3 hSA3A hS3 hS3A hN2 hN3
    go_wp2_with fail
    generalize w4.alloc (.cells #[.slice ga 0 gc, .int .i64 0] 28) = W4 at hA4 s4 u4 hB4A HSm x0 y0 y1 ⊢
    go_region_held3 (fun w' => w'.cell? ⟨TB, 0, none⟩ = some (.slice ta D.length tc) ∧ w'.cell? ⟨UB, 0, none⟩ = some (.slice ya N yc) ∧ w'.cell? ⟨UB, 1, none⟩ = some (.int .i64 (N : Int))) (go_keep) ((go_at_call 21; refine (HSm.out _ ((Below.refl _ _).drew)).mono ?_; rintro e w9 ⟨rfl, rfl⟩))
    all_goals
      go_wp2_with fail
      go_ret
      exact ⟨rfl, hB4A.drew⟩
end Go.Proofs.Ytcmlmmlcebemgaa

namespace Go.Proofs.Ytcmlmmlcebemgaa.crashJust
open Go.ChangeShapes Go.WideShapes Go.ChangeAt Go.RowKit

set_option maxRecDepth 100000 in
/-- What the walk gives, for every argument and every world. -/
theorem contract (H : Type) (enc : TypeId × Value → H) (W : World) (base : Nat) (args : Array Value) (ds gs : List (DataW H)) (before : List MemPlace)
    (hval : ∀ (j : Nat) t v, Try.f8.params[j]? = some t → args[j]? = some v → Value.okWide Try.prog W .any base t v)
    (hW : DataW.Whole enc Try.prog Try.f8.params.toList Rows.crashJustSpec.vars false W args.toList ds gs before) (hsz : (DataW.weightsEach Try.prog (Try.f8.params.toList ++ (OpenSpec.ofChange Rows.crashJustSpec).bare.plain.varTypes Try.prog) (ds ++ gs)).all (· ≤ reachBytes) = true) (_hL : laidMetH Try.prog Rows.crashJustRow.laid W) :
    Calls Try.prog 8 args W fun e W' => ∃ v, e = .returned v ∧ Rows.crashJustSpec.post enc Try.prog Try.f8 false true false false W args v W' := by
  have hW' := hW
  obtain ⟨p, q, hA0, hV, rfl, hfz, hnd⟩ := hW
  have hA : DataW.TrodAll enc Try.prog W 0 (fun _ => true) true Try.f8.params.toList args.toList ds p := hA0
  rw [Try.params8] at hA hval hsz
  obtain ⟨v0, vs0, d0, ds0, p0, q0, hargs, rfl, rfl, h0, r0⟩ := trodAll_cons hA
  obtain ⟨v1, vs1, d1, ds1, p1, q1, rfl, rfl, rfl, h1, r1⟩ := trodAll_cons r0
  obtain ⟨v2, vs2, d2, ds2, p2, q2, rfl, rfl, rfl, h2, r2⟩ := trodAll_cons r1
  obtain ⟨rfl, rfl, rfl⟩ := trodAll_nil r2
  obtain rfl : args = #[v0, v1, v2] := by cases args; simp_all
  obtain ⟨rfl, rfl⟩ := trodVars_none hV
  have k0 := h0
  have lt0 : ∀ x ∈ p0, x.block < W.heap.size := by obtain ⟨m, hm⟩ := k0; exact DataW.trod_lt m _ _ _ hm
  obtain ⟨sa0, cap0, rs0, rfl, q0_0, q0_1⟩ := open_rawts (hval 0 22 v0 rfl rfl) h0 (fit_each hsz (j := 0) rfl rfl)
  obtain ⟨a1, rfl, rfl, rfl, w1⟩ := open_int Try.underlying3 (hval 1 3 v1 rfl rfl) h1
  obtain ⟨lo1, hi1⟩ := bounds_i64 w1
  obtain ⟨a2, rfl, rfl, rfl, w2⟩ := open_int Try.underlying3 (hval 2 3 v2 rfl rfl) h2
  obtain ⟨lo2, hi2⟩ := bounds_i64 w2
  clear hA0
  refine (crashJust_walk sa0 cap0 rs0 a1 a2 W q0_0 q0_1 lo1 hi1 lo2 hi2).mono fun e W' ⟨he, bel⟩ => ?_
  subst he
  exact ⟨_, rfl, _, _, _, [], _, [], hW', trodAll_mk1 (shut_bool Try.underlying4 _), (trodAll_cons_mk (Below.trod laidOut (by kernel_rfl) (of_decide_eq_true (by kernel_rfl)) k0 bel lt0) (trodAll_cons_mk (shut_int Try.underlying3 w1) (trodAll_cons_mk (shut_int Try.underlying3 w2) trodAll_mk0))), rfl, bel.frame _, fun h => by cases h⟩

set_option maxRecDepth 100000 in
theorem laid_met (os : Os) : laidMet Try.prog Rows.crashJustRow.laid ((World.holding Try.prog os ⟨#[], #[], []⟩).forCall (fun _ _ => 0) ⟨#[], #[.slice none 0 0, .int .i64 0, .int .i64 0], []⟩).memory :=
  laidMet_of_run' 8 (by kernel_rfl) (by kernel_rfl)
set_option maxRecDepth 100000 in
theorem reads (os : Os) {H : Type} (enc : TypeId × Value → H) : ∃ places, DataW.whole enc Try.prog ((World.holding Try.prog os ⟨#[], #[], []⟩).forCall (fun _ _ => 0) ⟨#[], #[.slice none 0 0, .int .i64 0, .int .i64 0], []⟩).memory Try.f8.params.toList Rows.crashJustSpec.vars false (#[.slice none 0 0, .int .i64 0, .int .i64 0] : Array Value).toList 8 = some ([.nil, .lit (.int .i64 0), .lit (.int .i64 0)], [], places) :=
  ⟨[], by kernel_rfl⟩

set_option maxRecDepth 100000 in
theorem lifted (os : Os) (started : os.Started) (H : Type) (enc : TypeId × Value → H) (F : Stop.Interp) :
    ReturnsInHanded {} Try.checked os 8 .any ((OpenSpec.ofChange Rows.crashJustSpec).preRow enc Try.prog Try.f8 Rows.crashJustRow.domain false Rows.crashJustRow.laid) (((OpenSpec.ofChange Rows.crashJustSpec).at F).post enc Try.prog Try.f8 false true false false) := by
  obtain ⟨places, hx⟩ := reads os enc
  refine returnsInHanded_of_row (C := Try.checked) (s := OpenSpec.ofChange Rows.crashJustSpec) own started (by kernel_rfl) Try.func8
    (witness_row_at (enc := enc) (C := Try.checked) false (World.holding Try.prog os ⟨#[], #[], []⟩) #[.slice none 0 0, .int .i64 0, .int .i64 0] rfl (by kernel_rfl) (by kernel_rfl) (by kernel_rfl)
      (OpenSpec.preRow_of_cond 8 hx (by kernel_rfl) (fun k hk => by cases hk) (by kernel_rfl) (laid_met os))) ?_
  intro W base args ds gs before hval hW _ _ hsz hL _ _
  exact contract H enc W base args ds gs before hval hW hsz hL

set_option maxRecDepth 100000 in
theorem said : Rows.CrashJustSaid :=
  OpenClaim.holds_of_cond 8 Try.f8 rfl rfl rfl rfl rfl rfl rfl ⟨rfl, rfl, rfl, rfl, rfl⟩ rfl rfl rfl rfl rfl (by kernel_rfl) Try.func8 (by kernel_rfl)
    (of_decide_eq_true (by kernel_rfl)) (by unfold Func.isWrapper; first | (rw [if_pos (by decide +kernel)]; kernel_rfl) | (rw [if_neg (by decide +kernel)]; exact ⟨rfl, rfl⟩))
    (fun os started H enc _ F => by rw [OpenClaim.pre_eq_preRow]; exact lifted os started H enc F)

end Go.Proofs.Ytcmlmmlcebemgaa.crashJust
namespace Go.Proofs.Ytcmlmmlcebemgaa
set_option maxRecDepth 100000 in
theorem crashJust_holds : Rows.CrashJustSaid := crashJust.said
#print axioms crashJust_holds
end Go.Proofs.Ytcmlmmlcebemgaa
