/- The law sheaveslaw.WireBatchDigests answers true for every argument, and each argument reads behind the call as it read before: the tied card. Its conditions: the three tables of package blake hold what the program's text lays (the card ties that); the form's own reach. -/
import Derived.Test.YtcecjdoabnhcgaaDoorWireBatchDigestsM0
import Derived.Test.YtcecjdoabnhcgaaDoorApp
import Derived.Test.YtcecjdoabnhcgaaDoorSx
import Derived.Deep.RegionHeld2
import Derived.Test.YtcecjdoabnhcgaaDoorOpenB
import Derived.Deep.Strs
import Derived.Test.YtcecjdoabnhcgaaDoorOpen
import Derived.Test.YtcecjdoabnhcgaaDoorCards
import Derived.Test.YtcecjdoabnhcgaaDoorTie
import Derived.WalkKit
import Derived.ProofKit
import Derived.OpenShut
import Derived.Deep.DeepHandedRow
import Derived.SevenTiedAt
import Derived.Below
namespace Go.Proofs.YtcecjdoabnhcgaaDoor
open Go.RowKit

set_option maxRecDepth 100000 in
set_option maxHeartbeats 400000 in
theorem texts_any (ss : List ByteArray) (sa : Option Addr) (n cap : Nat) (w : World) (hn : n = ss.length) (hs : TextsAt w sa cap ss) :
    Calls Tryd.prog 26 #[.slice sa n cap] w fun e w' => ∃ ra rc, e = .returned (.slice ra ss.length rc) ∧ StrsAt w' ra ss ∧ Below w.heap.size w w' ∧ ∀ sb so, ra = some ⟨sb, so, none⟩ → w.heap.size ≤ sb := by
  obtain ⟨i, hi, hz0, hz1, hz2⟩ := info_parts infoStr
  have hle := hs.le
  have hre := hs.reach
  cases sa with
  | none =>
    obtain rfl := hs.nil rfl
    obtain rfl : ss = [] := List.eq_nil_of_length_eq_zero (by omega)
    subst hn
    go_enter Tryd.func26, Tryd.ntmps26
    go_wp2_with (at_builtin; refine wpList_append_own_none rfl _ _ 22 rfl w.heap.size 9 i 1 Tryd.underlying22 hi _ 0 [] rfl (World.ownsRow_nil _ _ _ _) rfl ?_)
    go_ret
    exact ⟨none, 0, rfl, hs.strs, Below.refl _ _, fun _ _ e => by cases e⟩
  | some ad =>
    have hcell : ∀ j u, (sv ss)[j]? = some u → w.cell? (ad.add j) = some u := by
      intro j u hu
      rcases hs.strs.cells with hb | ⟨sb, so, e, hb⟩
      · subst hb; simp [sv] at hu
      · cases e
        have hj : j < ss.length := by
          rcases Nat.lt_or_ge j ss.length with g | g
          · exact g
          · rw [List.getElem?_eq_none (by rw [sv_length]; exact g)] at hu; cases hu
        rw [add_off, hb j hj]
        simp [sv, hj] at hu
        simp [hj, hu]
    subst hn
    go_enter Tryd.func26, Tryd.ntmps26
    go_wp2_with (at_builtin; refine wpList_append_own _ rfl _ _ 22 rfl w.heap.size 9 i (.string ByteArray.empty) 1 16 Tryd.underlying22 hi hz0 hz1 hz2 rfl (by decide) _ 0 [] rfl (World.ownsRow_nil _ _ _ _) ad ss.length cap (sv ss) rfl (by rw [sv_length]; omega) hcell (sv_one ss) (by unfold maxLen; omega) (by omega) (Nat.le_refl _) ?_; intro v1 w1 ho1 hg1 _)
    obtain ⟨ra, rc, hv, hl, hsl, hfr⟩ := strsAt_of_owns ho1 hs.strs.size
    subst hv
    go_ret
    refine ⟨ra, rc, ?_, hsl, grown_none hg1, hfr⟩
    simp
set_option maxRecDepth 100000 in
set_option maxHeartbeats 400000 in
theorem batch_any (au nu : Int) (ss : List ByteArray) (sa : Option Addr) (n cap : Nat) (w : World) (hn : n = ss.length) (hs : TextsAt w sa cap ss) :
    Calls Tryd.prog 9 #[.agg #[.int .i64 au, .int .i64 nu, .slice sa n cap]] w fun e w' => ∃ ra rc, e = .returned (.agg #[.int .i64 au, .int .i64 nu, .slice ra ss.length rc]) ∧ StrsAt w' ra ss ∧ Below w.heap.size w w' := by
  subst hn
  go_enter Tryd.func9, Tryd.ntmps9
  go_wp2_with fail
  have hR : Below w.heap.size w ((w.alloc (.cells #[.int .i64 au, .int .i64 nu, .slice sa ss.length cap] 24)).alloc (.cells #[.int .i64 0, .int .i64 0, .slice none 0 0] 24)) := ((Below.refl _ _).alloc (Nat.le_refl _) _).alloc (by simp) _
  have q0 := row_new (below_alloc (Below.refl ((w.alloc (.cells #[.int .i64 au, .int .i64 nu, .slice sa ss.length cap] 24)).alloc (.cells #[.int .i64 0, .int .i64 0, .slice none 0 0] 24)).heap.size ((w.alloc (.cells #[.int .i64 au, .int .i64 nu, .slice sa ss.length cap] 24)).alloc (.cells #[.int .i64 0, .int .i64 0, .slice none 0 0] 24))))
  have k0 := cells_at q0 0 _ rfl
  have k1 := cells_at q0 1 _ rfl
  have k2 := cells_at q0 2 _ rfl
  go_region_held2 (fun w' => w'.cell? ⟨w.heap.size, 0, none⟩ = some (.int .i64 au) ∧ w'.cell? ⟨w.heap.size, 1, none⟩ = some (.int .i64 nu) ∧ w'.cell? ⟨w.heap.size, 2, none⟩ = some (.slice sa ss.length cap)) (go_keep) ((go_at_call 26; refine (texts_any ss sa _ cap _ rfl (hs.below ?_)).mono ?_; exact hR.drew; rintro e w1 ⟨ra, rc, rfl, hs1, hb1, hfr⟩; replace hb1 := below_drew hb1; have r1 := row_new hb1; have r0 := row_new (below_alloc hb1); rw [size_alloc] at r1; have c0 := cells_at r0 0 _ rfl; have c1 := cells_at r0 1 _ rfl; have c2 := cells_at r0 2 _ rfl; have d0 := cells_at r1 0 _ rfl; have d1 := cells_at r1 1 _ rfl; have d2 := cells_at r1 2 _ rfl; have f0 := frozen_at r1 0; have f1 := frozen_at r1 1; have f2 := frozen_at r1 2))
  all_goals
    go_wp2_with fail
    have hfr' : ∀ sb so, ra = some ⟨sb, so, none⟩ → w.heap.size + 1 ≠ sb := fun sb so e => by have := hfr sb so e; simp at this; omega
    refine bodyPost_ret (v := .agg #[.int .i64 au, .int .i64 nu, .slice ra ss.length rc]) (by simp [results, Tryd.results9, go_sem, d0, d1, d2]) rfl ⟨ra, rc, rfl, ?_, ?_⟩
    · exact ((hs1.setCell _ _ _ hfr').setCell _ _ _ hfr').setCell _ _ _ hfr'
    · exact (((below_alloc (below_alloc hb1)).setCell (by simp) _).setCell (by simp) _).setCell (by simp) _
end Go.Proofs.YtcecjdoabnhcgaaDoor

namespace Go.Proofs.YtcecjdoabnhcgaaDoor
open Go.ChangeShapes Go.WideShapes Go.ChangeAt Go.RowKit Go.Deep

set_option maxRecDepth 100000 in
theorem cBatch : Tryd.prog.cellsOf 24 = 3 := by kernel_rfl
set_option maxRecDepth 100000 in
theorem cStrs : Tryd.prog.cellsOf 22 = 1 := by kernel_rfl
set_option maxRecDepth 100000 in
theorem cInt' : Tryd.prog.cellsOf 3 = 1 := by kernel_rfl
set_option maxRecDepth 100000 in
theorem open_batch_cells {H : Type} {enc : TypeId × Value → H} {W : World} {fuel : Nat} {cs : List Value} {x : DataW H × List MemPlace}
    (hf : DataW.trod enc Tryd.prog W 0 (fun _ => true) true fuel 24 cs = some x) (hfit : ∀ n ∈ x.1.weights Tryd.prog 24, n ≤ reachBytes) :
    ∃ au nu sa cap ss, cs = [.int .i64 au, .int .i64 nu, .slice sa (List.length ss) cap] ∧ I64 au ∧ I64 nu ∧ TextsAt W sa cap ss := by
  obtain ⟨y0, y1, y2, n, rfl, hl, h0, h1, h2⟩ := trod_struct3 Tryd.underlying24 hf
  rw [cBatch] at hl
  match cs, hl with
  | [c0, c1, c2], _ =>
  obtain ⟨a, e0, rfl, wa⟩ := DataW.trod_int Tryd.underlying3 h0
  obtain ⟨b, e1, rfl, wb⟩ := DataW.trod_int Tryd.underlying3 h1
  obtain ⟨sa, cap, ss, e2, hs⟩ := open_texts_cells h2 (fun n hn => hfit n (by simp [DataW.weights, DataW.weightsEach, Tryd.underlying24, hn]))
  simp [cInt', cStrs] at e0 e1 e2
  subst e0 e1 e2
  exact ⟨a, b, sa, cap, ss, rfl, bounds_i64 wa, bounds_i64 wb, hs⟩
set_option maxRecDepth 100000 in
theorem open_batch {H : Type} {enc : TypeId × Value → H} {W : World} {base : Nat} {v : Value} {d : DataW H} {p : List MemPlace}
    (hv : Value.okWide Tryd.prog W .any base 24 v) (h : DataW.Trod enc Tryd.prog W 0 (fun _ => true) true 24 v d p) (hfit : ∀ n ∈ d.weights Tryd.prog 24, n ≤ reachBytes) :
    ∃ au nu sa cap ss, v = .agg #[.int .i64 au, .int .i64 nu, .slice sa (List.length ss) cap] ∧ I64 au ∧ I64 nu ∧ TextsAt W sa cap ss := by
  obtain ⟨cs, rfl, _⟩ := okWide_struct Tryd.underlying24 hv
  obtain ⟨fuel, hf⟩ := h
  obtain ⟨au, nu, sa, cap, ss, hcs, h1, h2, h3⟩ := open_batch_cells hf hfit
  refine ⟨au, nu, sa, cap, ss, ?_, h1, h2, h3⟩
  have : cs.toList = _ := hcs
  rw [← this]
end Go.Proofs.YtcecjdoabnhcgaaDoor

namespace Go.Proofs.YtcecjdoabnhcgaaDoor
open Go.RowKit

set_option maxRecDepth 100000 in
set_option maxHeartbeats 1000000 in
theorem wireBatchDigests_walk (au nu : Int) (sa : Option Addr) (cap : Nat) (ss : List ByteArray) (w : World) (_h1 : I64 au) (_h2 : I64 nu) (h3 : TextsAt w sa cap ss) (hT : Tabs w) :
    Calls Tryd.prog 3 #[.agg #[.int .i64 au, .int .i64 nu, .slice sa ss.length cap]] w fun e w' => e = .returned (.bool true) ∧ Below w.heap.size w w' := by
  have hA : Below w.heap.size w (w.alloc (.cells #[.int .i64 au, .int .i64 nu, .slice sa ss.length cap] 24)) := (Below.refl _ _).alloc (Nat.le_refl _) _
  have hle := h3.le
  have hre := h3.reach
  have hm : ss.length ≤ maxLen := by unfold maxLen; omega
  have hB := batch_any au nu ss sa ss.length cap _ rfl (h3.below hA)
  by_cases hF : batchF au nu ss = 0
  · obtain ⟨y1, y2, y3, y4⟩ := batchF_ok hF
    have HF : Hid _ := hF
    clear hF hm hle hre
    go_enter Tryd.func3, Tryd.ntmps3
    go_wp2_with fail
    refine hB.mono ?_
    rintro e w1 ⟨ra, rc, rfl, hs1, hb1⟩
    have r1 := row_new hb1
    replace hb1 := below_alloc hb1
    have hsb : ∀ sb so, ra = some ⟨sb, so, none⟩ → sb < w1.heap.size := fun sb so e => by
      rcases hs1.cells with h | ⟨sb', so', e', h⟩
      · rw [h] at y3; simp at y3
      · rw [e] at e'; cases e'; exact block_lt_of_cell (h 0 (by omega))
    have hD := batchDigest_ok au nu ra ss.length rc ss w1 rfl hs1 HF.out y1 ⟨by omega, y2.2⟩ y3.2 (fun s hs => (y4 s hs).2) hsb (hT.below hb1)
    clear hB hsb
    go_wp2_with fail
    refine hD.mono ?_
    rintro e w2 ⟨g, rfl, hg, hb2, hr2⟩
    have r2 := (hb2.block _ (lt_of_heap r1)).trans r1
    have hW2 := hb1.trans (hb2.mono hb1.size)
    have c0 : w2.cell? ⟨w.heap.size, 0, none⟩ = some (.int .i64 au) := cells_at r2 0 _ rfl
    have c1 : w2.cell? ⟨w.heap.size, 1, none⟩ = some (.int .i64 nu) := cells_at r2 1 _ rfl
    have c2 : w2.cell? ⟨w.heap.size, 2, none⟩ = some (.slice sa ss.length cap) := cells_at r2 2 _ rfl
    have hR := rBatchDigest_ok au nu sa ss.length cap ss w2 rfl ((h3.strs).below hW2) HF.out
    clear hD
    go_wp2_with fail
    refine hR.mono ?_
    rintro e w3 ⟨g', c', rfl, hr3, hb3⟩
    have t1 := run_text w3 _ 32 32 (tagD 1 (batchB au nu ss)) (tagD_length _ _).symm (hr2.below hb3)
    have t2 := run_text w3 _ 32 c' (tagD 1 (batchB au nu ss)) (tagD_length _ _).symm hr3
    have hW3 := hW2.trans (hb3.mono hW2.size)
    clear hR c0 c1 c2
    generalize bstr (tagD 1 (batchB au nu ss)) = S at *
    go_wp2_with fail
    go_ret
    exact ⟨by first | rfl | simp, hW3⟩
  · have hN : Hid (¬ batchF au nu ss = 0) := hF
    have hx : Hid (batchF au nu ss = batchF au nu ss) := rfl
    clear hF
    have hD : ∀ (wx : World) (ra : Option Addr) (rc : Nat), StrsAt wx ra ss → Calls Tryd.prog 8 #[.agg #[.int .i64 au, .int .i64 nu, .slice ra ss.length rc]] wx fun e w' => e = .returned (.tuple #[.slice none 0 0, .int .i64 (batchF au nu ss)]) ∧ Below wx.heap.size wx w' := fun wx ra rc h => batchDigest_bad au nu ra ss.length rc ss _ wx rfl hm h rfl hN.out
    have hR : ∀ (wx : World) (ra : Option Addr) (rc : Nat), StrsAt wx ra ss → Calls Tryd.prog 10 #[.agg #[.int .i64 au, .int .i64 nu, .slice ra ss.length rc]] wx fun e w' => e = .returned (.tuple #[.slice none 0 0, .int .i64 (batchF au nu ss)]) ∧ Below wx.heap.size wx w' := fun wx ra rc h => rBatchDigest_bad au nu ra ss.length rc ss _ wx rfl hm h rfl hN.out
    have HD : Hid _ := hD
    have HR : Hid _ := hR
    clear hD hR hm hle hre hx hN
    generalize batchF au nu ss = ec at *
    go_enter Tryd.func3, Tryd.ntmps3
    go_wp2_with fail
    refine hB.mono ?_
    rintro e w1 ⟨ra, rc, rfl, hs1, hb1⟩
    have r1 := row_new hb1
    replace hb1 := below_alloc hb1
    clear hB
    go_wp2_with fail
    refine (HD.out w1 ra rc hs1).mono ?_
    rintro e w2 ⟨rfl, hb2⟩
    have r2 := (hb2.block _ (lt_of_heap r1)).trans r1
    have hW2 := hb1.trans (hb2.mono hb1.size)
    have c0 : w2.cell? ⟨w.heap.size, 0, none⟩ = some (.int .i64 au) := cells_at r2 0 _ rfl
    have c1 : w2.cell? ⟨w.heap.size, 1, none⟩ = some (.int .i64 nu) := cells_at r2 1 _ rfl
    have c2 : w2.cell? ⟨w.heap.size, 2, none⟩ = some (.slice sa ss.length cap) := cells_at r2 2 _ rfl
    go_wp2_with fail
    refine (HR.out w2 sa cap ((h3.strs).below hW2)).mono ?_
    rintro e w3 ⟨rfl, hb3⟩
    have t1 := run_text w3 none 0 0 [] rfl ⟨Nat.le_refl _, by decide, .inl rfl, fun _ => rfl, .inl rfl⟩
    have hW3 := hW2.trans (hb3.mono hW2.size)
    clear c0 c1 c2
    go_wp2_with fail
    go_ret
    exact ⟨by first | rfl | simp, hW3⟩
end Go.Proofs.YtcecjdoabnhcgaaDoor

namespace Go.Proofs.YtcecjdoabnhcgaaDoor.wireBatchDigests
open Go.ChangeShapes Go.WideShapes Go.ChangeAt Go.RowKit

set_option maxRecDepth 100000 in
/-- What the walk gives, for every argument and every world that holds the tables. -/
theorem contract (H : Type) (enc : TypeId × Value → H) (W : World) (base : Nat) (args : Array Value) (ds gs : List (DataW H)) (before : List MemPlace)
    (hval : ∀ (j : Nat) t v, Tryd.f3.params[j]? = some t → args[j]? = some v → Value.okWide Tryd.prog W .any base t v)
    (hW : DataW.Whole enc Tryd.prog Tryd.f3.params.toList Rows.wireBatchDigestsSpec.vars false W args.toList ds gs before) (hsz : (DataW.weightsEach Tryd.prog (Tryd.f3.params.toList ++ (OpenSpec.ofChange Rows.wireBatchDigestsSpec).bare.plain.varTypes Tryd.prog) (ds ++ gs)).all (· ≤ reachBytes) = true) (hL : laidMetH Tryd.prog Rows.wireBatchDigestsRow.laid W) :
    Calls Tryd.prog 3 args W fun e W' => ∃ v, e = .returned v ∧ Rows.wireBatchDigestsSpec.post enc Tryd.prog Tryd.f3 false true false false W args v W' := by
  have hW' := hW
  obtain ⟨p, q, hA0, hV, rfl, hfz, hnd⟩ := hW
  have hA : DataW.TrodAll enc Tryd.prog W 0 (fun _ => true) true Tryd.f3.params.toList args.toList ds p := hA0
  rw [Tryd.params3] at hA hval hsz
  obtain ⟨v0, vs0, d0, ds0, p0, q0, hargs, rfl, rfl, h0, r0⟩ := trodAll_cons hA
  obtain ⟨rfl, rfl, rfl⟩ := trodAll_nil r0
  obtain rfl : args = #[v0] := by cases args; simp_all
  obtain ⟨rfl, rfl⟩ := trodVars_none hV
  have k0 := h0
  have lt0 : ∀ x ∈ p0, x.block < W.heap.size := by obtain ⟨m, hm⟩ := k0; exact DataW.trod_lt m _ _ _ hm
  obtain ⟨au0, nu0, sa0, cap0, ss0, rfl, q0_0, q0_1, q0_2⟩ := open_batch (hval 0 24 v0 rfl rfl) h0 (fit_each hsz (j := 0) rfl rfl)
  clear hA0
  have hT : Tabs W := tabs_of_laid (by kernel_rfl) (by kernel_rfl) (by kernel_rfl) hL
  refine (wireBatchDigests_walk au0 nu0 sa0 cap0 ss0 W q0_0 q0_1 q0_2 hT).mono fun e W' ⟨he, bel⟩ => ?_
  subst he
  exact ⟨_, rfl, _, _, _, [], _, [], hW', trodAll_mk1 (shut_bool Tryd.underlying4 _), (trodAll_cons_mk (Below.trod laidOut (by kernel_rfl) (of_decide_eq_true (by kernel_rfl)) k0 bel lt0) trodAll_mk0), rfl, bel.frame _, fun h => by cases h⟩

set_option maxRecDepth 100000 in
theorem laid_met (os : Os) : laidMet Tryd.prog Rows.wireBatchDigestsRow.laid ((layTabs (World.holding Tryd.prog os ⟨#[], #[], []⟩)).forCall (fun _ _ => 0) ⟨#[], #[.agg #[.int .i64 0, .int .i64 0, .slice none 0 0]], []⟩).memory :=
  laidMet_of_run' 8 (by kernel_rfl) (by kernel_rfl)
set_option maxRecDepth 100000 in
theorem reads (os : Os) {H : Type} (enc : TypeId × Value → H) : ∃ places, DataW.whole enc Tryd.prog ((layTabs (World.holding Tryd.prog os ⟨#[], #[], []⟩)).forCall (fun _ _ => 0) ⟨#[], #[.agg #[.int .i64 0, .int .i64 0, .slice none 0 0]], []⟩).memory Tryd.f3.params.toList Rows.wireBatchDigestsSpec.vars false (#[.agg #[.int .i64 0, .int .i64 0, .slice none 0 0]] : Array Value).toList 8 = some ([.agg [.lit (.int .i64 0), .lit (.int .i64 0), .nil]], [], places) :=
  ⟨[], by kernel_rfl⟩

set_option maxRecDepth 100000 in
theorem lifted (os : Os) (started : os.Started) (H : Type) (enc : TypeId × Value → H) (F : Stop.Interp) :
    ReturnsInHanded {} Tryd.checked os 3 .any ((OpenSpec.ofChange Rows.wireBatchDigestsSpec).preRow enc Tryd.prog Tryd.f3 Rows.wireBatchDigestsRow.domain false Rows.wireBatchDigestsRow.laid) (((OpenSpec.ofChange Rows.wireBatchDigestsSpec).at F).post enc Tryd.prog Tryd.f3 false true false false) := by
  obtain ⟨places, hx⟩ := reads os enc
  refine returnsInHanded_of_row (C := Tryd.checked) (s := OpenSpec.ofChange Rows.wireBatchDigestsSpec) own started (by kernel_rfl) Tryd.func3
    (witness_row_at (enc := enc) (C := Tryd.checked) false (layTabs (World.holding Tryd.prog os ⟨#[], #[], []⟩)) #[.agg #[.int .i64 0, .int .i64 0, .slice none 0 0]] rfl (by kernel_rfl) (by kernel_rfl) (by kernel_rfl)
      (OpenSpec.preRow_of_cond 8 hx (by kernel_rfl) (fun k hk => by cases hk) (by kernel_rfl) (laid_met os))) ?_
  intro W base args ds gs before hval hW _ _ hsz hL _ _
  exact contract H enc W base args ds gs before hval hW hsz hL

set_option maxRecDepth 100000 in
theorem said : Rows.WireBatchDigestsSaid :=
  OpenClaim.holds_of_cond 3 Tryd.f3 rfl rfl rfl rfl rfl rfl rfl ⟨rfl, rfl, rfl, rfl, rfl⟩ rfl rfl rfl rfl rfl (by kernel_rfl) Tryd.func3 (by kernel_rfl)
    (of_decide_eq_true (by kernel_rfl)) (by unfold Func.isWrapper; first | (rw [if_pos (by decide +kernel)]; kernel_rfl) | (rw [if_neg (by decide +kernel)]; exact ⟨rfl, rfl⟩))
    (fun os started H enc _ F => by rw [OpenClaim.pre_eq_preRow]; exact lifted os started H enc F)

set_option maxRecDepth 100000 in
theorem plain (f : FuncId) (fn : Func) (hf : Tryd.pinned.checked.prog.funcNamed Rows.wireBatchDigestsRow.func = some f) (hfn : Tryd.pinned.checked.prog.funcs[f]? = some fn) :
    false = Tryd.pinned.checked.prog.looks [] ∧ ∀ (j : Nat) t, fn.params[j]? = some t → Tryd.pinned.checked.prog.wantsStandIn t = false := by
  obtain rfl : f = 3 := Option.some.inj ((show Tryd.prog.funcNamed Rows.wireBatchDigestsRow.func = some 3 by kernel_rfl).symm.trans hf) |>.symm
  obtain rfl : fn = Tryd.f3 := (Option.some.inj (Tryd.func3.symm.trans hfn)).symm
  refine ⟨by kernel_rfl, fun j t ht => ?_⟩
  rw [Tryd.params3] at ht
  have hm : t = 24 := by simpa using Array.mem_of_getElem? ht
  rcases hm with rfl
  · exact (show Tryd.prog.wantsStandIn 24 = false by kernel_rfl)

set_option maxRecDepth 100000 in
/-- THE CARD. -/
theorem card : Rows.WireBatchDigestsCardSaid :=
  Claim7.holds_tied_plain_at .later [] _ _ _ _ said (fun _ h => by cases h) (by kernel_rfl) (fun _ h => by cases h) wireBatchDigests_row_tie rfl ⟨rfl, rfl⟩ (by kernel_rfl) rfl plain (by kernel_rfl)
end Go.Proofs.YtcecjdoabnhcgaaDoor.wireBatchDigests
namespace Go.Proofs.YtcecjdoabnhcgaaDoor
set_option maxRecDepth 100000 in
theorem wireBatchDigests_holds : Rows.WireBatchDigestsCardSaid := wireBatchDigests.card
#print axioms wireBatchDigests_holds
end Go.Proofs.YtcecjdoabnhcgaaDoor
