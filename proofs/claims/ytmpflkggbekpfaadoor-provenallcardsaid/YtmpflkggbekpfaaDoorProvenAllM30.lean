/- The law sheaveskeep.ProvenAll answers true for every argument, and each argument reads behind the call as it read before: the tied card. Its conditions: the three tables of package blake hold what the program's text lays (the card ties that); the form's own reach. -/
import Derived.Test.YtmpflkggbekpfaaDoorProvenAllM24
import Derived.Test.YtmpflkggbekpfaaDoorRows
import Derived.Test.YtmpflkggbekpfaaDoorK
import Derived.Test.YtmpflkggbekpfaaDoorOpenB
import Derived.Lib.LaidTab
import Derived.OpenShut
import Derived.Stop.LaidErr
import Derived.Test.YtmpflkggbekpfaaDoorProvenAllM0
import Derived.ProofKit
import Derived.Test.YtmpflkggbekpfaaDoorCards
import Derived.Test.YtmpflkggbekpfaaDoorTie
import Derived.WalkKit
import Derived.Deep.DeepHandedRow
import Derived.SevenTiedAt
import Derived.Below
namespace Go.Proofs.YtmpflkggbekpfaaDoor
open Go.RowKit

set_option maxRecDepth 100000 in
theorem headerF_authorL {au au' rd : Int} {bl pl : List Part} (h : headerF au rd bl pl = 0) (ha : 0 ≤ au' ∧ au' < 4) : headerF au' rd bl pl = 0 := by
  obtain ⟨z1, z2, z3, z4, _, _⟩ := headerF_ok h
  unfold headerF at h ⊢
  rw [if_neg (by omega)] at h ⊢
  exact h
set_option maxRecDepth 100000 in
theorem prov_sgLL {au rd bad : Int} {bl pl : List Part} {nodes vl : List Int} (hF : headerF au rd bl pl = 0) (hn : ∀ x ∈ nodes, 0 ≤ x ∧ x < 4) (hb : -1 ≤ bad ∧ bad ≤ 3) :
    provF (sgL au rd (hDig au rd bl pl) nodes) bad au rd 0 (hDig au rd bl pl) vl = if ((decide (au ≠ bad) && !decide (au ∈ nodes)) || vl.any fun nd => decide (nd ≠ bad) && !decide (nd ∈ nodes)) then 11 else 0 := by
  have h : lacksF (sgL au rd (hDig au rd bl pl) nodes) bad au rd (hDig au rd bl pl) = fun nd => decide (nd ≠ bad) && !decide (nd ∈ nodes) := by
    funext nd; exact lacks_sgL _ _ _ _ _ _
  rw [provF, if_neg (by simpa using setF_ok (bad := bad) (sgL_ok hF hn) hb), if_neg (by decide), h]
set_option maxRecDepth 100000 in
theorem certF_ofL {au rd : Int} {bl pl : List Part} {vl : List Int} (hF : headerF au rd bl pl = 0) (hv : votersF vl = 0) (hl : vl.length ≤ 4) : certF au rd bl pl vl = 0 := by
  rw [certF, if_neg (by simpa using hF), if_neg (by omega), hv]
end Go.Proofs.YtmpflkggbekpfaaDoor

namespace Go.Proofs.YtmpflkggbekpfaaDoor
open Go.RowKit

set_option maxRecDepth 100000 in
theorem ints_cells {w : World} {ad : Addr} {vl : List Int} (h : IntsAt w (some ad) vl) : ∀ j u, (iv vl)[j]? = some u → w.cell? (ad.add j) = some u := by
  intro j u hu
  have hj : j < vl.length := by
    rcases Nat.lt_or_ge j vl.length with h | h
    · exact h
    · rw [List.getElem?_eq_none (by rw [iv_length]; exact h)] at hu; cases hu
  rcases h.cells with h | ⟨sb, so, e, hc⟩
  · rw [h] at hj; simp at hj
  · cases e
    have e2 := hc j hj
    simp only [iv, List.getElem?_map, List.getElem?_eq_getElem hj, Option.map_some, Option.some.injEq] at hu
    subst hu
    rw [add_off, e2]
    simp [List.getD, hj]
set_option maxRecDepth 100000 in
theorem cells_ofI {w : World} {b : Nat} {c : List Value} {e : TypeId} (h : w.heap[b]? = some (.cells c.toArray e (0, 0))) : ∀ j u, c[j]? = some u → w.cell? ((⟨b, 0, none⟩ : Addr).add j) = some u := by
  intro j u hu
  rw [add_off]
  refine cells_at h _ _ ?_
  simpa using hu
set_option maxRecDepth 100000 in
theorem sgL_grow (au rd : Int) (dg l m : List Int) : (sgL au rd dg l).length ≤ (sgL au rd dg (l ++ m)).length := by
  refine snoc_ind (P := fun m => (sgL au rd dg l).length ≤ (sgL au rd dg (l ++ m)).length) ?_ ?_ m
  · simp
  · intro m x ih
    rw [← List.append_assoc, sgL_snoc]
    refine Nat.le_trans ih ?_
    unfold more; split <;> simp
set_option maxRecDepth 100000 in
theorem sgL_voters (rc au rd : Int) (dg : List Int) : 3 ≤ (sgL au rd dg (votersL rc)).length := by
  obtain ⟨p0, p1⟩ := pk_bounds rc 5 (by decide)
  unfold votersL
  generalize pk rc 5 = k at *
  have h : k = 0 ∨ k = 1 ∨ k = 2 ∨ k = 3 ∨ k = 4 := by omega
  rcases h with rfl | rfl | rfl | rfl | rfl
  · rw [show without 0 4 = [1, 2, 3] from by decide]; simp [sgL, more]
  · rw [show without 1 4 = [0, 2, 3] from by decide]; simp [sgL, more]
  · rw [show without 2 4 = [0, 1, 3] from by decide]; simp [sgL, more]
  · rw [show without 3 4 = [0, 1, 2] from by decide]; simp [sgL, more]
  · rw [show without 4 4 = [0, 1, 2, 3] from by decide]; simp [sgL, more]
set_option maxRecDepth 100000 in
set_option maxHeartbeats 4000000 in
theorem provenAll_walk (ki ra rb rc : Int) (sa : Option Addr) (cap : Nat) (ss : List ByteArray) (wh : Int) (w : World) (_h1 : I64 ki) (h2 : I64 ra) (h3 : I64 rb) (h4 : I64 rc) (_h5 : TextsAt w sa cap ss) (h60 : -9223372036854775808 ≤ wh) (h61 : wh ≤ 9223372036854775807) (hT : Tabs w) :
    Calls Tryd.prog 4 #[.agg #[.int .i64 ki, .int .i64 ra, .int .i64 rb, .int .i64 rc, .slice sa ss.length cap], .int .i64 wh] w fun e w' => e = .returned (.bool true) ∧ Below w.heap.size w w' := by
  have hB : ∀ wx, _ := fun wx => header_raw2 ki ra rb rc sa ss.length cap wx h2 h3 h4
  have hV : ∀ wx, _ := fun wx => voters_any rc wx h4
  have HB : Hid _ := hB
  have HV : Hid _ := hV
  clear hB hV
  have q0 := heap_alloc_new w (.cells #[.int .i64 ki, .int .i64 ra, .int .i64 rb, .int .i64 rc, .slice sa ss.length cap] 36)
  have k0 : (w.alloc (.cells #[.int .i64 ki, .int .i64 ra, .int .i64 rb, .int .i64 rc, .slice sa ss.length cap] 36)).cell? ⟨w.heap.size, 0, none⟩ = some (.int .i64 ki) := cells_at q0 0 _ rfl
  have k1 : (w.alloc (.cells #[.int .i64 ki, .int .i64 ra, .int .i64 rb, .int .i64 rc, .slice sa ss.length cap] 36)).cell? ⟨w.heap.size, 1, none⟩ = some (.int .i64 ra) := cells_at q0 1 _ rfl
  have k2 : (w.alloc (.cells #[.int .i64 ki, .int .i64 ra, .int .i64 rb, .int .i64 rc, .slice sa ss.length cap] 36)).cell? ⟨w.heap.size, 2, none⟩ = some (.int .i64 rb) := cells_at q0 2 _ rfl
  have k3 : (w.alloc (.cells #[.int .i64 ki, .int .i64 ra, .int .i64 rb, .int .i64 rc, .slice sa ss.length cap] 36)).cell? ⟨w.heap.size, 3, none⟩ = some (.int .i64 rc) := cells_at q0 3 _ rfl
  have k4 : (w.alloc (.cells #[.int .i64 ki, .int .i64 ra, .int .i64 rb, .int .i64 rc, .slice sa ss.length cap] 36)).cell? ⟨w.heap.size, 4, none⟩ = some (.slice sa ss.length cap) := cells_at q0 4 _ rfl
  go_enter Tryd.func4, Tryd.ntmps4
  go_upto_region 1 with (fail)
  go_cut [5] (fun v wx => ∃ b ba bc bl pa pc pl va vc, v = .pointer (some ⟨b, 0, none⟩) ∧ CertC w wx b ra rb rc ba bc bl pa pc pl va vc)
  case first =>
    go_region_held3 (fun w' => w'.cell? ⟨w.heap.size, 0, none⟩ = some (.int .i64 ki) ∧ w'.cell? ⟨w.heap.size, 1, none⟩ = some (.int .i64 ra) ∧ w'.cell? ⟨w.heap.size, 2, none⟩ = some (.int .i64 rb) ∧ w'.cell? ⟨w.heap.size, 3, none⟩ = some (.int .i64 rc) ∧ w'.cell? ⟨w.heap.size, 4, none⟩ = some (.slice sa ss.length cap)) (go_keep) (first | (go_at_call 12; refine (HB.out _).mono ?_; rintro e w1 ⟨ba, bc, bl, pa, pc, pl, rfl, hLb, hLp, hOb, hOp, hbs, hps, hb1, hFb, hFp⟩; have HBS : Hid _ := hbs; have HPS : Hid _ := hps; clear hbs hps; have hN1 : w.heap.size < w1.heap.size := Nat.lt_of_lt_of_le (by simp; try omega) hb1.size; have hN1' : ¬ w.heap.size = w1.heap.size := Nat.ne_of_lt hN1; have hN1'' : ¬ w1.heap.size = w.heap.size := Nat.ne_of_gt hN1; first | (have r1 := row_new (below_drew hb1); have t0 := row_new (below_alloc (below_drew hb1)); rw [size_alloc] at r1; have c3 : w1.cell? ⟨w.heap.size, 3, none⟩ = some (.int .i64 rc) := cells_at t0 3 _ rfl; have c0 : w1.cell? ⟨w.heap.size, 0, none⟩ = some (.int .i64 ki) := cells_at t0 0 _ rfl; have c1 : w1.cell? ⟨w.heap.size, 1, none⟩ = some (.int .i64 ra) := cells_at t0 1 _ rfl; have c2 : w1.cell? ⟨w.heap.size, 2, none⟩ = some (.int .i64 rb) := cells_at t0 2 _ rfl; have c4 : w1.cell? ⟨w.heap.size, 4, none⟩ = some (.slice sa ss.length cap) := cells_at t0 4 _ rfl) | (have t0 := row_new (below_drew hb1); have c3 : w1.cell? ⟨w.heap.size, 3, none⟩ = some (.int .i64 rc) := cells_at t0 3 _ rfl; have c0 : w1.cell? ⟨w.heap.size, 0, none⟩ = some (.int .i64 ki) := cells_at t0 0 _ rfl; have c1 : w1.cell? ⟨w.heap.size, 1, none⟩ = some (.int .i64 ra) := cells_at t0 1 _ rfl; have c2 : w1.cell? ⟨w.heap.size, 2, none⟩ = some (.int .i64 rb) := cells_at t0 2 _ rfl; have c4 : w1.cell? ⟨w.heap.size, 4, none⟩ = some (.slice sa ss.length cap) := cells_at t0 4 _ rfl)) | (go_at_call 13; refine (HV.out _).mono ?_; rintro e w2 ⟨vv, rfl, ho2, hb2⟩; obtain ⟨va, vc, hvv⟩ := owns_shape ho2; subst hvv; have hN2 : w.heap.size < w2.heap.size := Nat.lt_of_lt_of_le hN1 (Nat.le_trans (by simp) hb2.size); first | (have r2 := row_new hb2; have u0 := ((below_alloc hb2).block _ (lt_of_heap t0)).trans t0; have d0 : w2.cell? ⟨w.heap.size, 0, none⟩ = some (.int .i64 ki) := cells_at u0 0 _ rfl; have d1 : w2.cell? ⟨w.heap.size, 1, none⟩ = some (.int .i64 ra) := cells_at u0 1 _ rfl; have d2 : w2.cell? ⟨w.heap.size, 2, none⟩ = some (.int .i64 rb) := cells_at u0 2 _ rfl; have d3 : w2.cell? ⟨w.heap.size, 3, none⟩ = some (.int .i64 rc) := cells_at u0 3 _ rfl; have d4 : w2.cell? ⟨w.heap.size, 4, none⟩ = some (.slice sa ss.length cap) := cells_at u0 4 _ rfl; have z0 : w2.cell? ⟨w1.heap.size, 0, none⟩ = some (.int .i64 0) := cells_at r2 0 _ rfl; have f0 := frozen_at r2 0; have z1 : w2.cell? ⟨w1.heap.size, 1, none⟩ = some (.int .i64 0) := cells_at r2 1 _ rfl; have f1 := frozen_at r2 1; have z2 : w2.cell? ⟨w1.heap.size, 2, none⟩ = some (.slice none 0 0) := cells_at r2 2 _ rfl; have f2 := frozen_at r2 2; have z3 : w2.cell? ⟨w1.heap.size, 3, none⟩ = some (.slice none 0 0) := cells_at r2 3 _ rfl; have f3 := frozen_at r2 3; have z4 : w2.cell? ⟨w1.heap.size, 4, none⟩ = some (.slice none 0 0) := cells_at r2 4 _ rfl; have f4 := frozen_at r2 4) | (have r2 := (hb2.block _ (lt_of_heap r1)).trans r1; have u0 := (hb2.block _ (lt_of_heap t0)).trans t0; have d0 : w2.cell? ⟨w.heap.size, 0, none⟩ = some (.int .i64 ki) := cells_at u0 0 _ rfl; have d1 : w2.cell? ⟨w.heap.size, 1, none⟩ = some (.int .i64 ra) := cells_at u0 1 _ rfl; have d2 : w2.cell? ⟨w.heap.size, 2, none⟩ = some (.int .i64 rb) := cells_at u0 2 _ rfl; have d3 : w2.cell? ⟨w.heap.size, 3, none⟩ = some (.int .i64 rc) := cells_at u0 3 _ rfl; have d4 : w2.cell? ⟨w.heap.size, 4, none⟩ = some (.slice sa ss.length cap) := cells_at u0 4 _ rfl; have z0 : w2.cell? ⟨w.heap.size + 1, 0, none⟩ = some (.int .i64 0) := cells_at r2 0 _ rfl; have f0 := frozen_at r2 0; have z1 : w2.cell? ⟨w.heap.size + 1, 1, none⟩ = some (.int .i64 0) := cells_at r2 1 _ rfl; have f1 := frozen_at r2 1; have z2 : w2.cell? ⟨w.heap.size + 1, 2, none⟩ = some (.slice none 0 0) := cells_at r2 2 _ rfl; have f2 := frozen_at r2 2; have z3 : w2.cell? ⟨w.heap.size + 1, 3, none⟩ = some (.slice none 0 0) := cells_at r2 3 _ rfl; have f3 := frozen_at r2 3; have z4 : w2.cell? ⟨w.heap.size + 1, 4, none⟩ = some (.slice none 0 0) := cells_at r2 4 _ rfl; have f4 := frozen_at r2 4) | (have u0 := (hb2.block _ (lt_of_heap t0)).trans t0; have d0 : w2.cell? ⟨w.heap.size, 0, none⟩ = some (.int .i64 ki) := cells_at u0 0 _ rfl; have d1 : w2.cell? ⟨w.heap.size, 1, none⟩ = some (.int .i64 ra) := cells_at u0 1 _ rfl; have d2 : w2.cell? ⟨w.heap.size, 2, none⟩ = some (.int .i64 rb) := cells_at u0 2 _ rfl; have d3 : w2.cell? ⟨w.heap.size, 3, none⟩ = some (.int .i64 rc) := cells_at u0 3 _ rfl; have d4 : w2.cell? ⟨w.heap.size, 4, none⟩ = some (.slice sa ss.length cap) := cells_at u0 4 _ rfl)))
    all_goals
      go_wp2_with fail
      go_meet
      case rel =>
        have hB1 := below_drew hb1
        first
          | (have hg := r1; refine ⟨_, ba, bc, bl, pa, pc, pl, va, vc, rfl, ?_⟩; exact certC_first (below_alloc (below_alloc hB1)) (by have := hB1.size; rw [size_alloc, size_alloc] at this; exact this) hLb hLp hOb hOp HBS.out HPS.out (by have h := hFb; rw [heap_drew, size_alloc, size_alloc] at h; exact h) (by have h := hFp; rw [heap_drew, size_alloc, size_alloc] at h; exact h) hb2 ho2 r2)
          | (have hg := r2; refine ⟨_, ba, bc, bl, pa, pc, pl, va, vc, rfl, ?_⟩; exact certC_mid (below_alloc hB1) hN1 hLb hLp hOb hOp HBS.out HPS.out hb2 ho2)
          | (refine ⟨_, ba, bc, bl, pa, pc, pl, va, vc, rfl, ?_⟩; exact certC_last (below_alloc hB1) hN1 hLb hLp hOb hOp HBS.out HPS.out hb2 ho2)
  case rest =>
    obtain ⟨b, ba, bc, bl, pa, pc, pl, va, vc, rfl, H⟩ := hcut
    clear k0 k1 k2 k3 k4 q0 HB HV
    have hF := headerF_raw ra rb rc bl pl H.ebs H.eps
    have HF : Hid (headerF (pk ra 4) (1 + pk rb 9) bl pl = 0) := hF
    clear hF
    have hbox := H.box
    have hat := H.hat
    have hawb := H.awb
    have hawp := H.awp
    have hvne := H.vne
    have hlow := H.low
    have HB := H.below
    have hvi : IntsAt wc va (votersL rc) ∧ (votersL rc).length ≤ vc := by
      have hown := H.own
      rcases hown.2 with ⟨e, hn⟩ | ⟨g, cap', cur, e, hr⟩
      · obtain ⟨x0, x1, x2, xs, hVL, _⟩ := votersL_form rc
        rw [hVL] at hn; simp at hn
      · obtain ⟨_, _, e9, _, hI, _⟩ := intsAt_of_owns hown
        cases e9
        cases e
        exact ⟨hI, hr.2.2.1⟩
    obtain ⟨hvi, hvc⟩ := hvi
    clear H
    have HG3 : Hid (∀ dg : List Int, 3 ≤ (sgL (pk ra 4) (1 + pk rb 9) dg (votersL rc)).length) := fun dg => sgL_voters rc _ _ dg
    obtain ⟨x0, x1, x2, xs, hVL, _, _, _, hvF, _, hV4⟩ := votersL_form rc
    have hvf := votersL_four rc
    have hV3 : 3 ≤ (votersL rc).length := by rw [hVL]; simp
    clear hVL
    have HVF : Hid (votersF (votersL rc) = 0) := hvF
    have HV4 : Hid (∀ x ∈ votersL rc, 0 ≤ x ∧ x < 4) := hvf
    clear hvF hvf
    have pau := pk_bounds ra 4 (by decide)
    generalize votersL rc = VL at *
    generalize pk ra 4 = au at *
    generalize 1 + pk rb 9 = rd at *
    obtain ⟨i, hi, hz0, hz1, hz2⟩ := info_parts infoIntP
    go_upto_region 2 with (fail)
    go_cut [6] (fun v wx => ∃ aa ac, v = .slice aa (VL.length + 1) ac ∧ IntsAt wx aa (VL ++ [au]) ∧ Below wc.heap.size wc wx)
    case first =>
      obtain ⟨vb, vo, rfl⟩ : ∃ vb vo, va = some ⟨vb, vo, none⟩ := by
        rcases hvi.cells with h | ⟨sb, so, e, _⟩
        · rw [h] at hV3; simp at hV3
        · exact ⟨sb, so, e⟩
      have hblt := lt_of_heap hbox
      have hDr : Below wc.heap.size wc wc.drew := (Below.refl _ _).drew
      refine wp_region_held_drew (S := fun w' => w'.cell? ⟨b, 0, none⟩ = some (.int .i64 au) ∧ w'.cell? ⟨b, 4, none⟩ = some (.slice (some ⟨vb, vo, none⟩) VL.length vc)) (by kernel_rfl) ⟨cells_at hbox 0 _ rfl, cells_at hbox 4 _ rfl⟩ (fun hHeld => ?_)
      refine take_dst (i := 0) (d := 18) (v := .pointer (some ⟨b, 4, none⟩)) rfl rfl (by kernel_rfl) (by kernel_rfl) (by kernel_rfl) (fun _ _ _ h => h) (Or.inl ⟨by rfl, ?_⟩) hHeld ?_
      · (intro w0 hSw; (try dsimp only at hSw); go_simp)
      simp only [Act.put, List.setIfInBounds_toArray, List.set_cons_zero, List.set_cons_succ]
      refine take_dst (i := 1) (d := 19) (v := .slice (some ⟨vb, vo, none⟩) VL.length vc) rfl rfl (by kernel_rfl) (by kernel_rfl) (by kernel_rfl) (fun _ _ _ h => h) (Or.inl ⟨by rfl, ?_⟩) hHeld ?_
      · (intro w0 hSw; (try dsimp only at hSw); go_simp)
      simp only [Act.put, List.setIfInBounds_toArray, List.set_cons_zero, List.set_cons_succ]
      refine take_dst (i := 3) (d := 21) (v := .pointer (some ⟨b, 0, none⟩)) rfl rfl (by kernel_rfl) (by kernel_rfl) (by kernel_rfl) (fun _ _ _ h => h) (Or.inl ⟨by rfl, ?_⟩) hHeld ?_
      · (intro w0 hSw; (try dsimp only at hSw); go_simp)
      simp only [Act.put, List.setIfInBounds_toArray, List.set_cons_zero, List.set_cons_succ]
      refine take_dst (i := 4) (d := 22) (v := .pointer (some ⟨b, 0, none⟩)) rfl rfl (by kernel_rfl) (by kernel_rfl) (by kernel_rfl) (fun _ _ _ h => h) (Or.inl ⟨by rfl, ?_⟩) hHeld ?_
      · (intro w0 hSw; (try dsimp only at hSw); go_simp)
      simp only [Act.put, List.setIfInBounds_toArray, List.set_cons_zero, List.set_cons_succ]
      refine take_dst (i := 5) (d := 23) (v := .int .i64 au) rfl rfl (by kernel_rfl) (by kernel_rfl) (by kernel_rfl) (fun _ _ _ h => h) (Or.inl ⟨by rfl, ?_⟩) hHeld ?_
      · (intro w0 hSw; (try dsimp only at hSw); go_simp)
      simp only [Act.put, List.setIfInBounds_toArray, List.set_cons_zero, List.set_cons_succ]
      refine wpAnyH_ready (rs := [2, 6]) (by kernel_rfl) (by simp) (AllReadyH.cons rfl (fun K hK => ?_) (AllReadyH.cons rfl (fun K hK => ?_) AllReadyH.nil))
      · refine step_append_on (by rfl) 20 rfl (.const (.slice none 0 0)) (.tmp 19) 26 rfl wc.heap.size 3 i (.int .i64 0) 1 8 Tryd.underlying26 hi hz0 hz1 hz2 rfl (by decide) (.slice none 0 0) 0 [] rfl (World.ownsRow_nil _ _ _ _) ⟨vb, vo, none⟩ VL.length vc (iv VL) rfl (by simp [iv]) (ints_cells (hvi.below hDr)) (iv_one VL) (by unfold maxLen; omega) (by omega) hDr.size ?_
        intro v1 w1 ho1 G1
        rw [List.nil_append, Nat.zero_add] at ho1
        have hX1 := hDr.grown G1.grown hDr.size (fun k e => by cases e)
        have q1 := (hX1.block _ hblt).trans hbox
        refine hK.out _ _ ⟨cells_at q1 0 _ rfl, cells_at q1 4 _ rfl⟩ (fun hHeld => ?_)
        simp only [Act.put, List.setIfInBounds_toArray, List.set_cons_zero, List.set_cons_succ]
        refine wpAnyH_ready (rs := [6]) (by kernel_rfl) (by simp) (AllReadyH.cons rfl (fun K hK => ?_) AllReadyH.nil)
        refine step_run rfl 24 rfl (.slice (some ⟨w1.heap.size, 0, none⟩) 1 1) (w1.alloc (.cells #[.int .i64 au] 3)) (by go_simp) ?_
        have qb := heap_alloc_new w1 (.cells #[.int .i64 au] 3)
        have hXX := hX1.alloc hX1.size (.cells #[.int .i64 au] 3)
        have hoX := World.ownsRow.alloc ho1 (.cells #[.int .i64 au] 3)
        have q2 := (hXX.block _ hblt).trans hbox
        refine hK.out _ _ ⟨cells_at q2 0 _ rfl, cells_at q2 4 _ rfl⟩ (fun hHeld => ?_)
        simp only [Act.put, List.setIfInBounds_toArray, List.set_cons_zero, List.set_cons_succ]
        refine wpAnyH_ready (rs := [7]) (by kernel_rfl) (by simp) (AllReadyH.cons rfl (fun K hK => ?_) AllReadyH.nil)
        refine step_append_on (by rfl) 25 rfl (.tmp 20) (.tmp 24) 26 rfl wc.heap.size 3 i (.int .i64 0) 1 8 Tryd.underlying26 hi hz0 hz1 hz2 rfl (by decide) v1 VL.length (iv VL) rfl hoX ⟨w1.heap.size, 0, none⟩ 1 1 [.int .i64 au] rfl rfl (cells_ofI qb) (by intro u hu; simp at hu; subst hu; rfl) (by unfold maxLen; omega) (by omega) hXX.size ?_
        intro v2 w3 ho3 G3
        have hX3 := hXX.grown G3.grown hXX.size (fun k e => (hoX.lt k e).1)
        have q3 := (hX3.block _ hblt).trans hbox
        refine hK.out _ _ ⟨cells_at q3 0 _ rfl, cells_at q3 4 _ rfl⟩ (fun hHeld => ?_)
        simp only [Act.put, List.setIfInBounds_toArray, List.set_cons_zero, List.set_cons_succ]
        have ho4 : w3.ownsRow wc.heap.size 3 1 v2 (VL.length + 1) (iv (VL ++ [au])) := by simpa [iv] using ho3
        obtain ⟨aa, ac, hv2, -, hIa, -⟩ := intsAt_of_owns ho4
        subst hv2
        clear ho3 ho4
        refine take_dst (i := 8) (d := 6) (v := .slice aa (VL.length + 1) ac) rfl rfl (by kernel_rfl) (by kernel_rfl) (by kernel_rfl) (fun _ _ _ h => h) (Or.inl ⟨by rfl, ?_⟩) hHeld ?_
        · (intro w0 hSw; (try dsimp only at hSw); go_simp)
        simp only [Act.put, List.setIfInBounds_toArray, List.set_cons_zero, List.set_cons_succ]
        refine wpAnyH_done (by kernel_rfl) ?_ _
        go_wp2_with fail
        go_meet
        case rel => exact ⟨aa, ac, rfl, hIa, hX3⟩
      · refine step_run rfl 24 rfl (.slice (some ⟨wc.heap.size, 0, none⟩) 1 1) (wc.drew.alloc (.cells #[.int .i64 au] 3)) (by go_simp) ?_
        have qb : (wc.drew.alloc (.cells #[.int .i64 au] 3)).heap[wc.heap.size]? = _ := heap_alloc_new wc.drew (.cells #[.int .i64 au] 3)
        have hDa := hDr.alloc hDr.size (.cells #[.int .i64 au] 3)
        have q2 := (hDa.block _ hblt).trans hbox
        refine hK.out _ _ ⟨cells_at q2 0 _ rfl, cells_at q2 4 _ rfl⟩ (fun hHeld => ?_)
        simp only [Act.put, List.setIfInBounds_toArray, List.set_cons_zero, List.set_cons_succ]
        refine wpAnyH_ready (rs := [2]) (by kernel_rfl) (by simp) (AllReadyH.cons rfl (fun K hK => ?_) AllReadyH.nil)
        refine step_append_on (by rfl) 20 rfl (.const (.slice none 0 0)) (.tmp 19) 26 rfl wc.heap.size 3 i (.int .i64 0) 1 8 Tryd.underlying26 hi hz0 hz1 hz2 rfl (by decide) (.slice none 0 0) 0 [] rfl (World.ownsRow_nil _ _ _ _) ⟨vb, vo, none⟩ VL.length vc (iv VL) rfl (by simp [iv]) (ints_cells (hvi.below hDa)) (iv_one VL) (by unfold maxLen; omega) (by omega) hDa.size ?_
        intro v1 w1 ho1 G1
        rw [List.nil_append, Nat.zero_add] at ho1
        have hX1 := hDa.grown G1.grown hDa.size (fun k e => by cases e)
        have q1 := (hX1.block _ hblt).trans hbox
        replace qb := (G1.grown.block _ (lt_of_heap qb) (by intro e; cases e)).trans qb
        have hXX := hX1
        have hoX := ho1
        refine hK.out _ _ ⟨cells_at q1 0 _ rfl, cells_at q1 4 _ rfl⟩ (fun hHeld => ?_)
        simp only [Act.put, List.setIfInBounds_toArray, List.set_cons_zero, List.set_cons_succ]
        refine wpAnyH_ready (rs := [7]) (by kernel_rfl) (by simp) (AllReadyH.cons rfl (fun K hK => ?_) AllReadyH.nil)
        refine step_append_on (by rfl) 25 rfl (.tmp 20) (.tmp 24) 26 rfl wc.heap.size 3 i (.int .i64 0) 1 8 Tryd.underlying26 hi hz0 hz1 hz2 rfl (by decide) v1 VL.length (iv VL) rfl hoX ⟨wc.heap.size, 0, none⟩ 1 1 [.int .i64 au] rfl rfl (cells_ofI qb) (by intro u hu; simp at hu; subst hu; rfl) (by unfold maxLen; omega) (by omega) hXX.size ?_
        intro v2 w3 ho3 G3
        have hX3 := hXX.grown G3.grown hXX.size (fun k e => (hoX.lt k e).1)
        have q3 := (hX3.block _ hblt).trans hbox
        refine hK.out _ _ ⟨cells_at q3 0 _ rfl, cells_at q3 4 _ rfl⟩ (fun hHeld => ?_)
        simp only [Act.put, List.setIfInBounds_toArray, List.set_cons_zero, List.set_cons_succ]
        have ho4 : w3.ownsRow wc.heap.size 3 1 v2 (VL.length + 1) (iv (VL ++ [au])) := by simpa [iv] using ho3
        obtain ⟨aa, ac, hv2, -, hIa, -⟩ := intsAt_of_owns ho4
        subst hv2
        clear ho3 ho4
        refine take_dst (i := 8) (d := 6) (v := .slice aa (VL.length + 1) ac) rfl rfl (by kernel_rfl) (by kernel_rfl) (by kernel_rfl) (fun _ _ _ h => h) (Or.inl ⟨by rfl, ?_⟩) hHeld ?_
        · (intro w0 hSw; (try dsimp only at hSw); go_simp)
        simp only [Act.put, List.setIfInBounds_toArray, List.set_cons_zero, List.set_cons_succ]
        refine wpAnyH_done (by kernel_rfl) ?_ _
        go_wp2_with fail
        go_meet
        case rel => exact ⟨aa, ac, rfl, hIa, hX3⟩
    case rest =>
      obtain ⟨aa, ac, rfl, hIa, hbz⟩ := hcut
      replace hbox := (hbz.block _ (lt_of_heap hbox)).trans hbox
      replace hat := hat.below hbz
      replace hvi := hvi.below hbz
      replace HB := HB.trans (hbz.mono HB.size)
      clear hbz
      have HA4 : Hid (∀ x ∈ VL ++ [au], 0 ≤ x ∧ x < 4) := by
        show ∀ x, _
        intro x hx
        rcases List.mem_append.1 hx with h | h
        · exact HV4.out x h
        · rw [List.mem_singleton] at h; subst h; exact pau
      have hal : (VL ++ [au]).length = VL.length + 1 := by simp
      have HAL : Hid ((VL ++ [au]).length = VL.length + 1) := hal
      clear hal
      have HC0 : Hid (certF au rd bl pl VL = 0) := certF_ofL HF.out HVF.out hV4
      obtain ⟨AL, hAL⟩ : ∃ l, l = VL ++ [au] := ⟨_, rfl⟩
      rw [← hAL] at hIa HA4 HAL
      have HALe : Hid (AL = VL ++ [au]) := hAL
      clear hAL
      have S1 := signedBy_any au rd ba bc bl pa pc pl aa (VL.length + 1) ac AL wc HAL.out.symm hat HF.out hIa HA4.out (by rw [HAL.out]; omega) (hT.below HB)
      have hbox_c0 := cells_at hbox 0 _ rfl
      have hbox_c1 := cells_at hbox 1 _ rfl
      have hbox_c2 := cells_at hbox 2 _ rfl
      have hbox_c3 := cells_at hbox 3 _ rfl
      have hbox_c4 := cells_at hbox 4 _ rfl
      go_wp2_with fail
      refine S1.mono ?_
      rintro e w1 ⟨r1, c1, k1, he, hk1, hG1, hb1⟩
      subst he
      dsimp only
      clear S1
      clear hbox_c0 hbox_c1 hbox_c2 hbox_c3 hbox_c4
      replace hbox := (hb1.block _ (lt_of_heap hbox)).trans hbox
      replace hat := hat.below hb1
      replace hvi := hvi.below hb1
      replace hIa := hIa.below hb1
      replace HB := HB.trans (hb1.mono HB.size)
      have HK1 : Hid (gvs k1 = sgL au rd (hDig au rd bl pl) AL) := hk1
      clear hk1
      have hk3 : 3 ≤ k1.length := by
        have h := congrArg List.length HK1.out
        rw [gvs_length, HALe.out] at h
        rw [h]
        exact Nat.le_trans (HG3.out _) (sgL_grow _ _ _ _ _)
      have hk3I : ¬ (k1.length : Int) < 3 := by omega
      have hau : au ∈ AL := by rw [HALe.out]; simp
      have HAu : Hid (au ∈ AL) := hau
      have HSub : Hid (∀ x ∈ VL, x ∈ AL) := by show ∀ x, _; intro x hx; rw [HALe.out]; simp [hx]
      clear hau
      have P1 : provF (gvs k1) (-1) au rd (certF au rd bl pl VL) (hDig au rd bl pl) VL = 0 := by
        rw [HK1.out, HC0.out, prov_sgLL HF.out HA4.out (by decide), if_neg]
        simp only [Bool.or_eq_true, List.any_eq_true, Bool.and_eq_true, decide_eq_true_eq, Bool.not_eq_true', decide_eq_false_iff_not, not_or, not_exists, not_and, Decidable.not_not]
        exact ⟨fun _ => HAu.out, fun x hx _ => HSub.out x hx⟩
      have C1 := proven_any k1 r1 _ c1 (-1) au rd ba bc bl pa pc pl va vc VL w1 rfl hG1.small hG1.slots hat hvi (by omega) (hT.below HB)
      rw [P1] at C1
      clear P1
      have hbox_c0 := cells_at hbox 0 _ rfl
      have hbox_c1 := cells_at hbox 1 _ rfl
      have hbox_c2 := cells_at hbox 2 _ rfl
      have hbox_c3 := cells_at hbox 3 _ rfl
      have hbox_c4 := cells_at hbox 4 _ rfl
      go_wp2_with fail
      refine C1.mono ?_
      rintro e w2 ⟨he, hb2⟩
      subst he
      dsimp only
      clear C1
      clear hbox_c0 hbox_c1 hbox_c2 hbox_c3 hbox_c4
      replace hbox := (hb2.block _ (lt_of_heap hbox)).trans hbox
      replace hat := hat.below hb2
      replace hvi := hvi.below hb2
      replace hIa := hIa.below hb2
      replace hG1 := hG1.below hb2
      replace HB := HB.trans (hb2.mono HB.size)
      have pw := pk_bounds wh (VL.length + 1) (by omega)
      have HP := picked_any wh (VL.length + 1) w2 h60 h61 (by omega) (by omega)
      have hwn : IntKind.i64.wrap ((VL.length : Int) + 1) = (VL.length : Int) + 1 := by rw [IntKind.wrap_i64]; omega
      go_wp2_with fail
      refine HP.mono ?_
      rintro e wq ⟨he, hwq⟩
      subst he hwq
      dsimp only
      clear HP
      obtain ⟨p, hp⟩ : ∃ p : Nat, pk wh (VL.length + 1) = p := ⟨(pk wh (VL.length + 1)).toNat, by omega⟩
      rw [hp] at pw ⊢
      have hpn : p < AL.length := by rw [HAL.out]; omega
      have hpI : (p : Int) < (VL.length : Int) + 1 := by omega
      clear hp pw
      obtain ⟨ab, ao, rfl, hca⟩ : ∃ sb so, aa = some ⟨sb, so, none⟩ ∧ ∀ j, j < AL.length → w2.cell? ⟨sb, so + j, none⟩ = some (.int .i64 (AL.getD j 0)) := by
        rcases hIa.cells with h | h
        · rw [h] at hpn; simp at hpn
        · exact h
      have cp := hca p hpn
      have hgp : AL.getD p 0 = AL[p] := by simp [List.getD, hpn]
      rw [hgp] at cp
      have HKm : Hid (AL[p] ∈ AL) := List.getElem_mem hpn
      have HCa : Hid (∀ j, j < AL.length → w2.cell? ⟨ab, ao + j, none⟩ = some (.int .i64 (AL.getD j 0))) := hca
      clear hca hgp
      generalize AL[p] = kx at *
      have hkx := HA4.out kx HKm.out
      go_wp2_with fail
      clear cp
      go_loopw [10, 9] (fun i v wr => ∃ (j : Nat), j ≤ VL.length + 1 ∧ i = .int .i64 j ∧ wr.ownsRow w2.heap.size 3 1 v ((AL.take j).filter fun y => decide (y ≠ kx)).length (iv ((AL.take j).filter fun y => decide (y ≠ kx))) ∧ Below w2.heap.size w2 wr) (fun i _ _ => VL.length + 1 - (intOf i).toNat)
      case atStart => exact ⟨0, Nat.zero_le _, rfl, World.ownsRow_nil _ _ _ _, Below.refl _ _⟩
      case round =>
        obtain ⟨j, hj, rfl, ho, hb⟩ := hrel
        obtain ⟨ua, uc, hv⟩ := owns_shape ho
        subst hv
        by_cases hlt : j < VL.length + 1
        · have hjA : j < AL.length := by rw [HAL.out]; exact hlt
          have c0 := HCa.out j hjA
          have hgj : AL.getD j 0 = AL[j] := by simp [List.getD, hjA]
          rw [hgj] at c0
          have hblt := block_lt_of_cell c0
          replace c0 := (hb.cell (p := ⟨ab, ao + j, none⟩) hblt).trans c0
          have hltI : (j : Int) < (VL.length : Int) + 1 := by omega
          have hjl : ((AL.take j).filter fun y => decide (y ≠ kx)).length ≤ j := by
            refine Nat.le_trans (List.length_filter_le _ _) ?_
            rw [List.length_take]; omega
          have HS : Hid (∀ q : Bool, decide (AL[j] ≠ kx) = q → ((AL.take (j + 1)).filter fun y => decide (y ≠ kx)) = if q then ((AL.take j).filter fun y => decide (y ≠ kx)) ++ [AL[j]] else ((AL.take j).filter fun y => decide (y ≠ kx))) := by
            show ∀ q, _
            intro q hq
            rw [List.take_succ_eq_append_getElem hjA, List.filter_append]
            cases q <;> simp [List.filter, hq]
          clear hgj
          generalize AL[j] = y at *
          by_cases hy : y = kx
          · have hst := HS.out false (by simp [hy])
            have HST : Hid _ := hst
            have hyn : (y != kx) = false := by simpa using hy
            clear hst HS hy
            go_wp2_with fail
            go_roundw
            case rel => exact ⟨j + 1, by omega, by go_num, by rw [HST.out]; exact ho, hb⟩
            case measure => simp [intOf]; omega
          · have hst := HS.out true (by simp [hy])
            have HST : Hid _ := hst
            have hyn : (y != kx) = true := by simpa using hy
            clear hst HS hy
            generalize hLL : ((AL.take j).filter fun y => decide (y ≠ kx)) = LL at ho hjl HST
            clear hLL
            have hob := World.ownsRow.alloc ho (.cells #[.int .i64 y] 3)
            have hnew := cells_new wr [.int .i64 y] 3
            go_wp2_with (at_builtin; refine wpList_append_own_at _ rfl _ _ 26 rfl w2.heap.size 3 i (.int .i64 0) 1 8 Tryd.underlying26 hi hz0 hz1 hz2 rfl (by decide) _ LL.length _ rfl hob ⟨wr.heap.size, 0, none⟩ 1 1 [.int .i64 y] rfl rfl hnew (by intro u hu; simp at hu; subst hu; rfl) (by unfold maxLen; omega) (by omega) (le_alloc hb.size _) ?_; intro v1 w4 ho4 hg4 _ hat4)
            have hb4 := Below.grown (hb.alloc hb.size (.cells #[.int .i64 y] 3)) hg4 (le_alloc hb.size _) (fun q e => (hob.lt q e).1)
            have ho5 : w4.ownsRow w2.heap.size 3 1 v1 ((AL.take (j + 1)).filter fun y => decide (y ≠ kx)).length (iv ((AL.take (j + 1)).filter fun y => decide (y ≠ kx))) := by
              rw [HST.out]
              simpa [iv] using ho4
            go_wp2_with fail
            go_roundw
            case rel =>
              have hR : ∃ j' : Nat, j' ≤ VL.length + 1 ∧ (Value.int .i64 ((j : Int) + 1)) = .int .i64 j' ∧ w4.ownsRow w2.heap.size 3 1 v1 ((AL.take j').filter fun y => decide (y ≠ kx)).length (iv ((AL.take j').filter fun y => decide (y ≠ kx))) ∧ Below w2.heap.size w2 w4 := ⟨j + 1, by omega, by go_num, ho5, hb4⟩
              first | exact hR | ((repeat apply Exists.intro); exact ⟨hR, rfl⟩)
            case measure => simp [intOf]; omega
        · obtain rfl : j = VL.length + 1 := by omega
          rw [List.take_of_length_le (show AL.length ≤ VL.length + 1 by rw [HAL.out]; exact Nat.le_refl _)] at ho ⊢
          have HL4 : Hid (∀ y ∈ AL.filter (fun y => decide (y ≠ kx)), 0 ≤ y ∧ y < 4) := by
            show ∀ y, _
            intro y hy
            exact HA4.out y (List.mem_filter.1 hy).1
          have HLm : Hid (∀ y, y ∈ AL.filter (fun y => decide (y ≠ kx)) ↔ y ∈ AL ∧ y ≠ kx) := by
            show ∀ y, _
            intro y
            rw [List.mem_filter]; simp
          have hll : (AL.filter (fun y => decide (y ≠ kx))).length ≤ 100 := by
            refine Nat.le_trans (List.length_filter_le _ _) ?_
            rw [HAL.out]; omega
          generalize AL.filter (fun y => decide (y ≠ kx)) = LL at *
          obtain ⟨la, lc, hv, -, hIl, -⟩ := intsAt_of_owns ho
          cases hv
          clear ho
          replace hbox := (hb.block _ (lt_of_heap hbox)).trans hbox
          replace hat := hat.below hb
          replace hvi := hvi.below hb
          replace HB := HB.trans (hb.mono HB.size)
          have S2 := signedBy_any au rd ba bc bl pa pc pl ua LL.length uc LL wr rfl hat HF.out hIl HL4.out hll (hT.below HB)
          have hbox_c0 := cells_at hbox 0 _ rfl
          have hbox_c1 := cells_at hbox 1 _ rfl
          have hbox_c2 := cells_at hbox 2 _ rfl
          have hbox_c3 := cells_at hbox 3 _ rfl
          have hbox_c4 := cells_at hbox 4 _ rfl
          go_wp2_with fail
          refine S2.mono ?_
          rintro e w6 ⟨r2, c2, k2, he, hk2, hG2, hb6⟩
          subst he
          dsimp only
          clear S2
          clear hbox_c0 hbox_c1 hbox_c2 hbox_c3 hbox_c4
          replace hbox := (hb6.block _ (lt_of_heap hbox)).trans hbox
          replace hat := hat.below hb6
          replace hvi := hvi.below hb6
          replace hIl := hIl.below hb6
          replace HB := HB.trans (hb6.mono HB.size)
          have HK2 : Hid (gvs k2 = sgL au rd (hDig au rd bl pl) LL) := hk2
          clear hk2
          have hkn : ¬ kx ∈ LL := by rw [HLm.out]; simp
          have P1 : provF (gvs k2) (-1) au rd (certF au rd bl pl VL) (hDig au rd bl pl) VL = 11 := by
            rw [HK2.out, HC0.out, prov_sgLL HF.out HL4.out (by decide), if_pos]
            have hm := HKm.out
            rw [HALe.out] at hm
            have hlk : (decide (kx ≠ -1) && !decide (kx ∈ LL)) = true := by
              have : kx ≠ -1 := by omega
              simp [this, hkn]
            rcases List.mem_append.1 hm with h | h
            · rw [Bool.or_eq_true]; right
              exact List.any_eq_true.2 ⟨kx, h, hlk⟩
            · rw [List.mem_singleton] at h
              rw [← h, hlk]; rfl
          have P2 : provF (gvs k2) kx au rd (certF au rd bl pl VL) (hDig au rd bl pl) VL = 0 := by
            rw [HK2.out, HC0.out, prov_sgLL HF.out HL4.out (by omega), if_neg]
            simp only [Bool.or_eq_true, List.any_eq_true, Bool.and_eq_true, decide_eq_true_eq, Bool.not_eq_true', decide_eq_false_iff_not, not_or, not_exists, not_and, Decidable.not_not]
            exact ⟨fun h => (HLm.out au).2 ⟨HAu.out, h⟩, fun y hy h => (HLm.out y).2 ⟨HSub.out y hy, h⟩⟩
          have CC := fun bd W (hW : Below w6.heap.size w6 W) => proven_any k2 r2 _ c2 bd au rd ba bc bl pa pc pl va vc VL W rfl hG2.small (hG2.slots.below hW) (hat.below hW) (hvi.below hW) (by omega) (hT.below (HB.trans (hW.mono HB.size)))
          have C1 := CC (-1)
          rw [P1] at C1
          have C2 := CC kx
          rw [P2] at C2
          clear CC P1 P2 hkn
          have HX := Below.refl w6.heap.size w6
          have q_ := (HX.block _ (lt_of_heap hbox)).trans hbox
          have q_0 := cells_at q_ 0 _ rfl
          have q_1 := cells_at q_ 1 _ rfl
          have q_2 := cells_at q_ 2 _ rfl
          have q_3 := cells_at q_ 3 _ rfl
          have q_4 := cells_at q_ 4 _ rfl
          go_wp2_with fail
          refine (C1 _ HX).mono ?_
          rintro e w7 ⟨he, hbx⟩
          subst he
          dsimp only
          clear q_0 q_1 q_2 q_3 q_4 q_
          replace HX := HX.trans (hbx.mono HX.size)
          clear hbx
          have q_ := (HX.block _ (lt_of_heap hbox)).trans hbox
          have q_0 := cells_at q_ 0 _ rfl
          have q_1 := cells_at q_ 1 _ rfl
          have q_2 := cells_at q_ 2 _ rfl
          have q_3 := cells_at q_ 3 _ rfl
          have q_4 := cells_at q_ 4 _ rfl
          go_wp2_with fail
          refine (C2 _ HX).mono ?_
          rintro e w8 ⟨he, hbx⟩
          subst he
          dsimp only
          clear q_0 q_1 q_2 q_3 q_4 q_
          replace HX := HX.trans (hbx.mono HX.size)
          clear hbx
          go_wp2_with fail
          go_ret
          exact ⟨by first | rfl | simp, HB.trans (HX.mono HB.size)⟩
end Go.Proofs.YtmpflkggbekpfaaDoor

namespace Go.Proofs.YtmpflkggbekpfaaDoor
open Go.RowKit

set_option maxRecDepth 100000 in
/-- An array of arrays of integers that reads as a table of rows holds the rows' numbers, cell for cell. -/
theorem cells_of_tab2 {H : Type} {enc : TypeId × Value → H} {P : Program} {w : World} {base : Nat} {sp : Nat → Bool} {held : Bool} {fuel : Nat} {t e i : TypeId} {n m : Nat} {k : IntKind} {cs : List Value} {rows : List (List Int)} {p : List MemPlace}
    (ht : P.underlying t = some (.array n e)) (he : P.underlying e = some (.array m i)) (hi : P.underlying i = some (.int k)) (hci : P.cellsOf i = 1) (hce : P.cellsOf e = m) (hm : 0 < m)
    (h : DataW.trod enc P w base sp held fuel t cs = some (.agg (rows.map (Lib.tabData k)), p)) (q : Nat) (hq : q < n * m) : cs[q]? = ((rows.getD (q / m) []).map (Value.int k))[q % m]? := by
  obtain ⟨xs, f, rfl, hx, hl, hn, hr⟩ := DataW.trod_array ht h
  have hin : q / m < n := Nat.div_lt_of_lt_mul (by rw [Nat.mul_comm]; exact hq)
  have hrow := hr (q / m) hin
  have hxs : xs.map (·.1) = rows.map (Lib.tabData k) := by
    have := congrArg Prod.fst hx
    simpa using this.symm
  have hg : (xs.map (·.1))[q / m]? = some (xs[q / m]'(by omega)).1 := by simp [hn, hin]
  rw [hxs] at hg
  simp only [List.getElem?_map, Option.map_eq_some_iff] at hg
  obtain ⟨r, hr1, hr2⟩ := hg
  rw [List.getElem?_eq_getElem (by omega), hce] at hrow
  have hrow' : DataW.trod enc P w base sp held f e ((cs.drop (q / m * m)).take m) = some (Lib.tabData k r, (xs[q / m]'(by omega)).2) := by
    rw [hrow, hr2]
  have hc := Lib.cells_of_tab he hi hci hce hrow'
  have hj : q % m < m := Nat.mod_lt _ hm
  have e1 : ((cs.drop (q / m * m)).take m)[q % m]? = cs[q]? := by
    rw [List.getElem?_take, if_pos hj, List.getElem?_drop, Nat.mul_comm, Nat.div_add_mod]
  rw [← e1, hc]
  simp [List.getD, hr1]

set_option maxRecDepth 100000 in
theorem tFirst : (Tryd.prog.globals[0]?).map (·.type) = some 97 := by kernel_rfl
set_option maxRecDepth 100000 in
theorem tOrders : (Tryd.prog.globals[1]?).map (·.type) = some 110 := by kernel_rfl
set_option maxRecDepth 100000 in
theorem tLanes : (Tryd.prog.globals[2]?).map (·.type) = some 112 := by kernel_rfl
set_option maxRecDepth 100000 in
theorem cU32 : Tryd.prog.cellsOf 96 = 1 := by kernel_rfl
set_option maxRecDepth 100000 in
theorem c8U32 : Tryd.prog.cellsOf 97 = 8 := by kernel_rfl
set_option maxRecDepth 100000 in
theorem c16U8 : Tryd.prog.cellsOf 109 = 16 := by kernel_rfl
set_option maxRecDepth 100000 in
theorem c4U8 : Tryd.prog.cellsOf 111 = 4 := by kernel_rfl
def ordRows : List (List Int) := [[0, 1, 2, 3, 4, 5, 6, 7, 8, 9, 10, 11, 12, 13, 14, 15], [14, 10, 4, 8, 9, 15, 13, 6, 1, 12, 0, 2, 11, 7, 5, 3], [11, 8, 12, 0, 5, 2, 15, 13, 10, 14, 3, 6, 7, 1, 9, 4], [7, 9, 3, 1, 13, 12, 11, 14, 2, 6, 5, 10, 4, 0, 15, 8], [9, 0, 5, 7, 2, 4, 10, 15, 14, 1, 11, 12, 6, 8, 3, 13], [2, 12, 6, 10, 0, 11, 8, 3, 4, 13, 7, 5, 15, 14, 1, 9], [12, 5, 1, 15, 14, 13, 4, 10, 0, 7, 6, 3, 9, 2, 8, 11], [13, 11, 7, 14, 12, 1, 3, 9, 5, 0, 15, 4, 8, 6, 2, 10], [6, 15, 14, 9, 11, 3, 0, 8, 12, 2, 13, 7, 1, 4, 10, 5], [10, 2, 8, 4, 7, 6, 1, 5, 15, 11, 9, 14, 3, 12, 13, 0]]
def laneRows : List (List Int) := [[0, 4, 8, 12], [1, 5, 9, 13], [2, 6, 10, 14], [3, 7, 11, 15], [0, 5, 10, 15], [1, 6, 11, 12], [2, 7, 8, 13], [3, 4, 9, 14]]
set_option maxRecDepth 100000 in
theorem ordRows_flat : ∀ q, q < 160 → (ordRows.getD (q / 16) [])[q % 16]? = some ((ordF.getD q 0 : Nat) : Int) := by decide +kernel
set_option maxRecDepth 100000 in
theorem laneRows_flat : ∀ q, q < 32 → (laneRows.getD (q / 4) [])[q % 4]? = some ((laneF.getD q 0 : Nat) : Int) := by decide +kernel
set_option maxRecDepth 100000 in
theorem dFirst : Rows.laid_sheaves_blake_firstWords (H := Unit) = Lib.tabData .u32 fw := rfl
set_option maxRecDepth 100000 in
theorem dOrders : Rows.laid_sheaves_blake_orders (H := Unit) = .agg (ordRows.map (Lib.tabData .u8)) := rfl
set_option maxRecDepth 100000 in
theorem dLanes : Rows.laid_sheaves_blake_lanes (H := Unit) = .agg (laneRows.map (Lib.tabData .u8)) := rfl

set_option maxRecDepth 100000 in
theorem tabs_of_laid {W : World} {n1 n2 n3 : String} (gFirst : Tryd.prog.globalNamed n1 = some 0) (gOrders : Tryd.prog.globalNamed n2 = some 1) (gLanes : Tryd.prog.globalNamed n3 = some 2)
    (h : laidMetH Tryd.prog [(n1, Rows.laid_sheaves_blake_firstWords), (n2, Rows.laid_sheaves_blake_orders), (n3, Rows.laid_sheaves_blake_lanes)] W) : Tabs W := by
  have h1 : laidMet Tryd.prog [(n1, Rows.laid_sheaves_blake_firstWords), (n2, Rows.laid_sheaves_blake_orders), (n3, Rows.laid_sheaves_blake_lanes)] W := h
  clear h
  have h2 := h1.tail
  have h3 := h2.tail
  rw [dFirst] at h1
  rw [dOrders] at h2
  rw [dLanes] at h3
  have t1 := Lib.tabIs_of_head gFirst tFirst Tryd.underlying97 Tryd.underlying96 cU32 c8U32 h1
  refine ⟨fun i hi => t1.cell gFirst i hi, fun i hi => ?_, fun i hi => ?_⟩
  · obtain ⟨ps, ⟨g', t', cs, fuel, p, q, hg', ht', hvar, hd, _, _⟩, _⟩ := h2
    obtain rfl := Option.some.inj (gOrders.symm.trans hg')
    obtain rfl := Option.some.inj (tOrders.symm.trans ht')
    have hc := World.var?_cell gOrders hvar i
    have he := cells_of_tab2 Tryd.underlying110 Tryd.underlying109 Tryd.underlying5 cU8 c16U8 (by decide) hd i hi
    rw [hc]
    have := ordRows_flat i hi
    simp only [List.getElem?_map, this, Option.map_some] at he
    simpa using he
  · obtain ⟨ps, ⟨g', t', cs, fuel, p, q, hg', ht', hvar, hd, _, _⟩, _⟩ := h3
    obtain rfl := Option.some.inj (gLanes.symm.trans hg')
    obtain rfl := Option.some.inj (tLanes.symm.trans ht')
    have hc := World.var?_cell gLanes hvar i
    have he := cells_of_tab2 Tryd.underlying112 Tryd.underlying111 Tryd.underlying5 cU8 c4U8 (by decide) hd i hi
    rw [hc]
    have := laneRows_flat i hi
    simp only [List.getElem?_map, this, Option.map_some] at he
    simpa using he
end Go.Proofs.YtmpflkggbekpfaaDoor

namespace Go.Proofs.YtmpflkggbekpfaaDoor
open Go.ChangeShapes Go.WideShapes Go.ChangeAt Go.RowKit

/-- What the initialisers of the three tables lay, in the first blocks. -/
def layBlock (c : Array Value) : Obj → Obj
  | .cells _ t frozen => .cells c t frozen
  | o => o
def layTabs (w : World) : World :=
  { w with heap := ((w.heap.modify 0 (layBlock (ua fw))).modify 1 (layBlock (ub (ordF.map Int.ofNat)).toArray)).modify 2 (layBlock (ub (laneF.map Int.ofNat)).toArray) }
end Go.Proofs.YtmpflkggbekpfaaDoor

namespace Go.Proofs.YtmpflkggbekpfaaDoor.provenAll
open Go.ChangeShapes Go.WideShapes Go.ChangeAt Go.RowKit

set_option maxRecDepth 100000 in
/-- What the walk gives, for every argument and every world that holds the tables. -/
theorem contract (H : Type) (enc : TypeId × Value → H) (W : World) (base : Nat) (args : Array Value) (ds gs : List (DataW H)) (before : List MemPlace)
    (hval : ∀ (j : Nat) t v, Tryd.f4.params[j]? = some t → args[j]? = some v → Value.okWide Tryd.prog W .any base t v)
    (hW : DataW.Whole enc Tryd.prog Tryd.f4.params.toList Rows.provenAllSpec.vars false W args.toList ds gs before) (hsz : (DataW.weightsEach Tryd.prog (Tryd.f4.params.toList ++ (OpenSpec.ofChange Rows.provenAllSpec).bare.plain.varTypes Tryd.prog) (ds ++ gs)).all (· ≤ reachBytes) = true) (hL : laidMetH Tryd.prog Rows.provenAllRow.laid W) :
    Calls Tryd.prog 4 args W fun e W' => ∃ v, e = .returned v ∧ Rows.provenAllSpec.post enc Tryd.prog Tryd.f4 false true false false W args v W' := by
  have hW' := hW
  obtain ⟨p, q, hA0, hV, rfl, hfz, hnd⟩ := hW
  have hA : DataW.TrodAll enc Tryd.prog W 0 (fun _ => true) true Tryd.f4.params.toList args.toList ds p := hA0
  rw [Tryd.params4] at hA hval hsz
  obtain ⟨v0, vs0, d0, ds0, p0, q0, hargs, rfl, rfl, h0, r0⟩ := trodAll_cons hA
  obtain ⟨v1, vs1, d1, ds1, p1, q1, rfl, rfl, rfl, h1, r1⟩ := trodAll_cons r0
  obtain ⟨rfl, rfl, rfl⟩ := trodAll_nil r1
  obtain rfl : args = #[v0, v1] := by cases args; simp_all
  obtain ⟨rfl, rfl⟩ := trodVars_none hV
  have k0 := h0
  have lt0 : ∀ x ∈ p0, x.block < W.heap.size := by obtain ⟨m, hm⟩ := k0; exact DataW.trod_lt m _ _ _ hm
  obtain ⟨ki0, ra0, rb0, rc0, sa0, cap0, ss0, rfl, q0_0, q0_1, q0_2, q0_3, q0_4⟩ := open_raw (hval 0 36 v0 rfl rfl) h0 (fit_each hsz (j := 0) rfl rfl)
  obtain ⟨a1, rfl, rfl, rfl, w1⟩ := open_int Tryd.underlying3 (hval 1 3 v1 rfl rfl) h1
  obtain ⟨lo1, hi1⟩ := bounds_i64 w1
  clear hA0
  have hT : Tabs W := tabs_of_laid (by kernel_rfl) (by kernel_rfl) (by kernel_rfl) hL
  refine (provenAll_walk ki0 ra0 rb0 rc0 sa0 cap0 ss0 a1 W q0_0 q0_1 q0_2 q0_3 q0_4 lo1 hi1 hT).mono fun e W' ⟨he, bel⟩ => ?_
  subst he
  exact ⟨_, rfl, _, _, _, [], _, [], hW', trodAll_mk1 (shut_bool Tryd.underlying4 _), (trodAll_cons_mk (Below.trod laidOut (by kernel_rfl) (of_decide_eq_true (by kernel_rfl)) k0 bel lt0) (trodAll_cons_mk (shut_int Tryd.underlying3 w1) trodAll_mk0)), rfl, bel.frame _, fun h => by cases h⟩

set_option maxRecDepth 100000 in
theorem laid_met (os : Os) : laidMet Tryd.prog Rows.provenAllRow.laid ((layTabs (World.holding Tryd.prog os ⟨#[], #[], []⟩)).forCall (fun _ _ => 0) ⟨#[], #[.agg #[.int .i64 0, .int .i64 0, .int .i64 0, .int .i64 0, .slice none 0 0], .int .i64 0], []⟩).memory :=
  laidMet_of_run' 8 (by kernel_rfl) (by kernel_rfl)
set_option maxRecDepth 100000 in
theorem reads (os : Os) {H : Type} (enc : TypeId × Value → H) : ∃ places, DataW.whole enc Tryd.prog ((layTabs (World.holding Tryd.prog os ⟨#[], #[], []⟩)).forCall (fun _ _ => 0) ⟨#[], #[.agg #[.int .i64 0, .int .i64 0, .int .i64 0, .int .i64 0, .slice none 0 0], .int .i64 0], []⟩).memory Tryd.f4.params.toList Rows.provenAllSpec.vars false (#[.agg #[.int .i64 0, .int .i64 0, .int .i64 0, .int .i64 0, .slice none 0 0], .int .i64 0] : Array Value).toList 8 = some ([.agg [.lit (.int .i64 0), .lit (.int .i64 0), .lit (.int .i64 0), .lit (.int .i64 0), .nil], .lit (.int .i64 0)], [], places) :=
  ⟨[], by kernel_rfl⟩

set_option maxRecDepth 100000 in
theorem lifted (os : Os) (started : os.Started) (H : Type) (enc : TypeId × Value → H) (F : Stop.Interp) :
    ReturnsInHanded {} Tryd.checked os 4 .any ((OpenSpec.ofChange Rows.provenAllSpec).preRow enc Tryd.prog Tryd.f4 Rows.provenAllRow.domain false Rows.provenAllRow.laid) (((OpenSpec.ofChange Rows.provenAllSpec).at F).post enc Tryd.prog Tryd.f4 false true false false) := by
  obtain ⟨places, hx⟩ := reads os enc
  refine returnsInHanded_of_row (C := Tryd.checked) (s := OpenSpec.ofChange Rows.provenAllSpec) own started (by kernel_rfl) Tryd.func4
    (witness_row_at (enc := enc) (C := Tryd.checked) false (layTabs (World.holding Tryd.prog os ⟨#[], #[], []⟩)) #[.agg #[.int .i64 0, .int .i64 0, .int .i64 0, .int .i64 0, .slice none 0 0], .int .i64 0] rfl (by kernel_rfl) (by kernel_rfl) (by kernel_rfl)
      (OpenSpec.preRow_of_cond 8 hx (by kernel_rfl) (fun k hk => by cases hk) (by kernel_rfl) (laid_met os))) ?_
  intro W base args ds gs before hval hW _ _ hsz hL _ _
  exact contract H enc W base args ds gs before hval hW hsz hL

set_option maxRecDepth 100000 in
theorem said : Rows.ProvenAllSaid :=
  OpenClaim.holds_of_cond 4 Tryd.f4 rfl rfl rfl rfl rfl rfl rfl ⟨rfl, rfl, rfl, rfl, rfl⟩ rfl rfl rfl rfl rfl (by kernel_rfl) Tryd.func4 (by kernel_rfl)
    (of_decide_eq_true (by kernel_rfl)) (by unfold Func.isWrapper; first | (rw [if_pos (by decide +kernel)]; kernel_rfl) | (rw [if_neg (by decide +kernel)]; exact ⟨rfl, rfl⟩))
    (fun os started H enc _ F => by rw [OpenClaim.pre_eq_preRow]; exact lifted os started H enc F)

set_option maxRecDepth 100000 in
theorem plain (f : FuncId) (fn : Func) (hf : Tryd.pinned.checked.prog.funcNamed Rows.provenAllRow.func = some f) (hfn : Tryd.pinned.checked.prog.funcs[f]? = some fn) :
    false = Tryd.pinned.checked.prog.looks [] ∧ ∀ (j : Nat) t, fn.params[j]? = some t → Tryd.pinned.checked.prog.wantsStandIn t = false := by
  obtain rfl : f = 4 := Option.some.inj ((show Tryd.prog.funcNamed Rows.provenAllRow.func = some 4 by kernel_rfl).symm.trans hf) |>.symm
  obtain rfl : fn = Tryd.f4 := (Option.some.inj (Tryd.func4.symm.trans hfn)).symm
  refine ⟨by kernel_rfl, fun j t ht => ?_⟩
  rw [Tryd.params4] at ht
  have hm : t = 36 ∨ t = 3 := by simpa using Array.mem_of_getElem? ht
  rcases hm with rfl | rfl
  · exact (show Tryd.prog.wantsStandIn 36 = false by kernel_rfl)
  · exact (show Tryd.prog.wantsStandIn 3 = false by kernel_rfl)

set_option maxRecDepth 100000 in
/-- THE CARD. -/
theorem card : Rows.ProvenAllCardSaid :=
  Claim7.holds_tied_plain_at .later [] _ _ _ _ said (fun _ h => by cases h) (by kernel_rfl) (fun _ h => by cases h) provenAll_row_tie rfl ⟨rfl, rfl⟩ (by kernel_rfl) rfl plain (by kernel_rfl)
end Go.Proofs.YtmpflkggbekpfaaDoor.provenAll
namespace Go.Proofs.YtmpflkggbekpfaaDoor
set_option maxRecDepth 100000 in
theorem provenAll_holds : Rows.ProvenAllCardSaid := provenAll.card
#print axioms provenAll_holds
end Go.Proofs.YtmpflkggbekpfaaDoor
