/- The walk of CertBad. -/
import Derived.Test.YtcecjdoabnhcgaaCertC
import Derived.Test.YtcecjdoabnhcgaaCCert
import Derived.Test.YtcecjdoabnhcgaaOffM
import Derived.Test.YtcecjdoabnhcgaaOpenR
namespace Go.Proofs.Ytcecjdoabnhcgaa
open Go.RowKit

set_option maxRecDepth 100000 in
theorem votersL_form (rc : Int) : ∃ x0 x1 x2 xs, votersL rc = x0 :: x1 :: x2 :: xs ∧ 0 ≤ x0 ∧ x0 < x1 ∧ x1 < 4 ∧ votersF (votersL rc) = 0 ∧ x0 < 4 ∧ (votersL rc).length ≤ 4 := by
  obtain ⟨p0, p1⟩ := pk_bounds rc 5 (by decide)
  unfold votersL
  generalize pk rc 5 = k at *
  have h : k = 0 ∨ k = 1 ∨ k = 2 ∨ k = 3 ∨ k = 4 := by omega
  rcases h with rfl | rfl | rfl | rfl | rfl
  · exact ⟨1, 2, 3, [], by decide, by decide, by decide, by decide, by decide, by decide, by decide⟩
  · exact ⟨0, 2, 3, [], by decide, by decide, by decide, by decide, by decide, by decide, by decide⟩
  · exact ⟨0, 1, 3, [], by decide, by decide, by decide, by decide, by decide, by decide, by decide⟩
  · exact ⟨0, 1, 2, [], by decide, by decide, by decide, by decide, by decide, by decide, by decide⟩
  · exact ⟨0, 1, 2, [3], by decide, by decide, by decide, by decide, by decide, by decide, by decide⟩
set_option maxRecDepth 100000 in
theorem vTo_first (vl : List Int) (k : Nat) (hk : k < vl.length) (h0 : vTo vl k = 0) (h : vAt vl k ≠ 0) : votersF vl = vAt vl k := by
  rw [votersF, vTo_at vl k hk h0 h, if_pos h]
set_option maxRecDepth 100000 in
theorem bad_order (x0 x2 : Int) (xs : List Int) (h0 : 0 ≤ x0) (h1 : x0 < 4) : votersF (x0 :: x0 :: x2 :: xs) = 9 := by
  have e : vAt (x0 :: x0 :: x2 :: xs) 1 = 9 := by simp [vAt, h0, h1]
  rw [vTo_first _ 1 (by simp) (by simp [vTo, vAt, h0, h1]) (by rw [e]; decide), e]
set_option maxRecDepth 100000 in
theorem bad_range (x1 x2 : Int) (xs : List Int) : votersF (-1 :: x1 :: x2 :: xs) = 2 := by
  have e : vAt (-1 :: x1 :: x2 :: xs) 0 = 2 := by simp [vAt]
  rw [vTo_first _ 0 (by simp) rfl (by rw [e]; decide), e]
set_option maxRecDepth 100000 in
theorem ListAt.drew' {w : World} {ra : Option Addr} {rc : Nat} {qs : List Part} (h : ListAt w ra rc qs) : ListAt w.drew ra rc qs := h.below (Below.refl _ _).drew
set_option maxRecDepth 100000 in
theorem IntsAt.drew' {w : World} {va : Option Addr} {vl : List Int} (h : IntsAt w va vl) : IntsAt w.drew va vl := h.below (Below.refl _ _).drew
set_option maxRecDepth 100000 in
theorem IntsAt.set {w : World} {g : Nat} {vl : List Int} (h : IntsAt w (some ⟨g, 0, none⟩) vl) (i : Nat) (x : Int) (hi : i < vl.length) : IntsAt (w.setCell ⟨g, i, none⟩ (.int .i64 x)) (some ⟨g, 0, none⟩) (vl.set i x) := by
  rcases h.cells with h | ⟨sb, so, e, h⟩
  · subst h; simp at hi
  · cases e
    refine ⟨.inr ⟨g, 0, rfl, fun j hj => ?_⟩⟩
    rw [List.length_set] at hj
    by_cases he : j = i
    · subst he
      have := h j hj
      rw [Nat.zero_add] at this ⊢
      rw [World.cell?_setCell_same _ _ _ this]
      simp [hj]
    · rw [World.cell?_setCell_other _ _ _ _ (fun e => he (by have h9 := congrArg Addr.off e; simp at h9; omega)), h j hj]
      simp [List.getD, List.getElem?_set_ne (Ne.symm he)]
set_option maxRecDepth 100000 in
set_option maxHeartbeats 2000000 in
theorem certBad_walk (ki ra rb rc : Int) (sa : Option Addr) (cap : Nat) (ss : List ByteArray) (wh : Int) (w : World) (_h1 : I64 ki) (h2 : I64 ra) (h3 : I64 rb) (h4 : I64 rc) (_h5 : TextsAt w sa cap ss) (h60 : -9223372036854775808 ≤ wh) (h61 : wh ≤ 9223372036854775807) :
    Calls Try.prog 10 #[.agg #[.int .i64 ki, .int .i64 ra, .int .i64 rb, .int .i64 rc, .slice sa ss.length cap], .int .i64 wh] w fun e w' => e = .returned (.bool true) ∧ Below w.heap.size w w' := by
  have hB : ∀ wx, _ := fun wx => header_raw2 ki ra rb rc sa ss.length cap wx h2 h3 h4
  have hV : ∀ wx, _ := fun wx => voters_any rc wx h4
  have HB : Hid _ := hB
  have HV : Hid _ := hV
  clear hB hV
  have q0 := heap_alloc_new w (.cells #[.int .i64 ki, .int .i64 ra, .int .i64 rb, .int .i64 rc, .slice sa ss.length cap] 48)
  have k0 : (w.alloc (.cells #[.int .i64 ki, .int .i64 ra, .int .i64 rb, .int .i64 rc, .slice sa ss.length cap] 48)).cell? ⟨w.heap.size, 0, none⟩ = some (.int .i64 ki) := cells_at q0 0 _ rfl
  have k1 : (w.alloc (.cells #[.int .i64 ki, .int .i64 ra, .int .i64 rb, .int .i64 rc, .slice sa ss.length cap] 48)).cell? ⟨w.heap.size, 1, none⟩ = some (.int .i64 ra) := cells_at q0 1 _ rfl
  have k2 : (w.alloc (.cells #[.int .i64 ki, .int .i64 ra, .int .i64 rb, .int .i64 rc, .slice sa ss.length cap] 48)).cell? ⟨w.heap.size, 2, none⟩ = some (.int .i64 rb) := cells_at q0 2 _ rfl
  have k3 : (w.alloc (.cells #[.int .i64 ki, .int .i64 ra, .int .i64 rb, .int .i64 rc, .slice sa ss.length cap] 48)).cell? ⟨w.heap.size, 3, none⟩ = some (.int .i64 rc) := cells_at q0 3 _ rfl
  have k4 : (w.alloc (.cells #[.int .i64 ki, .int .i64 ra, .int .i64 rb, .int .i64 rc, .slice sa ss.length cap] 48)).cell? ⟨w.heap.size, 4, none⟩ = some (.slice sa ss.length cap) := cells_at q0 4 _ rfl
  go_enter Try.func10, Try.ntmps10
  go_upto_region 1 with (fail)
  go_cut [5] (fun v wx => ∃ b ba bc bl pa pc pl va vc, v = .pointer (some ⟨b, 0, none⟩) ∧ CertC w wx b ra rb rc ba bc bl pa pc pl va vc)
  case first =>
    go_region_held3 (fun w' => w'.cell? ⟨w.heap.size, 0, none⟩ = some (.int .i64 ki) ∧ w'.cell? ⟨w.heap.size, 1, none⟩ = some (.int .i64 ra) ∧ w'.cell? ⟨w.heap.size, 2, none⟩ = some (.int .i64 rb) ∧ w'.cell? ⟨w.heap.size, 3, none⟩ = some (.int .i64 rc) ∧ w'.cell? ⟨w.heap.size, 4, none⟩ = some (.slice sa ss.length cap)) (go_keep) (first | (go_at_call 31; refine (HB.out _).mono ?_; rintro e w1 ⟨ba, bc, bl, pa, pc, pl, rfl, hLb, hLp, hOb, hOp, hbs, hps, hb1, hFb, hFp⟩; have HBS : Hid _ := hbs; have HPS : Hid _ := hps; clear hbs hps; have hN1 : w.heap.size < w1.heap.size := Nat.lt_of_lt_of_le (by simp; try omega) hb1.size; have hN1' : ¬ w.heap.size = w1.heap.size := Nat.ne_of_lt hN1; have hN1'' : ¬ w1.heap.size = w.heap.size := Nat.ne_of_gt hN1; first | (have r1 := row_new (below_drew hb1); have t0 := row_new (below_alloc (below_drew hb1)); rw [size_alloc] at r1; have c3 : w1.cell? ⟨w.heap.size, 3, none⟩ = some (.int .i64 rc) := cells_at t0 3 _ rfl; have c0 : w1.cell? ⟨w.heap.size, 0, none⟩ = some (.int .i64 ki) := cells_at t0 0 _ rfl; have c1 : w1.cell? ⟨w.heap.size, 1, none⟩ = some (.int .i64 ra) := cells_at t0 1 _ rfl; have c2 : w1.cell? ⟨w.heap.size, 2, none⟩ = some (.int .i64 rb) := cells_at t0 2 _ rfl; have c4 : w1.cell? ⟨w.heap.size, 4, none⟩ = some (.slice sa ss.length cap) := cells_at t0 4 _ rfl) | (have t0 := row_new (below_drew hb1); have c3 : w1.cell? ⟨w.heap.size, 3, none⟩ = some (.int .i64 rc) := cells_at t0 3 _ rfl; have c0 : w1.cell? ⟨w.heap.size, 0, none⟩ = some (.int .i64 ki) := cells_at t0 0 _ rfl; have c1 : w1.cell? ⟨w.heap.size, 1, none⟩ = some (.int .i64 ra) := cells_at t0 1 _ rfl; have c2 : w1.cell? ⟨w.heap.size, 2, none⟩ = some (.int .i64 rb) := cells_at t0 2 _ rfl; have c4 : w1.cell? ⟨w.heap.size, 4, none⟩ = some (.slice sa ss.length cap) := cells_at t0 4 _ rfl)) | (go_at_call 32; refine (HV.out _).mono ?_; rintro e w2 ⟨vv, rfl, ho2, hb2⟩; obtain ⟨va, vc, hvv⟩ := owns_shape ho2; subst hvv; have hN2 : w.heap.size < w2.heap.size := Nat.lt_of_lt_of_le hN1 (Nat.le_trans (by simp) hb2.size); first | (have r2 := row_new hb2; have u0 := ((below_alloc hb2).block _ (lt_of_heap t0)).trans t0; have d0 : w2.cell? ⟨w.heap.size, 0, none⟩ = some (.int .i64 ki) := cells_at u0 0 _ rfl; have d1 : w2.cell? ⟨w.heap.size, 1, none⟩ = some (.int .i64 ra) := cells_at u0 1 _ rfl; have d2 : w2.cell? ⟨w.heap.size, 2, none⟩ = some (.int .i64 rb) := cells_at u0 2 _ rfl; have d3 : w2.cell? ⟨w.heap.size, 3, none⟩ = some (.int .i64 rc) := cells_at u0 3 _ rfl; have d4 : w2.cell? ⟨w.heap.size, 4, none⟩ = some (.slice sa ss.length cap) := cells_at u0 4 _ rfl; have z0 : w2.cell? ⟨w1.heap.size, 0, none⟩ = some (.int .i64 0) := cells_at r2 0 _ rfl; have f0 := frozen_at r2 0; have z1 : w2.cell? ⟨w1.heap.size, 1, none⟩ = some (.int .i64 0) := cells_at r2 1 _ rfl; have f1 := frozen_at r2 1; have z2 : w2.cell? ⟨w1.heap.size, 2, none⟩ = some (.slice none 0 0) := cells_at r2 2 _ rfl; have f2 := frozen_at r2 2; have z3 : w2.cell? ⟨w1.heap.size, 3, none⟩ = some (.slice none 0 0) := cells_at r2 3 _ rfl; have f3 := frozen_at r2 3; have z4 : w2.cell? ⟨w1.heap.size, 4, none⟩ = some (.slice none 0 0) := cells_at r2 4 _ rfl; have f4 := frozen_at r2 4) | (have r2 := (hb2.block _ (lt_of_heap r1)).trans r1; have u0 := (hb2.block _ (lt_of_heap t0)).trans t0; have d0 : w2.cell? ⟨w.heap.size, 0, none⟩ = some (.int .i64 ki) := cells_at u0 0 _ rfl; have d1 : w2.cell? ⟨w.heap.size, 1, none⟩ = some (.int .i64 ra) := cells_at u0 1 _ rfl; have d2 : w2.cell? ⟨w.heap.size, 2, none⟩ = some (.int .i64 rb) := cells_at u0 2 _ rfl; have d3 : w2.cell? ⟨w.heap.size, 3, none⟩ = some (.int .i64 rc) := cells_at u0 3 _ rfl; have d4 : w2.cell? ⟨w.heap.size, 4, none⟩ = some (.slice sa ss.length cap) := cells_at u0 4 _ rfl; have z0 : w2.cell? ⟨w.heap.size + 1, 0, none⟩ = some (.int .i64 0) := cells_at r2 0 _ rfl; have f0 := frozen_at r2 0; have z1 : w2.cell? ⟨w.heap.size + 1, 1, none⟩ = some (.int .i64 0) := cells_at r2 1 _ rfl; have f1 := frozen_at r2 1; have z2 : w2.cell? ⟨w.heap.size + 1, 2, none⟩ = some (.slice none 0 0) := cells_at r2 2 _ rfl; have f2 := frozen_at r2 2; have z3 : w2.cell? ⟨w.heap.size + 1, 3, none⟩ = some (.slice none 0 0) := cells_at r2 3 _ rfl; have f3 := frozen_at r2 3; have z4 : w2.cell? ⟨w.heap.size + 1, 4, none⟩ = some (.slice none 0 0) := cells_at r2 4 _ rfl; have f4 := frozen_at r2 4) | (have u0 := (hb2.block _ (lt_of_heap t0)).trans t0; have d0 : w2.cell? ⟨w.heap.size, 0, none⟩ = some (.int .i64 ki) := cells_at u0 0 _ rfl; have d1 : w2.cell? ⟨w.heap.size, 1, none⟩ = some (.int .i64 ra) := cells_at u0 1 _ rfl; have d2 : w2.cell? ⟨w.heap.size, 2, none⟩ = some (.int .i64 rb) := cells_at u0 2 _ rfl; have d3 : w2.cell? ⟨w.heap.size, 3, none⟩ = some (.int .i64 rc) := cells_at u0 3 _ rfl; have d4 : w2.cell? ⟨w.heap.size, 4, none⟩ = some (.slice sa ss.length cap) := cells_at u0 4 _ rfl)))
    all_goals
      go_wp2_with fail
      go_meet
      case rel =>
        have hB1 := below_drew hb1
        first
          | (have hg := r1; refine ⟨_, ba, bc, bl, pa, pc, pl, va, vc, rfl, ?_⟩; exact certC_first (below_alloc (below_alloc hB1)) (by have := hB1.size; rw [size_alloc, size_alloc] at this; exact this) hLb hLp hOb hOp HBS.out HPS.out (by have h := hFb; rw [heap_drew, size_alloc, size_alloc] at h; exact h) (by have h := hFp; rw [heap_drew, size_alloc, size_alloc] at h; exact h) hb2 ho2 r2)
          | (have hg := r2; refine ⟨_, ba, bc, bl, pa, pc, pl, va, vc, rfl, ?_⟩; exact certC_mid (below_alloc hB1) hN1 hLb hLp hOb hOp HBS.out HPS.out hb2 ho2)
          | (refine ⟨_, ba, bc, bl, pa, pc, pl, va, vc, rfl, ?_⟩; exact certC_last (below_alloc hB1) hN1 hLb hLp hOb hOp HBS.out HPS.out hb2 ho2)
  case rest =>
    obtain ⟨b, ba, bc, bl, pa, pc, pl, va, vc, rfl, H⟩ := hcut
    clear k0 k1 k2 k3 k4 q0 HB HV
    have hF := headerF_raw ra rb rc bl pl H.ebs H.eps
    obtain ⟨x0, x1, x2, xs, hVL, hx0, hx1, hx2, hx3, hx4, hlen⟩ := votersL_form rc
    obtain ⟨g, vb, hva, hcap, hcl⟩ : ∃ g cap, (Value.slice va (votersL rc).length vc) = .slice (some ⟨g, 0, none⟩) (votersL rc).length cap ∧ (votersL rc).length ≤ cap ∧ cap ≤ 9223372036854775807 := by
      rcases H.own.2 with ⟨e, hn⟩ | ⟨g, cap, cur, e, _, _, h1, h2, _⟩
      · rw [hVL] at hn; simp at hn
      · exact ⟨g, cap, e, h1, h2⟩
    cases hva
    have hI0 := (intsAt_of_owns H.own)
    obtain ⟨_, _, e9, _, hI, _⟩ := hI0
    cases e9
    have hbox := H.box
    have hbat := H.bat
    have hpar := H.par
    have hvg : (Value.slice (some ⟨g, 0, none⟩) (votersL rc).length vc).ownBlock = some g := rfl
    have hoffb := H.offb
    have hoffp := H.offp
    have hgb : g ≠ b := H.vne g 0 rfl
    have hgw := (H.own.lt g rfl).1
    have hlow := H.low
    have hbel := H.below
    have hawb := H.awb
    have hown := H.own
    have hawp := H.awp
    clear H
    generalize votersL rc = VL at *
    generalize pk ra 4 = au at *
    generalize 1 + pk rb 9 = rd at *
    have hC0 : certF au rd bl pl VL = 0 := by rw [certF, hF]; simp [hx3]; omega
    have hcc : ∀ (wx : World) (vl : List Int) (va' : Option Addr) (vc' : Nat), ListAt wx ba bc bl → ListAt wx pa pc pl → IntsAt wx va' vl → vl.length ≤ 5 → Calls Try.prog 33 #[.agg #[.int .i64 au, .int .i64 rd, .slice ba bl.length bc, .slice pa pl.length pc, .slice va' vl.length vc']] wx fun e w' => e = .returned (.int .i64 (certF au rd bl pl vl)) ∧ Below wx.heap.size wx w' := fun wx vl va' vc' l1 l2 l3 l4 => checkCert_any au rd ba bc bl pa pc pl va' vc' vl wx l1 l2 l3 (by omega)
    have HCC : Hid _ := hcc
    have HVL : Hid _ := hVL
    have HC0 : Hid _ := hC0
    have HF : Hid _ := hF
    have HX3 : Hid _ := hx3
    clear hcc hVL hC0 hF hx3
    have c0 : wc.cell? ⟨b, 0, none⟩ = some (.int .i64 au) := cells_at hbox 0 _ rfl
    have c1 : wc.cell? ⟨b, 1, none⟩ = some (.int .i64 rd) := cells_at hbox 1 _ rfl
    have c2 : wc.cell? ⟨b, 2, none⟩ = some (.slice ba bl.length bc) := cells_at hbox 2 _ rfl
    have c3 : wc.cell? ⟨b, 3, none⟩ = some (.slice pa pl.length pc) := cells_at hbox 3 _ rfl
    have c4 : wc.cell? ⟨b, 4, none⟩ = some (.slice (some ⟨g, 0, none⟩) VL.length vc) := cells_at hbox 4 _ rfl
    go_wp2_with fail
    refine (HCC.out _ VL _ _ hbat hpar hI (by omega)).mono ?_
    rw [HC0.out]
    rintro e w1 ⟨rfl, hb1⟩
    have hbx1 := (hb1.block _ (lt_of_heap hbox)).trans hbox
    have hbat1 := hbat.below hb1
    have hpar1 := hpar.below hb1
    have hI1 := hI.below hb1
    have hW1 := hbel.trans (hb1.mono hbel.size)
    clear c0 c1 c2 c3 c4
    have c0 : w1.cell? ⟨b, 0, none⟩ = some (.int .i64 au) := cells_at hbx1 0 _ rfl
    have c1 : w1.cell? ⟨b, 1, none⟩ = some (.int .i64 rd) := cells_at hbx1 1 _ rfl
    have c2 : w1.cell? ⟨b, 2, none⟩ = some (.slice ba bl.length bc) := cells_at hbx1 2 _ rfl
    have c3 : w1.cell? ⟨b, 3, none⟩ = some (.slice pa pl.length pc) := cells_at hbx1 3 _ rfl
    have c4 : w1.cell? ⟨b, 4, none⟩ = some (.slice (some ⟨g, 0, none⟩) VL.length vc) := cells_at hbx1 4 _ rfl
    have f4 := frozen_at hbx1 4
    have hbl1 : b < w1.heap.size := lt_of_heap hbx1
    have hlw : w.heap.size ≤ b := Nat.le_of_lt hlow
    have hown1 := owns_keep hown hb1
    have fg0 := World.ownsRow.frozenAt hown1 0
    have fg1 := World.ownsRow.frozenAt hown1 1
    have hag : Away g ba bl := ⟨fun sb so e h => (hoffb.row sb so e).2 (by rw [h]; rfl), fun p hp sb so e h => (hoffb.each p hp sb so e).2 (by rw [h]; rfl)⟩
    have hagp : Away g pa pl := ⟨fun sb so e h => (hoffp.row sb so e).2 (by rw [h]; rfl), fun p hp sb so e h => (hoffp.each p hp sb so e).2 (by rw [h]; rfl)⟩
    have hbg : b ≠ g := fun e => hgb e.symm
    have hI1' : IntsAt w1 (some ⟨g, 0, none⟩) (x0 :: x1 :: x2 :: xs) := by rw [← HVL.out]; exact hI1
    obtain ⟨g0, g1⟩ : w1.cell? ⟨g, 0, none⟩ = some (.int .i64 x0) ∧ w1.cell? ⟨g, 1, none⟩ = some (.int .i64 x1) := by
      rcases hI1'.cells with h | ⟨sb, so, e, h⟩
      · cases h
      · cases e
        exact ⟨by simpa using h 0 (by simp), by simpa using h 1 (by simp)⟩
    have hVl : VL.length = (x0 :: x1 :: x2 :: xs).length := by rw [HVL.out]
    have HVl : Hid _ := hVl
    clear hVl hown hoffb hoffp
    have hlg : w.heap.size ≤ g := by omega
    have hL3 : 3 ≤ VL.length := by rw [HVL.out]; simp
    have hP := picked_any wh 4
    obtain ⟨p0, p1⟩ := pk_bounds wh 4 (by decide)
    have hk : pk wh 4 = 0 ∨ pk wh 4 = 1 ∨ pk wh 4 = 2 ∨ pk wh 4 = 3 := by omega
    have hPK : ∀ wx, Calls Try.prog 30 #[.int .i64 wh, .int .i64 4] wx fun e w' => e = .returned (.int .i64 (pk wh 4)) ∧ wx = w' := fun wx => picked_any wh 4 wx h60 h61 (by decide) (by decide)
    generalize pk wh 4 = kk at *
    have HPK : Hid _ := hPK
    clear hPK hP
    rcases hk with rfl | rfl | rfl | rfl
    · have hcI : (2 : Int) ≤ (vc : Int) := by omega
      go_wp2_with (go_at_call 30; refine (HPK.out _).mono ?_; rintro e w9 ⟨rfl, rfl⟩)
      refine (HCC.out _ [x0, x1] (some ⟨g, 0, none⟩) vc (hbat1.away hawb _ _) (hpar1.away hawp _ _) ?_ (by simp)).mono ?_
      · refine IntsAt.setCell ?_ _ _ _ (fun sb so e => by cases e; exact hbg)
        rcases hI1'.cells with h | ⟨sb, so, e, h⟩
        · cases h
        · refine ⟨.inr ⟨sb, so, e, fun j hj => ?_⟩⟩
          rw [h j (by simp at hj ⊢; omega)]
          match j, hj with
          | 0, _ => rfl
          | 1, _ => rfl
      rw [show certF au rd bl pl [x0, x1] = 10 by rw [certF, HF.out]; simp [votersF, vTo, vAt, hx0, hx4, hx2]; omega]
      rintro e w2 ⟨rfl, hb2⟩
      go_wp2_with fail
      go_ret
      exact ⟨rfl, (hW1.setCell hlw _).trans (hb2.mono (by simpa using hW1.size))⟩
    · have h1I : (1 : Int) < (VL.length : Int) := by omega
      have hz0 : ¬ (VL.length : Int) ≤ 0 := by omega
      have hgb' : ¬ g = b := hgb
      have hbg' : ¬ b = g := hbg
      have h0I : (0 : Int) < (VL.length : Int) := by omega
      go_wp2_with (go_at_call 30; refine (HPK.out _).mono ?_; rintro e w9 ⟨rfl, rfl⟩)
      go_region
      all_goals
        go_wp2_with fail
        rw [HVl.out]
        refine (HCC.out _ (x0 :: x0 :: x2 :: xs) (some ⟨g, 0, none⟩) vc (hbat1.drew'.away hag _ _) (hpar1.drew'.away hagp _ _) ?_ (by have := HVl.out; simp at this ⊢; omega)).mono ?_
        · exact (hI1'.drew').set 1 x0 (by simp)
        rw [show certF au rd bl pl (x0 :: x0 :: x2 :: xs) = 9 by rw [certF, HF.out]; simp [bad_order x0 x2 xs hx0 hx4]; have := HVl.out; simp at this; omega]
        rintro e w2 ⟨rfl, hb2⟩
        go_wp2_with fail
        go_ret
        exact ⟨rfl, (hW1.drew.setCell hlg _).trans (hb2.mono (by simpa using hW1.size))⟩
    · have h0I : (0 : Int) < (VL.length : Int) := by omega
      go_wp2_with (go_at_call 30; refine (HPK.out _).mono ?_; rintro e w9 ⟨rfl, rfl⟩)
      rw [HVl.out]
      refine (HCC.out _ (-1 :: x1 :: x2 :: xs) (some ⟨g, 0, none⟩) vc (hbat1.away hag _ _) (hpar1.away hagp _ _) ?_ (by have := HVl.out; simp at this ⊢; omega)).mono ?_
      · exact hI1'.set 0 (-1) (by simp)
      rw [show certF au rd bl pl (-1 :: x1 :: x2 :: xs) = 2 by rw [certF, HF.out]; simp [bad_range x1 x2 xs]; have := HVl.out; simp at this; omega]
      rintro e w2 ⟨rfl, hb2⟩
      go_wp2_with fail
      go_ret
      exact ⟨rfl, (hW1.setCell hlg _).trans (hb2.mono (by simpa using hW1.size))⟩
    · go_wp2_with (go_at_call 30; refine (HPK.out _).mono ?_; rintro e w9 ⟨rfl, rfl⟩)
      have hlit := World.ownsRow_lit (base := w1.heap.size) (e := 3) (size := 1) (w1.setCell ⟨b, 4, none⟩ (.slice (some ⟨w1.heap.size, 0, none⟩) 5 5)) (iv [0, 1, 2, 3, 3]).toArray 5 (by simp) (by decide) rfl
      have hA : Below (w1.setCell ⟨b, 4, none⟩ (.slice (some ⟨w1.heap.size, 0, none⟩) 5 5)).heap.size (w1.setCell ⟨b, 4, none⟩ (.slice (some ⟨w1.heap.size, 0, none⟩) 5 5)) ((w1.setCell ⟨b, 4, none⟩ (.slice (some ⟨w1.heap.size, 0, none⟩) 5 5)).alloc (.cells #[.int .i64 0, .int .i64 1, .int .i64 2, .int .i64 3, .int .i64 3] 3)) := (Below.refl _ _).alloc (Nat.le_refl _) _
      refine (HCC.out _ [0, 1, 2, 3, 3] (some ⟨w1.heap.size, 0, none⟩) 5 ((hbat1.away hawb _ _).below hA) ((hpar1.away hawp _ _).below hA) ?_ (by simp)).mono ?_
      · obtain ⟨za, zc, e, _, hz, _⟩ := intsAt_of_owns hlit
        simp at e
        obtain ⟨rfl, rfl⟩ := e
        simpa [iv] using hz
      rw [show certF au rd bl pl [0, 1, 2, 3, 3] = 1 by rw [certF, HF.out]; simp]
      rintro e w2 ⟨rfl, hb2⟩
      go_wp2_with fail
      go_ret
      exact ⟨rfl, ((hW1.setCell hlw _).alloc (by simpa using hW1.size) _).trans (hb2.mono (by simp; have := hW1.size; omega))⟩
end Go.Proofs.Ytcecjdoabnhcgaa
