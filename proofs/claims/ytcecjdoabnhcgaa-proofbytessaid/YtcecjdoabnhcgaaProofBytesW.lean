/- The walk of ProofBytes. -/
import Derived.Test.YtcecjdoabnhcgaaCertC
import Derived.Test.YtcecjdoabnhcgaaVForm
import Derived.Test.YtcecjdoabnhcgaaProM
import Derived.Test.YtcecjdoabnhcgaaSame
import Derived.Test.YtcecjdoabnhcgaaOpenR
namespace Go.Proofs.Ytcecjdoabnhcgaa
open Go.RowKit

set_option maxRecDepth 100000 in
/-- A part of a slice. -/
theorem part_slice {w : World} {g so cap : Nat} {l : List Int} (h : SliceAt w (some ⟨g, so, none⟩) cap l) (i n : Nat) (hi : i + n ≤ l.length) : SliceAt w (some ⟨g, so + i, none⟩) (cap - i) ((l.drop i).take n) := by
  have hl := h.le
  have hm := h.max
  refine ⟨by simp; omega, by omega, .inr ⟨g, so + i, rfl⟩, (fun e => by cases e), h.bytes.cut i n⟩
set_option maxRecDepth 100000 in
set_option maxHeartbeats 2000000 in
theorem proofBytes_walk (ki ra rb rc : Int) (sa : Option Addr) (cap : Nat) (ss : List ByteArray) (w : World) (_h1 : I64 ki) (h2 : I64 ra) (h3 : I64 rb) (h4 : I64 rc) (_h5 : TextsAt w sa cap ss) :
    Calls Try.prog 15 #[.agg #[.int .i64 ki, .int .i64 ra, .int .i64 rb, .int .i64 rc, .slice sa ss.length cap]] w fun e w' => e = .returned (.bool true) ∧ Below w.heap.size w w' := by
  have hB : ∀ wx, _ := fun wx => header_raw2 ki ra rb rc sa ss.length cap wx h2 h3 h4
  have hV : ∀ wx, _ := fun wx => voters_any rc wx h4
  have HB : Hid _ := hB
  have HV : Hid _ := hV
  clear hB hV
  have q0 := heap_alloc_new w (.cells #[.int .i64 ki, .int .i64 ra, .int .i64 rb, .int .i64 rc, .slice sa ss.length cap] 48)
  have k0 : (w.alloc (.cells #[.int .i64 ki, .int .i64 ra, .int .i64 rb, .int .i64 rc, .slice sa ss.length cap] 48)).cell? ⟨w.heap.size, 0, none⟩ = some (.int .i64 ki) := cells_at q0 0 _ rfl
  have k1 : (w.alloc (.cells #[.int .i64 ki, .int .i64 ra, .int .i64 rb, .int .i64 rc, .slice sa ss.length cap] 48)).cell? ⟨w.heap.size, 1, none⟩ = some (.int .i64 ra) := cells_at q0 1 _ rfl
  have k2 : (w.alloc (.cells #[.int .i64 ki, .int .i64 ra, .int .i64 rb, .int .i64 rc, .slice sa ss.length cap] 48)).cell? ⟨w.heap.size, 2, none⟩ = some (.int .i64 rb) := cells_at q0 2 _ rfl
  have k3 : (w.alloc (.cells #[.int .i64 ki, .int .i64 ra, .int .i64 rb, .int .i64 rc, .slice sa ss.length cap] 48)).cell? ⟨w.heap.size, 3, none⟩ = some (.int .i64 rc) := cells_at q0 3 _ rfl
  have k4 : (w.alloc (.cells #[.int .i64 ki, .int .i64 ra, .int .i64 rb, .int .i64 rc, .slice sa ss.length cap] 48)).cell? ⟨w.heap.size, 4, none⟩ = some (.slice sa ss.length cap) := cells_at q0 4 _ rfl
  go_enter Try.func15, Try.ntmps15
  go_upto_region 1 with (fail)
  go_cut [3] (fun v wx => ∃ b ba bc bl pa pc pl va vc, v = .pointer (some ⟨b, 0, none⟩) ∧ CertC w wx b ra rb rc ba bc bl pa pc pl va vc)
  case first =>
    go_region_held3 (fun w' => w'.cell? ⟨w.heap.size, 0, none⟩ = some (.int .i64 ki) ∧ w'.cell? ⟨w.heap.size, 1, none⟩ = some (.int .i64 ra) ∧ w'.cell? ⟨w.heap.size, 2, none⟩ = some (.int .i64 rb) ∧ w'.cell? ⟨w.heap.size, 3, none⟩ = some (.int .i64 rc) ∧ w'.cell? ⟨w.heap.size, 4, none⟩ = some (.slice sa ss.length cap)) (go_keep) (first | (go_at_call 31; refine (HB.out _).mono ?_; rintro e w1 ⟨ba, bc, bl, pa, pc, pl, rfl, hLb, hLp, hOb, hOp, hbs, hps, hb1, hFb, hFp⟩; have HBS : Hid _ := hbs; have HPS : Hid _ := hps; clear hbs hps; have hN1 : w.heap.size < w1.heap.size := Nat.lt_of_lt_of_le (by simp; try omega) hb1.size; have hN1' : ¬ w.heap.size = w1.heap.size := Nat.ne_of_lt hN1; have hN1'' : ¬ w1.heap.size = w.heap.size := Nat.ne_of_gt hN1; first | (have r1 := row_new (below_drew hb1); have t0 := row_new (below_alloc (below_drew hb1)); rw [size_alloc] at r1; have c3 : w1.cell? ⟨w.heap.size, 3, none⟩ = some (.int .i64 rc) := cells_at t0 3 _ rfl; have c0 : w1.cell? ⟨w.heap.size, 0, none⟩ = some (.int .i64 ki) := cells_at t0 0 _ rfl; have c1 : w1.cell? ⟨w.heap.size, 1, none⟩ = some (.int .i64 ra) := cells_at t0 1 _ rfl; have c2 : w1.cell? ⟨w.heap.size, 2, none⟩ = some (.int .i64 rb) := cells_at t0 2 _ rfl; have c4 : w1.cell? ⟨w.heap.size, 4, none⟩ = some (.slice sa ss.length cap) := cells_at t0 4 _ rfl) | (have t0 := row_new (below_drew hb1); have c3 : w1.cell? ⟨w.heap.size, 3, none⟩ = some (.int .i64 rc) := cells_at t0 3 _ rfl; have c0 : w1.cell? ⟨w.heap.size, 0, none⟩ = some (.int .i64 ki) := cells_at t0 0 _ rfl; have c1 : w1.cell? ⟨w.heap.size, 1, none⟩ = some (.int .i64 ra) := cells_at t0 1 _ rfl; have c2 : w1.cell? ⟨w.heap.size, 2, none⟩ = some (.int .i64 rb) := cells_at t0 2 _ rfl; have c4 : w1.cell? ⟨w.heap.size, 4, none⟩ = some (.slice sa ss.length cap) := cells_at t0 4 _ rfl)) | (go_at_call 32; refine (HV.out _).mono ?_; rintro e w2 ⟨vv, rfl, ho2, hb2⟩; obtain ⟨va, vc, hvv⟩ := owns_shape ho2; subst hvv; have hN2 : w.heap.size < w2.heap.size := Nat.lt_of_lt_of_le hN1 (Nat.le_trans (by simp) hb2.size); first | (have r2 := row_new hb2; have u0 := ((below_alloc hb2).block _ (lt_of_heap t0)).trans t0; have d0 : w2.cell? ⟨w.heap.size, 0, none⟩ = some (.int .i64 ki) := cells_at u0 0 _ rfl; have d1 : w2.cell? ⟨w.heap.size, 1, none⟩ = some (.int .i64 ra) := cells_at u0 1 _ rfl; have d2 : w2.cell? ⟨w.heap.size, 2, none⟩ = some (.int .i64 rb) := cells_at u0 2 _ rfl; have d3 : w2.cell? ⟨w.heap.size, 3, none⟩ = some (.int .i64 rc) := cells_at u0 3 _ rfl; have d4 : w2.cell? ⟨w.heap.size, 4, none⟩ = some (.slice sa ss.length cap) := cells_at u0 4 _ rfl; have z0 : w2.cell? ⟨w1.heap.size, 0, none⟩ = some (.int .i64 0) := cells_at r2 0 _ rfl; have f0 := frozen_at r2 0; have z1 : w2.cell? ⟨w1.heap.size, 1, none⟩ = some (.int .i64 0) := cells_at r2 1 _ rfl; have f1 := frozen_at r2 1; have z2 : w2.cell? ⟨w1.heap.size, 2, none⟩ = some (.slice none 0 0) := cells_at r2 2 _ rfl; have f2 := frozen_at r2 2; have z3 : w2.cell? ⟨w1.heap.size, 3, none⟩ = some (.slice none 0 0) := cells_at r2 3 _ rfl; have f3 := frozen_at r2 3; have z4 : w2.cell? ⟨w1.heap.size, 4, none⟩ = some (.slice none 0 0) := cells_at r2 4 _ rfl; have f4 := frozen_at r2 4) | (have r2 := (hb2.block _ (lt_of_heap r1)).trans r1; have u0 := (hb2.block _ (lt_of_heap t0)).trans t0; have d0 : w2.cell? ⟨w.heap.size, 0, none⟩ = some (.int .i64 ki) := cells_at u0 0 _ rfl; have d1 : w2.cell? ⟨w.heap.size, 1, none⟩ = some (.int .i64 ra) := cells_at u0 1 _ rfl; have d2 : w2.cell? ⟨w.heap.size, 2, none⟩ = some (.int .i64 rb) := cells_at u0 2 _ rfl; have d3 : w2.cell? ⟨w.heap.size, 3, none⟩ = some (.int .i64 rc) := cells_at u0 3 _ rfl; have d4 : w2.cell? ⟨w.heap.size, 4, none⟩ = some (.slice sa ss.length cap) := cells_at u0 4 _ rfl; have z0 : w2.cell? ⟨w.heap.size + 1, 0, none⟩ = some (.int .i64 0) := cells_at r2 0 _ rfl; have f0 := frozen_at r2 0; have z1 : w2.cell? ⟨w.heap.size + 1, 1, none⟩ = some (.int .i64 0) := cells_at r2 1 _ rfl; have f1 := frozen_at r2 1; have z2 : w2.cell? ⟨w.heap.size + 1, 2, none⟩ = some (.slice none 0 0) := cells_at r2 2 _ rfl; have f2 := frozen_at r2 2; have z3 : w2.cell? ⟨w.heap.size + 1, 3, none⟩ = some (.slice none 0 0) := cells_at r2 3 _ rfl; have f3 := frozen_at r2 3; have z4 : w2.cell? ⟨w.heap.size + 1, 4, none⟩ = some (.slice none 0 0) := cells_at r2 4 _ rfl; have f4 := frozen_at r2 4) | (have u0 := (hb2.block _ (lt_of_heap t0)).trans t0; have d0 : w2.cell? ⟨w.heap.size, 0, none⟩ = some (.int .i64 ki) := cells_at u0 0 _ rfl; have d1 : w2.cell? ⟨w.heap.size, 1, none⟩ = some (.int .i64 ra) := cells_at u0 1 _ rfl; have d2 : w2.cell? ⟨w.heap.size, 2, none⟩ = some (.int .i64 rb) := cells_at u0 2 _ rfl; have d3 : w2.cell? ⟨w.heap.size, 3, none⟩ = some (.int .i64 rc) := cells_at u0 3 _ rfl; have d4 : w2.cell? ⟨w.heap.size, 4, none⟩ = some (.slice sa ss.length cap) := cells_at u0 4 _ rfl)))
    all_goals
      go_wp2_with fail
      go_meet
      case rel =>
        have hB1 := below_drew hb1
        first
          | (have hg := r1; refine ⟨_, ba, bc, bl, pa, pc, pl, va, vc, rfl, ?_⟩; exact certC_first (below_alloc (below_alloc hB1)) (by have := hB1.size; rw [size_alloc, size_alloc] at this; exact this) hLb hLp hOb hOp HBS.out HPS.out (by have h := hFb; rw [heap_drew, size_alloc, size_alloc] at h; exact h) (by have h := hFp; rw [heap_drew, size_alloc, size_alloc] at h; exact h) hb2 ho2 r2)
          | (have hg := r2; refine ⟨_, ba, bc, bl, pa, pc, pl, va, vc, rfl, ?_⟩; exact certC_mid (below_alloc hB1) hN1 hLb hLp hOb hOp HBS.out HPS.out hb2 ho2)
          | (refine ⟨_, ba, bc, bl, pa, pc, pl, va, vc, rfl, ?_⟩; exact certC_last (below_alloc hB1) hN1 hLb hLp hOb hOp HBS.out HPS.out hb2 ho2)
  case rest =>
    obtain ⟨b, ba, bc, bl, pa, pc, pl, va, vc, rfl, H⟩ := hcut
    clear k0 k1 k2 k3 k4 q0 HB HV
    have hF := headerF_raw ra rb rc bl pl H.ebs H.eps
    obtain ⟨x0, x1, x2, xs, hVL, hx0, hx1, hx2, hx3, hx4, hlen⟩ := votersL_form rc
    have hv4 := votersL_four rc
    obtain ⟨_, _, e9, _, hI, _⟩ := intsAt_of_owns H.own
    cases e9
    have hvb : ∀ sb so, va = some ⟨sb, so, none⟩ → sb < wc.heap.size := fun sb so e => by subst e; exact (H.own.lt sb rfl).2
    have hbox := H.box
    have hbat := H.bat
    have hpar := H.par
    have hOb : Off wc (.slice none 0 0) ba bl := ⟨fun sb so e => ⟨(H.offb.row sb so e).1, fun h => by cases h⟩, fun p hp sb so e => ⟨(H.offb.each p hp sb so e).1, fun h => by cases h⟩⟩
    have hOp : Off wc (.slice none 0 0) pa pl := ⟨fun sb so e => ⟨(H.offp.row sb so e).1, fun h => by cases h⟩, fun p hp sb so e => ⟨(H.offp.each p hp sb so e).1, fun h => by cases h⟩⟩
    have hbel := H.below
    have hL3 : 3 ≤ (votersL rc).length := by rw [hVL]; simp
    clear H hVL
    generalize votersL rc = VL at *
    generalize pk ra 4 = au at *
    generalize 1 + pk rb 9 = rd at *
    have hC0 : certF au rd bl pl VL = 0 := by rw [certF, hF]; simp [hx3]; omega
    have HC0 : Hid _ := hC0
    have HF : Hid _ := hF
    have HV4 : Hid _ := hv4
    obtain ⟨z1, z2, z3, z4, z5, z6⟩ := headerF_ok hF
    have hhB : (headB au rd bl pl).length ≤ 300 := headB_le au rd bl pl (by omega) z4 z5 z6
    clear hC0 hF hx3 hv4 z5 z6
    have c0 : wc.cell? ⟨b, 0, none⟩ = some (.int .i64 au) := cells_at hbox 0 _ rfl
    have c1 : wc.cell? ⟨b, 1, none⟩ = some (.int .i64 rd) := cells_at hbox 1 _ rfl
    have c2 : wc.cell? ⟨b, 2, none⟩ = some (.slice ba bl.length bc) := cells_at hbox 2 _ rfl
    have c3 : wc.cell? ⟨b, 3, none⟩ = some (.slice pa pl.length pc) := cells_at hbox 3 _ rfl
    have c4 : wc.cell? ⟨b, 4, none⟩ = some (.slice va VL.length vc) := cells_at hbox 4 _ rfl
    go_wp2_with fail
    refine (encode_p 0 0 au rd ba _ bc bl pa _ pc pl va _ vc VL _ (by omega) (by omega) rfl rfl rfl hbat hpar hOb hOp hI hvb HF.out HC0.out hlen HV4.out).mono ?_
    rintro e w1 ⟨v1, rfl, ho1, hb1⟩
    have hbx1 := (hb1.block _ (lt_of_heap hbox)).trans hbox
    have hW1 := hbel.trans (hb1.mono hbel.size)
    obtain ⟨xa, xc, hv, hxl, hx⟩ := owns_form ho1
    subst hv
    have HXL : Hid (3 + (certB au rd bl pl VL).length = ([4, 0, 0] ++ certB au rd bl pl VL).length) := hxl
    clear c0 c1 c2 c3 c4 ho1 hxl
    have c0 : w1.cell? ⟨b, 0, none⟩ = some (.int .i64 au) := cells_at hbx1 0 _ rfl
    have c1 : w1.cell? ⟨b, 1, none⟩ = some (.int .i64 rd) := cells_at hbx1 1 _ rfl
    have c2 : w1.cell? ⟨b, 2, none⟩ = some (.slice ba bl.length bc) := cells_at hbx1 2 _ rfl
    have c3 : w1.cell? ⟨b, 3, none⟩ = some (.slice pa pl.length pc) := cells_at hbx1 3 _ rfl
    have HX : Hid (3 + (certB au rd bl pl VL).length = 3 + (headB au rd bl pl).length + 1 + VL.length) := by show _ = _; simp [certB]; omega
    generalize 3 + (certB au rd bl pl VL).length = X at *
    go_wp2_with fail
    refine (encode_o 0 0 au rd ba _ bc bl pa _ pc pl _ (by omega) (by omega) rfl rfl (hbat.below hb1) (hpar.below hb1) (hOb.below hb1) (hOp.below hb1) HF.out).mono ?_
    rintro e w2 ⟨v2, rfl, ho2, hb2⟩
    have hbx2 := (hb2.block _ (lt_of_heap hbx1)).trans hbx1
    have hW2 := hW1.trans (hb2.mono hW1.size)
    obtain ⟨ya, yc, hv, hyl, hy⟩ := owns_form ho2
    subst hv
    have hx2' := hx.below hb2
    have hI2 := (hI.below hb1).below hb2
    clear c0 c1 c2 c3 ho2
    have c4 : w2.cell? ⟨b, 4, none⟩ = some (.slice va VL.length vc) := cells_at hbx2 4 _ rfl
    obtain ⟨g, go, rfl⟩ : ∃ sb so, xa = some ⟨sb, so, none⟩ := by
      rcases hx.bytes with h | ⟨sb, so, e, _⟩
      · simp at h
      · exact ⟨sb, so, e⟩
    obtain ⟨g', go', rfl⟩ : ∃ sb so, ya = some ⟨sb, so, none⟩ := by
      rcases hy.bytes with h | ⟨sb, so, e, _⟩
      · simp at h
      · exact ⟨sb, so, e⟩
    have HYL : Hid (3 + (headB au rd bl pl).length = ([2, 0, 0] ++ headB au rd bl pl).length) := hyl
    have hhl : (headB au rd bl pl).length + 3 = 3 + (headB au rd bl pl).length := by omega
    have HHL : Hid _ := hhl
    have hY4 : 6 ≤ 3 + (headB au rd bl pl).length := by simp [headB, rd3, digsB]; omega
    have hY5 : 3 + (headB au rd bl pl).length ≤ 400 := by omega
    have hxle := hx2'.le
    have hxmax := hx2'.max
    have hyle := hy.le
    have hymax := hy.max
    unfold maxLen at hxmax hymax
    have hXle : X ≤ xc := by rw [HXL.out]; exact hxle
    have hYle : 3 + (headB au rd bl pl).length ≤ yc := by rw [hyl]; exact hyle
    have hcx : ∀ j, j < X → w2.cell? ⟨g, go + j, none⟩ = some (.int .u8 (([4, 0, 0] ++ certB au rd bl pl VL).getD j 0)) := by
      intro j hj
      rcases hx2'.bytes with h | ⟨sb, so, e, h⟩
      · simp at h
      · cases e; exact h j (by rw [← HXL.out]; exact hj)
    have hSx : SliceAt w2 (some ⟨g, go + 1, none⟩) (xc - 1) ([0, 0] ++ headB au rd bl pl) := by
      have h := part_slice hx2' 1 (2 + (headB au rd bl pl).length) (by simp [certB]; omega)
      rw [show (((([4, 0, 0] : List Int) ++ certB au rd bl pl VL).drop 1).take (2 + (headB au rd bl pl).length)) = [0, 0] ++ headB au rd bl pl by simp [certB, Nat.add_comm 2]] at h
      exact h
    have hSy : SliceAt w2 (some ⟨g', go' + 1, none⟩) (yc - 1) ([0, 0] ++ headB au rd bl pl) := by
      have h := part_slice hy 1 (2 + (headB au rd bl pl).length) (by simp; omega)
      rw [show (((([2, 0, 0] : List Int) ++ headB au rd bl pl).drop 1).take (2 + (headB au rd bl pl).length)) = [0, 0] ++ headB au rd bl pl by simp [Nat.add_comm 2]] at h
      exact h
    have HLn : Hid ((3 + (headB au rd bl pl).length) - 1 = ([0, 0] ++ headB au rd bl pl).length) := by show _ = _; simp; omega
    have hcv : ∀ m (h : m < VL.length), ([4, 0, 0] ++ certB au rd bl pl VL).getD ((3 + (headB au rd bl pl).length) + 1 + m) 0 = VL.getD m 0 := by
      intro m hm
      have e1 : [4, 0, 0] ++ certB au rd bl pl VL = ([4, 0, 0] ++ headB au rd bl pl ++ [(VL.length : Int)]) ++ VL := by simp [certB]
      rw [e1, List.getD_eq_getElem?_getD, List.getElem?_append_right (by simp; omega), ← List.getD_eq_getElem?_getD]
      congr 1
      simp; omega
    have hcn : ([4, 0, 0] ++ certB au rd bl pl VL).getD (3 + (headB au rd bl pl).length) 0 = (VL.length : Int) := by
      have e1 : [4, 0, 0] ++ certB au rd bl pl VL = ([4, 0, 0] ++ headB au rd bl pl) ++ ((VL.length : Int) :: VL) := by simp [certB]
      rw [e1, List.getD_eq_getElem?_getD, List.getElem?_append_right (by simp; omega)]
      simp [Nat.add_comm 3]
    have hc4' : (([4, 0, 0] : List Int) ++ certB au rd bl pl VL).getD 0 0 = 4 := by simp
    have HC4 : Hid _ := hc4'
    clear hc4'
    have HCX : Hid _ := hcx
    have HCV : Hid _ := hcv
    have HCN : Hid _ := hcn
    clear hcx hcv hcn hyl hhl hx2' hx hy hxle hyle hbox hbat hpar hOb hOp hI
    generalize ([4, 0, 0] ++ certB au rd bl pl VL) = LX at *
    generalize ([0, 0] ++ headB au rd bl pl) = LY at *
    generalize 3 + (headB au rd bl pl).length = Y at *
    obtain rfl : X = Y + 1 + VL.length := HX.out
    have hn0 : (1 : Int) ≤ (Y : Int) := by omega
    go_wp2_with fail
    go_loopw [9] (fun j wr => ∃ m : Nat, m ≤ VL.length ∧ j = .int .i64 m ∧ Below w2.heap.size w2 wr) (fun j _ => VL.length - (intOf j).toNat)
    case atStart => exact ⟨0, Nat.zero_le _, rfl, Below.refl _ _⟩
    case round =>
      clear c4
      obtain ⟨m, hm, rfl, hbw⟩ := hrel
      have hbxr := (hbw.block _ (lt_of_heap hbx2)).trans hbx2
      have c4 : wr.cell? ⟨b, 4, none⟩ = some (.slice va VL.length vc) := cells_at hbxr 4 _ rfl
      by_cases hlt : m < VL.length
      · obtain ⟨vb, vo, rfl, hcI⟩ : ∃ sb so, va = some ⟨sb, so, none⟩ ∧ ∀ j, j < VL.length → wr.cell? ⟨sb, so + j, none⟩ = some (.int .i64 (VL.getD j 0)) := by
          rcases (hI2.below hbw).cells with h | h
          · subst h; simp at hlt
          · exact h
        have ck := hcI m hlt
        have cx0 := HCX.out (Y + 1 + m) (by omega)
        rw [HCV.out m hlt] at cx0
        have cx := (hbw.cell (p := ⟨g, go + (Y + 1 + m), none⟩) (block_lt_of_cell cx0)).trans cx0
        obtain ⟨hv0, hv1⟩ := HV4.out (VL.getD m 0) (by simp [List.getD, hlt])
        have hltI : (m : Int) < VL.length := by omega
        have hm0 : (0 : Int) ≤ (m : Int) := by omega
        rw [show Y + 1 + m = ((Y : Int) + 1 + (m : Int)).toNat by omega] at cx
        clear hcI cx0
        generalize VL.getD m 0 = x at *
        have wu : IntKind.u8.wrap x = x := by rw [IntKind.wrap_u8']; omega
        have wa : IntKind.i64.wrap ((Y : Int) + 1) = (Y : Int) + 1 := by rw [IntKind.wrap_i64]; omega
        have wb : IntKind.i64.wrap ((Y : Int) + 1 + (m : Int)) = (Y : Int) + 1 + (m : Int) := by rw [IntKind.wrap_i64]; omega
        have ib : (Y : Int) + 1 + (m : Int) < (Y : Int) + 1 + (VL.length : Int) := by omega
        have ic : (0 : Int) ≤ (Y : Int) + 1 + (m : Int) := by omega
        go_wp2_with fail
        go_region_held3 (fun w' => w'.cell? ⟨b, 4, none⟩ = some (.slice (some ⟨vb, vo, none⟩) VL.length vc) ∧ w'.cell? ⟨vb, vo + m, none⟩ = some (.int .i64 x) ∧ w'.cell? ⟨g, go + ((Y : Int) + 1 + (m : Int)).toNat, none⟩ = some (.int .u8 x)) (go_keep) (fail)
        all_goals
          go_wp2_with fail
          go_roundw
          case rel =>
            have hR : ∃ m' : Nat, m' ≤ VL.length ∧ (Value.int .i64 ((m : Int) + 1)) = .int .i64 m' ∧ Below w2.heap.size w2 wr.drew := ⟨m + 1, by omega, by go_num, hbw.drew⟩
            first | exact hR | ((repeat apply Exists.intro); exact ⟨hR, rfl⟩)
          case measure => simp [intOf]; omega
      · obtain rfl : m = VL.length := by omega
        have hltI : ¬ (VL.length : Int) < VL.length := by omega
        go_wp2_with fail
        have cn0 := HCX.out Y (by omega)
        rw [HCN.out] at cn0
        have cn := (hbw.cell (p := ⟨g, go + Y, none⟩) (block_lt_of_cell cn0)).trans cn0
        have c00 := HCX.out 0 (by omega)
        rw [HC4.out, Nat.add_zero] at c00
        have cz := (hbw.cell (p := ⟨g, go, none⟩) (block_lt_of_cell c00)).trans c00
        have hSame : ∀ wx, Below wr.heap.size wr wx → Calls Try.prog 29 #[.slice (some ⟨g, go + 1, none⟩) (Y - 1) (xc - 1), .slice (some ⟨g', go' + 1, none⟩) (Y - 1) (yc - 1)] wx fun e w' => e = .returned (.bool true) ∧ wx = w' := fun wx hb => same_eq LY _ _ _ _ _ _ wx HLn.out HLn.out ((hSx.below hbw).below hb) ((hSy.below hbw).below hb)
        have HSame : Hid _ := hSame
        clear hSame cn0 c00
        have wv : IntKind.u8.wrap (VL.length : Int) = (VL.length : Int) := by rw [IntKind.wrap_u8']; omega
        have j1 : (1 : Int) ≤ (Y : Int) := by omega
        have j2 : (Y : Int) ≤ (xc : Int) := by omega
        have j3 : (Y : Int) ≤ (yc : Int) := by omega
        have j4 : (Y : Int) < (Y : Int) + 1 + (VL.length : Int) := by omega
        have j5 : (0 : Int) < (Y : Int) + 1 + (VL.length : Int) := by omega
        have j6 : (1 : Int) < (xc : Int) := by omega
        have j7 : (1 : Int) < (yc : Int) := by omega
        have j8 : ¬ xc - 1 = 0 := by omega
        have j9 : ¬ yc - 1 = 0 := by omega
        have jA : ¬ xc = 1 := by omega
        have jB : ¬ yc = 1 := by omega
        have jC : (Y : Int) ≤ (Y : Int) + 1 + (VL.length : Int) := by omega
        have jD : (0 : Int) ≤ (Y : Int) := by omega
        go_region_held3 (fun w' => w'.cell? ⟨b, 4, none⟩ = some (.slice va VL.length vc) ∧ w'.cell? ⟨g, go + Y, none⟩ = some (.int .u8 (VL.length : Int)) ∧ w'.cell? ⟨g, go, none⟩ = some (.int .u8 4)) (go_keep) ((go_at_call 29; refine (HSame.out _ ?_).mono ?_; exact (Below.refl _ _).drew; rintro e w8 ⟨rfl, rfl⟩))
        all_goals
          go_wp2_with fail
          go_ret
          exact ⟨by first | rfl | simp, hW2.trans (hbw.drew.mono hW2.size)⟩
end Go.Proofs.Ytcecjdoabnhcgaa
