/- The walk of HeaderApart. -/
import Derived.Test.YtcecjdoabnhcgaaOffM
import Derived.Test.YtcecjdoabnhcgaaSameL
import Derived.Test.YtcecjdoabnhcgaaOpenR
namespace Go.Proofs.Ytcecjdoabnhcgaa
open Go.RowKit

set_option maxRecDepth 100000 in
theorem flatB_inj (xs ys : List Part) (hl : xs.length = ys.length) (hx : ∀ p ∈ xs, p.bs.length = 32) (hy : ∀ p ∈ ys, p.bs.length = 32) (h : flatB xs = flatB ys) : bsOf xs = bsOf ys := by
  induction xs generalizing ys with
  | nil => simp at hl; rw [List.eq_nil_of_length_eq_zero hl.symm]
  | cons x xs ih =>
    cases ys with
    | nil => simp at hl
    | cons y ys =>
      simp only [flatB] at h
      have hs : x.bs.length = y.bs.length := by rw [hx x (by simp), hy y (by simp)]
      obtain ⟨h3, h4⟩ := List.append_inj h hs
      have := ih ys (by simpa using hl) (fun p hp => hx p (by simp [hp])) (fun p hp => hy p (by simp [hp])) h4
      simp only [bsOf, List.map_cons] at this ⊢
      rw [h3, this]
set_option maxRecDepth 100000 in
theorem flatB_bs (xs ys : List Part) (h : bsOf xs = bsOf ys) : flatB xs = flatB ys := by
  induction xs generalizing ys with
  | nil => cases ys with
    | nil => rfl
    | cons y ys => simp [bsOf] at h
  | cons x xs ih => cases ys with
    | nil => simp [bsOf] at h
    | cons y ys =>
      simp only [bsOf, List.map_cons, List.cons.injEq] at h
      rw [flatB, flatB, h.1, ih ys h.2]
set_option maxRecDepth 100000 in
theorem headB_bs {au rd : Int} {bl pl bl' pl' : List Part} (h1 : bsOf bl = bsOf bl') (h2 : bsOf pl = bsOf pl') : headB au rd bl pl = headB au rd bl' pl' := by
  have e1 : bl.length = bl'.length := by have := congrArg List.length h1; simpa [bsOf] using this
  have e2 : pl.length = pl'.length := by have := congrArg List.length h2; simpa [bsOf] using this
  rw [headB, headB, digsB, digsB, digsB, digsB, flatB_bs _ _ h1, flatB_bs _ _ h2, e1, e2]
set_option maxRecDepth 100000 in
theorem headB_inj {au au' rd rd' : Int} {bl pl bl' pl' : List Part} (h1 : 0 ≤ rd ∧ rd ≤ 1048576) (h2 : 0 ≤ rd' ∧ rd' ≤ 1048576) (hb : ∀ p ∈ bl, p.bs.length = 32) (hp : ∀ p ∈ pl, p.bs.length = 32) (hb' : ∀ p ∈ bl', p.bs.length = 32) (hp' : ∀ p ∈ pl', p.bs.length = 32) (h : headB au rd bl pl = headB au' rd' bl' pl') : au = au' ∧ rd = rd' ∧ bsOf bl = bsOf bl' ∧ bsOf pl = bsOf pl' := by
  simp only [headB, rd3, digsB, List.cons_append, List.nil_append, List.cons.injEq] at h
  obtain ⟨e1, e2, e3, e4, e5, e6⟩ := h
  have hl : bl.length = bl'.length := by omega
  have hf : (flatB bl).length = (flatB bl').length := by rw [flatB_length bl hb, flatB_length bl' hb', hl]
  obtain ⟨e7, e8⟩ := List.append_inj e6 hf
  simp only [List.cons.injEq] at e8
  exact ⟨e1, by omega, flatB_inj _ _ hl hb hb' e7, flatB_inj _ _ (by omega) hp hp' e8.2⟩
set_option maxRecDepth 100000 in
theorem flatB_u8 (l : List Part) (h : ∀ p ∈ l, ∀ x ∈ p.bs, 0 ≤ x ∧ x ≤ 255) : ∀ x ∈ flatB l, 0 ≤ x ∧ x ≤ 255 := by
  induction l with
  | nil => intro x hx; cases hx
  | cons p l ih =>
    intro x hx
    simp only [flatB, List.mem_append] at hx
    rcases hx with hx | hx
    · exact h p (by simp) x hx
    · exact ih (fun q hq => h q (by simp [hq])) x hx
set_option maxRecDepth 100000 in
theorem headB_u8 {au rd : Int} {bl pl : List Part} (ha : 0 ≤ au ∧ au < 4) (hr : 0 ≤ rd ∧ rd ≤ 1048576) (hbl : bl.length ≤ 4) (hpl : pl.length ≤ 4) (hb : ∀ p ∈ bl, ∀ x ∈ p.bs, 0 ≤ x ∧ x ≤ 255) (hp : ∀ p ∈ pl, ∀ x ∈ p.bs, 0 ≤ x ∧ x ≤ 255) : ∀ x ∈ headB au rd bl pl, 0 ≤ x ∧ x ≤ 255 := by
  intro x hx
  simp only [headB, rd3, digsB, List.mem_append, List.mem_cons, List.not_mem_nil, or_false] at hx
  rcases hx with ((hx | hx | hx | hx) | hx | hx) | hx | hx
  · omega
  · omega
  · omega
  · omega
  · omega
  · exact flatB_u8 bl hb x hx
  · omega
  · exact flatB_u8 pl hp x hx
set_option maxRecDepth 100000 in
theorem msgH_u8 {k fr tt au rd : Int} {bl pl : List Part} (hk : 0 ≤ k ∧ k ≤ 5) (hf : 0 ≤ fr ∧ fr < 4) (ht : 0 ≤ tt ∧ tt < 4) (h : ∀ x ∈ headB au rd bl pl, 0 ≤ x ∧ x ≤ 255) : ∀ x ∈ [k, fr, tt] ++ headB au rd bl pl, 0 ≤ x ∧ x ≤ 255 := by
  intro x hx
  simp only [List.mem_append, List.mem_cons, List.not_mem_nil, or_false] at hx
  rcases hx with (rfl | rfl | rfl) | hx
  · omega
  · omega
  · omega
  · exact h x hx
set_option maxRecDepth 100000 in
theorem bats_u8 {rc : Int} {bl : List Part} (h : bl.map (·.bs) = hBats rc) : ∀ p ∈ bl, ∀ x ∈ p.bs, 0 ≤ x ∧ x ≤ 255 := by
  intro p hp
  have : p.bs ∈ bl.map (·.bs) := List.mem_map.2 ⟨p, hp, rfl⟩
  rw [h, hBats, List.mem_map] at this
  obtain ⟨i, _, e⟩ := this
  rw [← e]
  exact someL_u8 _ _
set_option maxRecDepth 100000 in
theorem pars_u8 {ra rb rc : Int} {pl : List Part} (h : pl.map (·.bs) = hPars ra rb rc) : ∀ p ∈ pl, ∀ x ∈ p.bs, 0 ≤ x ∧ x ≤ 255 := by
  intro p hp
  have : p.bs ∈ pl.map (·.bs) := List.mem_map.2 ⟨p, hp, rfl⟩
  rw [h, hPars] at this
  split at this
  · cases this
  · rw [List.mem_map] at this
    obtain ⟨i, _, e⟩ := this
    rw [← e]
    exact someL_u8 _ _
set_option maxRecDepth 100000 in
set_option maxHeartbeats 2000000 in
theorem headerApart_walk (ki ra rb rc : Int) (sa : Option Addr) (cap : Nat) (ss : List ByteArray) (ki' ra' rb' rc' : Int) (sa' : Option Addr) (cap' : Nat) (ss' : List ByteArray) (w : World) (_h1 : I64 ki) (h2 : I64 ra) (h3 : I64 rb) (h4 : I64 rc) (_h5 : TextsAt w sa cap ss) (_h1' : I64 ki') (h2' : I64 ra') (h3' : I64 rb') (h4' : I64 rc') (_h5' : TextsAt w sa' cap' ss') :
    Calls Try.prog 17 #[.agg #[.int .i64 ki, .int .i64 ra, .int .i64 rb, .int .i64 rc, .slice sa ss.length cap], .agg #[.int .i64 ki', .int .i64 ra', .int .i64 rb', .int .i64 rc', .slice sa' ss'.length cap']] w fun e w' => e = .returned (.bool true) ∧ Below w.heap.size w w' := by
  obtain ⟨pb0, pb1⟩ := pk_bounds rb 9 (by decide)
  obtain ⟨pb0', pb1'⟩ := pk_bounds rb' 9 (by decide)
  have hB : ∀ wx, _ := fun wx => header_raw ki ra rb rc sa ss.length cap wx h2 h3 h4
  have hB' : ∀ wx, _ := fun wx => header_raw ki' ra' rb' rc' sa' ss'.length cap' wx h2' h3' h4'
  have hF : ∀ (bl pl : List Part), bl.map (·.bs) = hBats rc → pl.map (·.bs) = hPars ra rb rc → _ := fun bl pl => headerF_raw ra rb rc bl pl
  have hF' : ∀ (bl pl : List Part), bl.map (·.bs) = hBats rc' → pl.map (·.bs) = hPars ra' rb' rc' → _ := fun bl pl => headerF_raw ra' rb' rc' bl pl
  generalize pk ra 4 = au at *
  generalize pk rb 9 = nu at *
  generalize pk ra' 4 = au' at *
  generalize pk rb' 9 = nu' at *
  have HB : Hid _ := hB
  have HB' : Hid _ := hB'
  have HF0 : Hid _ := hF
  have HF0' : Hid _ := hF'
  clear hB hB' hF hF'
  go_enter Try.func17, Try.ntmps17
  go_wp2_with fail
  refine (HB.out _).mono ?_
  rintro e w1 ⟨ba, bc, bl, pa, pc, pl, rfl, hLb, hLp, hOb, hOp, hbs, hps, hb1⟩
  have HF : Hid _ := HF0.out bl pl hbs hps
  have hbu := bats_u8 hbs
  have hpu := pars_u8 hps
  have HBU : Hid _ := hbu
  have HPU : Hid _ := hpu
  clear hbs hps HB HF0 hbu hpu
  have r1 := row_new hb1
  rw [size_alloc] at r1
  have hW1 := below_alloc (below_alloc hb1)
  have d0 : w1.cell? ⟨w.heap.size + 1, 0, none⟩ = some (.int .i64 ki') := cells_at r1 0 _ rfl
  have d1 : w1.cell? ⟨w.heap.size + 1, 1, none⟩ = some (.int .i64 ra') := cells_at r1 1 _ rfl
  have d2 : w1.cell? ⟨w.heap.size + 1, 2, none⟩ = some (.int .i64 rb') := cells_at r1 2 _ rfl
  have d3 : w1.cell? ⟨w.heap.size + 1, 3, none⟩ = some (.int .i64 rc') := cells_at r1 3 _ rfl
  have d4 : w1.cell? ⟨w.heap.size + 1, 4, none⟩ = some (.slice sa' ss'.length cap') := cells_at r1 4 _ rfl
  have hlt1 : w.heap.size + 1 < w1.heap.size := lt_of_heap r1
  clear hb1
  go_wp2_with fail
  refine (HB'.out _).mono ?_
  rintro e w2 ⟨ba', bc', bl', pa', pc', pl', rfl, hLb', hLp', hOb', hOp', hbs, hps, hb2⟩
  have HF' : Hid _ := HF0'.out bl' pl' hbs hps
  have hbu := bats_u8 hbs
  have hpu := pars_u8 hps
  have HBU' : Hid _ := hbu
  have HPU' : Hid _ := hpu
  clear hbs hps HB' HF0' hbu hpu
  have r2 := row_new hb2
  have hW2 := hW1.trans ((below_alloc hb2).mono hW1.size)
  replace hb2 := below_alloc hb2
  have hlt2 : w1.heap.size < w2.heap.size := lt_of_heap r2
  have k0 : w2.cell? ⟨w1.heap.size, 0, none⟩ = some (.int .i64 au) := cells_at r2 0 _ rfl
  have k1 : w2.cell? ⟨w1.heap.size, 1, none⟩ = some (.int .i64 (1 + nu)) := cells_at r2 1 _ rfl
  have k2 : w2.cell? ⟨w1.heap.size, 2, none⟩ = some (.slice ba bl.length bc) := cells_at r2 2 _ rfl
  have k3 : w2.cell? ⟨w1.heap.size, 3, none⟩ = some (.slice pa pl.length pc) := cells_at r2 3 _ rfl
  clear d0 d1 d2 d3 d4 r1
  have hA2 : Below w2.heap.size w2 (w2.alloc (.cells #[.int .i64 au', .int .i64 (1 + nu'), .slice ba' bl'.length bc', .slice pa' pl'.length pc'] 27)) := (Below.refl _ _).alloc (Nat.le_refl _) _
  go_wp2_with fail
  refine (encode_o 0 0 au (1 + nu) ba _ bc bl pa _ pc pl _ (by omega) (by omega) rfl rfl ((hLb.below hb2).below hA2) ((hLp.below hb2).below hA2) ((hOb.below hb2).below hA2) ((hOp.below hb2).below hA2) HF.out).mono ?_
  rintro e w3 ⟨v3, rfl, ho3, hb3⟩
  have q3 := row_new hb3
  replace hb3 := below_alloc hb3
  have r3 := (hb3.block _ hlt2).trans r2
  have hlt3 : w2.heap.size < w3.heap.size := lt_of_heap q3
  have hW3 := hW2.trans (hb3.mono hW2.size)
  have m0 : w3.cell? ⟨w2.heap.size, 0, none⟩ = some (.int .i64 au') := cells_at q3 0 _ rfl
  have m1 : w3.cell? ⟨w2.heap.size, 1, none⟩ = some (.int .i64 (1 + nu')) := cells_at q3 1 _ rfl
  have m2 : w3.cell? ⟨w2.heap.size, 2, none⟩ = some (.slice ba' bl'.length bc') := cells_at q3 2 _ rfl
  have m3 : w3.cell? ⟨w2.heap.size, 3, none⟩ = some (.slice pa' pl'.length pc') := cells_at q3 3 _ rfl
  obtain ⟨xa, xc, hv, hpl, hp⟩ := owns_form ho3
  subst hv
  have HP : Hid _ := hpl
  have hpos : 0 < 3 + (headB au (1 + nu) bl pl).length := by omega
  clear k0 k1 k2 k3 r2 ho3 hA2 hpl
  generalize 3 + (headB au (1 + nu) bl pl).length = X at *
  have hposI : (0 : Int) < (X : Int) := by omega
  go_wp2_with fail
  refine (encode_o 0 0 au' (1 + nu') ba' _ bc' bl' pa' _ pc' pl' _ (by omega) (by omega) rfl rfl (hLb'.below hb3) (hLp'.below hb3) (hOb'.below hb3) (hOp'.below hb3) HF'.out).mono ?_
  rintro e w4 ⟨v4, rfl, ho4, hb4⟩
  have q4 := (hb4.block _ hlt3).trans q3
  have r4 := (hb4.block _ (lt_of_heap r3)).trans r3
  have hW4 := hW3.trans (hb4.mono hW3.size)
  have hp4 := hp.below hb4
  obtain ⟨qa, qc, hv, hql, hq⟩ := owns_form ho4
  subst hv
  clear m0 m1 m2 m3 ho4 q3 r3
  have k0 : w4.cell? ⟨w1.heap.size, 0, none⟩ = some (.int .i64 au) := cells_at r4 0 _ rfl
  have k1 : w4.cell? ⟨w1.heap.size, 1, none⟩ = some (.int .i64 (1 + nu)) := cells_at r4 1 _ rfl
  have k2 : w4.cell? ⟨w1.heap.size, 2, none⟩ = some (.slice ba bl.length bc) := cells_at r4 2 _ rfl
  have k3 : w4.cell? ⟨w1.heap.size, 3, none⟩ = some (.slice pa pl.length pc) := cells_at r4 3 _ rfl
  have m0 : w4.cell? ⟨w2.heap.size, 0, none⟩ = some (.int .i64 au') := cells_at q4 0 _ rfl
  have m1 : w4.cell? ⟨w2.heap.size, 1, none⟩ = some (.int .i64 (1 + nu')) := cells_at q4 1 _ rfl
  have m2 : w4.cell? ⟨w2.heap.size, 2, none⟩ = some (.slice ba' bl'.length bc') := cells_at q4 2 _ rfl
  have m3 : w4.cell? ⟨w2.heap.size, 3, none⟩ = some (.slice pa' pl'.length pc') := cells_at q4 3 _ rfl
  obtain ⟨z1, z2, z3, z4, z5, z6⟩ := headerF_ok HF.out
  obtain ⟨y1, y2, y3, y4, y5, y6⟩ := headerF_ok HF'.out
  have HD : Hid (decide (([2, 0, 0] ++ headB au (1 + nu) bl pl) = [2, 0, 0] ++ headB au' (1 + nu') bl' pl') = decide (au = au' ∧ 1 + nu = 1 + nu' ∧ bsOf bl = bsOf bl' ∧ bsOf pl = bsOf pl')) := by
    show _ = _
    rw [decide_eq_decide]
    constructor
    · exact fun h => headB_inj (by omega) (by omega) z5 z6 y5 y6 (List.append_cancel_left h)
    · rintro ⟨rfl, h, h8, h9⟩
      rw [h, headB_bs h8 h9]
  have hu := msgH_u8 (k := 2) (fr := 0) (tt := 0) (by omega) (by omega) (by omega) (headB_u8 (au := au) (rd := 1 + nu) z1 (by omega) (by omega) z4 HBU.out HPU.out)
  have hu' := msgH_u8 (k := 2) (fr := 0) (tt := 0) (by omega) (by omega) (by omega) (headB_u8 (au := au') (rd := 1 + nu') y1 (by omega) (by omega) y4 HBU'.out HPU'.out)
  have HQ : Hid _ := hql
  generalize ([2, 0, 0] ++ headB au (1 + nu) bl pl) = L at *
  generalize ([2, 0, 0] ++ headB au' (1 + nu') bl' pl') = L' at *
  generalize 3 + (headB au' (1 + nu') bl' pl').length = Y at *
  have HU : Hid _ := hu
  have HU' : Hid _ := hu'
  have hS : HeadAt w4 ba bl.length bc bl pa pl.length pc pl := ⟨rfl, rfl, by omega, by omega, ((hLb.below hb2).below hb3).below hb4, ((hLp.below hb2).below hb3).below hb4, HBU.out, HPU.out⟩
  have hT : HeadAt w4 ba' bl'.length bc' bl' pa' pl'.length pc' pl' := ⟨rfl, rfl, by omega, by omega, (hLb'.below hb3).below hb4, (hLp'.below hb3).below hb4, HBU'.out, HPU'.out⟩
  have hB2 : ∀ wx, Below w4.heap.size w4 wx → Calls Try.prog 36 #[.agg #[.int .i64 au, .int .i64 (1 + nu), .slice ba bl.length bc, .slice pa pl.length pc], .agg #[.int .i64 au', .int .i64 (1 + nu'), .slice ba' bl'.length bc', .slice pa' pl'.length pc']] wx fun e w' => e = .returned (.bool (decide (L = L'))) ∧ Below wx.heap.size wx w' := fun wx hb => by
    have := sameHeader_any au (1 + nu) au' (1 + nu') ba bl.length bc bl pa pl.length pc pl ba' bl'.length bc' bl' pa' pl'.length pc' pl' wx (hS.below hb) (hT.below hb)
    rw [HD.out]
    exact this
  have HB2 : Hid _ := hB2
  have hC2 : ∀ wx, Below w4.heap.size w4 wx → Calls Try.prog 29 #[.slice xa X xc, .slice qa Y qc] wx fun e w' => e = .returned (.bool (decide (L = L'))) ∧ wx = w' := fun wx hb => same_any L L' xa qa X Y xc qc wx HP.out HQ.out (hp4.below hb) (hq.below hb) HU.out HU'.out
  have HC2 : Hid _ := hC2
  clear hB2 hC2 hu hu' hql hp z5 z6 y5 y6 hS hT
  generalize decide (L = L') = r at *
  go_wp2_with fail
  go_region_held3 (fun w' => w'.cell? ⟨w1.heap.size, 0, none⟩ = some (.int .i64 au) ∧ w'.cell? ⟨w1.heap.size, 1, none⟩ = some (.int .i64 (1 + nu)) ∧ w'.cell? ⟨w1.heap.size, 2, none⟩ = some (.slice ba bl.length bc) ∧ w'.cell? ⟨w1.heap.size, 3, none⟩ = some (.slice pa pl.length pc) ∧ w'.cell? ⟨w2.heap.size, 0, none⟩ = some (.int .i64 au') ∧ w'.cell? ⟨w2.heap.size, 1, none⟩ = some (.int .i64 (1 + nu')) ∧ w'.cell? ⟨w2.heap.size, 2, none⟩ = some (.slice ba' bl'.length bc') ∧ w'.cell? ⟨w2.heap.size, 3, none⟩ = some (.slice pa' pl'.length pc')) (go_keep) (first | (go_at_call 29; refine (HC2.out _ ?_).mono ?_; exact (Below.refl _ _).drew; rintro e w8 ⟨rfl, rfl⟩) | (go_at_call 36; refine (HB2.out _ ?_).mono ?_; exact (Below.refl _ _).drew; rintro e w8 ⟨rfl, hb9⟩; have r9 := (hb9.block _ (lt_of_heap r4)).trans r4; have q9 := (hb9.block _ (lt_of_heap q4)).trans q4; have l0 : w8.cell? ⟨w1.heap.size, 0, none⟩ = some (.int .i64 au) := cells_at r9 0 _ rfl; have l1 : w8.cell? ⟨w1.heap.size, 1, none⟩ = some (.int .i64 (1 + nu)) := cells_at r9 1 _ rfl; have l2 : w8.cell? ⟨w1.heap.size, 2, none⟩ = some (.slice ba bl.length bc) := cells_at r9 2 _ rfl; have l3 : w8.cell? ⟨w1.heap.size, 3, none⟩ = some (.slice pa pl.length pc) := cells_at r9 3 _ rfl; have n0 : w8.cell? ⟨w2.heap.size, 0, none⟩ = some (.int .i64 au') := cells_at q9 0 _ rfl; have n1 : w8.cell? ⟨w2.heap.size, 1, none⟩ = some (.int .i64 (1 + nu')) := cells_at q9 1 _ rfl; have n2 : w8.cell? ⟨w2.heap.size, 2, none⟩ = some (.slice ba' bl'.length bc') := cells_at q9 2 _ rfl; have n3 : w8.cell? ⟨w2.heap.size, 3, none⟩ = some (.slice pa' pl'.length pc') := cells_at q9 3 _ rfl))
  all_goals
    go_wp2_with fail
    go_ret
    exact ⟨rfl, hW4.trans ((below_drew hb9).mono hW4.size)⟩
end Go.Proofs.Ytcecjdoabnhcgaa
