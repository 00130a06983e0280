/- The walk of BatchApart. -/
import Derived.Test.YtcecjdoabnhcgaaBundleBytesW
import Derived.Test.YtcecjdoabnhcgaaSameT
namespace Go.Proofs.Ytcecjdoabnhcgaa
open Go.RowKit

set_option maxRecDepth 100000 in
theorem rd3_inj {a b : Int} (ha : 0 ≤ a ∧ a ≤ 1048576) (hb : 0 ≤ b ∧ b ≤ 1048576) (h : rd3 a = rd3 b) : a = b := by
  simp only [rd3, List.cons.injEq, and_true] at h
  omega
set_option maxRecDepth 100000 in
theorem tb_inj {a b : ByteArray} (h : tb a = tb b) : a = b := by
  refine Go.WideShapes.bytes_inj ?_
  have h1 : (tb a).map (fun n => UInt8.ofNat n.toNat) = (tb b).map (fun n => UInt8.ofNat n.toNat) := by rw [h]
  have back : ∀ s : ByteArray, (tb s).map (fun n => UInt8.ofNat n.toNat) = s.data.toList := fun s => by
    rw [tb, List.map_map]
    conv => rhs; rw [← List.map_id s.data.toList]
    refine List.map_congr_left fun x _ => ?_
    simp [Function.comp]
  rw [← back a, ← back b, h1]
set_option maxRecDepth 100000 in
theorem txsB_inj (xs ys : List ByteArray) (hl : xs.length = ys.length) (h : txsB xs = txsB ys) : xs = ys := by
  induction xs generalizing ys with
  | nil => simp at hl; exact (List.eq_nil_of_length_eq_zero hl.symm).symm
  | cons x xs ih =>
    cases ys with
    | nil => simp at hl
    | cons y ys =>
      simp only [txsB, List.cons.injEq] at h
      obtain ⟨h1, h2⟩ := h
      have hs : (tb x).length = (tb y).length := by rw [tb_length, tb_length]; omega
      obtain ⟨h3, h4⟩ := List.append_inj h2 hs
      rw [tb_inj h3, ih ys (by simpa using hl) h4]
set_option maxRecDepth 100000 in
theorem batchB_inj {au au' nu nu' : Int} {xs ys : List ByteArray} (h1 : 0 ≤ nu ∧ nu ≤ 1048576) (h2 : 0 ≤ nu' ∧ nu' ≤ 1048576) (h : batchB au nu xs = batchB au' nu' ys) : au = au' ∧ nu = nu' ∧ xs = ys := by
  simp only [batchB, rd3, List.cons_append, List.nil_append, List.cons.injEq] at h
  obtain ⟨e1, e2, e3, e4, e5, e6⟩ := h
  exact ⟨e1, by omega, txsB_inj xs ys (by omega) e6⟩
set_option maxRecDepth 100000 in
theorem tb_u8 (s : ByteArray) : ∀ x ∈ tb s, 0 ≤ x ∧ x ≤ 255 := fun x hx => by
  simp only [tb, List.mem_map] at hx
  obtain ⟨b, _, rfl⟩ := hx
  have := b.toNat_lt
  omega
set_option maxRecDepth 100000 in
theorem txsB_u8 (l : List ByteArray) (h : ∀ s ∈ l, s.size ≤ 20) : ∀ x ∈ txsB l, 0 ≤ x ∧ x ≤ 255 := by
  induction l with
  | nil => intro x hx; cases hx
  | cons s l ih =>
    intro x hx
    simp only [txsB, List.mem_cons, List.mem_append] at hx
    have h0 := h s (by simp)
    rcases hx with rfl | hx | hx
    · omega
    · exact tb_u8 s x hx
    · exact ih (fun s hs => h s (by simp [hs])) x hx
set_option maxRecDepth 100000 in
theorem batchB_u8 {au nu : Int} {ss : List ByteArray} (h : batchF au nu ss = 0) : ∀ x ∈ batchB au nu ss, 0 ≤ x ∧ x ≤ 255 := by
  obtain ⟨h1, h2, h3, h4⟩ := batchF_ok h
  intro x hx
  simp only [batchB, rd3, List.mem_append, List.mem_cons, List.not_mem_nil, or_false] at hx
  rcases hx with ((hx | hx | hx | hx) | hx) | hx
  · omega
  · omega
  · omega
  · omega
  · omega
  · exact txsB_u8 ss (fun s hs => (h4 s hs).2) x hx
set_option maxRecDepth 100000 in
theorem msgB_u8 {fr tt k au nu : Int} {ss : List ByteArray} (hk : 0 ≤ k ∧ k ≤ 5) (hf : 0 ≤ fr ∧ fr < 4) (ht : 0 ≤ tt ∧ tt < 4) (h : batchF au nu ss = 0) : ∀ x ∈ [k, fr, tt] ++ batchB au nu ss, 0 ≤ x ∧ x ≤ 255 := by
  intro x hx
  simp only [List.mem_append, List.mem_cons, List.not_mem_nil, or_false] at hx
  rcases hx with (rfl | rfl | rfl) | hx
  · omega
  · omega
  · omega
  · exact batchB_u8 h x hx
set_option maxRecDepth 100000 in
set_option maxHeartbeats 2000000 in
theorem batchApart_walk (ki ra rb rc : Int) (sa : Option Addr) (cap : Nat) (ss : List ByteArray) (ki' ra' rb' rc' : Int) (sa' : Option Addr) (cap' : Nat) (ss' : List ByteArray) (w : World) (_h1 : I64 ki) (h2 : I64 ra) (h3 : I64 rb) (_h4 : I64 rc) (h5 : TextsAt w sa cap ss) (_h1' : I64 ki') (h2' : I64 ra') (h3' : I64 rb') (_h4' : I64 rc') (h5' : TextsAt w sa' cap' ss') :
    Calls Try.prog 16 #[.agg #[.int .i64 ki, .int .i64 ra, .int .i64 rb, .int .i64 rc, .slice sa ss.length cap], .agg #[.int .i64 ki', .int .i64 ra', .int .i64 rb', .int .i64 rc', .slice sa' ss'.length cap']] w fun e w' => e = .returned (.bool true) ∧ Below w.heap.size w w' := by
  have hF := batchF_raw ra rb ss
  have hF' := batchF_raw ra' rb' ss'
  obtain ⟨⟨hl1, hl2⟩, hl3⟩ := bTxs_ok ss
  obtain ⟨⟨hl1', hl2'⟩, hl3'⟩ := bTxs_ok ss'
  obtain ⟨pb0, pb1⟩ := pk_bounds rb 9 (by decide)
  obtain ⟨pb0', pb1'⟩ := pk_bounds rb' 9 (by decide)
  have hA : Below w.heap.size w ((w.alloc (.cells #[.int .i64 ki, .int .i64 ra, .int .i64 rb, .int .i64 rc, .slice sa ss.length cap] 48)).alloc (.cells #[.int .i64 ki', .int .i64 ra', .int .i64 rb', .int .i64 rc', .slice sa' ss'.length cap'] 48)) := ((Below.refl _ _).alloc (Nat.le_refl _) _).alloc (by simp) _
  have hB := batch_raw ki ra rb rc sa cap ss _ h2 h3 (h5.below hA)
  have hB' : ∀ wx, Below w.heap.size w wx → _ := fun wx hb => batch_raw ki' ra' rb' rc' sa' cap' ss' wx h2' h3' (h5'.below hb)
  generalize bTxs ss = ts at *
  generalize bTxs ss' = ts' at *
  generalize pk ra 4 = au at *
  generalize pk rb 9 = nu at *
  generalize pk ra' 4 = au' at *
  generalize pk rb' 9 = nu' at *
  have HF : Hid (batchF au (1 + nu) ts = 0) := hF
  have HF' : Hid (batchF au' (1 + nu') ts' = 0) := hF'
  have HB' : Hid _ := hB'
  clear hF hF' hB'
  go_enter Try.func16, Try.ntmps16
  go_wp2_with fail
  refine hB.mono ?_
  rintro e w1 ⟨ba, bc, rfl, ho1, hb1⟩
  clear hB
  have r1 := row_new hb1
  rw [size_alloc] at r1
  have hW1 := below_alloc (below_alloc hb1)
  have d0 : w1.cell? ⟨w.heap.size + 1, 0, none⟩ = some (.int .i64 ki') := cells_at r1 0 _ rfl
  have d1 : w1.cell? ⟨w.heap.size + 1, 1, none⟩ = some (.int .i64 ra') := cells_at r1 1 _ rfl
  have d2 : w1.cell? ⟨w.heap.size + 1, 2, none⟩ = some (.int .i64 rb') := cells_at r1 2 _ rfl
  have d3 : w1.cell? ⟨w.heap.size + 1, 3, none⟩ = some (.int .i64 rc') := cells_at r1 3 _ rfl
  have d4 : w1.cell? ⟨w.heap.size + 1, 4, none⟩ = some (.slice sa' ss'.length cap') := cells_at r1 4 _ rfl
  have hlt1 : w.heap.size + 1 < w1.heap.size := lt_of_heap r1
  obtain ⟨xa, xc, e0, _, hS, _⟩ := strsAt_of_owns ho1 (fun s h => by have := (hl3 s h).2; unfold maxLen; omega)
  cases e0
  have hbl : ∀ sb so, ba = some ⟨sb, so, none⟩ → sb < w1.heap.size := fun sb so e => by subst e; exact (ho1.lt sb rfl).2
  clear hb1 ho1
  go_wp2_with fail
  refine (HB'.out _ (hW1.alloc hW1.size _)).mono ?_
  rintro e w2 ⟨ba', bc', rfl, ho2, hb2⟩
  have r2 := row_new hb2
  have hW2 := hW1.trans ((below_alloc hb2).mono hW1.size)
  replace hb2 := below_alloc hb2
  have hS2 := hS.below hb2
  have hlt2 : w1.heap.size < w2.heap.size := lt_of_heap r2
  obtain ⟨ya, yc, e0, _, hT, _⟩ := strsAt_of_owns ho2 (fun s h => by have := (hl3' s h).2; unfold maxLen; omega)
  cases e0
  have hbl' : ∀ sb so, ba' = some ⟨sb, so, none⟩ → sb < w2.heap.size := fun sb so e => by subst e; exact (ho2.lt sb rfl).2
  have k0 : w2.cell? ⟨w1.heap.size, 0, none⟩ = some (.int .i64 au) := cells_at r2 0 _ rfl
  have k1 : w2.cell? ⟨w1.heap.size, 1, none⟩ = some (.int .i64 (1 + nu)) := cells_at r2 1 _ rfl
  have k2 : w2.cell? ⟨w1.heap.size, 2, none⟩ = some (.slice ba ts.length bc) := cells_at r2 2 _ rfl
  clear d0 d1 d2 d3 d4 ho2 hb2 r1 HB'
  have hA2 : Below w2.heap.size w2 (w2.alloc (.cells #[.int .i64 au', .int .i64 (1 + nu'), .slice ba' ts'.length bc'] 24)) := (Below.refl _ _).alloc (Nat.le_refl _) _
  go_wp2_with fail
  refine (encode_b 0 0 au (1 + nu) ba _ bc ts _ (by omega) (by omega) rfl (hS2.below hA2) (fun sb so e => by have := hbl sb so e; rw [size_alloc]; omega) HF.out).mono ?_
  rintro e w3 ⟨v3, rfl, ho3, hb3⟩
  have q3 := row_new hb3
  replace hb3 := below_alloc hb3
  have r3 := (hb3.block _ hlt2).trans r2
  have hlt3 : w2.heap.size < w3.heap.size := lt_of_heap q3
  have hW3 := hW2.trans (hb3.mono hW2.size)
  have m0 : w3.cell? ⟨w2.heap.size, 0, none⟩ = some (.int .i64 au') := cells_at q3 0 _ rfl
  have m1 : w3.cell? ⟨w2.heap.size, 1, none⟩ = some (.int .i64 (1 + nu')) := cells_at q3 1 _ rfl
  have m2 : w3.cell? ⟨w2.heap.size, 2, none⟩ = some (.slice ba' ts'.length bc') := cells_at q3 2 _ rfl
  obtain ⟨pa, pc, hv, hpl, hp⟩ := owns_form ho3
  subst hv
  have HP : Hid _ := hpl
  have hpos : 0 < 3 + (batchB au (1 + nu) ts).length := by omega
  clear k0 k1 k2 r2 ho3 hA2 hpl
  generalize 3 + (batchB au (1 + nu) ts).length = X at *
  have hposI : (0 : Int) < (X : Int) := by omega
  go_wp2_with fail
  refine (encode_b 0 0 au' (1 + nu') ba' _ bc' ts' _ (by omega) (by omega) rfl (hT.below hb3) (fun sb so e => by have := hbl' sb so e; omega) HF'.out).mono ?_
  rintro e w4 ⟨v4, rfl, ho4, hb4⟩
  have q4 := (hb4.block _ hlt3).trans q3
  have r4 := (hb4.block _ (lt_of_heap r3)).trans r3
  have hW4 := hW3.trans (hb4.mono hW3.size)
  have hS4 := (hS2.below hb3).below hb4
  have hT4 := (hT.below hb3).below hb4
  have hp4 := hp.below hb4
  obtain ⟨qa, qc, hv, hql, hq⟩ := owns_form ho4
  subst hv
  clear m0 m1 m2 ho4 q3 r3
  have k0 : w4.cell? ⟨w1.heap.size, 0, none⟩ = some (.int .i64 au) := cells_at r4 0 _ rfl
  have k1 : w4.cell? ⟨w1.heap.size, 1, none⟩ = some (.int .i64 (1 + nu)) := cells_at r4 1 _ rfl
  have k2 : w4.cell? ⟨w1.heap.size, 2, none⟩ = some (.slice ba ts.length bc) := cells_at r4 2 _ rfl
  have m0 : w4.cell? ⟨w2.heap.size, 0, none⟩ = some (.int .i64 au') := cells_at q4 0 _ rfl
  have m1 : w4.cell? ⟨w2.heap.size, 1, none⟩ = some (.int .i64 (1 + nu')) := cells_at q4 1 _ rfl
  have m2 : w4.cell? ⟨w2.heap.size, 2, none⟩ = some (.slice ba' ts'.length bc') := cells_at q4 2 _ rfl
  have HD : Hid (decide (([1, 0, 0] ++ batchB au (1 + nu) ts) = [1, 0, 0] ++ batchB au' (1 + nu') ts') = decide (au = au' ∧ 1 + nu = 1 + nu' ∧ ts = ts')) := by
    show _ = _
    rw [decide_eq_decide]
    constructor
    · exact fun h => batchB_inj (by omega) (by omega) (List.append_cancel_left h)
    · rintro ⟨rfl, h, rfl⟩
      rw [h]
  have hu := msgB_u8 (k := 1) (fr := 0) (tt := 0) (by omega) (by omega) (by omega) HF.out
  have hu' := msgB_u8 (k := 1) (fr := 0) (tt := 0) (by omega) (by omega) (by omega) HF'.out
  have HQ : Hid _ := hql
  generalize ([1, 0, 0] ++ batchB au (1 + nu) ts) = L at *
  generalize ([1, 0, 0] ++ batchB au' (1 + nu') ts') = L' at *
  generalize 3 + (batchB au' (1 + nu') ts').length = Y at *
  have HU : Hid _ := hu
  have HU' : Hid _ := hu'
  clear hu hu' hql hp
  have hB2 : ∀ wx, Below w4.heap.size w4 wx → Calls Try.prog 35 #[.agg #[.int .i64 au, .int .i64 (1 + nu), .slice ba ts.length bc], .agg #[.int .i64 au', .int .i64 (1 + nu'), .slice ba' ts'.length bc']] wx fun e w' => e = .returned (.bool (decide (L = L'))) ∧ Below wx.heap.size wx w' := fun wx hb => by
    have := sameBatch_any au (1 + nu) au' (1 + nu') ts ts' ba ba' ts.length ts'.length bc bc' wx rfl rfl (by omega) (by omega) (hS4.below hb) (hT4.below hb)
    rw [HD.out]
    exact this
  have HB2 : Hid _ := hB2
  have hC2 : ∀ wx, Below w4.heap.size w4 wx → Calls Try.prog 29 #[.slice pa X pc, .slice qa Y qc] wx fun e w' => e = .returned (.bool (decide (L = L'))) ∧ wx = w' := fun wx hb => same_any L L' pa qa X Y pc qc wx HP.out HQ.out (hp4.below hb) (hq.below hb) HU.out HU'.out
  have HC2 : Hid _ := hC2
  clear hB2 hC2
  generalize decide (L = L') = r at *
  go_wp2_with fail
  go_region_held3 (fun w' => w'.cell? ⟨w1.heap.size, 0, none⟩ = some (.int .i64 au) ∧ w'.cell? ⟨w1.heap.size, 1, none⟩ = some (.int .i64 (1 + nu)) ∧ w'.cell? ⟨w1.heap.size, 2, none⟩ = some (.slice ba ts.length bc) ∧ w'.cell? ⟨w2.heap.size, 0, none⟩ = some (.int .i64 au') ∧ w'.cell? ⟨w2.heap.size, 1, none⟩ = some (.int .i64 (1 + nu')) ∧ w'.cell? ⟨w2.heap.size, 2, none⟩ = some (.slice ba' ts'.length bc')) (go_keep) (first | (go_at_call 29; refine (HC2.out _ ?_).mono ?_; (first | exact (Below.refl _ _).drew | exact hb9); rintro e w8 ⟨rfl, rfl⟩) | (go_at_call 35; refine (HB2.out _ ?_).mono ?_; exact (Below.refl _ _).drew; rintro e w8 ⟨rfl, hb9⟩; have r9 := (hb9.block _ (lt_of_heap r4)).trans r4; have q9 := (hb9.block _ (lt_of_heap q4)).trans q4; have l0 : w8.cell? ⟨w1.heap.size, 0, none⟩ = some (.int .i64 au) := cells_at r9 0 _ rfl; have l1 : w8.cell? ⟨w1.heap.size, 1, none⟩ = some (.int .i64 (1 + nu)) := cells_at r9 1 _ rfl; have l2 : w8.cell? ⟨w1.heap.size, 2, none⟩ = some (.slice ba ts.length bc) := cells_at r9 2 _ rfl; have n0 : w8.cell? ⟨w2.heap.size, 0, none⟩ = some (.int .i64 au') := cells_at q9 0 _ rfl; have n1 : w8.cell? ⟨w2.heap.size, 1, none⟩ = some (.int .i64 (1 + nu')) := cells_at q9 1 _ rfl; have n2 : w8.cell? ⟨w2.heap.size, 2, none⟩ = some (.slice ba' ts'.length bc') := cells_at q9 2 _ rfl))
  all_goals
    go_wp2_with fail
    go_ret
    exact ⟨rfl, hW4.trans ((below_drew hb9).mono hW4.size)⟩
end Go.Proofs.Ytcecjdoabnhcgaa
