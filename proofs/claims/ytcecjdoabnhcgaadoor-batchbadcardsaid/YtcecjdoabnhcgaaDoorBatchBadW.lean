/- The walk of BatchBad. -/
import Derived.Test.YtcecjdoabnhcgaaDoorRawB
import Derived.Test.YtcecjdoabnhcgaaDoorDigU
import Derived.Test.YtcecjdoabnhcgaaDoorRawBF
import Derived.Test.YtcecjdoabnhcgaaDoorOpenR
import Derived.Test.YtcecjdoabnhcgaaDoorOwnL
namespace Go.Proofs.YtcecjdoabnhcgaaDoor
open Go.RowKit

set_option maxRecDepth 100000 in
theorem StrsAt.set {w : World} {g : Nat} {vl : List ByteArray} (h : StrsAt w (some ⟨g, 0, none⟩) vl) (i : Nat) (x : ByteArray) (hx : x.size ≤ maxLen) (hi : i < vl.length) : StrsAt (w.setCell ⟨g, i, none⟩ (.string x)) (some ⟨g, 0, none⟩) (vl.set i x) := by
  refine ⟨?_, fun s hs => ?_⟩
  · rcases h.cells with h | ⟨sb, so, e, h⟩
    · subst h; simp at hi
    · cases e
      refine .inr ⟨g, 0, rfl, fun j hj => ?_⟩
      rw [List.length_set] at hj
      by_cases he : j = i
      · subst he
        have := h j hj
        rw [Nat.zero_add] at this ⊢
        rw [World.cell?_setCell_same _ _ _ this]
        simp [hj]
      · rw [World.cell?_setCell_other _ _ _ _ (fun e => he (by have h9 := congrArg Addr.off e; simp at h9; omega)), h j hj]
        simp [List.getD, List.getElem?_set_ne (Ne.symm he)]
  · rcases List.mem_or_eq_of_mem_set hs with hs | rfl
    · exact h.size s hs
    · exact hx
set_option maxRecDepth 100000 in
set_option maxHeartbeats 2000000 in
theorem batchBad_walk (ki ra rb rc : Int) (sa : Option Addr) (cap : Nat) (ss : List ByteArray) (wh : Int) (w : World) (_h1 : I64 ki) (h2 : I64 ra) (h3 : I64 rb) (_h4 : I64 rc) (h5 : TextsAt w sa cap ss) (h60 : -9223372036854775808 ≤ wh) (h61 : wh ≤ 9223372036854775807) (_hT : Tabs w) :
    Calls Tryd.prog 7 #[.agg #[.int .i64 ki, .int .i64 ra, .int .i64 rb, .int .i64 rc, .slice sa ss.length cap], .int .i64 wh] w fun e w' => e = .returned (.bool true) ∧ Below w.heap.size w w' := by
  have hF := batchF_raw ra rb ss
  obtain ⟨⟨hl1, hl2⟩, hl3⟩ := bTxs_ok ss
  have hA : Below w.heap.size w (w.alloc (.cells #[.int .i64 ki, .int .i64 ra, .int .i64 rb, .int .i64 rc, .slice sa ss.length cap] 39)) := (Below.refl _ _).alloc (Nat.le_refl _) _
  have hB := batch_raw ki ra rb rc sa cap ss _ h2 h3 (h5.below hA)
  generalize bTxs ss = ts at *
  generalize pk ra 4 = au at *
  generalize 1 + pk rb 9 = nu at *
  have HF : Hid (batchF au nu ts = 0) := hF
  clear hF
  obtain ⟨p0, p1⟩ := pk_bounds wh 4 (by decide)
  have hk : pk wh 4 = 0 ∨ pk wh 4 = 1 ∨ pk wh 4 = 2 ∨ pk wh 4 = 3 := by omega
  have hPK : ∀ wx, Calls Tryd.prog 20 #[.int .i64 wh, .int .i64 4] wx fun e w' => e = .returned (.int .i64 (pk wh 4)) ∧ wx = w' := fun wx => picked_any wh 4 wx h60 h61 (by decide) (by decide)
  generalize pk wh 4 = kk at *
  have HPK : Hid _ := hPK
  clear hPK
  go_enter Tryd.func7, Tryd.ntmps7
  go_wp2_with fail
  refine hB.mono ?_
  rintro e w1 ⟨ba, bc, rfl, ho1, hb1⟩
  have hW1 := below_alloc hb1
  clear hb1 hB hA
  obtain ⟨g, hba, hcap⟩ : ∃ g, ba = some ⟨g, 0, none⟩ ∧ ts.length ≤ bc ∧ bc ≤ 9223372036854775807 := by
    rcases ho1.2 with ⟨e, hn⟩ | ⟨g, cap, cur, e, _, _, h1, h2, _⟩
    · omega
    · cases e; exact ⟨g, rfl, h1, h2⟩
  subst hba
  obtain ⟨hg1, hg2⟩ := ho1.lt g rfl
  rw [size_alloc] at hg1
  obtain ⟨_, _, e0, _, hS, _⟩ := strsAt_of_owns ho1 (fun s h => by have := (hl3 s h).2; unfold maxLen; omega)
  cases e0
  have hA1 : Below w1.heap.size w1 (w1.alloc (.cells #[.int .i64 au, .int .i64 nu, .slice (some ⟨g, 0, none⟩) ts.length bc] 24)) := (Below.refl _ _).alloc (Nat.le_refl _) _
  have hC0 := checkBatch_any au nu (some ⟨g, 0, none⟩) ts.length bc ts _ rfl (by unfold maxLen; omega) (hS.below hA1)
  rw [HF.out] at hC0
  go_wp2_with fail
  refine hC0.mono ?_
  rintro e w2 ⟨rfl, hb2⟩
  have r2 := row_new hb2
  replace hb2 := below_alloc hb2
  have hW2 := hW1.trans (hb2.mono hW1.size)
  have hS2 := hS.below hb2
  have ho2 := owns_keep ho1 hb2
  have fg0 := World.ownsRow.frozenAt ho2 0
  have c0 : w2.cell? ⟨w1.heap.size, 0, none⟩ = some (.int .i64 au) := cells_at r2 0 _ rfl
  have c1 : w2.cell? ⟨w1.heap.size, 1, none⟩ = some (.int .i64 nu) := cells_at r2 1 _ rfl
  have c2 : w2.cell? ⟨w1.heap.size, 2, none⟩ = some (.slice (some ⟨g, 0, none⟩) ts.length bc) := cells_at r2 2 _ rfl
  have f1 := frozen_at r2 1
  have f2 := frozen_at r2 2
  have hbl : w1.heap.size < w2.heap.size := lt_of_heap r2
  have hlw : w.heap.size ≤ w1.heap.size := hW1.size
  have hgb : ¬ g = w1.heap.size := by omega
  have hbg : ¬ w1.heap.size = g := by omega
  have hlg : w.heap.size ≤ g := by omega
  clear hC0 ho1 hS hA1
  -- what is told of a batch, twice
  have hD : ∀ (wx : World) (nu' : Int) (ba' : Option Addr) (n' bc' : Nat) (ts' : List ByteArray) (ec : Int), StrsAt wx ba' ts' → n' = ts'.length → ts'.length ≤ 5 → batchF au nu' ts' = ec → ec ≠ 0 → Calls Tryd.prog 8 #[.agg #[.int .i64 au, .int .i64 nu', .slice ba' n' bc']] wx fun e w' => e = .returned (.tuple #[.slice none 0 0, .int .i64 ec]) ∧ Below wx.heap.size wx w' := fun wx nu' ba' n' bc' ts' ec a1 a2 a3 a4 a5 => batchDigest_bad au nu' ba' n' bc' ts' ec wx a2 (by rw [a2]; unfold maxLen; omega) a1 a4 a5
  have hE : ∀ (wx : World) (nu' : Int) (ba' : Option Addr) (n' bc' : Nat) (ts' : List ByteArray) (ec : Int), StrsAt wx ba' ts' → n' = ts'.length → ts'.length ≤ 5 → batchF au nu' ts' = ec → Calls Tryd.prog 24 #[.agg #[.int .i64 au, .int .i64 nu', .slice ba' n' bc']] wx fun e w' => e = .returned (.int .i64 ec) ∧ Below wx.heap.size wx w' := fun wx nu' ba' n' bc' ts' ec a1 a2 a3 a4 => by
    have := checkBatch_any au nu' ba' n' bc' ts' wx a2 (by rw [a2]; unfold maxLen; omega) a1
    rw [a4] at this
    exact this
  have HD : Hid _ := hD
  have HE : Hid _ := hE
  clear hD hE
  obtain ⟨z1, z2, z3, z4⟩ := batchF_ok HF.out
  have hn1 : ¬ ((0 ≤ au ∧ au < 4) → ¬ (1 ≤ nu ∧ nu ≤ 1048576)) := fun h => h z1 z2
  rcases hk with rfl | rfl | rfl | rfl
  · go_wp2_with (go_at_call 20; refine (HPK.out _).mono ?_; rintro e w9 ⟨rfl, rfl⟩)
    have hN : ∀ wx, StrsAt wx none [] := fun wx => ⟨.inl rfl, fun s hs => by cases hs⟩
    have hB0 : batchF au nu [] = 1 := by rw [batchF, if_neg (by omega), if_pos (by simp)]
    refine (HD.out _ nu none 0 0 [] 1 (hN _) rfl (by simp) hB0 (by decide)).mono ?_
    rintro e w3 ⟨rfl, hb3⟩
    have r3 := (hb3.block w1.heap.size (by simpa using hbl)).trans (heap_setCell_same w2 w1.heap.size 2 _ _ (.slice none 0 0) r2)
    have d0 : w3.cell? ⟨w1.heap.size, 0, none⟩ = some (.int .i64 au) := cells_at r3 0 _ rfl
    have d1 : w3.cell? ⟨w1.heap.size, 1, none⟩ = some (.int .i64 nu) := cells_at r3 1 _ rfl
    have d2 : w3.cell? ⟨w1.heap.size, 2, none⟩ = some (.slice none 0 0) := cells_at r3 2 _ rfl
    have hW3 := (hW2.setCell hlw _).trans (hb3.mono (by simpa using hW2.size))
    clear c0 c1 c2
    go_wp2_with fail
    refine (HE.out _ nu none 0 0 [] 1 (hN _) rfl (by simp) hB0).mono ?_
    rintro e w4 ⟨rfl, hb4⟩
    go_wp2_with fail
    go_ret
    exact ⟨rfl, hW3.trans (hb4.mono hW3.size)⟩
  · have h0I : (0 : Int) < (ts.length : Int) := by omega
    obtain ⟨x, xs, hts⟩ : ∃ x xs, ts = x :: xs := by
      cases ts with
      | nil => simp at hl1
      | cons x xs => exact ⟨x, xs, rfl⟩
    have hg0 : w2.cell? ⟨g, 0, none⟩ = some (.string x) := by
      rcases hS2.cells with h | ⟨sb, so, e, h⟩
      · rw [hts] at h; cases h
      · cases e
        have := h 0 (by omega)
        simpa [hts] using this
    have HTS : Hid _ := hts
    have hSS : StrsAt (w2.setCell ⟨g, 0, none⟩ (.string ⟨#[]⟩)) (some ⟨g, 0, none⟩) (ts.set 0 ⟨#[]⟩) := hS2.set 0 ⟨#[]⟩ (by unfold maxLen; decide) (by omega)
    have hBB : batchF au nu (ts.set 0 ⟨#[]⟩) = 1 := by rw [batchF, if_neg (by omega), if_neg (by rw [List.length_set]; omega), if_neg]; rw [HTS.out]; simp [txOk]; intro h; exact absurd h (by decide)
    have HSS : Hid _ := hSS
    have HBB : Hid _ := hBB
    clear hts hSS hBB
    go_wp2_with (go_at_call 20; refine (HPK.out _).mono ?_; rintro e w9 ⟨rfl, rfl⟩)
    refine (HD.out _ nu _ ts.length bc (ts.set 0 ⟨#[]⟩) 1 HSS.out (by rw [List.length_set]) (by rw [List.length_set]; omega) HBB.out (by decide)).mono ?_
    rintro e w3 ⟨rfl, hb3⟩
    have r3 := (hb3.block w1.heap.size (by simpa using hbl)).trans (heap_far r2 hbg)
    have d0 : w3.cell? ⟨w1.heap.size, 0, none⟩ = some (.int .i64 au) := cells_at r3 0 _ rfl
    have d1 : w3.cell? ⟨w1.heap.size, 1, none⟩ = some (.int .i64 nu) := cells_at r3 1 _ rfl
    have d2 : w3.cell? ⟨w1.heap.size, 2, none⟩ = some (.slice (some ⟨g, 0, none⟩) ts.length bc) := cells_at r3 2 _ rfl
    have hW3 := (hW2.setCell hlg _).trans (hb3.mono (by simpa using hW2.size))
    clear c0 c1 c2
    go_wp2_with fail
    refine (HE.out _ nu _ ts.length bc (ts.set 0 ⟨#[]⟩) 1 (HSS.out.below hb3) (by rw [List.length_set]) (by rw [List.length_set]; omega) HBB.out).mono ?_
    rintro e w4 ⟨rfl, hb4⟩
    go_wp2_with fail
    go_ret
    exact ⟨rfl, hW3.trans (hb4.mono hW3.size)⟩
  · have hlit := World.ownsRow_lit (base := w2.heap.size) (e := 9) (size := 1) (w2.setCell ⟨w1.heap.size, 2, none⟩ (.slice (some ⟨w2.heap.size, 0, none⟩) 5 5)) (sv [⟨#[97]⟩, ⟨#[98]⟩, ⟨#[99]⟩, ⟨#[100]⟩, ⟨#[101]⟩]).toArray 5 (by simp) (by decide) rfl
    have hSS : StrsAt ((w2.setCell ⟨w1.heap.size, 2, none⟩ (.slice (some ⟨w2.heap.size, 0, none⟩) 5 5)).alloc (.cells #[.string ⟨#[97]⟩, .string ⟨#[98]⟩, .string ⟨#[99]⟩, .string ⟨#[100]⟩, .string ⟨#[101]⟩] 9)) (some ⟨w2.heap.size, 0, none⟩) [⟨#[97]⟩, ⟨#[98]⟩, ⟨#[99]⟩, ⟨#[100]⟩, ⟨#[101]⟩] := by
      obtain ⟨za, zc, e, _, hz, _⟩ := strsAt_of_owns hlit (fun s hs => by simp at hs; rcases hs with rfl | rfl | rfl | rfl | rfl <;> decide)
      simp at e
      obtain ⟨rfl, rfl⟩ := e
      simpa [sv] using hz
    have hBB : batchF au nu [⟨#[97]⟩, ⟨#[98]⟩, ⟨#[99]⟩, ⟨#[100]⟩, ⟨#[101]⟩] = 1 := by rw [batchF, if_neg (by omega), if_pos (by simp)]
    have HSS : Hid _ := hSS
    have HBB : Hid _ := hBB
    clear hSS hBB hlit
    go_wp2_with (go_at_call 20; refine (HPK.out _).mono ?_; rintro e w9 ⟨rfl, rfl⟩)
    refine (HD.out _ nu _ 5 5 [⟨#[97]⟩, ⟨#[98]⟩, ⟨#[99]⟩, ⟨#[100]⟩, ⟨#[101]⟩] 1 HSS.out rfl (by simp) HBB.out (by decide)).mono ?_
    rintro e w3 ⟨rfl, hb3⟩
    have r3 := (hb3.block w1.heap.size (by simp; omega)).trans (heap_keep (heap_setCell_same w2 w1.heap.size 2 _ _ (.slice (some ⟨w2.heap.size, 0, none⟩) 5 5) r2))
    have d0 : w3.cell? ⟨w1.heap.size, 0, none⟩ = some (.int .i64 au) := cells_at r3 0 _ rfl
    have d1 : w3.cell? ⟨w1.heap.size, 1, none⟩ = some (.int .i64 nu) := cells_at r3 1 _ rfl
    have d2 : w3.cell? ⟨w1.heap.size, 2, none⟩ = some (.slice (some ⟨w2.heap.size, 0, none⟩) 5 5) := cells_at r3 2 _ rfl
    have hW3 := ((hW2.setCell hlw _).alloc (by simpa using hW2.size) _).trans (hb3.mono (by simp; have := hW2.size; omega))
    clear c0 c1 c2
    go_wp2_with fail
    refine (HE.out _ nu _ 5 5 [⟨#[97]⟩, ⟨#[98]⟩, ⟨#[99]⟩, ⟨#[100]⟩, ⟨#[101]⟩] 1 (HSS.out.below hb3) rfl (by simp) HBB.out).mono ?_
    rintro e w4 ⟨rfl, hb4⟩
    go_wp2_with fail
    go_ret
    exact ⟨rfl, hW3.trans (hb4.mono hW3.size)⟩
  · have hBB : batchF au 0 ts = 2 := by rw [batchF, if_pos (by omega)]
    have HBB : Hid _ := hBB
    clear hBB
    go_wp2_with (go_at_call 20; refine (HPK.out _).mono ?_; rintro e w9 ⟨rfl, rfl⟩)
    have hne : ∀ sb so, (some ⟨g, 0, none⟩ : Option Addr) = some ⟨sb, so, none⟩ → w1.heap.size ≠ sb := fun sb so e => by cases e; exact hbg
    refine (HD.out _ 0 _ ts.length bc ts 2 (hS2.setCell _ _ _ hne) rfl (by omega) HBB.out (by decide)).mono ?_
    rintro e w3 ⟨rfl, hb3⟩
    have r3 := (hb3.block w1.heap.size (by simpa using hbl)).trans (heap_setCell_same w2 w1.heap.size 1 _ _ (.int .i64 0) r2)
    have d0 : w3.cell? ⟨w1.heap.size, 0, none⟩ = some (.int .i64 au) := cells_at r3 0 _ rfl
    have d1 : w3.cell? ⟨w1.heap.size, 1, none⟩ = some (.int .i64 0) := cells_at r3 1 _ rfl
    have d2 : w3.cell? ⟨w1.heap.size, 2, none⟩ = some (.slice (some ⟨g, 0, none⟩) ts.length bc) := cells_at r3 2 _ rfl
    have hW3 := (hW2.setCell hlw _).trans (hb3.mono (by simpa using hW2.size))
    clear c0 c1 c2 hne
    go_wp2_with fail
    refine (HE.out _ 0 _ ts.length bc ts 2 ((hS2.setCell _ _ _ (fun sb so e => by cases e; exact hbg)).below hb3) rfl (by omega) HBB.out).mono ?_
    rintro e w4 ⟨rfl, hb4⟩
    go_wp2_with fail
    go_ret
    exact ⟨rfl, hW3.trans (hb4.mono hW3.size)⟩
end Go.Proofs.YtcecjdoabnhcgaaDoor
