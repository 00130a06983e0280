/- sheaveslaw.sameLists and sameHeader: what is the same is the same. -/
import Derived.Test.YtldlknmpkoebbaaTapeRecoversM84
import Derived.Test.YtldlknmpkoebbaaStrsAt
import Derived.Test.YtldlknmpkoebbaaSx
import Derived.Deep.RegionHeld3
import Derived.Test.YtldlknmpkoebbaaTapeRecoversM0
import Derived.RegionTactic
namespace Go.Proofs.Ytldlknmpkoebbaa
open Go.RowKit

set_option maxRecDepth 100000 in
set_option maxHeartbeats 8000000 in
theorem mof_2 (bs : List Int) (sb so cap : Nat) (w : World) (hs : SliceAt w (some ⟨sb, so, none⟩) cap bs) (hu : U8s bs) (hl : bs.length ≤ 4000) (hpos : 0 < bs.length) (hk : bs.getD 0 0 = 2) :
    Calls Try.prog 22 #[.slice (some ⟨sb, so, none⟩) bs.length cap] w fun e w' => DecIs w w' e bs := by
  have hne : bs ≠ [] := by intro h; rw [h] at hpos; simp at hpos
  have hK0 : nB 1 (bs, false) = 2 := by rw [nB1_first hne, hk]
  have HRF : Hid (readF bs = if (mS (bs, false)).2 = true then 5 else if (mS (bs, false)).1 ≠ [] then 4 else 0) := by
    show _ = _
    rw [readF, if_neg (by omega), if_neg hne, hk, if_neg (by decide)]
  have HMS : Hid (mS (bs, false) = dgS (dgS (nx 3 (nx 1 (nx 1 (nx 1 (nx 1 (bs, false)))))))) := by
    show _ = _
    rw [mS, hK0]; rfl
  have HPM : Hid (pM (bs, false) = ⟨nB 1 (nx 1 (bs, false)), nB 1 (nx 1 (nx 1 (bs, false))), nB 1 (bs, false), 0, 0, [], nB 1 (nx 1 (nx 1 (nx 1 (bs, false)))), nB 3 (nx 1 (nx 1 (nx 1 (nx 1 (bs, false))))), dgs (nx 3 (nx 1 (nx 1 (nx 1 (nx 1 (bs, false)))))), dgs (dgS (nx 3 (nx 1 (nx 1 (nx 1 (nx 1 (bs, false))))))), 0, 0, [], 0, 0, [], [], [], 0⟩) := by
    show _ = _
    rw [pM, hK0]; rfl
  have HN1 : Hid ((nx 1 (bs, false)).2 = false) := (tk_ok (n := 1) (l := bs) (by omega)).2.2
  have HK0 : Hid (nB 1 (bs, false) = 2) := hK0
  have c0 : w.cell? ⟨sb, so, none⟩ = some (.int .u8 2) := by
    rcases hs.bytes with h | ⟨sb', so', e, h⟩
    · rw [h] at hpos; simp at hpos
    · cases e
      have := h 0 hpos
      rw [hk] at this
      simpa using this
  have hlI : ¬ (4000 : Int) < bs.length := by omega
  have hpI : ((bs.length : Int) == 0) = false := by rw [beq_eq_false_iff_ne]; omega
  have hpJ : (0 : Int) < bs.length := by omega
  have hblt : sb < w.heap.size := block_lt_of_cell c0
  clear hk hK0 hne
  go_enter Try.func22, Try.ntmps22
  go_upto_region 8 with (first
    | (go_at_call 32; refine (in_true _ _ _ _ (by decide)).mono ?_; rintro e w9 ⟨rfl, rfl⟩))
  have hA1 : Below w.heap.size w ((w.alloc (.cells #[.int .i64 0, .int .i64 0, .int .i64 0, .int .i64 0, .int .i64 0, .slice none 0 0, .int .i64 0, .int .i64 0, .slice none 0 0, .slice none 0 0, .int .i64 0, .int .i64 0, .slice none 0 0, .int .i64 0, .int .i64 0, .slice none 0 0, .slice none 0 0, .slice none 0 0, .int .i64 0] 53)).alloc (.cells #[.slice (some ⟨sb, so, none⟩) bs.length cap, .int .i64 0] 74)) := ((Below.refl _ _).alloc (Nat.le_refl _) _).alloc (by simp) _
  have qR := heap_alloc2_old w (.cells #[.int .i64 0, .int .i64 0, .int .i64 0, .int .i64 0, .int .i64 0, .slice none 0 0, .int .i64 0, .int .i64 0, .slice none 0 0, .slice none 0 0, .int .i64 0, .int .i64 0, .slice none 0 0, .int .i64 0, .int .i64 0, .slice none 0 0, .slice none 0 0, .slice none 0 0, .int .i64 0] 53) (.cells #[.slice (some ⟨sb, so, none⟩) bs.length cap, .int .i64 0] 74)
  have qS := heap_alloc2_new w (.cells #[.int .i64 0, .int .i64 0, .int .i64 0, .int .i64 0, .int .i64 0, .slice none 0 0, .int .i64 0, .int .i64 0, .slice none 0 0, .slice none 0 0, .int .i64 0, .int .i64 0, .slice none 0 0, .int .i64 0, .int .i64 0, .slice none 0 0, .slice none 0 0, .slice none 0 0, .int .i64 0] 53) (.cells #[.slice (some ⟨sb, so, none⟩) bs.length cap, .int .i64 0] 74)
  have hz1 : ((w.alloc (.cells #[.int .i64 0, .int .i64 0, .int .i64 0, .int .i64 0, .int .i64 0, .slice none 0 0, .int .i64 0, .int .i64 0, .slice none 0 0, .slice none 0 0, .int .i64 0, .int .i64 0, .slice none 0 0, .int .i64 0, .int .i64 0, .slice none 0 0, .slice none 0 0, .slice none 0 0, .int .i64 0] 53)).alloc (.cells #[.slice (some ⟨sb, so, none⟩) bs.length cap, .int .i64 0] 74)).heap.size = w.heap.size + 2 := by simp
  generalize (w.alloc (.cells #[.int .i64 0, .int .i64 0, .int .i64 0, .int .i64 0, .int .i64 0, .slice none 0 0, .int .i64 0, .int .i64 0, .slice none 0 0, .slice none 0 0, .int .i64 0, .int .i64 0, .slice none 0 0, .int .i64 0, .int .i64 0, .slice none 0 0, .slice none 0 0, .slice none 0 0, .int .i64 0] 53)).alloc (.cells #[.slice (some ⟨sb, so, none⟩) bs.length cap, .int .i64 0] 74) = W1 at hA1 qR qS hz1 ⊢
  have hSc1 : ScAt W1 (w.heap.size + 1) bs (bs, false) 0 := ⟨_, _, 0, qS, hs.below hA1, (fun sb' so' e => by cases e; omega), Nat.le_refl _, (fun _ => ⟨Nat.zero_le _, rfl⟩), (fun h => by cases h)⟩
  have qz : (W1.alloc (.cells #[.int .i64 0, .int .i64 0, .int .i64 0, .int .i64 0, .int .i64 0, .slice none 0 0, .int .i64 0, .int .i64 0, .slice none 0 0, .slice none 0 0, .int .i64 0, .int .i64 0, .slice none 0 0, .int .i64 0, .int .i64 0, .slice none 0 0, .slice none 0 0, .slice none 0 0, .int .i64 0] 53)).heap[w.heap.size + 2]? = some (.cells #[.int .i64 0, .int .i64 0, .int .i64 0, .int .i64 0, .int .i64 0, .slice none 0 0, .int .i64 0, .int .i64 0, .slice none 0 0, .slice none 0 0, .int .i64 0, .int .i64 0, .slice none 0 0, .int .i64 0, .int .i64 0, .slice none 0 0, .slice none 0 0, .slice none 0 0, .int .i64 0] 53 (0, 0)) := by rw [← hz1]; exact heap_alloc_new W1 (.cells #[.int .i64 0, .int .i64 0, .int .i64 0, .int .i64 0, .int .i64 0, .slice none 0 0, .int .i64 0, .int .i64 0, .slice none 0 0, .slice none 0 0, .int .i64 0, .int .i64 0, .slice none 0 0, .int .i64 0, .int .i64 0, .slice none 0 0, .slice none 0 0, .slice none 0 0, .int .i64 0] 53)
  have hM0 : MoB ((W1.alloc (.cells #[.int .i64 0, .int .i64 0, .int .i64 0, .int .i64 0, .int .i64 0, .slice none 0 0, .int .i64 0, .int .i64 0, .slice none 0 0, .slice none 0 0, .int .i64 0, .int .i64 0, .slice none 0 0, .int .i64 0, .int .i64 0, .slice none 0 0, .slice none 0 0, .slice none 0 0, .int .i64 0] 53)).setRow (w.heap.size + 2) #[.int .i64 0, .int .i64 0, .int .i64 0, .int .i64 0, .int .i64 0, .slice none 0 0, .int .i64 0, .int .i64 0, .slice none 0 0, .slice none 0 0, .int .i64 0, .int .i64 0, .slice none 0 0, .int .i64 0, .int .i64 0, .slice none 0 0, .slice none 0 0, .slice none 0 0, .int .i64 0]) w w.heap.size (w.heap.size + 1) (w.heap.size + 2) bs (bs, false) 0 #[.int .i64 0, .int .i64 0, .int .i64 0, .int .i64 0, .int .i64 0, .slice none 0 0, .int .i64 0, .int .i64 0, .slice none 0 0, .slice none 0 0, .int .i64 0, .int .i64 0, .slice none 0 0, .int .i64 0, .int .i64 0, .slice none 0 0, .slice none 0 0, .slice none 0 0, .int .i64 0] := by
    have hb : Below W1.heap.size W1 ((W1.alloc (.cells #[.int .i64 0, .int .i64 0, .int .i64 0, .int .i64 0, .int .i64 0, .slice none 0 0, .int .i64 0, .int .i64 0, .slice none 0 0, .slice none 0 0, .int .i64 0, .int .i64 0, .slice none 0 0, .int .i64 0, .int .i64 0, .slice none 0 0, .slice none 0 0, .slice none 0 0, .int .i64 0] 53)).setRow (w.heap.size + 2) #[.int .i64 0, .int .i64 0, .int .i64 0, .int .i64 0, .int .i64 0, .slice none 0 0, .int .i64 0, .int .i64 0, .slice none 0 0, .slice none 0 0, .int .i64 0, .int .i64 0, .slice none 0 0, .int .i64 0, .int .i64 0, .slice none 0 0, .slice none 0 0, .slice none 0 0, .int .i64 0]) := ⟨rfl, rfl, rfl, by simp [World.setRow], fun k hk => (setRow_other _ _ _ _ (by omega)).trans (Below.heap_alloc _ _ _ hk)⟩
    exact ⟨setRow_heap _ _ _ _ _ _ qz, (hb.block _ (by omega)).trans qR, hSc1.below hb, hA1.trans (hb.mono (by omega)), Nat.le_refl _, by omega, by omega⟩
  go_upto_region 9 with (refine wpList_store_row rfl 53 _ _ rfl (w.heap.size + 2) #[.int .i64 0, .int .i64 0, .int .i64 0, .int .i64 0, .int .i64 0, .slice none 0 0, .int .i64 0, .int .i64 0, .slice none 0 0, .slice none 0 0, .int .i64 0, .int .i64 0, .slice none 0 0, .int .i64 0, .int .i64 0, .slice none 0 0, .slice none 0 0, .slice none 0 0, .int .i64 0] rfl rfl 53 _ qz sMsg' rfl (by simp [Value.oneCell']) ?_)
  generalize (W1.alloc (.cells #[.int .i64 0, .int .i64 0, .int .i64 0, .int .i64 0, .int .i64 0, .slice none 0 0, .int .i64 0, .int .i64 0, .slice none 0 0, .slice none 0 0, .int .i64 0, .int .i64 0, .slice none 0 0, .int .i64 0, .int .i64 0, .slice none 0 0, .slice none 0 0, .slice none 0 0, .int .i64 0] 53)).setRow (w.heap.size + 2) #[.int .i64 0, .int .i64 0, .int .i64 0, .int .i64 0, .int .i64 0, .slice none 0 0, .int .i64 0, .int .i64 0, .slice none 0 0, .slice none 0 0, .int .i64 0, .int .i64 0, .slice none 0 0, .int .i64 0, .int .i64 0, .slice none 0 0, .slice none 0 0, .slice none 0 0, .int .i64 0] = V0 at hM0 ⊢
  clear qz qR qS hSc1 hA1 hz1 c0 hblt hpI hs
  generalize hMM : w.heap.size + 2 = M at hM0 ⊢
  generalize hSS : w.heap.size + 1 = S at hM0 ⊢
  clear hMM hSS
  go_wp2_with fail
  refine (num_sc S 1 bs (bs, false) _ V0 hM0.sc hu (by omega) (by omega)).mono ?_
  intro e w1 h1
  obtain ⟨ki, he, ki0, ki1, ki2, kig, hSc, ho1⟩ := h1.out
  subst he
  dsimp only
  clear h1
  have hC1 := hM0.call ho1 hSc
  have dj := cells_at hC1.box 2 _ rfl
  have fj := frozen_at hC1.box 2
  have hM1 := hC1.cell 2 (.int .i64 ki) #[.int .i64 0, .int .i64 0, .int .i64 ki, .int .i64 0, .int .i64 0, .slice none 0 0, .int .i64 0, .int .i64 0, .slice none 0 0, .slice none 0 0, .int .i64 0, .int .i64 0, .slice none 0 0, .int .i64 0, .int .i64 0, .slice none 0 0, .slice none 0 0, .slice none 0 0, .int .i64 0] rfl
  go_upto_region 10 with fail
  generalize w1.setCell ⟨M, 2, none⟩ (.int .i64 ki) = V1 at hM1 ⊢
  clear dj fj hC1 hSc ho1 hM0
  go_wp2_with fail
  refine (num_sc S 1 bs (nx 1 (bs, false)) _ V1 hM1.sc hu (by omega) (by omega)).mono ?_
  intro e w2 h1
  obtain ⟨fr, he, fr0, fr1, fr2, frg, hSc, ho1⟩ := h1.out
  subst he
  dsimp only
  clear h1
  have hC2 := hM1.call ho1 hSc
  have dj := cells_at hC2.box 0 _ rfl
  have fj := frozen_at hC2.box 0
  have hM2 := hC2.cell 0 (.int .i64 fr) #[.int .i64 fr, .int .i64 0, .int .i64 ki, .int .i64 0, .int .i64 0, .slice none 0 0, .int .i64 0, .int .i64 0, .slice none 0 0, .slice none 0 0, .int .i64 0, .int .i64 0, .slice none 0 0, .int .i64 0, .int .i64 0, .slice none 0 0, .slice none 0 0, .slice none 0 0, .int .i64 0] rfl
  go_upto_region 11 with fail
  generalize w2.setCell ⟨M, 0, none⟩ (.int .i64 fr) = V2 at hM2 ⊢
  clear dj fj hC2 hSc ho1 hM1
  go_wp2_with fail
  refine (num_sc S 1 bs (nx 1 (nx 1 (bs, false))) _ V2 hM2.sc hu (by omega) (by omega)).mono ?_
  intro e w3 h1
  obtain ⟨tt, he, tt0, tt1, tt2, ttg, hSc, ho1⟩ := h1.out
  subst he
  dsimp only
  clear h1
  have hC3 := hM2.call ho1 hSc
  have dj := cells_at hC3.box 1 _ rfl
  have fj := frozen_at hC3.box 1
  have hM3 := hC3.cell 1 (.int .i64 tt) #[.int .i64 fr, .int .i64 tt, .int .i64 ki, .int .i64 0, .int .i64 0, .slice none 0 0, .int .i64 0, .int .i64 0, .slice none 0 0, .slice none 0 0, .int .i64 0, .int .i64 0, .slice none 0 0, .int .i64 0, .int .i64 0, .slice none 0 0, .slice none 0 0, .slice none 0 0, .int .i64 0] rfl
  go_upto_region 12 with fail
  generalize w3.setCell ⟨M, 1, none⟩ (.int .i64 tt) = V3 at hM3 ⊢
  clear dj fj hC3 hSc ho1 hM2
  have hki : ki = 2 := (kig HN1.out).trans HK0.out
  subst hki
  have dk := cells_at hM3.box 2 _ rfl
  go_wp2_with fail
  refine (header_sc S bs (nx 1 (nx 1 (nx 1 (bs, false)))) _ V3 hM3.sc hu (by omega) (by omega)).mono ?_
  intro e w4 h1
  obtain ⟨au, rd, ba, bc, bl, pa, pc, pl, he, hvals, hLb, hLp, hFb, hFp, hSc, ho1⟩ := h1.out
  subst he
  dsimp only
  clear h1
  have hC4 := hM3.call ho1 hSc
  have HV : Hid _ := hvals
  clear hvals
  have d0 := cells_at hC4.box 6 _ rfl
  have f0 := frozen_at hC4.box 6
  have d1 := cells_at hC4.box 7 _ rfl
  have f1 := frozen_at hC4.box 7
  have d2 := cells_at hC4.box 8 _ rfl
  have f2 := frozen_at hC4.box 8
  have d3 := cells_at hC4.box 9 _ rfl
  have f3 := frozen_at hC4.box 9
  have hM4 := ((((hC4.cell 6 (.int .i64 au) #[.int .i64 fr, .int .i64 tt, .int .i64 2, .int .i64 0, .int .i64 0, .slice none 0 0, .int .i64 au, .int .i64 0, .slice none 0 0, .slice none 0 0, .int .i64 0, .int .i64 0, .slice none 0 0, .int .i64 0, .int .i64 0, .slice none 0 0, .slice none 0 0, .slice none 0 0, .int .i64 0] rfl).cell 7 (.int .i64 rd) #[.int .i64 fr, .int .i64 tt, .int .i64 2, .int .i64 0, .int .i64 0, .slice none 0 0, .int .i64 au, .int .i64 rd, .slice none 0 0, .slice none 0 0, .int .i64 0, .int .i64 0, .slice none 0 0, .int .i64 0, .int .i64 0, .slice none 0 0, .slice none 0 0, .slice none 0 0, .int .i64 0] rfl).cell 8 (.slice ba bl.length bc) #[.int .i64 fr, .int .i64 tt, .int .i64 2, .int .i64 0, .int .i64 0, .slice none 0 0, .int .i64 au, .int .i64 rd, .slice ba bl.length bc, .slice none 0 0, .int .i64 0, .int .i64 0, .slice none 0 0, .int .i64 0, .int .i64 0, .slice none 0 0, .slice none 0 0, .slice none 0 0, .int .i64 0] rfl).cell 9 (.slice pa pl.length pc) #[.int .i64 fr, .int .i64 tt, .int .i64 2, .int .i64 0, .int .i64 0, .slice none 0 0, .int .i64 au, .int .i64 rd, .slice ba bl.length bc, .slice pa pl.length pc, .int .i64 0, .int .i64 0, .slice none 0 0, .int .i64 0, .int .i64 0, .slice none 0 0, .slice none 0 0, .slice none 0 0, .int .i64 0] rfl)
  have lM : M < V3.heap.size := lt_of_heap hM3.box
  have hKq : ∀ q, M < q → ((((w4.setCell ⟨M, 6, none⟩ (.int .i64 au)).setCell ⟨M, 7, none⟩ (.int .i64 rd)).setCell ⟨M, 8, none⟩ (.slice ba bl.length bc)).setCell ⟨M, 9, none⟩ (.slice pa pl.length pc)).heap[q]? = w4.heap[q]? := fun q hq => by
    have hn : q ≠ M := by omega
    rw [heap_setCell_other _ ⟨M, 9, none⟩ q _ hn, heap_setCell_other _ ⟨M, 8, none⟩ q _ hn, heap_setCell_other _ ⟨M, 7, none⟩ q _ hn, heap_setCell_other _ ⟨M, 6, none⟩ q _ hn]
  have hGb := has_fresh hFb lM
  have hGp := has_fresh hFp lM
  have hLb1 := list_stays (G := fun q => M < q) hKq hLb hGb
  have hLp1 := list_stays (G := fun q => M < q) hKq hLp hGp
  have HGB : Hid _ := hGb
  have HGP : Hid _ := hGp
  clear hKq hLb hLp hFb hFp lM hGb hGp
  go_upto_region 39 with fail
  generalize ((((w4.setCell ⟨M, 6, none⟩ (.int .i64 au)).setCell ⟨M, 7, none⟩ (.int .i64 rd)).setCell ⟨M, 8, none⟩ (.slice ba bl.length bc)).setCell ⟨M, 9, none⟩ (.slice pa pl.length pc)) = V4 at hM4 hLb1 hLp1 ⊢
  clear d0 d1 d2 d3 f0 f1 f2 f3 hC4 hSc ho1 hM3
  have hX : Hid (MoX V4 w w.heap.size S M bs 20000) := by
    refine ⟨⟨{ fr := fr, tt := tt, ki := 2, bau := 0, bnu := 0, bta := none, btn := 0, btc := 0, hau := au, hrd := rd, hba := ba, hbn := bl.length, hbc := bc, hpa := pa, hpn := pl.length, hpc := pc, sau := 0, srd := 0, sda := none, sdn := 0, sdc := 0, cau := 0, crd := 0, cba := none, cbn := 0, cbc := 0, cpa := none, cpn := 0, cpc := 0, cva := none, cvn := 0, cvc := 0, ro := 0 }, [], bl, pl, [], [], [], []⟩, ?_, ?_, ?_, ?_⟩
    · rw [HMS.out]; exact hM4.st (by omega)
    · exact ⟨⟨rfl, rfl, rfl, rfl, rfl, rfl, Nat.zero_le _, Nat.zero_le _, Nat.zero_le _, strs_nil _, hLb1, hLp1, list_nilM _, list_nilM _, ints_nil _⟩, nilM _, rfl⟩
    · exact ⟨(fun sb so e => by cases e), HGB.out, HGP.out, (fun sb so e => by cases e), has_nil, has_nil, (fun sb so e => by cases e)⟩
    · intro h9
      rw [HMS.out] at h9
      obtain ⟨a1, a2, a3, a4⟩ := HV.out h9
      have h8 := dgS_over (dgS_over h9)
      have h6 := nx_over (nx_over h8)
      have h5 := nx_over h6
      rw [HPM.out, HK0.out, ← a1, ← a2, ← a3, ← a4, ← ttg h6, ← frg h5]
      rfl
  clear hM4 dk hLb1 hLp1
  obtain ⟨x, hM, hA, hH, hC⟩ := hX.out.out
  clear hX
  go_wp2_with fail
  refine (over_sc S bs _ _ V4 hM.sc).mono ?_
  rintro e w1 ⟨he, hb1⟩
  subst he
  dsimp only
  have hB := hM.belowW hb1
  have hA1 := hA.below hb1
  have HH : Hid (HasM (fun q => M < q) x) := hH
  have l1 := hB.l1
  have l2 := hB.l2
  have lM : M < w1.heap.size := lt_of_heap hB.box
  clear hM hA hH hb1
  obtain ⟨ba, bc, a, qS, hbS, hneS, haN, h5, h6⟩ := hB.sc.out
  generalize mS (bs, false) = ms at *
  obtain ⟨ml, msh⟩ := ms
  dsimp only at *
  cases msh with
  | true =>
    have hF : Hid (readF bs = 5) := by show _ = _; rw [HRF.out, if_pos rfl]
    clear h5 h6 hC
    go_wp2_with (refine wpList_store_row rfl 53 _ _ rfl w.heap.size #[.int .i64 0, .int .i64 0, .int .i64 0, .int .i64 0, .int .i64 0, .slice none 0 0, .int .i64 0, .int .i64 0, .slice none 0 0, .slice none 0 0, .int .i64 0, .int .i64 0, .slice none 0 0, .int .i64 0, .int .i64 0, .slice none 0 0, .slice none 0 0, .slice none 0 0, .int .i64 0] rfl rfl 53 _ hB.res sMsg' rfl (by simp [Value.oneCell']) ?_)
    have hFc := hF.out
    refine bodyPost_ret (v := .tuple #[.agg #[.int .i64 0, .int .i64 0, .int .i64 0, .int .i64 0, .int .i64 0, .slice none 0 0, .int .i64 0, .int .i64 0, .slice none 0 0, .slice none 0 0, .int .i64 0, .int .i64 0, .slice none 0 0, .int .i64 0, .int .i64 0, .slice none 0 0, .slice none 0 0, .slice none 0 0, .int .i64 0], .int .i64 5]) (results_cell_slot (fn := Try.f22) (p := 2) (q := 3) (ty := 53) rfl _ _ w.heap.size 53 _ (0, 0) _ (.int .i64 5) ⟨rfl, rfl⟩ (setRow_heap _ _ _ _ _ _ hB.res) Try.underlying53 rfl sMsg') rfl ⟨.inl ⟨by rw [hFc]; decide, by rw [hFc]⟩, (Upd.setRow hB.res).below hB.below hB.below.size (Nat.le_refl _)⟩
  | false =>
    obtain ⟨h51, h52⟩ := h5 rfl
    have HCX : Hid (x.c = pM (bs, false)) := hC rfl
    clear h5 h6 hC
    have s1 : w1.cell? ⟨S, 1, none⟩ = some (.int .i64 (a : Int)) := cells_at qS 1 _ rfl
    by_cases hml : a = bs.length
    · have hF : Hid (readF bs = 0) := by
        show _ = _
        rw [HRF.out, if_neg (by decide), if_neg (fun h => h (by rw [h52, hml]; simp))]
      have haI : ¬ (a : Int) < bs.length := by omega
      clear hml h51 h52 HRF
      have hB2 : Below w1.heap.size w1 w1.drew := (Below.refl _ _).drew
      go_upto_region 43 with fail
      have HF9 := messageFault_any x.m x.ss x.bl x.pl x.cbl x.cpl x.vl w1 hA1.at'
      go_wp2_with (refine wpList_load_row rfl 53 _ rfl M rfl 53 #[.int .i64 x.m.fr, .int .i64 x.m.tt, .int .i64 x.m.ki, .int .i64 x.m.bau, .int .i64 x.m.bnu, .slice x.m.bta x.m.btn x.m.btc, .int .i64 x.m.hau, .int .i64 x.m.hrd, .slice x.m.hba x.m.hbn x.m.hbc, .slice x.m.hpa x.m.hpn x.m.hpc, .int .i64 x.m.sau, .int .i64 x.m.srd, .slice x.m.sda x.m.sdn x.m.sdc, .int .i64 x.m.cau, .int .i64 x.m.crd, .slice x.m.cba x.m.cbn x.m.cbc, .slice x.m.cpa x.m.cpn x.m.cpc, .slice x.m.cva x.m.cvn x.m.cvc, .int .i64 x.m.ro] (0, 0) _ hB.box Try.underlying53 rfl sMsg' ?_)
      refine HF9.mono ?_
      rintro e w2 ⟨he, hb2⟩
      subst he
      dsimp only
      clear HF9 s1
      have hD := hB.belowW hb2
      have hA2 : Hid (MAt w2 x) := hA1.below hb2
      have HCR : Hid (carriedF x.m x.ss x.bl x.pl x.cbl x.cpl x.vl = x.car) := rfl
      generalize hCk : checkF x.m (carriedF x.m x.ss x.bl x.pl x.cbl x.cpl x.vl) = C at *
      have HCK : Hid (checkF x.m x.car = C) := hCk
      clear hCk
      by_cases hc0 : C = 0
      · subst hc0
        go_wp2_with (first | refine wpList_load_row rfl 53 _ rfl M rfl 53 #[.int .i64 x.m.fr, .int .i64 x.m.tt, .int .i64 x.m.ki, .int .i64 x.m.bau, .int .i64 x.m.bnu, .slice x.m.bta x.m.btn x.m.btc, .int .i64 x.m.hau, .int .i64 x.m.hrd, .slice x.m.hba x.m.hbn x.m.hbc, .slice x.m.hpa x.m.hpn x.m.hpc, .int .i64 x.m.sau, .int .i64 x.m.srd, .slice x.m.sda x.m.sdn x.m.sdc, .int .i64 x.m.cau, .int .i64 x.m.crd, .slice x.m.cba x.m.cbn x.m.cbc, .slice x.m.cpa x.m.cpn x.m.cpc, .slice x.m.cva x.m.cvn x.m.cvc, .int .i64 x.m.ro] (0, 0) _ hD.box Try.underlying53 rfl sMsg' ?_ | refine wpList_store_row rfl 53 _ _ rfl w.heap.size #[.int .i64 x.m.fr, .int .i64 x.m.tt, .int .i64 x.m.ki, .int .i64 x.m.bau, .int .i64 x.m.bnu, .slice x.m.bta x.m.btn x.m.btc, .int .i64 x.m.hau, .int .i64 x.m.hrd, .slice x.m.hba x.m.hbn x.m.hbc, .slice x.m.hpa x.m.hpn x.m.hpc, .int .i64 x.m.sau, .int .i64 x.m.srd, .slice x.m.sda x.m.sdn x.m.sdc, .int .i64 x.m.cau, .int .i64 x.m.crd, .slice x.m.cba x.m.cbn x.m.cbc, .slice x.m.cpa x.m.cpn x.m.cpc, .slice x.m.cva x.m.cvn x.m.cvc, .int .i64 x.m.ro] rfl rfl 53 _ hD.res sMsg' rfl (by simp [Value.oneCell']) ?_)
        refine bodyPost_ret (v := .tuple #[.agg #[.int .i64 x.m.fr, .int .i64 x.m.tt, .int .i64 x.m.ki, .int .i64 x.m.bau, .int .i64 x.m.bnu, .slice x.m.bta x.m.btn x.m.btc, .int .i64 x.m.hau, .int .i64 x.m.hrd, .slice x.m.hba x.m.hbn x.m.hbc, .slice x.m.hpa x.m.hpn x.m.hpc, .int .i64 x.m.sau, .int .i64 x.m.srd, .slice x.m.sda x.m.sdn x.m.sdc, .int .i64 x.m.cau, .int .i64 x.m.crd, .slice x.m.cba x.m.cbn x.m.cbc, .slice x.m.cpa x.m.cpn x.m.cpc, .slice x.m.cva x.m.cvn x.m.cvc, .int .i64 x.m.ro], .int .i64 0]) (results_cell_slot (fn := Try.f22) (p := 2) (q := 3) (ty := 53) rfl _ _ w.heap.size 53 _ (0, 0) _ (.int .i64 0) ⟨rfl, rfl⟩ (setRow_heap _ _ _ _ _ _ hD.res) Try.underlying53 rfl sMsg') rfl ⟨.inr ⟨hF.out, x, HCX.out, ?_, HH.out.mono (fun q hq => by omega), .inl ⟨HCK.out, rfl⟩⟩, (Upd.setRow hD.res).below hD.below hD.below.size (Nat.le_refl _)⟩
        exact hA2.out.setRow (B := M + 1) (HH.out.mono (fun q hq => by omega)) (by omega)
      · have hcn : (C != 0) = true := by simpa using hc0
        have HC0 : Hid (C ≠ 0) := hc0
        go_wp2_with (refine wpList_store_row rfl 53 _ _ rfl w.heap.size #[.int .i64 0, .int .i64 0, .int .i64 0, .int .i64 0, .int .i64 0, .slice none 0 0, .int .i64 0, .int .i64 0, .slice none 0 0, .slice none 0 0, .int .i64 0, .int .i64 0, .slice none 0 0, .int .i64 0, .int .i64 0, .slice none 0 0, .slice none 0 0, .slice none 0 0, .int .i64 0] rfl rfl 53 _ hD.res sMsg' rfl (by simp [Value.oneCell']) ?_)
        refine bodyPost_ret (v := .tuple #[.agg #[.int .i64 0, .int .i64 0, .int .i64 0, .int .i64 0, .int .i64 0, .slice none 0 0, .int .i64 0, .int .i64 0, .slice none 0 0, .slice none 0 0, .int .i64 0, .int .i64 0, .slice none 0 0, .int .i64 0, .int .i64 0, .slice none 0 0, .slice none 0 0, .slice none 0 0, .int .i64 0], .int .i64 C]) (results_cell_slot (fn := Try.f22) (p := 2) (q := 3) (ty := 53) rfl _ _ w.heap.size 53 _ (0, 0) _ (.int .i64 C) ⟨rfl, rfl⟩ (setRow_heap _ _ _ _ _ _ hD.res) Try.underlying53 rfl sMsg') rfl ⟨.inr ⟨hF.out, x, HCX.out, ?_, HH.out.mono (fun q hq => by omega), .inr ⟨by rw [HCK.out]; exact HC0.out, by rw [HCK.out]⟩⟩, (Upd.setRow hD.res).below hD.below hD.below.size (Nat.le_refl _)⟩
        exact hA2.out.setRow (B := M + 1) (HH.out.mono (fun q hq => by omega)) (by omega)
    · have hF : Hid (readF bs = 4) := by
        show _ = _
        rw [HRF.out, if_neg (by decide), if_pos (fun h => hml (by rw [h52, List.drop_eq_nil_iff] at h; omega))]
      have haI : (a : Int) < bs.length := by omega
      clear hml h51 h52 HRF
      go_wp2_with (refine wpList_store_row rfl 53 _ _ rfl w.heap.size #[.int .i64 0, .int .i64 0, .int .i64 0, .int .i64 0, .int .i64 0, .slice none 0 0, .int .i64 0, .int .i64 0, .slice none 0 0, .slice none 0 0, .int .i64 0, .int .i64 0, .slice none 0 0, .int .i64 0, .int .i64 0, .slice none 0 0, .slice none 0 0, .slice none 0 0, .int .i64 0] rfl rfl 53 _ hB.res sMsg' rfl (by simp [Value.oneCell']) ?_)
      have hFc := hF.out
      refine bodyPost_ret (v := .tuple #[.agg #[.int .i64 0, .int .i64 0, .int .i64 0, .int .i64 0, .int .i64 0, .slice none 0 0, .int .i64 0, .int .i64 0, .slice none 0 0, .slice none 0 0, .int .i64 0, .int .i64 0, .slice none 0 0, .int .i64 0, .int .i64 0, .slice none 0 0, .slice none 0 0, .slice none 0 0, .int .i64 0], .int .i64 4]) (results_cell_slot (fn := Try.f22) (p := 2) (q := 3) (ty := 53) rfl _ _ w.heap.size 53 _ (0, 0) _ (.int .i64 4) ⟨rfl, rfl⟩ (setRow_heap _ _ _ _ _ _ hB.res) Try.underlying53 rfl sMsg') rfl ⟨.inl ⟨by rw [hFc]; decide, by rw [hFc]⟩, (Upd.setRow hB.res).below hB.below hB.below.size (Nat.le_refl _)⟩
end Go.Proofs.Ytldlknmpkoebbaa

namespace Go.Proofs.Ytldlknmpkoebbaa
open Go.RowKit

set_option maxRecDepth 100000 in
set_option maxHeartbeats 8000000 in
theorem mof_3 (bs : List Int) (sb so cap : Nat) (w : World) (hs : SliceAt w (some ⟨sb, so, none⟩) cap bs) (hu : U8s bs) (hl : bs.length ≤ 4000) (hpos : 0 < bs.length) (hk : bs.getD 0 0 = 3) :
    Calls Try.prog 22 #[.slice (some ⟨sb, so, none⟩) bs.length cap] w fun e w' => DecIs w w' e bs := by
  have hne : bs ≠ [] := by intro h; rw [h] at hpos; simp at hpos
  have hK0 : nB 1 (bs, false) = 3 := by rw [nB1_first hne, hk]
  have HRF : Hid (readF bs = if (mS (bs, false)).2 = true then 5 else if (mS (bs, false)).1 ≠ [] then 4 else 0) := by
    show _ = _
    rw [readF, if_neg (by omega), if_neg hne, hk, if_neg (by decide)]
  have HMS : Hid (mS (bs, false) = nx 32 (nx 3 (nx 1 (nx 1 (nx 1 (nx 1 (bs, false))))))) := by
    show _ = _
    rw [mS, hK0]; rfl
  have HPM : Hid (pM (bs, false) = ⟨nB 1 (nx 1 (bs, false)), nB 1 (nx 1 (nx 1 (bs, false))), nB 1 (bs, false), 0, 0, [], 0, 0, [], [], nB 1 (nx 1 (nx 1 (nx 1 (bs, false)))), nB 3 (nx 1 (nx 1 (nx 1 (nx 1 (bs, false))))), tT 32 (nx 3 (nx 1 (nx 1 (nx 1 (nx 1 (bs, false)))))), 0, 0, [], [], [], 0⟩) := by
    show _ = _
    rw [pM, hK0]; rfl
  have HN1 : Hid ((nx 1 (bs, false)).2 = false) := (tk_ok (n := 1) (l := bs) (by omega)).2.2
  have HK0 : Hid (nB 1 (bs, false) = 3) := hK0
  have c0 : w.cell? ⟨sb, so, none⟩ = some (.int .u8 3) := by
    rcases hs.bytes with h | ⟨sb', so', e, h⟩
    · rw [h] at hpos; simp at hpos
    · cases e
      have := h 0 hpos
      rw [hk] at this
      simpa using this
  have hlI : ¬ (4000 : Int) < bs.length := by omega
  have hpI : ((bs.length : Int) == 0) = false := by rw [beq_eq_false_iff_ne]; omega
  have hpJ : (0 : Int) < bs.length := by omega
  have hblt : sb < w.heap.size := block_lt_of_cell c0
  clear hk hK0 hne
  go_enter Try.func22, Try.ntmps22
  go_upto_region 8 with (first
    | (go_at_call 32; refine (in_true _ _ _ _ (by decide)).mono ?_; rintro e w9 ⟨rfl, rfl⟩))
  have hA1 : Below w.heap.size w ((w.alloc (.cells #[.int .i64 0, .int .i64 0, .int .i64 0, .int .i64 0, .int .i64 0, .slice none 0 0, .int .i64 0, .int .i64 0, .slice none 0 0, .slice none 0 0, .int .i64 0, .int .i64 0, .slice none 0 0, .int .i64 0, .int .i64 0, .slice none 0 0, .slice none 0 0, .slice none 0 0, .int .i64 0] 53)).alloc (.cells #[.slice (some ⟨sb, so, none⟩) bs.length cap, .int .i64 0] 74)) := ((Below.refl _ _).alloc (Nat.le_refl _) _).alloc (by simp) _
  have qR := heap_alloc2_old w (.cells #[.int .i64 0, .int .i64 0, .int .i64 0, .int .i64 0, .int .i64 0, .slice none 0 0, .int .i64 0, .int .i64 0, .slice none 0 0, .slice none 0 0, .int .i64 0, .int .i64 0, .slice none 0 0, .int .i64 0, .int .i64 0, .slice none 0 0, .slice none 0 0, .slice none 0 0, .int .i64 0] 53) (.cells #[.slice (some ⟨sb, so, none⟩) bs.length cap, .int .i64 0] 74)
  have qS := heap_alloc2_new w (.cells #[.int .i64 0, .int .i64 0, .int .i64 0, .int .i64 0, .int .i64 0, .slice none 0 0, .int .i64 0, .int .i64 0, .slice none 0 0, .slice none 0 0, .int .i64 0, .int .i64 0, .slice none 0 0, .int .i64 0, .int .i64 0, .slice none 0 0, .slice none 0 0, .slice none 0 0, .int .i64 0] 53) (.cells #[.slice (some ⟨sb, so, none⟩) bs.length cap, .int .i64 0] 74)
  have hz1 : ((w.alloc (.cells #[.int .i64 0, .int .i64 0, .int .i64 0, .int .i64 0, .int .i64 0, .slice none 0 0, .int .i64 0, .int .i64 0, .slice none 0 0, .slice none 0 0, .int .i64 0, .int .i64 0, .slice none 0 0, .int .i64 0, .int .i64 0, .slice none 0 0, .slice none 0 0, .slice none 0 0, .int .i64 0] 53)).alloc (.cells #[.slice (some ⟨sb, so, none⟩) bs.length cap, .int .i64 0] 74)).heap.size = w.heap.size + 2 := by simp
  generalize (w.alloc (.cells #[.int .i64 0, .int .i64 0, .int .i64 0, .int .i64 0, .int .i64 0, .slice none 0 0, .int .i64 0, .int .i64 0, .slice none 0 0, .slice none 0 0, .int .i64 0, .int .i64 0, .slice none 0 0, .int .i64 0, .int .i64 0, .slice none 0 0, .slice none 0 0, .slice none 0 0, .int .i64 0] 53)).alloc (.cells #[.slice (some ⟨sb, so, none⟩) bs.length cap, .int .i64 0] 74) = W1 at hA1 qR qS hz1 ⊢
  have hSc1 : ScAt W1 (w.heap.size + 1) bs (bs, false) 0 := ⟨_, _, 0, qS, hs.below hA1, (fun sb' so' e => by cases e; omega), Nat.le_refl _, (fun _ => ⟨Nat.zero_le _, rfl⟩), (fun h => by cases h)⟩
  have qz : (W1.alloc (.cells #[.int .i64 0, .int .i64 0, .int .i64 0, .int .i64 0, .int .i64 0, .slice none 0 0, .int .i64 0, .int .i64 0, .slice none 0 0, .slice none 0 0, .int .i64 0, .int .i64 0, .slice none 0 0, .int .i64 0, .int .i64 0, .slice none 0 0, .slice none 0 0, .slice none 0 0, .int .i64 0] 53)).heap[w.heap.size + 2]? = some (.cells #[.int .i64 0, .int .i64 0, .int .i64 0, .int .i64 0, .int .i64 0, .slice none 0 0, .int .i64 0, .int .i64 0, .slice none 0 0, .slice none 0 0, .int .i64 0, .int .i64 0, .slice none 0 0, .int .i64 0, .int .i64 0, .slice none 0 0, .slice none 0 0, .slice none 0 0, .int .i64 0] 53 (0, 0)) := by rw [← hz1]; exact heap_alloc_new W1 (.cells #[.int .i64 0, .int .i64 0, .int .i64 0, .int .i64 0, .int .i64 0, .slice none 0 0, .int .i64 0, .int .i64 0, .slice none 0 0, .slice none 0 0, .int .i64 0, .int .i64 0, .slice none 0 0, .int .i64 0, .int .i64 0, .slice none 0 0, .slice none 0 0, .slice none 0 0, .int .i64 0] 53)
  have hM0 : MoB ((W1.alloc (.cells #[.int .i64 0, .int .i64 0, .int .i64 0, .int .i64 0, .int .i64 0, .slice none 0 0, .int .i64 0, .int .i64 0, .slice none 0 0, .slice none 0 0, .int .i64 0, .int .i64 0, .slice none 0 0, .int .i64 0, .int .i64 0, .slice none 0 0, .slice none 0 0, .slice none 0 0, .int .i64 0] 53)).setRow (w.heap.size + 2) #[.int .i64 0, .int .i64 0, .int .i64 0, .int .i64 0, .int .i64 0, .slice none 0 0, .int .i64 0, .int .i64 0, .slice none 0 0, .slice none 0 0, .int .i64 0, .int .i64 0, .slice none 0 0, .int .i64 0, .int .i64 0, .slice none 0 0, .slice none 0 0, .slice none 0 0, .int .i64 0]) w w.heap.size (w.heap.size + 1) (w.heap.size + 2) bs (bs, false) 0 #[.int .i64 0, .int .i64 0, .int .i64 0, .int .i64 0, .int .i64 0, .slice none 0 0, .int .i64 0, .int .i64 0, .slice none 0 0, .slice none 0 0, .int .i64 0, .int .i64 0, .slice none 0 0, .int .i64 0, .int .i64 0, .slice none 0 0, .slice none 0 0, .slice none 0 0, .int .i64 0] := by
    have hb : Below W1.heap.size W1 ((W1.alloc (.cells #[.int .i64 0, .int .i64 0, .int .i64 0, .int .i64 0, .int .i64 0, .slice none 0 0, .int .i64 0, .int .i64 0, .slice none 0 0, .slice none 0 0, .int .i64 0, .int .i64 0, .slice none 0 0, .int .i64 0, .int .i64 0, .slice none 0 0, .slice none 0 0, .slice none 0 0, .int .i64 0] 53)).setRow (w.heap.size + 2) #[.int .i64 0, .int .i64 0, .int .i64 0, .int .i64 0, .int .i64 0, .slice none 0 0, .int .i64 0, .int .i64 0, .slice none 0 0, .slice none 0 0, .int .i64 0, .int .i64 0, .slice none 0 0, .int .i64 0, .int .i64 0, .slice none 0 0, .slice none 0 0, .slice none 0 0, .int .i64 0]) := ⟨rfl, rfl, rfl, by simp [World.setRow], fun k hk => (setRow_other _ _ _ _ (by omega)).trans (Below.heap_alloc _ _ _ hk)⟩
    exact ⟨setRow_heap _ _ _ _ _ _ qz, (hb.block _ (by omega)).trans qR, hSc1.below hb, hA1.trans (hb.mono (by omega)), Nat.le_refl _, by omega, by omega⟩
  go_upto_region 9 with (refine wpList_store_row rfl 53 _ _ rfl (w.heap.size + 2) #[.int .i64 0, .int .i64 0, .int .i64 0, .int .i64 0, .int .i64 0, .slice none 0 0, .int .i64 0, .int .i64 0, .slice none 0 0, .slice none 0 0, .int .i64 0, .int .i64 0, .slice none 0 0, .int .i64 0, .int .i64 0, .slice none 0 0, .slice none 0 0, .slice none 0 0, .int .i64 0] rfl rfl 53 _ qz sMsg' rfl (by simp [Value.oneCell']) ?_)
  generalize (W1.alloc (.cells #[.int .i64 0, .int .i64 0, .int .i64 0, .int .i64 0, .int .i64 0, .slice none 0 0, .int .i64 0, .int .i64 0, .slice none 0 0, .slice none 0 0, .int .i64 0, .int .i64 0, .slice none 0 0, .int .i64 0, .int .i64 0, .slice none 0 0, .slice none 0 0, .slice none 0 0, .int .i64 0] 53)).setRow (w.heap.size + 2) #[.int .i64 0, .int .i64 0, .int .i64 0, .int .i64 0, .int .i64 0, .slice none 0 0, .int .i64 0, .int .i64 0, .slice none 0 0, .slice none 0 0, .int .i64 0, .int .i64 0, .slice none 0 0, .int .i64 0, .int .i64 0, .slice none 0 0, .slice none 0 0, .slice none 0 0, .int .i64 0] = V0 at hM0 ⊢
  clear qz qR qS hSc1 hA1 hz1 c0 hblt hpI hs
  generalize hMM : w.heap.size + 2 = M at hM0 ⊢
  generalize hSS : w.heap.size + 1 = S at hM0 ⊢
  clear hMM hSS
  go_wp2_with fail
  refine (num_sc S 1 bs (bs, false) _ V0 hM0.sc hu (by omega) (by omega)).mono ?_
  intro e w1 h1
  obtain ⟨ki, he, ki0, ki1, ki2, kig, hSc, ho1⟩ := h1.out
  subst he
  dsimp only
  clear h1
  have hC1 := hM0.call ho1 hSc
  have dj := cells_at hC1.box 2 _ rfl
  have fj := frozen_at hC1.box 2
  have hM1 := hC1.cell 2 (.int .i64 ki) #[.int .i64 0, .int .i64 0, .int .i64 ki, .int .i64 0, .int .i64 0, .slice none 0 0, .int .i64 0, .int .i64 0, .slice none 0 0, .slice none 0 0, .int .i64 0, .int .i64 0, .slice none 0 0, .int .i64 0, .int .i64 0, .slice none 0 0, .slice none 0 0, .slice none 0 0, .int .i64 0] rfl
  go_upto_region 10 with fail
  generalize w1.setCell ⟨M, 2, none⟩ (.int .i64 ki) = V1 at hM1 ⊢
  clear dj fj hC1 hSc ho1 hM0
  go_wp2_with fail
  refine (num_sc S 1 bs (nx 1 (bs, false)) _ V1 hM1.sc hu (by omega) (by omega)).mono ?_
  intro e w2 h1
  obtain ⟨fr, he, fr0, fr1, fr2, frg, hSc, ho1⟩ := h1.out
  subst he
  dsimp only
  clear h1
  have hC2 := hM1.call ho1 hSc
  have dj := cells_at hC2.box 0 _ rfl
  have fj := frozen_at hC2.box 0
  have hM2 := hC2.cell 0 (.int .i64 fr) #[.int .i64 fr, .int .i64 0, .int .i64 ki, .int .i64 0, .int .i64 0, .slice none 0 0, .int .i64 0, .int .i64 0, .slice none 0 0, .slice none 0 0, .int .i64 0, .int .i64 0, .slice none 0 0, .int .i64 0, .int .i64 0, .slice none 0 0, .slice none 0 0, .slice none 0 0, .int .i64 0] rfl
  go_upto_region 11 with fail
  generalize w2.setCell ⟨M, 0, none⟩ (.int .i64 fr) = V2 at hM2 ⊢
  clear dj fj hC2 hSc ho1 hM1
  go_wp2_with fail
  refine (num_sc S 1 bs (nx 1 (nx 1 (bs, false))) _ V2 hM2.sc hu (by omega) (by omega)).mono ?_
  intro e w3 h1
  obtain ⟨tt, he, tt0, tt1, tt2, ttg, hSc, ho1⟩ := h1.out
  subst he
  dsimp only
  clear h1
  have hC3 := hM2.call ho1 hSc
  have dj := cells_at hC3.box 1 _ rfl
  have fj := frozen_at hC3.box 1
  have hM3 := hC3.cell 1 (.int .i64 tt) #[.int .i64 fr, .int .i64 tt, .int .i64 ki, .int .i64 0, .int .i64 0, .slice none 0 0, .int .i64 0, .int .i64 0, .slice none 0 0, .slice none 0 0, .int .i64 0, .int .i64 0, .slice none 0 0, .int .i64 0, .int .i64 0, .slice none 0 0, .slice none 0 0, .slice none 0 0, .int .i64 0] rfl
  go_upto_region 12 with fail
  generalize w3.setCell ⟨M, 1, none⟩ (.int .i64 tt) = V3 at hM3 ⊢
  clear dj fj hC3 hSc ho1 hM2
  have hki : ki = 3 := (kig HN1.out).trans HK0.out
  subst hki
  have dk := cells_at hM3.box 2 _ rfl
  go_wp2_with fail
  refine (num_sc S 1 bs (nx 1 (nx 1 (nx 1 (bs, false)))) _ V3 hM3.sc hu (by omega) (by omega)).mono ?_
  intro e w4 h1
  obtain ⟨au, he, au0, au1, au2, aug, hSc, ho1⟩ := h1.out
  subst he
  dsimp only
  clear h1
  have hC4 := hM3.call ho1 hSc
  have dj := cells_at hC4.box 10 _ rfl
  have fj := frozen_at hC4.box 10
  have hM4 := hC4.cell 10 (.int .i64 au) #[.int .i64 fr, .int .i64 tt, .int .i64 3, .int .i64 0, .int .i64 0, .slice none 0 0, .int .i64 0, .int .i64 0, .slice none 0 0, .slice none 0 0, .int .i64 au, .int .i64 0, .slice none 0 0, .int .i64 0, .int .i64 0, .slice none 0 0, .slice none 0 0, .slice none 0 0, .int .i64 0] rfl
  go_upto_region 27 with fail
  generalize w4.setCell ⟨M, 10, none⟩ (.int .i64 au) = V4 at hM4 ⊢
  clear dj fj hC4 hSc ho1 hM3
  go_wp2_with fail
  refine (num_sc S 3 bs (nx 1 (nx 1 (nx 1 (nx 1 (bs, false))))) _ V4 hM4.sc hu (by omega) (by omega)).mono ?_
  intro e w5 h1
  obtain ⟨rd, he, rd0, rd1, rd2, rdg, hSc, ho1⟩ := h1.out
  subst he
  dsimp only
  clear h1
  have hC5 := hM4.call ho1 hSc
  have dj := cells_at hC5.box 11 _ rfl
  have fj := frozen_at hC5.box 11
  have hM5 := hC5.cell 11 (.int .i64 rd) #[.int .i64 fr, .int .i64 tt, .int .i64 3, .int .i64 0, .int .i64 0, .slice none 0 0, .int .i64 0, .int .i64 0, .slice none 0 0, .slice none 0 0, .int .i64 au, .int .i64 rd, .slice none 0 0, .int .i64 0, .int .i64 0, .slice none 0 0, .slice none 0 0, .slice none 0 0, .int .i64 0] rfl
  go_upto_region 28 with fail
  generalize w5.setCell ⟨M, 11, none⟩ (.int .i64 rd) = V5 at hM5 ⊢
  clear dj fj hC5 hSc ho1 hM4
  go_wp2_with fail
  refine (next_sc S 32 bs (nx 3 (nx 1 (nx 1 (nx 1 (nx 1 (bs, false)))))) _ V5 hM5.sc (by omega) (by omega)).mono ?_
  intro e w6 h1
  obtain ⟨ra, rc, t, he, hS6, hf6, hta, htb, hSc, ho1⟩ := h1.out
  subst he
  dsimp only
  clear h1
  have hC6 := hM5.call ho1 hSc
  have htl : t.length ≤ 1000 := by
    cases h9 : (nx 32 (nx 3 (nx 1 (nx 1 (nx 1 (nx 1 (bs, false))))))).2 with
    | true => rw [htb h9]; simp
    | false => rw [hta h9]; exact Nat.le_trans tkT_len (by omega)
  have HT : Hid ((nx 32 (nx 3 (nx 1 (nx 1 (nx 1 (nx 1 (bs, false))))))).2 = false → t = tT 32 (nx 3 (nx 1 (nx 1 (nx 1 (nx 1 (bs, false))))))) := hta
  have dj := cells_at hC6.box 12 _ rfl
  have fj := frozen_at hC6.box 12
  have hM6 := hC6.cell 12 (.slice ra t.length rc) #[.int .i64 fr, .int .i64 tt, .int .i64 3, .int .i64 0, .int .i64 0, .slice none 0 0, .int .i64 0, .int .i64 0, .slice none 0 0, .slice none 0 0, .int .i64 au, .int .i64 rd, .slice ra t.length rc, .int .i64 0, .int .i64 0, .slice none 0 0, .slice none 0 0, .slice none 0 0, .int .i64 0] rfl
  have lM : M < V5.heap.size := lt_of_heap hM5.box
  have hfr : Hid (∀ sb so, ra = some ⟨sb, so, none⟩ → M < sb) := by
    show ∀ sb, _
    exact fun sb so e => by have := (hf6 sb so e).1; omega
  have hS7 : SliceAt (w6.setCell ⟨M, 12, none⟩ (.slice ra t.length rc)) ra rc t := slice_stays (G := fun q => M < q) (fun k hk => heap_setCell_other w6 ⟨M, 12, none⟩ k _ (by show k ≠ M; omega)) hS6 (fun sb so e _ => hfr.out sb so e)
  clear hta htb hf6 hS6 lM
  go_upto_region 39 with fail
  generalize w6.setCell ⟨M, 12, none⟩ (.slice ra t.length rc) = V6 at hM6 hS7 ⊢
  clear dj fj hC6 hSc ho1 hM5
  have hX : Hid (MoX V6 w w.heap.size S M bs 100) := by
    refine ⟨⟨{ fr := fr, tt := tt, ki := 3, bau := 0, bnu := 0, bta := none, btn := 0, btc := 0, hau := 0, hrd := 0, hba := none, hbn := 0, hbc := 0, hpa := none, hpn := 0, hpc := 0, sau := au, srd := rd, sda := ra, sdn := t.length, sdc := rc, cau := 0, crd := 0, cba := none, cbn := 0, cbc := 0, cpa := none, cpn := 0, cpc := 0, cva := none, cvn := 0, cvc := 0, ro := 0 }, [], [], [], [], [], t, []⟩, ?_, ?_, ?_, ?_⟩
    · rw [HMS.out]; exact hM6.st (by omega)
    · exact ⟨⟨rfl, rfl, rfl, rfl, rfl, rfl, Nat.zero_le _, Nat.zero_le _, (by show t.length ≤ _; omega), strs_nil _, list_nilM _, list_nilM _, list_nilM _, list_nilM _, ints_nil _⟩, hS7, rfl⟩
    · exact ⟨(fun sb so e => by cases e), has_nil, has_nil, (fun sb so e _ => hfr.out sb so e), has_nil, has_nil, (fun sb so e => by cases e)⟩
    · intro h9
      rw [HMS.out] at h9
      have h8 := nx_over h9
      have h7 := nx_over h8
      have h6 := nx_over h7
      have h5 := nx_over h6
      rw [HPM.out, HK0.out, ← HT.out h9, ← rdg h8, ← aug h7, ← ttg h6, ← frg h5]
      rfl
  clear hM6 dk hS7
  obtain ⟨x, hM, hA, hH, hC⟩ := hX.out.out
  clear hX
  go_wp2_with fail
  refine (over_sc S bs _ _ V6 hM.sc).mono ?_
  rintro e w1 ⟨he, hb1⟩
  subst he
  dsimp only
  have hB := hM.belowW hb1
  have hA1 := hA.below hb1
  have HH : Hid (HasM (fun q => M < q) x) := hH
  have l1 := hB.l1
  have l2 := hB.l2
  have lM : M < w1.heap.size := lt_of_heap hB.box
  clear hM hA hH hb1
  obtain ⟨ba, bc, a, qS, hbS, hneS, haN, h5, h6⟩ := hB.sc.out
  generalize mS (bs, false) = ms at *
  obtain ⟨ml, msh⟩ := ms
  dsimp only at *
  cases msh with
  | true =>
    have hF : Hid (readF bs = 5) := by show _ = _; rw [HRF.out, if_pos rfl]
    clear h5 h6 hC
    go_wp2_with (refine wpList_store_row rfl 53 _ _ rfl w.heap.size #[.int .i64 0, .int .i64 0, .int .i64 0, .int .i64 0, .int .i64 0, .slice none 0 0, .int .i64 0, .int .i64 0, .slice none 0 0, .slice none 0 0, .int .i64 0, .int .i64 0, .slice none 0 0, .int .i64 0, .int .i64 0, .slice none 0 0, .slice none 0 0, .slice none 0 0, .int .i64 0] rfl rfl 53 _ hB.res sMsg' rfl (by simp [Value.oneCell']) ?_)
    have hFc := hF.out
    refine bodyPost_ret (v := .tuple #[.agg #[.int .i64 0, .int .i64 0, .int .i64 0, .int .i64 0, .int .i64 0, .slice none 0 0, .int .i64 0, .int .i64 0, .slice none 0 0, .slice none 0 0, .int .i64 0, .int .i64 0, .slice none 0 0, .int .i64 0, .int .i64 0, .slice none 0 0, .slice none 0 0, .slice none 0 0, .int .i64 0], .int .i64 5]) (results_cell_slot (fn := Try.f22) (p := 2) (q := 3) (ty := 53) rfl _ _ w.heap.size 53 _ (0, 0) _ (.int .i64 5) ⟨rfl, rfl⟩ (setRow_heap _ _ _ _ _ _ hB.res) Try.underlying53 rfl sMsg') rfl ⟨.inl ⟨by rw [hFc]; decide, by rw [hFc]⟩, (Upd.setRow hB.res).below hB.below hB.below.size (Nat.le_refl _)⟩
  | false =>
    obtain ⟨h51, h52⟩ := h5 rfl
    have HCX : Hid (x.c = pM (bs, false)) := hC rfl
    clear h5 h6 hC
    have s1 : w1.cell? ⟨S, 1, none⟩ = some (.int .i64 (a : Int)) := cells_at qS 1 _ rfl
    by_cases hml : a = bs.length
    · have hF : Hid (readF bs = 0) := by
        show _ = _
        rw [HRF.out, if_neg (by decide), if_neg (fun h => h (by rw [h52, hml]; simp))]
      have haI : ¬ (a : Int) < bs.length := by omega
      clear hml h51 h52 HRF
      have hB2 : Below w1.heap.size w1 w1.drew := (Below.refl _ _).drew
      go_upto_region 43 with fail
      have HF9 := messageFault_any x.m x.ss x.bl x.pl x.cbl x.cpl x.vl w1 hA1.at'
      go_wp2_with (refine wpList_load_row rfl 53 _ rfl M rfl 53 #[.int .i64 x.m.fr, .int .i64 x.m.tt, .int .i64 x.m.ki, .int .i64 x.m.bau, .int .i64 x.m.bnu, .slice x.m.bta x.m.btn x.m.btc, .int .i64 x.m.hau, .int .i64 x.m.hrd, .slice x.m.hba x.m.hbn x.m.hbc, .slice x.m.hpa x.m.hpn x.m.hpc, .int .i64 x.m.sau, .int .i64 x.m.srd, .slice x.m.sda x.m.sdn x.m.sdc, .int .i64 x.m.cau, .int .i64 x.m.crd, .slice x.m.cba x.m.cbn x.m.cbc, .slice x.m.cpa x.m.cpn x.m.cpc, .slice x.m.cva x.m.cvn x.m.cvc, .int .i64 x.m.ro] (0, 0) _ hB.box Try.underlying53 rfl sMsg' ?_)
      refine HF9.mono ?_
      rintro e w2 ⟨he, hb2⟩
      subst he
      dsimp only
      clear HF9 s1
      have hD := hB.belowW hb2
      have hA2 : Hid (MAt w2 x) := hA1.below hb2
      have HCR : Hid (carriedF x.m x.ss x.bl x.pl x.cbl x.cpl x.vl = x.car) := rfl
      generalize hCk : checkF x.m (carriedF x.m x.ss x.bl x.pl x.cbl x.cpl x.vl) = C at *
      have HCK : Hid (checkF x.m x.car = C) := hCk
      clear hCk
      by_cases hc0 : C = 0
      · subst hc0
        go_wp2_with (first | refine wpList_load_row rfl 53 _ rfl M rfl 53 #[.int .i64 x.m.fr, .int .i64 x.m.tt, .int .i64 x.m.ki, .int .i64 x.m.bau, .int .i64 x.m.bnu, .slice x.m.bta x.m.btn x.m.btc, .int .i64 x.m.hau, .int .i64 x.m.hrd, .slice x.m.hba x.m.hbn x.m.hbc, .slice x.m.hpa x.m.hpn x.m.hpc, .int .i64 x.m.sau, .int .i64 x.m.srd, .slice x.m.sda x.m.sdn x.m.sdc, .int .i64 x.m.cau, .int .i64 x.m.crd, .slice x.m.cba x.m.cbn x.m.cbc, .slice x.m.cpa x.m.cpn x.m.cpc, .slice x.m.cva x.m.cvn x.m.cvc, .int .i64 x.m.ro] (0, 0) _ hD.box Try.underlying53 rfl sMsg' ?_ | refine wpList_store_row rfl 53 _ _ rfl w.heap.size #[.int .i64 x.m.fr, .int .i64 x.m.tt, .int .i64 x.m.ki, .int .i64 x.m.bau, .int .i64 x.m.bnu, .slice x.m.bta x.m.btn x.m.btc, .int .i64 x.m.hau, .int .i64 x.m.hrd, .slice x.m.hba x.m.hbn x.m.hbc, .slice x.m.hpa x.m.hpn x.m.hpc, .int .i64 x.m.sau, .int .i64 x.m.srd, .slice x.m.sda x.m.sdn x.m.sdc, .int .i64 x.m.cau, .int .i64 x.m.crd, .slice x.m.cba x.m.cbn x.m.cbc, .slice x.m.cpa x.m.cpn x.m.cpc, .slice x.m.cva x.m.cvn x.m.cvc, .int .i64 x.m.ro] rfl rfl 53 _ hD.res sMsg' rfl (by simp [Value.oneCell']) ?_)
        refine bodyPost_ret (v := .tuple #[.agg #[.int .i64 x.m.fr, .int .i64 x.m.tt, .int .i64 x.m.ki, .int .i64 x.m.bau, .int .i64 x.m.bnu, .slice x.m.bta x.m.btn x.m.btc, .int .i64 x.m.hau, .int .i64 x.m.hrd, .slice x.m.hba x.m.hbn x.m.hbc, .slice x.m.hpa x.m.hpn x.m.hpc, .int .i64 x.m.sau, .int .i64 x.m.srd, .slice x.m.sda x.m.sdn x.m.sdc, .int .i64 x.m.cau, .int .i64 x.m.crd, .slice x.m.cba x.m.cbn x.m.cbc, .slice x.m.cpa x.m.cpn x.m.cpc, .slice x.m.cva x.m.cvn x.m.cvc, .int .i64 x.m.ro], .int .i64 0]) (results_cell_slot (fn := Try.f22) (p := 2) (q := 3) (ty := 53) rfl _ _ w.heap.size 53 _ (0, 0) _ (.int .i64 0) ⟨rfl, rfl⟩ (setRow_heap _ _ _ _ _ _ hD.res) Try.underlying53 rfl sMsg') rfl ⟨.inr ⟨hF.out, x, HCX.out, ?_, HH.out.mono (fun q hq => by omega), .inl ⟨HCK.out, rfl⟩⟩, (Upd.setRow hD.res).below hD.below hD.below.size (Nat.le_refl _)⟩
        exact hA2.out.setRow (B := M + 1) (HH.out.mono (fun q hq => by omega)) (by omega)
      · have hcn : (C != 0) = true := by simpa using hc0
        have HC0 : Hid (C ≠ 0) := hc0
        go_wp2_with (refine wpList_store_row rfl 53 _ _ rfl w.heap.size #[.int .i64 0, .int .i64 0, .int .i64 0, .int .i64 0, .int .i64 0, .slice none 0 0, .int .i64 0, .int .i64 0, .slice none 0 0, .slice none 0 0, .int .i64 0, .int .i64 0, .slice none 0 0, .int .i64 0, .int .i64 0, .slice none 0 0, .slice none 0 0, .slice none 0 0, .int .i64 0] rfl rfl 53 _ hD.res sMsg' rfl (by simp [Value.oneCell']) ?_)
        refine bodyPost_ret (v := .tuple #[.agg #[.int .i64 0, .int .i64 0, .int .i64 0, .int .i64 0, .int .i64 0, .slice none 0 0, .int .i64 0, .int .i64 0, .slice none 0 0, .slice none 0 0, .int .i64 0, .int .i64 0, .slice none 0 0, .int .i64 0, .int .i64 0, .slice none 0 0, .slice none 0 0, .slice none 0 0, .int .i64 0], .int .i64 C]) (results_cell_slot (fn := Try.f22) (p := 2) (q := 3) (ty := 53) rfl _ _ w.heap.size 53 _ (0, 0) _ (.int .i64 C) ⟨rfl, rfl⟩ (setRow_heap _ _ _ _ _ _ hD.res) Try.underlying53 rfl sMsg') rfl ⟨.inr ⟨hF.out, x, HCX.out, ?_, HH.out.mono (fun q hq => by omega), .inr ⟨by rw [HCK.out]; exact HC0.out, by rw [HCK.out]⟩⟩, (Upd.setRow hD.res).below hD.below hD.below.size (Nat.le_refl _)⟩
        exact hA2.out.setRow (B := M + 1) (HH.out.mono (fun q hq => by omega)) (by omega)
    · have hF : Hid (readF bs = 4) := by
        show _ = _
        rw [HRF.out, if_neg (by decide), if_pos (fun h => hml (by rw [h52, List.drop_eq_nil_iff] at h; omega))]
      have haI : (a : Int) < bs.length := by omega
      clear hml h51 h52 HRF
      go_wp2_with (refine wpList_store_row rfl 53 _ _ rfl w.heap.size #[.int .i64 0, .int .i64 0, .int .i64 0, .int .i64 0, .int .i64 0, .slice none 0 0, .int .i64 0, .int .i64 0, .slice none 0 0, .slice none 0 0, .int .i64 0, .int .i64 0, .slice none 0 0, .int .i64 0, .int .i64 0, .slice none 0 0, .slice none 0 0, .slice none 0 0, .int .i64 0] rfl rfl 53 _ hB.res sMsg' rfl (by simp [Value.oneCell']) ?_)
      have hFc := hF.out
      refine bodyPost_ret (v := .tuple #[.agg #[.int .i64 0, .int .i64 0, .int .i64 0, .int .i64 0, .int .i64 0, .slice none 0 0, .int .i64 0, .int .i64 0, .slice none 0 0, .slice none 0 0, .int .i64 0, .int .i64 0, .slice none 0 0, .int .i64 0, .int .i64 0, .slice none 0 0, .slice none 0 0, .slice none 0 0, .int .i64 0], .int .i64 4]) (results_cell_slot (fn := Try.f22) (p := 2) (q := 3) (ty := 53) rfl _ _ w.heap.size 53 _ (0, 0) _ (.int .i64 4) ⟨rfl, rfl⟩ (setRow_heap _ _ _ _ _ _ hB.res) Try.underlying53 rfl sMsg') rfl ⟨.inl ⟨by rw [hFc]; decide, by rw [hFc]⟩, (Upd.setRow hB.res).below hB.below hB.below.size (Nat.le_refl _)⟩
end Go.Proofs.Ytldlknmpkoebbaa

namespace Go.Proofs.Ytldlknmpkoebbaa
open Go.RowKit

set_option maxRecDepth 100000 in
set_option maxHeartbeats 8000000 in
theorem mof_4 (bs : List Int) (sb so cap : Nat) (w : World) (hs : SliceAt w (some ⟨sb, so, none⟩) cap bs) (hu : U8s bs) (hl : bs.length ≤ 4000) (hpos : 0 < bs.length) (hk : bs.getD 0 0 = 4) :
    Calls Try.prog 22 #[.slice (some ⟨sb, so, none⟩) bs.length cap] w fun e w' => DecIs w w' e bs := by
  have hne : bs ≠ [] := by intro h; rw [h] at hpos; simp at hpos
  have hK0 : nB 1 (bs, false) = 4 := by rw [nB1_first hne, hk]
  have HRF : Hid (readF bs = if (mS (bs, false)).2 = true then 5 else if (mS (bs, false)).1 ≠ [] then 4 else 0) := by
    show _ = _
    rw [readF, if_neg (by omega), if_neg hne, hk, if_neg (by decide)]
  have HMS : Hid (mS (bs, false) = nL (nx 1 (dgS (dgS (nx 3 (nx 1 (nx 1 (nx 1 (nx 1 (bs, false))))))))) (cN (nx 1 (nx 1 (nx 1 (bs, false)))))) := by
    show _ = _
    rw [mS, hK0]; rfl
  have HPM : Hid (pM (bs, false) = ⟨nB 1 (nx 1 (bs, false)), nB 1 (nx 1 (nx 1 (bs, false))), nB 1 (bs, false), 0, 0, [], 0, 0, [], [], 0, 0, [], nB 1 (nx 1 (nx 1 (nx 1 (bs, false)))), nB 3 (nx 1 (nx 1 (nx 1 (nx 1 (bs, false))))), dgs (nx 3 (nx 1 (nx 1 (nx 1 (nx 1 (bs, false)))))), dgs (dgS (nx 3 (nx 1 (nx 1 (nx 1 (nx 1 (bs, false))))))), nV (nx 1 (dgS (dgS (nx 3 (nx 1 (nx 1 (nx 1 (nx 1 (bs, false))))))))) (cN (nx 1 (nx 1 (nx 1 (bs, false))))), 0⟩) := by
    show _ = _
    rw [pM, hK0]; rfl
  have HN1 : Hid ((nx 1 (bs, false)).2 = false) := (tk_ok (n := 1) (l := bs) (by omega)).2.2
  have HK0 : Hid (nB 1 (bs, false) = 4) := hK0
  have c0 : w.cell? ⟨sb, so, none⟩ = some (.int .u8 4) := by
    rcases hs.bytes with h | ⟨sb', so', e, h⟩
    · rw [h] at hpos; simp at hpos
    · cases e
      have := h 0 hpos
      rw [hk] at this
      simpa using this
  have hlI : ¬ (4000 : Int) < bs.length := by omega
  have hpI : ((bs.length : Int) == 0) = false := by rw [beq_eq_false_iff_ne]; omega
  have hpJ : (0 : Int) < bs.length := by omega
  have hblt : sb < w.heap.size := block_lt_of_cell c0
  clear hk hK0 hne
  go_enter Try.func22, Try.ntmps22
  go_upto_region 8 with (first
    | (go_at_call 32; refine (in_true _ _ _ _ (by decide)).mono ?_; rintro e w9 ⟨rfl, rfl⟩))
  have hA1 : Below w.heap.size w ((w.alloc (.cells #[.int .i64 0, .int .i64 0, .int .i64 0, .int .i64 0, .int .i64 0, .slice none 0 0, .int .i64 0, .int .i64 0, .slice none 0 0, .slice none 0 0, .int .i64 0, .int .i64 0, .slice none 0 0, .int .i64 0, .int .i64 0, .slice none 0 0, .slice none 0 0, .slice none 0 0, .int .i64 0] 53)).alloc (.cells #[.slice (some ⟨sb, so, none⟩) bs.length cap, .int .i64 0] 74)) := ((Below.refl _ _).alloc (Nat.le_refl _) _).alloc (by simp) _
  have qR := heap_alloc2_old w (.cells #[.int .i64 0, .int .i64 0, .int .i64 0, .int .i64 0, .int .i64 0, .slice none 0 0, .int .i64 0, .int .i64 0, .slice none 0 0, .slice none 0 0, .int .i64 0, .int .i64 0, .slice none 0 0, .int .i64 0, .int .i64 0, .slice none 0 0, .slice none 0 0, .slice none 0 0, .int .i64 0] 53) (.cells #[.slice (some ⟨sb, so, none⟩) bs.length cap, .int .i64 0] 74)
  have qS := heap_alloc2_new w (.cells #[.int .i64 0, .int .i64 0, .int .i64 0, .int .i64 0, .int .i64 0, .slice none 0 0, .int .i64 0, .int .i64 0, .slice none 0 0, .slice none 0 0, .int .i64 0, .int .i64 0, .slice none 0 0, .int .i64 0, .int .i64 0, .slice none 0 0, .slice none 0 0, .slice none 0 0, .int .i64 0] 53) (.cells #[.slice (some ⟨sb, so, none⟩) bs.length cap, .int .i64 0] 74)
  have hz1 : ((w.alloc (.cells #[.int .i64 0, .int .i64 0, .int .i64 0, .int .i64 0, .int .i64 0, .slice none 0 0, .int .i64 0, .int .i64 0, .slice none 0 0, .slice none 0 0, .int .i64 0, .int .i64 0, .slice none 0 0, .int .i64 0, .int .i64 0, .slice none 0 0, .slice none 0 0, .slice none 0 0, .int .i64 0] 53)).alloc (.cells #[.slice (some ⟨sb, so, none⟩) bs.length cap, .int .i64 0] 74)).heap.size = w.heap.size + 2 := by simp
  generalize (w.alloc (.cells #[.int .i64 0, .int .i64 0, .int .i64 0, .int .i64 0, .int .i64 0, .slice none 0 0, .int .i64 0, .int .i64 0, .slice none 0 0, .slice none 0 0, .int .i64 0, .int .i64 0, .slice none 0 0, .int .i64 0, .int .i64 0, .slice none 0 0, .slice none 0 0, .slice none 0 0, .int .i64 0] 53)).alloc (.cells #[.slice (some ⟨sb, so, none⟩) bs.length cap, .int .i64 0] 74) = W1 at hA1 qR qS hz1 ⊢
  have hSc1 : ScAt W1 (w.heap.size + 1) bs (bs, false) 0 := ⟨_, _, 0, qS, hs.below hA1, (fun sb' so' e => by cases e; omega), Nat.le_refl _, (fun _ => ⟨Nat.zero_le _, rfl⟩), (fun h => by cases h)⟩
  have qz : (W1.alloc (.cells #[.int .i64 0, .int .i64 0, .int .i64 0, .int .i64 0, .int .i64 0, .slice none 0 0, .int .i64 0, .int .i64 0, .slice none 0 0, .slice none 0 0, .int .i64 0, .int .i64 0, .slice none 0 0, .int .i64 0, .int .i64 0, .slice none 0 0, .slice none 0 0, .slice none 0 0, .int .i64 0] 53)).heap[w.heap.size + 2]? = some (.cells #[.int .i64 0, .int .i64 0, .int .i64 0, .int .i64 0, .int .i64 0, .slice none 0 0, .int .i64 0, .int .i64 0, .slice none 0 0, .slice none 0 0, .int .i64 0, .int .i64 0, .slice none 0 0, .int .i64 0, .int .i64 0, .slice none 0 0, .slice none 0 0, .slice none 0 0, .int .i64 0] 53 (0, 0)) := by rw [← hz1]; exact heap_alloc_new W1 (.cells #[.int .i64 0, .int .i64 0, .int .i64 0, .int .i64 0, .int .i64 0, .slice none 0 0, .int .i64 0, .int .i64 0, .slice none 0 0, .slice none 0 0, .int .i64 0, .int .i64 0, .slice none 0 0, .int .i64 0, .int .i64 0, .slice none 0 0, .slice none 0 0, .slice none 0 0, .int .i64 0] 53)
  have hM0 : MoB ((W1.alloc (.cells #[.int .i64 0, .int .i64 0, .int .i64 0, .int .i64 0, .int .i64 0, .slice none 0 0, .int .i64 0, .int .i64 0, .slice none 0 0, .slice none 0 0, .int .i64 0, .int .i64 0, .slice none 0 0, .int .i64 0, .int .i64 0, .slice none 0 0, .slice none 0 0, .slice none 0 0, .int .i64 0] 53)).setRow (w.heap.size + 2) #[.int .i64 0, .int .i64 0, .int .i64 0, .int .i64 0, .int .i64 0, .slice none 0 0, .int .i64 0, .int .i64 0, .slice none 0 0, .slice none 0 0, .int .i64 0, .int .i64 0, .slice none 0 0, .int .i64 0, .int .i64 0, .slice none 0 0, .slice none 0 0, .slice none 0 0, .int .i64 0]) w w.heap.size (w.heap.size + 1) (w.heap.size + 2) bs (bs, false) 0 #[.int .i64 0, .int .i64 0, .int .i64 0, .int .i64 0, .int .i64 0, .slice none 0 0, .int .i64 0, .int .i64 0, .slice none 0 0, .slice none 0 0, .int .i64 0, .int .i64 0, .slice none 0 0, .int .i64 0, .int .i64 0, .slice none 0 0, .slice none 0 0, .slice none 0 0, .int .i64 0] := by
    have hb : Below W1.heap.size W1 ((W1.alloc (.cells #[.int .i64 0, .int .i64 0, .int .i64 0, .int .i64 0, .int .i64 0, .slice none 0 0, .int .i64 0, .int .i64 0, .slice none 0 0, .slice none 0 0, .int .i64 0, .int .i64 0, .slice none 0 0, .int .i64 0, .int .i64 0, .slice none 0 0, .slice none 0 0, .slice none 0 0, .int .i64 0] 53)).setRow (w.heap.size + 2) #[.int .i64 0, .int .i64 0, .int .i64 0, .int .i64 0, .int .i64 0, .slice none 0 0, .int .i64 0, .int .i64 0, .slice none 0 0, .slice none 0 0, .int .i64 0, .int .i64 0, .slice none 0 0, .int .i64 0, .int .i64 0, .slice none 0 0, .slice none 0 0, .slice none 0 0, .int .i64 0]) := ⟨rfl, rfl, rfl, by simp [World.setRow], fun k hk => (setRow_other _ _ _ _ (by omega)).trans (Below.heap_alloc _ _ _ hk)⟩
    exact ⟨setRow_heap _ _ _ _ _ _ qz, (hb.block _ (by omega)).trans qR, hSc1.below hb, hA1.trans (hb.mono (by omega)), Nat.le_refl _, by omega, by omega⟩
  go_upto_region 9 with (refine wpList_store_row rfl 53 _ _ rfl (w.heap.size + 2) #[.int .i64 0, .int .i64 0, .int .i64 0, .int .i64 0, .int .i64 0, .slice none 0 0, .int .i64 0, .int .i64 0, .slice none 0 0, .slice none 0 0, .int .i64 0, .int .i64 0, .slice none 0 0, .int .i64 0, .int .i64 0, .slice none 0 0, .slice none 0 0, .slice none 0 0, .int .i64 0] rfl rfl 53 _ qz sMsg' rfl (by simp [Value.oneCell']) ?_)
  generalize (W1.alloc (.cells #[.int .i64 0, .int .i64 0, .int .i64 0, .int .i64 0, .int .i64 0, .slice none 0 0, .int .i64 0, .int .i64 0, .slice none 0 0, .slice none 0 0, .int .i64 0, .int .i64 0, .slice none 0 0, .int .i64 0, .int .i64 0, .slice none 0 0, .slice none 0 0, .slice none 0 0, .int .i64 0] 53)).setRow (w.heap.size + 2) #[.int .i64 0, .int .i64 0, .int .i64 0, .int .i64 0, .int .i64 0, .slice none 0 0, .int .i64 0, .int .i64 0, .slice none 0 0, .slice none 0 0, .int .i64 0, .int .i64 0, .slice none 0 0, .int .i64 0, .int .i64 0, .slice none 0 0, .slice none 0 0, .slice none 0 0, .int .i64 0] = V0 at hM0 ⊢
  clear qz qR qS hSc1 hA1 hz1 c0 hblt hpI hs
  generalize hMM : w.heap.size + 2 = M at hM0 ⊢
  generalize hSS : w.heap.size + 1 = S at hM0 ⊢
  clear hMM hSS
  go_wp2_with fail
  refine (num_sc S 1 bs (bs, false) _ V0 hM0.sc hu (by omega) (by omega)).mono ?_
  intro e w1 h1
  obtain ⟨ki, he, ki0, ki1, ki2, kig, hSc, ho1⟩ := h1.out
  subst he
  dsimp only
  clear h1
  have hC1 := hM0.call ho1 hSc
  have dj := cells_at hC1.box 2 _ rfl
  have fj := frozen_at hC1.box 2
  have hM1 := hC1.cell 2 (.int .i64 ki) #[.int .i64 0, .int .i64 0, .int .i64 ki, .int .i64 0, .int .i64 0, .slice none 0 0, .int .i64 0, .int .i64 0, .slice none 0 0, .slice none 0 0, .int .i64 0, .int .i64 0, .slice none 0 0, .int .i64 0, .int .i64 0, .slice none 0 0, .slice none 0 0, .slice none 0 0, .int .i64 0] rfl
  go_upto_region 10 with fail
  generalize w1.setCell ⟨M, 2, none⟩ (.int .i64 ki) = V1 at hM1 ⊢
  clear dj fj hC1 hSc ho1 hM0
  go_wp2_with fail
  refine (num_sc S 1 bs (nx 1 (bs, false)) _ V1 hM1.sc hu (by omega) (by omega)).mono ?_
  intro e w2 h1
  obtain ⟨fr, he, fr0, fr1, fr2, frg, hSc, ho1⟩ := h1.out
  subst he
  dsimp only
  clear h1
  have hC2 := hM1.call ho1 hSc
  have dj := cells_at hC2.box 0 _ rfl
  have fj := frozen_at hC2.box 0
  have hM2 := hC2.cell 0 (.int .i64 fr) #[.int .i64 fr, .int .i64 0, .int .i64 ki, .int .i64 0, .int .i64 0, .slice none 0 0, .int .i64 0, .int .i64 0, .slice none 0 0, .slice none 0 0, .int .i64 0, .int .i64 0, .slice none 0 0, .int .i64 0, .int .i64 0, .slice none 0 0, .slice none 0 0, .slice none 0 0, .int .i64 0] rfl
  go_upto_region 11 with fail
  generalize w2.setCell ⟨M, 0, none⟩ (.int .i64 fr) = V2 at hM2 ⊢
  clear dj fj hC2 hSc ho1 hM1
  go_wp2_with fail
  refine (num_sc S 1 bs (nx 1 (nx 1 (bs, false))) _ V2 hM2.sc hu (by omega) (by omega)).mono ?_
  intro e w3 h1
  obtain ⟨tt, he, tt0, tt1, tt2, ttg, hSc, ho1⟩ := h1.out
  subst he
  dsimp only
  clear h1
  have hC3 := hM2.call ho1 hSc
  have dj := cells_at hC3.box 1 _ rfl
  have fj := frozen_at hC3.box 1
  have hM3 := hC3.cell 1 (.int .i64 tt) #[.int .i64 fr, .int .i64 tt, .int .i64 ki, .int .i64 0, .int .i64 0, .slice none 0 0, .int .i64 0, .int .i64 0, .slice none 0 0, .slice none 0 0, .int .i64 0, .int .i64 0, .slice none 0 0, .int .i64 0, .int .i64 0, .slice none 0 0, .slice none 0 0, .slice none 0 0, .int .i64 0] rfl
  go_upto_region 12 with fail
  generalize w3.setCell ⟨M, 1, none⟩ (.int .i64 tt) = V3 at hM3 ⊢
  clear dj fj hC3 hSc ho1 hM2
  have hki : ki = 4 := (kig HN1.out).trans HK0.out
  subst hki
  have dk := cells_at hM3.box 2 _ rfl
  go_wp2_with fail
  refine (header_sc S bs (nx 1 (nx 1 (nx 1 (bs, false)))) _ V3 hM3.sc hu (by omega) (by omega)).mono ?_
  intro e w4 h1
  obtain ⟨au, rd, ba, bc, bl, pa, pc, pl, he, hvals, hLb, hLp, hFb, hFp, hSc, ho1⟩ := h1.out
  subst he
  dsimp only
  clear h1
  have hC4 := hM3.call ho1 hSc
  have HV : Hid _ := hvals
  clear hvals
  have d0 := cells_at hC4.box 13 _ rfl
  have f0 := frozen_at hC4.box 13
  have d1 := cells_at hC4.box 14 _ rfl
  have f1 := frozen_at hC4.box 14
  have d2 := cells_at hC4.box 15 _ rfl
  have f2 := frozen_at hC4.box 15
  have d3 := cells_at hC4.box 16 _ rfl
  have f3 := frozen_at hC4.box 16
  have hM4 := ((((hC4.cell 13 (.int .i64 au) #[.int .i64 fr, .int .i64 tt, .int .i64 4, .int .i64 0, .int .i64 0, .slice none 0 0, .int .i64 0, .int .i64 0, .slice none 0 0, .slice none 0 0, .int .i64 0, .int .i64 0, .slice none 0 0, .int .i64 au, .int .i64 0, .slice none 0 0, .slice none 0 0, .slice none 0 0, .int .i64 0] rfl).cell 14 (.int .i64 rd) #[.int .i64 fr, .int .i64 tt, .int .i64 4, .int .i64 0, .int .i64 0, .slice none 0 0, .int .i64 0, .int .i64 0, .slice none 0 0, .slice none 0 0, .int .i64 0, .int .i64 0, .slice none 0 0, .int .i64 au, .int .i64 rd, .slice none 0 0, .slice none 0 0, .slice none 0 0, .int .i64 0] rfl).cell 15 (.slice ba bl.length bc) #[.int .i64 fr, .int .i64 tt, .int .i64 4, .int .i64 0, .int .i64 0, .slice none 0 0, .int .i64 0, .int .i64 0, .slice none 0 0, .slice none 0 0, .int .i64 0, .int .i64 0, .slice none 0 0, .int .i64 au, .int .i64 rd, .slice ba bl.length bc, .slice none 0 0, .slice none 0 0, .int .i64 0] rfl).cell 16 (.slice pa pl.length pc) #[.int .i64 fr, .int .i64 tt, .int .i64 4, .int .i64 0, .int .i64 0, .slice none 0 0, .int .i64 0, .int .i64 0, .slice none 0 0, .slice none 0 0, .int .i64 0, .int .i64 0, .slice none 0 0, .int .i64 au, .int .i64 rd, .slice ba bl.length bc, .slice pa pl.length pc, .slice none 0 0, .int .i64 0] rfl)
  have lM : M < V3.heap.size := lt_of_heap hM3.box
  have hKq : ∀ q, M < q → ((((w4.setCell ⟨M, 13, none⟩ (.int .i64 au)).setCell ⟨M, 14, none⟩ (.int .i64 rd)).setCell ⟨M, 15, none⟩ (.slice ba bl.length bc)).setCell ⟨M, 16, none⟩ (.slice pa pl.length pc)).heap[q]? = w4.heap[q]? := fun q hq => by
    have hn : q ≠ M := by omega
    rw [heap_setCell_other _ ⟨M, 16, none⟩ q _ hn, heap_setCell_other _ ⟨M, 15, none⟩ q _ hn, heap_setCell_other _ ⟨M, 14, none⟩ q _ hn, heap_setCell_other _ ⟨M, 13, none⟩ q _ hn]
  have hGb := has_fresh hFb lM
  have hGp := has_fresh hFp lM
  have hLb1 := list_stays (G := fun q => M < q) hKq hLb hGb
  have hLp1 := list_stays (G := fun q => M < q) hKq hLp hGp
  have HGB : Hid _ := hGb
  have HGP : Hid _ := hGp
  clear hKq hLb hLp hFb hFp lM hGb hGp
  go_upto_region 31 with fail
  generalize ((((w4.setCell ⟨M, 13, none⟩ (.int .i64 au)).setCell ⟨M, 14, none⟩ (.int .i64 rd)).setCell ⟨M, 15, none⟩ (.slice ba bl.length bc)).setCell ⟨M, 16, none⟩ (.slice pa pl.length pc)) = V4 at hM4 hLb1 hLp1 ⊢
  clear d0 d1 d2 d3 f0 f1 f2 f3 hC4 hSc ho1 hM3
  obtain ⟨i, hi, hz0, hz1, hz2⟩ := info_parts infoIntR
  go_wp2_with fail
  refine (num_sc S 1 bs (dgS (dgS (nx 3 (nx 1 (nx 1 (nx 1 (nx 1 (bs, false)))))))) _ V4 hM4.sc hu (by omega) (by omega)).mono ?_
  intro e w5 h1
  obtain ⟨n, he, n0, -, n2, ng, hSc, ho1⟩ := h1.out
  subst he
  dsimp only
  clear h1
  obtain ⟨V, rfl⟩ : ∃ V : Nat, n = V := ⟨n.toNat, by omega⟩
  have hV : V ≤ 255 := by have := n2 rfl; omega
  have hM5 := (hM4.call ho1 hSc).st (N' := 20000) (by omega)
  have hLb5 := list_call hLb1 HGB.out ho1 hM5.l2
  have hLp5 := list_call hLp1 HGP.out ho1 hM5.l2
  have GB5 : Hid _ := HGB.out.lt hLb5
  have GP5 : Hid _ := HGP.out.lt hLp5
  have lM5 : M < w5.heap.size := lt_of_heap hM5.box
  have HNV : Hid ((nx 1 (dgS (dgS (nx 3 (nx 1 (nx 1 (nx 1 (nx 1 (bs, false))))))))).2 = false → V = cN (nx 1 (nx 1 (nx 1 (bs, false))))) := by
    show _ → _
    intro h9
    rw [show cN (nx 1 (nx 1 (nx 1 (bs, false)))) = (nB 1 (dgS (dgS (nx 3 (nx 1 (nx 1 (nx 1 (nx 1 (bs, false))))))))).toNat from rfl, ← ng h9]
    rfl
  have HO5 : Hid ((nx 1 (dgS (dgS (nx 3 (nx 1 (nx 1 (nx 1 (nx 1 (bs, false))))))))).2 = false → (dgS (dgS (nx 3 (nx 1 (nx 1 (nx 1 (nx 1 (bs, false)))))))).2 = false) := by
    show _ → _
    exact fun h => nx_over h
  clear n0 n2 ng hSc ho1 hM4 hLb1 hLp1 dk
  generalize nx 1 (dgS (dgS (nx 3 (nx 1 (nx 1 (nx 1 (nx 1 (bs, false)))))))) = s5 at *
  go_wp2_with fail
  go_loopw [11] (fun j wr => ∃ (k : Nat) (v : Value) (vs : List Int), k ≤ V ∧ j = .int .i64 k ∧ MoB wr w w.heap.size S M bs (nL s5 k) 20000 #[.int .i64 fr, .int .i64 tt, .int .i64 4, .int .i64 0, .int .i64 0, .slice none 0 0, .int .i64 0, .int .i64 0, .slice none 0 0, .slice none 0 0, .int .i64 0, .int .i64 0, .slice none 0 0, .int .i64 au, .int .i64 rd, .slice ba bl.length bc, .slice pa pl.length pc, v, .int .i64 0] ∧ w5.heap.size ≤ wr.heap.size ∧ wr.ownsRow w5.heap.size 3 1 v k (iv vs) ∧ Hid ((nL s5 k).2 = false → vs = nV s5 k) ∧ ListAt wr ba bc bl ∧ ListAt wr pa pc pl) (fun j _ => V - (intOf j).toNat)
  case atStart => exact ⟨0, .slice none 0 0, [], Nat.zero_le _, rfl, hM5, Nat.le_refl _, World.ownsRow_nil _ _ _ _, (show _ → _ from fun _ => rfl), hLb5, hLp5⟩
  case round =>
    clear hM5 hLb5 hLp5
    obtain ⟨k, v, vs, hk, rfl, hM, hsz, ho, hq, hLb, hLp⟩ := hrel
    have lS : S < M := hM.l2
    have lM : M < wr.heap.size := lt_of_heap hM.box
    obtain ⟨va, vc, hve⟩ := owns_shape ho
    subst hve
    by_cases hltk : k < V
    · have hltI : (k : Int) < V := by omega
      go_wp2_with fail
      refine (over_sc S bs _ _ wr hM.sc).mono ?_
      rintro e w2 ⟨he, hb2⟩
      subst he
      dsimp only
      have hM2 := hM.belowW hb2
      have ho2 := owns_keep ho hb2
      have hLb2 := hLb.below hb2
      have hLp2 := hLp.below hb2
      clear hM hLb hLp ho
      cases hov : (nL s5 k).2 with
      | true =>
        have HOV : Hid ((mS (bs, false)).2 = true) := by
          show _ = _
          rw [HMS.out]
          cases h9 : s5.2 with
          | false =>
            have h8 := HNV.out h9
            cases h7 : (nL s5 (cN (nx 1 (nx 1 (nx 1 (bs, false)))))).2 with
            | true => rfl
            | false =>
              have h6 := nL_over (i := k) (n := cN (nx 1 (nx 1 (nx 1 (bs, false))))) (by omega) h7
              rw [h6] at hov
              cases hov
          | true =>
            cases h7 : (nL s5 (cN (nx 1 (nx 1 (nx 1 (bs, false)))))).2 with
            | true => rfl
            | false =>
              have h6 := nL_over (i := 0) (n := cN (nx 1 (nx 1 (nx 1 (bs, false))))) (Nat.zero_le _) h7
              have h5 : s5.2 = false := h6
              rw [h9] at h5
              cases h5
        have hX : Hid (MoX w2 w w.heap.size S M bs 20000) := by
          obtain ⟨za, zc, hv, hl, hI, hf⟩ := intsAt_of_owns ho2
          cases hv
          refine ⟨⟨{ fr := fr, tt := tt, ki := 4, bau := 0, bnu := 0, bta := none, btn := 0, btc := 0, hau := 0, hrd := 0, hba := none, hbn := 0, hbc := 0, hpa := none, hpn := 0, hpc := 0, sau := 0, srd := 0, sda := none, sdn := 0, sdc := 0, cau := au, crd := rd, cba := ba, cbn := bl.length, cbc := bc, cpa := pa, cpn := pl.length, cpc := pc, cva := va, cvn := vs.length, cvc := vc, ro := 0 }, [], [], [], bl, pl, [], vs⟩, ?_, ?_, ?_, ?_⟩
          · rw [← hl]; exact hM2.beyond hov HOV.out
          · exact ⟨⟨rfl, rfl, rfl, rfl, rfl, rfl, Nat.zero_le _, (by show vs.length ≤ _; omega), Nat.zero_le _, strs_nil _, list_nilM _, list_nilM _, hLb2, hLp2, hI⟩, nilM _, rfl⟩
          · exact ⟨(fun sb so e => by cases e), has_nil, has_nil, (fun sb so e => by cases e), HGB.out, HGP.out, (fun sb so e _ => by have := hf sb so e; omega)⟩
          · intro h9
            rw [HOV.out] at h9
            cases h9
        clear hM2 hLb2 hLp2 ho2 hov
        go_upto_region 39 with fail
        generalize w2 = VX at hX ⊢
        obtain ⟨x, hM, hA, hH, hC⟩ := hX.out.out
        clear hX
        go_wp2_with fail
        refine (over_sc S bs _ _ VX hM.sc).mono ?_
        rintro e w1 ⟨he, hb1⟩
        subst he
        dsimp only
        have hB := hM.belowW hb1
        have hA1 := hA.below hb1
        have HH : Hid (HasM (fun q => M < q) x) := hH
        have l1 := hB.l1
        have l2 := hB.l2
        have lM : M < w1.heap.size := lt_of_heap hB.box
        clear hM hA hH hb1
        obtain ⟨ba, bc, a, qS, hbS, hneS, haN, h5, h6⟩ := hB.sc.out
        generalize mS (bs, false) = ms at *
        obtain ⟨ml, msh⟩ := ms
        dsimp only at *
        cases msh with
        | true =>
          have hF : Hid (readF bs = 5) := by show _ = _; rw [HRF.out, if_pos rfl]
          clear h5 h6 hC
          go_wp2_with (refine wpList_store_row rfl 53 _ _ rfl w.heap.size #[.int .i64 0, .int .i64 0, .int .i64 0, .int .i64 0, .int .i64 0, .slice none 0 0, .int .i64 0, .int .i64 0, .slice none 0 0, .slice none 0 0, .int .i64 0, .int .i64 0, .slice none 0 0, .int .i64 0, .int .i64 0, .slice none 0 0, .slice none 0 0, .slice none 0 0, .int .i64 0] rfl rfl 53 _ hB.res sMsg' rfl (by simp [Value.oneCell']) ?_)
          have hFc := hF.out
          refine bodyPost_ret (v := .tuple #[.agg #[.int .i64 0, .int .i64 0, .int .i64 0, .int .i64 0, .int .i64 0, .slice none 0 0, .int .i64 0, .int .i64 0, .slice none 0 0, .slice none 0 0, .int .i64 0, .int .i64 0, .slice none 0 0, .int .i64 0, .int .i64 0, .slice none 0 0, .slice none 0 0, .slice none 0 0, .int .i64 0], .int .i64 5]) (results_cell_slot (fn := Try.f22) (p := 2) (q := 3) (ty := 53) rfl _ _ w.heap.size 53 _ (0, 0) _ (.int .i64 5) ⟨rfl, rfl⟩ (setRow_heap _ _ _ _ _ _ hB.res) Try.underlying53 rfl sMsg') rfl ⟨.inl ⟨by rw [hFc]; decide, by rw [hFc]⟩, (Upd.setRow hB.res).below hB.below hB.below.size (Nat.le_refl _)⟩
        | false =>
          obtain ⟨h51, h52⟩ := h5 rfl
          have HCX : Hid (x.c = pM (bs, false)) := hC rfl
          clear h5 h6 hC
          have s1 : w1.cell? ⟨S, 1, none⟩ = some (.int .i64 (a : Int)) := cells_at qS 1 _ rfl
          by_cases hml : a = bs.length
          · have hF : Hid (readF bs = 0) := by
              show _ = _
              rw [HRF.out, if_neg (by decide), if_neg (fun h => h (by rw [h52, hml]; simp))]
            have haI : ¬ (a : Int) < bs.length := by omega
            clear hml h51 h52 HRF
            have hB2 : Below w1.heap.size w1 w1.drew := (Below.refl _ _).drew
            go_upto_region 43 with fail
            have HF9 := messageFault_any x.m x.ss x.bl x.pl x.cbl x.cpl x.vl w1 hA1.at'
            go_wp2_with (refine wpList_load_row rfl 53 _ rfl M rfl 53 #[.int .i64 x.m.fr, .int .i64 x.m.tt, .int .i64 x.m.ki, .int .i64 x.m.bau, .int .i64 x.m.bnu, .slice x.m.bta x.m.btn x.m.btc, .int .i64 x.m.hau, .int .i64 x.m.hrd, .slice x.m.hba x.m.hbn x.m.hbc, .slice x.m.hpa x.m.hpn x.m.hpc, .int .i64 x.m.sau, .int .i64 x.m.srd, .slice x.m.sda x.m.sdn x.m.sdc, .int .i64 x.m.cau, .int .i64 x.m.crd, .slice x.m.cba x.m.cbn x.m.cbc, .slice x.m.cpa x.m.cpn x.m.cpc, .slice x.m.cva x.m.cvn x.m.cvc, .int .i64 x.m.ro] (0, 0) _ hB.box Try.underlying53 rfl sMsg' ?_)
            refine HF9.mono ?_
            rintro e w2 ⟨he, hb2⟩
            subst he
            dsimp only
            clear HF9 s1
            have hD := hB.belowW hb2
            have hA2 : Hid (MAt w2 x) := hA1.below hb2
            have HCR : Hid (carriedF x.m x.ss x.bl x.pl x.cbl x.cpl x.vl = x.car) := rfl
            generalize hCk : checkF x.m (carriedF x.m x.ss x.bl x.pl x.cbl x.cpl x.vl) = C at *
            have HCK : Hid (checkF x.m x.car = C) := hCk
            clear hCk
            by_cases hc0 : C = 0
            · subst hc0
              go_wp2_with (first | refine wpList_load_row rfl 53 _ rfl M rfl 53 #[.int .i64 x.m.fr, .int .i64 x.m.tt, .int .i64 x.m.ki, .int .i64 x.m.bau, .int .i64 x.m.bnu, .slice x.m.bta x.m.btn x.m.btc, .int .i64 x.m.hau, .int .i64 x.m.hrd, .slice x.m.hba x.m.hbn x.m.hbc, .slice x.m.hpa x.m.hpn x.m.hpc, .int .i64 x.m.sau, .int .i64 x.m.srd, .slice x.m.sda x.m.sdn x.m.sdc, .int .i64 x.m.cau, .int .i64 x.m.crd, .slice x.m.cba x.m.cbn x.m.cbc, .slice x.m.cpa x.m.cpn x.m.cpc, .slice x.m.cva x.m.cvn x.m.cvc, .int .i64 x.m.ro] (0, 0) _ hD.box Try.underlying53 rfl sMsg' ?_ | refine wpList_store_row rfl 53 _ _ rfl w.heap.size #[.int .i64 x.m.fr, .int .i64 x.m.tt, .int .i64 x.m.ki, .int .i64 x.m.bau, .int .i64 x.m.bnu, .slice x.m.bta x.m.btn x.m.btc, .int .i64 x.m.hau, .int .i64 x.m.hrd, .slice x.m.hba x.m.hbn x.m.hbc, .slice x.m.hpa x.m.hpn x.m.hpc, .int .i64 x.m.sau, .int .i64 x.m.srd, .slice x.m.sda x.m.sdn x.m.sdc, .int .i64 x.m.cau, .int .i64 x.m.crd, .slice x.m.cba x.m.cbn x.m.cbc, .slice x.m.cpa x.m.cpn x.m.cpc, .slice x.m.cva x.m.cvn x.m.cvc, .int .i64 x.m.ro] rfl rfl 53 _ hD.res sMsg' rfl (by simp [Value.oneCell']) ?_)
              refine bodyPost_ret (v := .tuple #[.agg #[.int .i64 x.m.fr, .int .i64 x.m.tt, .int .i64 x.m.ki, .int .i64 x.m.bau, .int .i64 x.m.bnu, .slice x.m.bta x.m.btn x.m.btc, .int .i64 x.m.hau, .int .i64 x.m.hrd, .slice x.m.hba x.m.hbn x.m.hbc, .slice x.m.hpa x.m.hpn x.m.hpc, .int .i64 x.m.sau, .int .i64 x.m.srd, .slice x.m.sda x.m.sdn x.m.sdc, .int .i64 x.m.cau, .int .i64 x.m.crd, .slice x.m.cba x.m.cbn x.m.cbc, .slice x.m.cpa x.m.cpn x.m.cpc, .slice x.m.cva x.m.cvn x.m.cvc, .int .i64 x.m.ro], .int .i64 0]) (results_cell_slot (fn := Try.f22) (p := 2) (q := 3) (ty := 53) rfl _ _ w.heap.size 53 _ (0, 0) _ (.int .i64 0) ⟨rfl, rfl⟩ (setRow_heap _ _ _ _ _ _ hD.res) Try.underlying53 rfl sMsg') rfl ⟨.inr ⟨hF.out, x, HCX.out, ?_, HH.out.mono (fun q hq => by omega), .inl ⟨HCK.out, rfl⟩⟩, (Upd.setRow hD.res).below hD.below hD.below.size (Nat.le_refl _)⟩
              exact hA2.out.setRow (B := M + 1) (HH.out.mono (fun q hq => by omega)) (by omega)
            · have hcn : (C != 0) = true := by simpa using hc0
              have HC0 : Hid (C ≠ 0) := hc0
              go_wp2_with (refine wpList_store_row rfl 53 _ _ rfl w.heap.size #[.int .i64 0, .int .i64 0, .int .i64 0, .int .i64 0, .int .i64 0, .slice none 0 0, .int .i64 0, .int .i64 0, .slice none 0 0, .slice none 0 0, .int .i64 0, .int .i64 0, .slice none 0 0, .int .i64 0, .int .i64 0, .slice none 0 0, .slice none 0 0, .slice none 0 0, .int .i64 0] rfl rfl 53 _ hD.res sMsg' rfl (by simp [Value.oneCell']) ?_)
              refine bodyPost_ret (v := .tuple #[.agg #[.int .i64 0, .int .i64 0, .int .i64 0, .int .i64 0, .int .i64 0, .slice none 0 0, .int .i64 0, .int .i64 0, .slice none 0 0, .slice none 0 0, .int .i64 0, .int .i64 0, .slice none 0 0, .int .i64 0, .int .i64 0, .slice none 0 0, .slice none 0 0, .slice none 0 0, .int .i64 0], .int .i64 C]) (results_cell_slot (fn := Try.f22) (p := 2) (q := 3) (ty := 53) rfl _ _ w.heap.size 53 _ (0, 0) _ (.int .i64 C) ⟨rfl, rfl⟩ (setRow_heap _ _ _ _ _ _ hD.res) Try.underlying53 rfl sMsg') rfl ⟨.inr ⟨hF.out, x, HCX.out, ?_, HH.out.mono (fun q hq => by omega), .inr ⟨by rw [HCK.out]; exact HC0.out, by rw [HCK.out]⟩⟩, (Upd.setRow hD.res).below hD.below hD.below.size (Nat.le_refl _)⟩
              exact hA2.out.setRow (B := M + 1) (HH.out.mono (fun q hq => by omega)) (by omega)
          · have hF : Hid (readF bs = 4) := by
              show _ = _
              rw [HRF.out, if_neg (by decide), if_pos (fun h => hml (by rw [h52, List.drop_eq_nil_iff] at h; omega))]
            have haI : (a : Int) < bs.length := by omega
            clear hml h51 h52 HRF
            go_wp2_with (refine wpList_store_row rfl 53 _ _ rfl w.heap.size #[.int .i64 0, .int .i64 0, .int .i64 0, .int .i64 0, .int .i64 0, .slice none 0 0, .int .i64 0, .int .i64 0, .slice none 0 0, .slice none 0 0, .int .i64 0, .int .i64 0, .slice none 0 0, .int .i64 0, .int .i64 0, .slice none 0 0, .slice none 0 0, .slice none 0 0, .int .i64 0] rfl rfl 53 _ hB.res sMsg' rfl (by simp [Value.oneCell']) ?_)
            have hFc := hF.out
            refine bodyPost_ret (v := .tuple #[.agg #[.int .i64 0, .int .i64 0, .int .i64 0, .int .i64 0, .int .i64 0, .slice none 0 0, .int .i64 0, .int .i64 0, .slice none 0 0, .slice none 0 0, .int .i64 0, .int .i64 0, .slice none 0 0, .int .i64 0, .int .i64 0, .slice none 0 0, .slice none 0 0, .slice none 0 0, .int .i64 0], .int .i64 4]) (results_cell_slot (fn := Try.f22) (p := 2) (q := 3) (ty := 53) rfl _ _ w.heap.size 53 _ (0, 0) _ (.int .i64 4) ⟨rfl, rfl⟩ (setRow_heap _ _ _ _ _ _ hB.res) Try.underlying53 rfl sMsg') rfl ⟨.inl ⟨by rw [hFc]; decide, by rw [hFc]⟩, (Upd.setRow hB.res).below hB.below hB.below.size (Nat.le_refl _)⟩
      | false =>
        have HOV : Hid ((nL s5 k).2 = false) := hov
        have hst : Hid (nV s5 (k + 1) = nV s5 k ++ [nB 1 (nL s5 k)] ∧ nL s5 (k + 1) = nx 1 (nL s5 k)) := ⟨rfl, rfl⟩
        have hW2 := hM2.within hov
        clear hov hM2
        go_wp2_with fail
        refine (num_sc S 1 bs _ _ w2 hW2.sc hu (by omega) (by omega)).mono ?_
        intro e w3 h3
        obtain ⟨y, he, y0, y1, -, yg, hSc, ho3⟩ := h3.out
        subst he
        dsimp only
        clear h3
        have YG : Hid _ := yg
        have hM3 := (hW2.call ho3 hSc).st (N' := 20000) (by omega)
        have hob := owns_only ho2 ho3 (by omega)
        have hs2 := hb2.size
        have hs3 := ho3.size
        have hLb3 := list_keep5 hLb2 GB5.out (fun q h1 h2 => ho3.block q (by omega) (by omega))
        have hLp3 := list_keep5 hLp2 GP5.out (fun q h1 h2 => ho3.block q (by omega) (by omega))
        have hw3 : w5.heap.size ≤ w3.heap.size := by omega
        have v5 := hM3.box
        have d4 := cells_at v5 17 _ rfl
        have d4d : w3.drew.cell? ⟨M, 17, none⟩ = some (.slice va k vc) := d4
        have d4a : (w3.alloc (.cells #[.int .i64 y] 3)).cell? ⟨M, 17, none⟩ = some (.slice va k vc) := cells_at (heap_keep v5) 17 _ rfl
        have hvC : (Value.slice va k vc).ownBlock ≠ some M := fun e => by have := (hob.lt _ e).1; omega
        have hvlt : ∀ q, (Value.slice va k vc).ownBlock = some q → w5.heap.size ≤ q := fun q e => (hob.lt _ e).1
        clear hW2 hSc ho3 hLb2 hLp2 ho2 yg
        go_wp2_with (at_builtin; refine wpList_append_own_at _ rfl _ _ 49 rfl w5.heap.size 3 i (.int .i64 0) 1 8 Try.underlying49 hi hz0 hz1 hz2 rfl (by decide) _ k (iv vs) rfl (World.ownsRow.alloc hob _) ⟨w3.heap.size, 0, none⟩ 1 1 [.int .i64 y] rfl rfl (cells_new _ _ _) (by intro u hu; simp at hu; subst hu; rfl) (by unfold maxLen; omega) (by omega) (le_alloc hw3 _) ?_; intro v6 w6 ho6 hg6 _ hat6; have G6 := Grew.of hg6 hat6; have x5 := G6.row (heap_keep v5) hvC; have xd4 := cells_at x5 17 _ rfl; have xf4 := frozen_at x5 17; obtain ⟨fa, fc, hvf⟩ := owns_shape ho6; subst hvf)
        all_goals
          have hM6 : MoB w6 w w.heap.size S M bs (nx 1 (nL s5 k)) 20000 #[.int .i64 fr, .int .i64 tt, .int .i64 4, .int .i64 0, .int .i64 0, .slice none 0 0, .int .i64 0, .int .i64 0, .slice none 0 0, .slice none 0 0, .int .i64 0, .int .i64 0, .slice none 0 0, .int .i64 au, .int .i64 rd, .slice ba bl.length bc, .slice pa pl.length pc, .slice va k vc, .int .i64 0] := (hM3.belowW ((Below.refl _ _).alloc (Nat.le_refl _) _)).grown G6.grown (fun q e => by have := hvlt q e; omega)
          have hb3 : Below w3.heap.size w3 (w3.alloc (.cells #[.int .i64 y] 3)) := (Below.refl _ _).alloc (Nat.le_refl _) _
          have hk6 : ∀ q, M < q → q < w5.heap.size → (w6.setCell ⟨M, 17, none⟩ (.slice fa (k + 1) fc)).heap[q]? = w3.heap[q]? := fun q h1 h2 =>
            (heap_setCell_other _ ⟨M, 17, none⟩ q _ (by show q ≠ M; omega)).trans ((G6.grown.block q (by have := hb3.size; show q < (w3.alloc _).heap.size; omega) (fun e => by have := hvlt q e.symm; omega)).trans (hb3.block q (by omega)))
          have hLb6 := list_keep5 hLb3 GB5.out hk6
          have hLp6 := list_keep5 hLp3 GP5.out hk6
          have hs6 : w5.heap.size ≤ w6.heap.size := by have := hb3.size; have : (w3.alloc (.cells #[.int .i64 y] 3)).heap.size ≤ w6.heap.size := G6.grown.size; omega
          (try go_wp2_with fail)
          go_roundw
          case rel =>
            refine ⟨k + 1, .slice fa (k + 1) fc, vs ++ [y], by omega, by go_num, ?_, by simpa using hs6, ?_, ?_, hLb6, hLp6⟩
            · rw [hst.out.2]
              exact hM6.cell 17 (.slice fa (k + 1) fc) #[.int .i64 fr, .int .i64 tt, .int .i64 4, .int .i64 0, .int .i64 0, .slice none 0 0, .int .i64 0, .int .i64 0, .slice none 0 0, .slice none 0 0, .int .i64 0, .int .i64 0, .slice none 0 0, .int .i64 au, .int .i64 rd, .slice ba bl.length bc, .slice pa pl.length pc, .slice fa (k + 1) fc, .int .i64 0] rfl
            · have h := owns_far ho6 M 17 (.slice fa (k + 1) fc) lM5
              simpa [iv] using h
            · show _ → _
              intro h9
              rw [hst.out.2] at h9
              rw [hst.out.1, hq.out HOV.out, ← YG.out h9]
          case measure => simp [intOf]; omega
    · obtain rfl : k = V := by omega
      have hltI : ¬ (k : Int) < k := by omega
      have hX : Hid (MoX wr w w.heap.size S M bs 20000) := by
        obtain ⟨za, zc, hv, hl, hI, hf⟩ := intsAt_of_owns ho
        cases hv
        refine ⟨⟨{ fr := fr, tt := tt, ki := 4, bau := 0, bnu := 0, bta := none, btn := 0, btc := 0, hau := 0, hrd := 0, hba := none, hbn := 0, hbc := 0, hpa := none, hpn := 0, hpc := 0, sau := 0, srd := 0, sda := none, sdn := 0, sdc := 0, cau := au, crd := rd, cba := ba, cbn := bl.length, cbc := bc, cpa := pa, cpn := pl.length, cpc := pc, cva := va, cvn := vs.length, cvc := vc, ro := 0 }, [], [], [], bl, pl, [], vs⟩, ?_, ?_, ?_, ?_⟩
        · rw [← hl, HMS.out]
          cases h9 : s5.2 with
          | false => rw [← HNV.out h9]; exact hM
          | true =>
            have h7 : ∀ n, (nL s5 n).2 = true := fun n => by
              cases h6 : (nL s5 n).2 with
              | true => rfl
              | false =>
                have h5 : s5.2 = false := nL_over (i := 0) (n := n) (Nat.zero_le _) h6
                rw [h9] at h5
                cases h5
            exact hM.beyond (h7 _) (h7 _)
        · exact ⟨⟨rfl, rfl, rfl, rfl, rfl, rfl, Nat.zero_le _, (by show vs.length ≤ _; omega), Nat.zero_le _, strs_nil _, list_nilM _, list_nilM _, hLb, hLp, hI⟩, nilM _, rfl⟩
        · exact ⟨(fun sb so e => by cases e), has_nil, has_nil, (fun sb so e => by cases e), HGB.out, HGP.out, (fun sb so e _ => by have := hf sb so e; omega)⟩
        · intro h9
          rw [HMS.out] at h9
          have h8 : s5.2 = false := nL_over (i := 0) (Nat.zero_le _) h9
          have h7 := HO5.out h8
          obtain ⟨a1, a2, a3, a4⟩ := HV.out h7
          have h6 := nx_over (nx_over (dgS_over (dgS_over h7)))
          have h5 := nx_over h6
          have hcv : vs = nV s5 (cN (nx 1 (nx 1 (nx 1 (bs, false))))) := by rw [← HNV.out h8]; exact hq.out (by rw [HNV.out h8]; exact h9)
          rw [HPM.out, HK0.out, ← a1, ← a2, ← a3, ← a4, ← hcv, ← ttg h6, ← frg h5]
          rfl
      clear hM hLb hLp ho
      go_upto_region 39 with fail
      generalize wr = VX at hX ⊢
      obtain ⟨x, hM, hA, hH, hC⟩ := hX.out.out
      clear hX
      go_wp2_with fail
      refine (over_sc S bs _ _ VX hM.sc).mono ?_
      rintro e w1 ⟨he, hb1⟩
      subst he
      dsimp only
      have hB := hM.belowW hb1
      have hA1 := hA.below hb1
      have HH : Hid (HasM (fun q => M < q) x) := hH
      have l1 := hB.l1
      have l2 := hB.l2
      have lM : M < w1.heap.size := lt_of_heap hB.box
      clear hM hA hH hb1
      obtain ⟨ba, bc, a, qS, hbS, hneS, haN, h5, h6⟩ := hB.sc.out
      generalize mS (bs, false) = ms at *
      obtain ⟨ml, msh⟩ := ms
      dsimp only at *
      cases msh with
      | true =>
        have hF : Hid (readF bs = 5) := by show _ = _; rw [HRF.out, if_pos rfl]
        clear h5 h6 hC
        go_wp2_with (refine wpList_store_row rfl 53 _ _ rfl w.heap.size #[.int .i64 0, .int .i64 0, .int .i64 0, .int .i64 0, .int .i64 0, .slice none 0 0, .int .i64 0, .int .i64 0, .slice none 0 0, .slice none 0 0, .int .i64 0, .int .i64 0, .slice none 0 0, .int .i64 0, .int .i64 0, .slice none 0 0, .slice none 0 0, .slice none 0 0, .int .i64 0] rfl rfl 53 _ hB.res sMsg' rfl (by simp [Value.oneCell']) ?_)
        have hFc := hF.out
        refine bodyPost_ret (v := .tuple #[.agg #[.int .i64 0, .int .i64 0, .int .i64 0, .int .i64 0, .int .i64 0, .slice none 0 0, .int .i64 0, .int .i64 0, .slice none 0 0, .slice none 0 0, .int .i64 0, .int .i64 0, .slice none 0 0, .int .i64 0, .int .i64 0, .slice none 0 0, .slice none 0 0, .slice none 0 0, .int .i64 0], .int .i64 5]) (results_cell_slot (fn := Try.f22) (p := 2) (q := 3) (ty := 53) rfl _ _ w.heap.size 53 _ (0, 0) _ (.int .i64 5) ⟨rfl, rfl⟩ (setRow_heap _ _ _ _ _ _ hB.res) Try.underlying53 rfl sMsg') rfl ⟨.inl ⟨by rw [hFc]; decide, by rw [hFc]⟩, (Upd.setRow hB.res).below hB.below hB.below.size (Nat.le_refl _)⟩
      | false =>
        obtain ⟨h51, h52⟩ := h5 rfl
        have HCX : Hid (x.c = pM (bs, false)) := hC rfl
        clear h5 h6 hC
        have s1 : w1.cell? ⟨S, 1, none⟩ = some (.int .i64 (a : Int)) := cells_at qS 1 _ rfl
        by_cases hml : a = bs.length
        · have hF : Hid (readF bs = 0) := by
            show _ = _
            rw [HRF.out, if_neg (by decide), if_neg (fun h => h (by rw [h52, hml]; simp))]
          have haI : ¬ (a : Int) < bs.length := by omega
          clear hml h51 h52 HRF
          have hB2 : Below w1.heap.size w1 w1.drew := (Below.refl _ _).drew
          go_upto_region 43 with fail
          have HF9 := messageFault_any x.m x.ss x.bl x.pl x.cbl x.cpl x.vl w1 hA1.at'
          go_wp2_with (refine wpList_load_row rfl 53 _ rfl M rfl 53 #[.int .i64 x.m.fr, .int .i64 x.m.tt, .int .i64 x.m.ki, .int .i64 x.m.bau, .int .i64 x.m.bnu, .slice x.m.bta x.m.btn x.m.btc, .int .i64 x.m.hau, .int .i64 x.m.hrd, .slice x.m.hba x.m.hbn x.m.hbc, .slice x.m.hpa x.m.hpn x.m.hpc, .int .i64 x.m.sau, .int .i64 x.m.srd, .slice x.m.sda x.m.sdn x.m.sdc, .int .i64 x.m.cau, .int .i64 x.m.crd, .slice x.m.cba x.m.cbn x.m.cbc, .slice x.m.cpa x.m.cpn x.m.cpc, .slice x.m.cva x.m.cvn x.m.cvc, .int .i64 x.m.ro] (0, 0) _ hB.box Try.underlying53 rfl sMsg' ?_)
          refine HF9.mono ?_
          rintro e w2 ⟨he, hb2⟩
          subst he
          dsimp only
          clear HF9 s1
          have hD := hB.belowW hb2
          have hA2 : Hid (MAt w2 x) := hA1.below hb2
          have HCR : Hid (carriedF x.m x.ss x.bl x.pl x.cbl x.cpl x.vl = x.car) := rfl
          generalize hCk : checkF x.m (carriedF x.m x.ss x.bl x.pl x.cbl x.cpl x.vl) = C at *
          have HCK : Hid (checkF x.m x.car = C) := hCk
          clear hCk
          by_cases hc0 : C = 0
          · subst hc0
            go_wp2_with (first | refine wpList_load_row rfl 53 _ rfl M rfl 53 #[.int .i64 x.m.fr, .int .i64 x.m.tt, .int .i64 x.m.ki, .int .i64 x.m.bau, .int .i64 x.m.bnu, .slice x.m.bta x.m.btn x.m.btc, .int .i64 x.m.hau, .int .i64 x.m.hrd, .slice x.m.hba x.m.hbn x.m.hbc, .slice x.m.hpa x.m.hpn x.m.hpc, .int .i64 x.m.sau, .int .i64 x.m.srd, .slice x.m.sda x.m.sdn x.m.sdc, .int .i64 x.m.cau, .int .i64 x.m.crd, .slice x.m.cba x.m.cbn x.m.cbc, .slice x.m.cpa x.m.cpn x.m.cpc, .slice x.m.cva x.m.cvn x.m.cvc, .int .i64 x.m.ro] (0, 0) _ hD.box Try.underlying53 rfl sMsg' ?_ | refine wpList_store_row rfl 53 _ _ rfl w.heap.size #[.int .i64 x.m.fr, .int .i64 x.m.tt, .int .i64 x.m.ki, .int .i64 x.m.bau, .int .i64 x.m.bnu, .slice x.m.bta x.m.btn x.m.btc, .int .i64 x.m.hau, .int .i64 x.m.hrd, .slice x.m.hba x.m.hbn x.m.hbc, .slice x.m.hpa x.m.hpn x.m.hpc, .int .i64 x.m.sau, .int .i64 x.m.srd, .slice x.m.sda x.m.sdn x.m.sdc, .int .i64 x.m.cau, .int .i64 x.m.crd, .slice x.m.cba x.m.cbn x.m.cbc, .slice x.m.cpa x.m.cpn x.m.cpc, .slice x.m.cva x.m.cvn x.m.cvc, .int .i64 x.m.ro] rfl rfl 53 _ hD.res sMsg' rfl (by simp [Value.oneCell']) ?_)
            refine bodyPost_ret (v := .tuple #[.agg #[.int .i64 x.m.fr, .int .i64 x.m.tt, .int .i64 x.m.ki, .int .i64 x.m.bau, .int .i64 x.m.bnu, .slice x.m.bta x.m.btn x.m.btc, .int .i64 x.m.hau, .int .i64 x.m.hrd, .slice x.m.hba x.m.hbn x.m.hbc, .slice x.m.hpa x.m.hpn x.m.hpc, .int .i64 x.m.sau, .int .i64 x.m.srd, .slice x.m.sda x.m.sdn x.m.sdc, .int .i64 x.m.cau, .int .i64 x.m.crd, .slice x.m.cba x.m.cbn x.m.cbc, .slice x.m.cpa x.m.cpn x.m.cpc, .slice x.m.cva x.m.cvn x.m.cvc, .int .i64 x.m.ro], .int .i64 0]) (results_cell_slot (fn := Try.f22) (p := 2) (q := 3) (ty := 53) rfl _ _ w.heap.size 53 _ (0, 0) _ (.int .i64 0) ⟨rfl, rfl⟩ (setRow_heap _ _ _ _ _ _ hD.res) Try.underlying53 rfl sMsg') rfl ⟨.inr ⟨hF.out, x, HCX.out, ?_, HH.out.mono (fun q hq => by omega), .inl ⟨HCK.out, rfl⟩⟩, (Upd.setRow hD.res).below hD.below hD.below.size (Nat.le_refl _)⟩
            exact hA2.out.setRow (B := M + 1) (HH.out.mono (fun q hq => by omega)) (by omega)
          · have hcn : (C != 0) = true := by simpa using hc0
            have HC0 : Hid (C ≠ 0) := hc0
            go_wp2_with (refine wpList_store_row rfl 53 _ _ rfl w.heap.size #[.int .i64 0, .int .i64 0, .int .i64 0, .int .i64 0, .int .i64 0, .slice none 0 0, .int .i64 0, .int .i64 0, .slice none 0 0, .slice none 0 0, .int .i64 0, .int .i64 0, .slice none 0 0, .int .i64 0, .int .i64 0, .slice none 0 0, .slice none 0 0, .slice none 0 0, .int .i64 0] rfl rfl 53 _ hD.res sMsg' rfl (by simp [Value.oneCell']) ?_)
            refine bodyPost_ret (v := .tuple #[.agg #[.int .i64 0, .int .i64 0, .int .i64 0, .int .i64 0, .int .i64 0, .slice none 0 0, .int .i64 0, .int .i64 0, .slice none 0 0, .slice none 0 0, .int .i64 0, .int .i64 0, .slice none 0 0, .int .i64 0, .int .i64 0, .slice none 0 0, .slice none 0 0, .slice none 0 0, .int .i64 0], .int .i64 C]) (results_cell_slot (fn := Try.f22) (p := 2) (q := 3) (ty := 53) rfl _ _ w.heap.size 53 _ (0, 0) _ (.int .i64 C) ⟨rfl, rfl⟩ (setRow_heap _ _ _ _ _ _ hD.res) Try.underlying53 rfl sMsg') rfl ⟨.inr ⟨hF.out, x, HCX.out, ?_, HH.out.mono (fun q hq => by omega), .inr ⟨by rw [HCK.out]; exact HC0.out, by rw [HCK.out]⟩⟩, (Upd.setRow hD.res).below hD.below hD.below.size (Nat.le_refl _)⟩
            exact hA2.out.setRow (B := M + 1) (HH.out.mono (fun q hq => by omega)) (by omega)
        · have hF : Hid (readF bs = 4) := by
            show _ = _
            rw [HRF.out, if_neg (by decide), if_pos (fun h => hml (by rw [h52, List.drop_eq_nil_iff] at h; omega))]
          have haI : (a : Int) < bs.length := by omega
          clear hml h51 h52 HRF
          go_wp2_with (refine wpList_store_row rfl 53 _ _ rfl w.heap.size #[.int .i64 0, .int .i64 0, .int .i64 0, .int .i64 0, .int .i64 0, .slice none 0 0, .int .i64 0, .int .i64 0, .slice none 0 0, .slice none 0 0, .int .i64 0, .int .i64 0, .slice none 0 0, .int .i64 0, .int .i64 0, .slice none 0 0, .slice none 0 0, .slice none 0 0, .int .i64 0] rfl rfl 53 _ hB.res sMsg' rfl (by simp [Value.oneCell']) ?_)
          have hFc := hF.out
          refine bodyPost_ret (v := .tuple #[.agg #[.int .i64 0, .int .i64 0, .int .i64 0, .int .i64 0, .int .i64 0, .slice none 0 0, .int .i64 0, .int .i64 0, .slice none 0 0, .slice none 0 0, .int .i64 0, .int .i64 0, .slice none 0 0, .int .i64 0, .int .i64 0, .slice none 0 0, .slice none 0 0, .slice none 0 0, .int .i64 0], .int .i64 4]) (results_cell_slot (fn := Try.f22) (p := 2) (q := 3) (ty := 53) rfl _ _ w.heap.size 53 _ (0, 0) _ (.int .i64 4) ⟨rfl, rfl⟩ (setRow_heap _ _ _ _ _ _ hB.res) Try.underlying53 rfl sMsg') rfl ⟨.inl ⟨by rw [hFc]; decide, by rw [hFc]⟩, (Upd.setRow hB.res).below hB.below hB.below.size (Nat.le_refl _)⟩
end Go.Proofs.Ytldlknmpkoebbaa

namespace Go.Proofs.Ytldlknmpkoebbaa
open Go.RowKit

set_option maxRecDepth 100000 in
set_option maxHeartbeats 8000000 in
theorem mof_5 (bs : List Int) (sb so cap : Nat) (w : World) (hs : SliceAt w (some ⟨sb, so, none⟩) cap bs) (hu : U8s bs) (hl : bs.length ≤ 4000) (hpos : 0 < bs.length) (hk : bs.getD 0 0 = 5) :
    Calls Try.prog 22 #[.slice (some ⟨sb, so, none⟩) bs.length cap] w fun e w' => DecIs w w' e bs := by
  have hne : bs ≠ [] := by intro h; rw [h] at hpos; simp at hpos
  have hK0 : nB 1 (bs, false) = 5 := by rw [nB1_first hne, hk]
  have HRF : Hid (readF bs = if (mS (bs, false)).2 = true then 5 else if (mS (bs, false)).1 ≠ [] then 4 else 0) := by
    show _ = _
    rw [readF, if_neg (by omega), if_neg hne, hk, if_neg (by decide)]
  have HMS : Hid (mS (bs, false) = nx 3 (nx 1 (nx 1 (nx 1 (bs, false))))) := by
    show _ = _
    rw [mS, hK0]; rfl
  have HPM : Hid (pM (bs, false) = ⟨nB 1 (nx 1 (bs, false)), nB 1 (nx 1 (nx 1 (bs, false))), nB 1 (bs, false), 0, 0, [], 0, 0, [], [], 0, 0, [], 0, 0, [], [], [], nB 3 (nx 1 (nx 1 (nx 1 (bs, false))))⟩) := by
    show _ = _
    rw [pM, hK0]; rfl
  have HN1 : Hid ((nx 1 (bs, false)).2 = false) := (tk_ok (n := 1) (l := bs) (by omega)).2.2
  have HK0 : Hid (nB 1 (bs, false) = 5) := hK0
  have c0 : w.cell? ⟨sb, so, none⟩ = some (.int .u8 5) := by
    rcases hs.bytes with h | ⟨sb', so', e, h⟩
    · rw [h] at hpos; simp at hpos
    · cases e
      have := h 0 hpos
      rw [hk] at this
      simpa using this
  have hlI : ¬ (4000 : Int) < bs.length := by omega
  have hpI : ((bs.length : Int) == 0) = false := by rw [beq_eq_false_iff_ne]; omega
  have hpJ : (0 : Int) < bs.length := by omega
  have hblt : sb < w.heap.size := block_lt_of_cell c0
  clear hk hK0 hne
  go_enter Try.func22, Try.ntmps22
  go_upto_region 8 with (first
    | (go_at_call 32; refine (in_true _ _ _ _ (by decide)).mono ?_; rintro e w9 ⟨rfl, rfl⟩))
  have hA1 : Below w.heap.size w ((w.alloc (.cells #[.int .i64 0, .int .i64 0, .int .i64 0, .int .i64 0, .int .i64 0, .slice none 0 0, .int .i64 0, .int .i64 0, .slice none 0 0, .slice none 0 0, .int .i64 0, .int .i64 0, .slice none 0 0, .int .i64 0, .int .i64 0, .slice none 0 0, .slice none 0 0, .slice none 0 0, .int .i64 0] 53)).alloc (.cells #[.slice (some ⟨sb, so, none⟩) bs.length cap, .int .i64 0] 74)) := ((Below.refl _ _).alloc (Nat.le_refl _) _).alloc (by simp) _
  have qR := heap_alloc2_old w (.cells #[.int .i64 0, .int .i64 0, .int .i64 0, .int .i64 0, .int .i64 0, .slice none 0 0, .int .i64 0, .int .i64 0, .slice none 0 0, .slice none 0 0, .int .i64 0, .int .i64 0, .slice none 0 0, .int .i64 0, .int .i64 0, .slice none 0 0, .slice none 0 0, .slice none 0 0, .int .i64 0] 53) (.cells #[.slice (some ⟨sb, so, none⟩) bs.length cap, .int .i64 0] 74)
  have qS := heap_alloc2_new w (.cells #[.int .i64 0, .int .i64 0, .int .i64 0, .int .i64 0, .int .i64 0, .slice none 0 0, .int .i64 0, .int .i64 0, .slice none 0 0, .slice none 0 0, .int .i64 0, .int .i64 0, .slice none 0 0, .int .i64 0, .int .i64 0, .slice none 0 0, .slice none 0 0, .slice none 0 0, .int .i64 0] 53) (.cells #[.slice (some ⟨sb, so, none⟩) bs.length cap, .int .i64 0] 74)
  have hz1 : ((w.alloc (.cells #[.int .i64 0, .int .i64 0, .int .i64 0, .int .i64 0, .int .i64 0, .slice none 0 0, .int .i64 0, .int .i64 0, .slice none 0 0, .slice none 0 0, .int .i64 0, .int .i64 0, .slice none 0 0, .int .i64 0, .int .i64 0, .slice none 0 0, .slice none 0 0, .slice none 0 0, .int .i64 0] 53)).alloc (.cells #[.slice (some ⟨sb, so, none⟩) bs.length cap, .int .i64 0] 74)).heap.size = w.heap.size + 2 := by simp
  generalize (w.alloc (.cells #[.int .i64 0, .int .i64 0, .int .i64 0, .int .i64 0, .int .i64 0, .slice none 0 0, .int .i64 0, .int .i64 0, .slice none 0 0, .slice none 0 0, .int .i64 0, .int .i64 0, .slice none 0 0, .int .i64 0, .int .i64 0, .slice none 0 0, .slice none 0 0, .slice none 0 0, .int .i64 0] 53)).alloc (.cells #[.slice (some ⟨sb, so, none⟩) bs.length cap, .int .i64 0] 74) = W1 at hA1 qR qS hz1 ⊢
  have hSc1 : ScAt W1 (w.heap.size + 1) bs (bs, false) 0 := ⟨_, _, 0, qS, hs.below hA1, (fun sb' so' e => by cases e; omega), Nat.le_refl _, (fun _ => ⟨Nat.zero_le _, rfl⟩), (fun h => by cases h)⟩
  have qz : (W1.alloc (.cells #[.int .i64 0, .int .i64 0, .int .i64 0, .int .i64 0, .int .i64 0, .slice none 0 0, .int .i64 0, .int .i64 0, .slice none 0 0, .slice none 0 0, .int .i64 0, .int .i64 0, .slice none 0 0, .int .i64 0, .int .i64 0, .slice none 0 0, .slice none 0 0, .slice none 0 0, .int .i64 0] 53)).heap[w.heap.size + 2]? = some (.cells #[.int .i64 0, .int .i64 0, .int .i64 0, .int .i64 0, .int .i64 0, .slice none 0 0, .int .i64 0, .int .i64 0, .slice none 0 0, .slice none 0 0, .int .i64 0, .int .i64 0, .slice none 0 0, .int .i64 0, .int .i64 0, .slice none 0 0, .slice none 0 0, .slice none 0 0, .int .i64 0] 53 (0, 0)) := by rw [← hz1]; exact heap_alloc_new W1 (.cells #[.int .i64 0, .int .i64 0, .int .i64 0, .int .i64 0, .int .i64 0, .slice none 0 0, .int .i64 0, .int .i64 0, .slice none 0 0, .slice none 0 0, .int .i64 0, .int .i64 0, .slice none 0 0, .int .i64 0, .int .i64 0, .slice none 0 0, .slice none 0 0, .slice none 0 0, .int .i64 0] 53)
  have hM0 : MoB ((W1.alloc (.cells #[.int .i64 0, .int .i64 0, .int .i64 0, .int .i64 0, .int .i64 0, .slice none 0 0, .int .i64 0, .int .i64 0, .slice none 0 0, .slice none 0 0, .int .i64 0, .int .i64 0, .slice none 0 0, .int .i64 0, .int .i64 0, .slice none 0 0, .slice none 0 0, .slice none 0 0, .int .i64 0] 53)).setRow (w.heap.size + 2) #[.int .i64 0, .int .i64 0, .int .i64 0, .int .i64 0, .int .i64 0, .slice none 0 0, .int .i64 0, .int .i64 0, .slice none 0 0, .slice none 0 0, .int .i64 0, .int .i64 0, .slice none 0 0, .int .i64 0, .int .i64 0, .slice none 0 0, .slice none 0 0, .slice none 0 0, .int .i64 0]) w w.heap.size (w.heap.size + 1) (w.heap.size + 2) bs (bs, false) 0 #[.int .i64 0, .int .i64 0, .int .i64 0, .int .i64 0, .int .i64 0, .slice none 0 0, .int .i64 0, .int .i64 0, .slice none 0 0, .slice none 0 0, .int .i64 0, .int .i64 0, .slice none 0 0, .int .i64 0, .int .i64 0, .slice none 0 0, .slice none 0 0, .slice none 0 0, .int .i64 0] := by
    have hb : Below W1.heap.size W1 ((W1.alloc (.cells #[.int .i64 0, .int .i64 0, .int .i64 0, .int .i64 0, .int .i64 0, .slice none 0 0, .int .i64 0, .int .i64 0, .slice none 0 0, .slice none 0 0, .int .i64 0, .int .i64 0, .slice none 0 0, .int .i64 0, .int .i64 0, .slice none 0 0, .slice none 0 0, .slice none 0 0, .int .i64 0] 53)).setRow (w.heap.size + 2) #[.int .i64 0, .int .i64 0, .int .i64 0, .int .i64 0, .int .i64 0, .slice none 0 0, .int .i64 0, .int .i64 0, .slice none 0 0, .slice none 0 0, .int .i64 0, .int .i64 0, .slice none 0 0, .int .i64 0, .int .i64 0, .slice none 0 0, .slice none 0 0, .slice none 0 0, .int .i64 0]) := ⟨rfl, rfl, rfl, by simp [World.setRow], fun k hk => (setRow_other _ _ _ _ (by omega)).trans (Below.heap_alloc _ _ _ hk)⟩
    exact ⟨setRow_heap _ _ _ _ _ _ qz, (hb.block _ (by omega)).trans qR, hSc1.below hb, hA1.trans (hb.mono (by omega)), Nat.le_refl _, by omega, by omega⟩
  go_upto_region 9 with (refine wpList_store_row rfl 53 _ _ rfl (w.heap.size + 2) #[.int .i64 0, .int .i64 0, .int .i64 0, .int .i64 0, .int .i64 0, .slice none 0 0, .int .i64 0, .int .i64 0, .slice none 0 0, .slice none 0 0, .int .i64 0, .int .i64 0, .slice none 0 0, .int .i64 0, .int .i64 0, .slice none 0 0, .slice none 0 0, .slice none 0 0, .int .i64 0] rfl rfl 53 _ qz sMsg' rfl (by simp [Value.oneCell']) ?_)
  generalize (W1.alloc (.cells #[.int .i64 0, .int .i64 0, .int .i64 0, .int .i64 0, .int .i64 0, .slice none 0 0, .int .i64 0, .int .i64 0, .slice none 0 0, .slice none 0 0, .int .i64 0, .int .i64 0, .slice none 0 0, .int .i64 0, .int .i64 0, .slice none 0 0, .slice none 0 0, .slice none 0 0, .int .i64 0] 53)).setRow (w.heap.size + 2) #[.int .i64 0, .int .i64 0, .int .i64 0, .int .i64 0, .int .i64 0, .slice none 0 0, .int .i64 0, .int .i64 0, .slice none 0 0, .slice none 0 0, .int .i64 0, .int .i64 0, .slice none 0 0, .int .i64 0, .int .i64 0, .slice none 0 0, .slice none 0 0, .slice none 0 0, .int .i64 0] = V0 at hM0 ⊢
  clear qz qR qS hSc1 hA1 hz1 c0 hblt hpI hs
  generalize hMM : w.heap.size + 2 = M at hM0 ⊢
  generalize hSS : w.heap.size + 1 = S at hM0 ⊢
  clear hMM hSS
  go_wp2_with fail
  refine (num_sc S 1 bs (bs, false) _ V0 hM0.sc hu (by omega) (by omega)).mono ?_
  intro e w1 h1
  obtain ⟨ki, he, ki0, ki1, ki2, kig, hSc, ho1⟩ := h1.out
  subst he
  dsimp only
  clear h1
  have hC1 := hM0.call ho1 hSc
  have dj := cells_at hC1.box 2 _ rfl
  have fj := frozen_at hC1.box 2
  have hM1 := hC1.cell 2 (.int .i64 ki) #[.int .i64 0, .int .i64 0, .int .i64 ki, .int .i64 0, .int .i64 0, .slice none 0 0, .int .i64 0, .int .i64 0, .slice none 0 0, .slice none 0 0, .int .i64 0, .int .i64 0, .slice none 0 0, .int .i64 0, .int .i64 0, .slice none 0 0, .slice none 0 0, .slice none 0 0, .int .i64 0] rfl
  go_upto_region 10 with fail
  generalize w1.setCell ⟨M, 2, none⟩ (.int .i64 ki) = V1 at hM1 ⊢
  clear dj fj hC1 hSc ho1 hM0
  go_wp2_with fail
  refine (num_sc S 1 bs (nx 1 (bs, false)) _ V1 hM1.sc hu (by omega) (by omega)).mono ?_
  intro e w2 h1
  obtain ⟨fr, he, fr0, fr1, fr2, frg, hSc, ho1⟩ := h1.out
  subst he
  dsimp only
  clear h1
  have hC2 := hM1.call ho1 hSc
  have dj := cells_at hC2.box 0 _ rfl
  have fj := frozen_at hC2.box 0
  have hM2 := hC2.cell 0 (.int .i64 fr) #[.int .i64 fr, .int .i64 0, .int .i64 ki, .int .i64 0, .int .i64 0, .slice none 0 0, .int .i64 0, .int .i64 0, .slice none 0 0, .slice none 0 0, .int .i64 0, .int .i64 0, .slice none 0 0, .int .i64 0, .int .i64 0, .slice none 0 0, .slice none 0 0, .slice none 0 0, .int .i64 0] rfl
  go_upto_region 11 with fail
  generalize w2.setCell ⟨M, 0, none⟩ (.int .i64 fr) = V2 at hM2 ⊢
  clear dj fj hC2 hSc ho1 hM1
  go_wp2_with fail
  refine (num_sc S 1 bs (nx 1 (nx 1 (bs, false))) _ V2 hM2.sc hu (by omega) (by omega)).mono ?_
  intro e w3 h1
  obtain ⟨tt, he, tt0, tt1, tt2, ttg, hSc, ho1⟩ := h1.out
  subst he
  dsimp only
  clear h1
  have hC3 := hM2.call ho1 hSc
  have dj := cells_at hC3.box 1 _ rfl
  have fj := frozen_at hC3.box 1
  have hM3 := hC3.cell 1 (.int .i64 tt) #[.int .i64 fr, .int .i64 tt, .int .i64 ki, .int .i64 0, .int .i64 0, .slice none 0 0, .int .i64 0, .int .i64 0, .slice none 0 0, .slice none 0 0, .int .i64 0, .int .i64 0, .slice none 0 0, .int .i64 0, .int .i64 0, .slice none 0 0, .slice none 0 0, .slice none 0 0, .int .i64 0] rfl
  go_upto_region 12 with fail
  generalize w3.setCell ⟨M, 1, none⟩ (.int .i64 tt) = V3 at hM3 ⊢
  clear dj fj hC3 hSc ho1 hM2
  have hki : ki = 5 := (kig HN1.out).trans HK0.out
  subst hki
  have dk := cells_at hM3.box 2 _ rfl
  go_wp2_with fail
  refine (num_sc S 3 bs (nx 1 (nx 1 (nx 1 (bs, false)))) _ V3 hM3.sc hu (by omega) (by omega)).mono ?_
  intro e w4 h1
  obtain ⟨ro, he, ro0, ro1, ro2, rog, hSc, ho1⟩ := h1.out
  subst he
  dsimp only
  clear h1
  have hC4 := hM3.call ho1 hSc
  have dj := cells_at hC4.box 18 _ rfl
  have fj := frozen_at hC4.box 18
  have hM4 := hC4.cell 18 (.int .i64 ro) #[.int .i64 fr, .int .i64 tt, .int .i64 5, .int .i64 0, .int .i64 0, .slice none 0 0, .int .i64 0, .int .i64 0, .slice none 0 0, .slice none 0 0, .int .i64 0, .int .i64 0, .slice none 0 0, .int .i64 0, .int .i64 0, .slice none 0 0, .slice none 0 0, .slice none 0 0, .int .i64 ro] rfl
  go_upto_region 39 with fail
  generalize w4.setCell ⟨M, 18, none⟩ (.int .i64 ro) = V4 at hM4 ⊢
  clear dj fj hC4 hSc ho1 hM3
  have hX : Hid (MoX V4 w w.heap.size S M bs 6) := by
    refine ⟨⟨{ fr := fr, tt := tt, ki := 5, bau := 0, bnu := 0, bta := none, btn := 0, btc := 0, hau := 0, hrd := 0, hba := none, hbn := 0, hbc := 0, hpa := none, hpn := 0, hpc := 0, sau := 0, srd := 0, sda := none, sdn := 0, sdc := 0, cau := 0, crd := 0, cba := none, cbn := 0, cbc := 0, cpa := none, cpn := 0, cpc := 0, cva := none, cvn := 0, cvc := 0, ro := ro }, [], [], [], [], [], [], []⟩, ?_, ?_, ?_, ?_⟩
    · rw [HMS.out]; exact hM4.st (by omega)
    · exact ⟨⟨rfl, rfl, rfl, rfl, rfl, rfl, Nat.zero_le _, Nat.zero_le _, Nat.zero_le _, strs_nil _, list_nilM _, list_nilM _, list_nilM _, list_nilM _, ints_nil _⟩, nilM _, rfl⟩
    · exact ⟨(fun sb so e => by cases e), has_nil, has_nil, (fun sb so e => by cases e), has_nil, has_nil, (fun sb so e => by cases e)⟩
    · intro h9
      rw [HMS.out] at h9
      have h8 := nx_over h9
      have h7 := nx_over h8
      rw [HPM.out, HK0.out, ← rog h9, ← ttg h8, ← frg h7]
      rfl
  clear hM4 dk
  obtain ⟨x, hM, hA, hH, hC⟩ := hX.out.out
  clear hX
  go_wp2_with fail
  refine (over_sc S bs _ _ V4 hM.sc).mono ?_
  rintro e w1 ⟨he, hb1⟩
  subst he
  dsimp only
  have hB := hM.belowW hb1
  have hA1 := hA.below hb1
  have HH : Hid (HasM (fun q => M < q) x) := hH
  have l1 := hB.l1
  have l2 := hB.l2
  have lM : M < w1.heap.size := lt_of_heap hB.box
  clear hM hA hH hb1
  obtain ⟨ba, bc, a, qS, hbS, hneS, haN, h5, h6⟩ := hB.sc.out
  generalize mS (bs, false) = ms at *
  obtain ⟨ml, msh⟩ := ms
  dsimp only at *
  cases msh with
  | true =>
    have hF : Hid (readF bs = 5) := by show _ = _; rw [HRF.out, if_pos rfl]
    clear h5 h6 hC
    go_wp2_with (refine wpList_store_row rfl 53 _ _ rfl w.heap.size #[.int .i64 0, .int .i64 0, .int .i64 0, .int .i64 0, .int .i64 0, .slice none 0 0, .int .i64 0, .int .i64 0, .slice none 0 0, .slice none 0 0, .int .i64 0, .int .i64 0, .slice none 0 0, .int .i64 0, .int .i64 0, .slice none 0 0, .slice none 0 0, .slice none 0 0, .int .i64 0] rfl rfl 53 _ hB.res sMsg' rfl (by simp [Value.oneCell']) ?_)
    have hFc := hF.out
    refine bodyPost_ret (v := .tuple #[.agg #[.int .i64 0, .int .i64 0, .int .i64 0, .int .i64 0, .int .i64 0, .slice none 0 0, .int .i64 0, .int .i64 0, .slice none 0 0, .slice none 0 0, .int .i64 0, .int .i64 0, .slice none 0 0, .int .i64 0, .int .i64 0, .slice none 0 0, .slice none 0 0, .slice none 0 0, .int .i64 0], .int .i64 5]) (results_cell_slot (fn := Try.f22) (p := 2) (q := 3) (ty := 53) rfl _ _ w.heap.size 53 _ (0, 0) _ (.int .i64 5) ⟨rfl, rfl⟩ (setRow_heap _ _ _ _ _ _ hB.res) Try.underlying53 rfl sMsg') rfl ⟨.inl ⟨by rw [hFc]; decide, by rw [hFc]⟩, (Upd.setRow hB.res).below hB.below hB.below.size (Nat.le_refl _)⟩
  | false =>
    obtain ⟨h51, h52⟩ := h5 rfl
    have HCX : Hid (x.c = pM (bs, false)) := hC rfl
    clear h5 h6 hC
    have s1 : w1.cell? ⟨S, 1, none⟩ = some (.int .i64 (a : Int)) := cells_at qS 1 _ rfl
    by_cases hml : a = bs.length
    · have hF : Hid (readF bs = 0) := by
        show _ = _
        rw [HRF.out, if_neg (by decide), if_neg (fun h => h (by rw [h52, hml]; simp))]
      have haI : ¬ (a : Int) < bs.length := by omega
      clear hml h51 h52 HRF
      have hB2 : Below w1.heap.size w1 w1.drew := (Below.refl _ _).drew
      go_upto_region 43 with fail
      have HF9 := messageFault_any x.m x.ss x.bl x.pl x.cbl x.cpl x.vl w1 hA1.at'
      go_wp2_with (refine wpList_load_row rfl 53 _ rfl M rfl 53 #[.int .i64 x.m.fr, .int .i64 x.m.tt, .int .i64 x.m.ki, .int .i64 x.m.bau, .int .i64 x.m.bnu, .slice x.m.bta x.m.btn x.m.btc, .int .i64 x.m.hau, .int .i64 x.m.hrd, .slice x.m.hba x.m.hbn x.m.hbc, .slice x.m.hpa x.m.hpn x.m.hpc, .int .i64 x.m.sau, .int .i64 x.m.srd, .slice x.m.sda x.m.sdn x.m.sdc, .int .i64 x.m.cau, .int .i64 x.m.crd, .slice x.m.cba x.m.cbn x.m.cbc, .slice x.m.cpa x.m.cpn x.m.cpc, .slice x.m.cva x.m.cvn x.m.cvc, .int .i64 x.m.ro] (0, 0) _ hB.box Try.underlying53 rfl sMsg' ?_)
      refine HF9.mono ?_
      rintro e w2 ⟨he, hb2⟩
      subst he
      dsimp only
      clear HF9 s1
      have hD := hB.belowW hb2
      have hA2 : Hid (MAt w2 x) := hA1.below hb2
      have HCR : Hid (carriedF x.m x.ss x.bl x.pl x.cbl x.cpl x.vl = x.car) := rfl
      generalize hCk : checkF x.m (carriedF x.m x.ss x.bl x.pl x.cbl x.cpl x.vl) = C at *
      have HCK : Hid (checkF x.m x.car = C) := hCk
      clear hCk
      by_cases hc0 : C = 0
      · subst hc0
        go_wp2_with (first | refine wpList_load_row rfl 53 _ rfl M rfl 53 #[.int .i64 x.m.fr, .int .i64 x.m.tt, .int .i64 x.m.ki, .int .i64 x.m.bau, .int .i64 x.m.bnu, .slice x.m.bta x.m.btn x.m.btc, .int .i64 x.m.hau, .int .i64 x.m.hrd, .slice x.m.hba x.m.hbn x.m.hbc, .slice x.m.hpa x.m.hpn x.m.hpc, .int .i64 x.m.sau, .int .i64 x.m.srd, .slice x.m.sda x.m.sdn x.m.sdc, .int .i64 x.m.cau, .int .i64 x.m.crd, .slice x.m.cba x.m.cbn x.m.cbc, .slice x.m.cpa x.m.cpn x.m.cpc, .slice x.m.cva x.m.cvn x.m.cvc, .int .i64 x.m.ro] (0, 0) _ hD.box Try.underlying53 rfl sMsg' ?_ | refine wpList_store_row rfl 53 _ _ rfl w.heap.size #[.int .i64 x.m.fr, .int .i64 x.m.tt, .int .i64 x.m.ki, .int .i64 x.m.bau, .int .i64 x.m.bnu, .slice x.m.bta x.m.btn x.m.btc, .int .i64 x.m.hau, .int .i64 x.m.hrd, .slice x.m.hba x.m.hbn x.m.hbc, .slice x.m.hpa x.m.hpn x.m.hpc, .int .i64 x.m.sau, .int .i64 x.m.srd, .slice x.m.sda x.m.sdn x.m.sdc, .int .i64 x.m.cau, .int .i64 x.m.crd, .slice x.m.cba x.m.cbn x.m.cbc, .slice x.m.cpa x.m.cpn x.m.cpc, .slice x.m.cva x.m.cvn x.m.cvc, .int .i64 x.m.ro] rfl rfl 53 _ hD.res sMsg' rfl (by simp [Value.oneCell']) ?_)
        refine bodyPost_ret (v := .tuple #[.agg #[.int .i64 x.m.fr, .int .i64 x.m.tt, .int .i64 x.m.ki, .int .i64 x.m.bau, .int .i64 x.m.bnu, .slice x.m.bta x.m.btn x.m.btc, .int .i64 x.m.hau, .int .i64 x.m.hrd, .slice x.m.hba x.m.hbn x.m.hbc, .slice x.m.hpa x.m.hpn x.m.hpc, .int .i64 x.m.sau, .int .i64 x.m.srd, .slice x.m.sda x.m.sdn x.m.sdc, .int .i64 x.m.cau, .int .i64 x.m.crd, .slice x.m.cba x.m.cbn x.m.cbc, .slice x.m.cpa x.m.cpn x.m.cpc, .slice x.m.cva x.m.cvn x.m.cvc, .int .i64 x.m.ro], .int .i64 0]) (results_cell_slot (fn := Try.f22) (p := 2) (q := 3) (ty := 53) rfl _ _ w.heap.size 53 _ (0, 0) _ (.int .i64 0) ⟨rfl, rfl⟩ (setRow_heap _ _ _ _ _ _ hD.res) Try.underlying53 rfl sMsg') rfl ⟨.inr ⟨hF.out, x, HCX.out, ?_, HH.out.mono (fun q hq => by omega), .inl ⟨HCK.out, rfl⟩⟩, (Upd.setRow hD.res).below hD.below hD.below.size (Nat.le_refl _)⟩
        exact hA2.out.setRow (B := M + 1) (HH.out.mono (fun q hq => by omega)) (by omega)
      · have hcn : (C != 0) = true := by simpa using hc0
        have HC0 : Hid (C ≠ 0) := hc0
        go_wp2_with (refine wpList_store_row rfl 53 _ _ rfl w.heap.size #[.int .i64 0, .int .i64 0, .int .i64 0, .int .i64 0, .int .i64 0, .slice none 0 0, .int .i64 0, .int .i64 0, .slice none 0 0, .slice none 0 0, .int .i64 0, .int .i64 0, .slice none 0 0, .int .i64 0, .int .i64 0, .slice none 0 0, .slice none 0 0, .slice none 0 0, .int .i64 0] rfl rfl 53 _ hD.res sMsg' rfl (by simp [Value.oneCell']) ?_)
        refine bodyPost_ret (v := .tuple #[.agg #[.int .i64 0, .int .i64 0, .int .i64 0, .int .i64 0, .int .i64 0, .slice none 0 0, .int .i64 0, .int .i64 0, .slice none 0 0, .slice none 0 0, .int .i64 0, .int .i64 0, .slice none 0 0, .int .i64 0, .int .i64 0, .slice none 0 0, .slice none 0 0, .slice none 0 0, .int .i64 0], .int .i64 C]) (results_cell_slot (fn := Try.f22) (p := 2) (q := 3) (ty := 53) rfl _ _ w.heap.size 53 _ (0, 0) _ (.int .i64 C) ⟨rfl, rfl⟩ (setRow_heap _ _ _ _ _ _ hD.res) Try.underlying53 rfl sMsg') rfl ⟨.inr ⟨hF.out, x, HCX.out, ?_, HH.out.mono (fun q hq => by omega), .inr ⟨by rw [HCK.out]; exact HC0.out, by rw [HCK.out]⟩⟩, (Upd.setRow hD.res).below hD.below hD.below.size (Nat.le_refl _)⟩
        exact hA2.out.setRow (B := M + 1) (HH.out.mono (fun q hq => by omega)) (by omega)
    · have hF : Hid (readF bs = 4) := by
        show _ = _
        rw [HRF.out, if_neg (by decide), if_pos (fun h => hml (by rw [h52, List.drop_eq_nil_iff] at h; omega))]
      have haI : (a : Int) < bs.length := by omega
      clear hml h51 h52 HRF
      go_wp2_with (refine wpList_store_row rfl 53 _ _ rfl w.heap.size #[.int .i64 0, .int .i64 0, .int .i64 0, .int .i64 0, .int .i64 0, .slice none 0 0, .int .i64 0, .int .i64 0, .slice none 0 0, .slice none 0 0, .int .i64 0, .int .i64 0, .slice none 0 0, .int .i64 0, .int .i64 0, .slice none 0 0, .slice none 0 0, .slice none 0 0, .int .i64 0] rfl rfl 53 _ hB.res sMsg' rfl (by simp [Value.oneCell']) ?_)
      have hFc := hF.out
      refine bodyPost_ret (v := .tuple #[.agg #[.int .i64 0, .int .i64 0, .int .i64 0, .int .i64 0, .int .i64 0, .slice none 0 0, .int .i64 0, .int .i64 0, .slice none 0 0, .slice none 0 0, .int .i64 0, .int .i64 0, .slice none 0 0, .int .i64 0, .int .i64 0, .slice none 0 0, .slice none 0 0, .slice none 0 0, .int .i64 0], .int .i64 4]) (results_cell_slot (fn := Try.f22) (p := 2) (q := 3) (ty := 53) rfl _ _ w.heap.size 53 _ (0, 0) _ (.int .i64 4) ⟨rfl, rfl⟩ (setRow_heap _ _ _ _ _ _ hB.res) Try.underlying53 rfl sMsg') rfl ⟨.inl ⟨by rw [hFc]; decide, by rw [hFc]⟩, (Upd.setRow hB.res).below hB.below hB.below.size (Nat.le_refl _)⟩
end Go.Proofs.Ytldlknmpkoebbaa

namespace Go.Proofs.Ytldlknmpkoebbaa
open Go.RowKit

set_option maxRecDepth 100000 in
set_option maxHeartbeats 1000000 in
theorem sameTextsL_eq (xs : List ByteArray) (sa sb : Option Addr) (n m c d : Nat) (w : World) (hn : n = xs.length) (hm : m = xs.length) (hl : n ≤ maxLen) (ha : StrsAt w sa xs) (hb : StrsAt w sb xs) :
    Calls Try.prog 56 #[.slice sa n c, .slice sb m d] w fun e w' => e = .returned (.bool true) ∧ Below w.heap.size w w' := by
  subst hn hm
  unfold maxLen at hl
  go_enter Try.func56, Try.ntmps56
  go_wp2_with fail
  go_loopw [5] (fun j wr => ∃ k : Nat, k ≤ xs.length ∧ j = .int .i64 k ∧ Below w.heap.size w wr) (fun j _ => xs.length - (intOf j).toNat)
  case atStart => exact ⟨0, Nat.zero_le _, rfl, Below.refl _ _⟩
  case round =>
    obtain ⟨k, hk, rfl, hbw⟩ := hrel
    by_cases hlt : k < xs.length
    · obtain ⟨ab, ao, rfl, hca⟩ : ∃ ab ao, sa = some ⟨ab, ao, none⟩ ∧ ∀ j, j < xs.length → w.cell? ⟨ab, ao + j, none⟩ = some (.string (xs.getD j ByteArray.empty)) := by
        rcases ha.cells with h | h
        · rw [h] at hlt; simp at hlt
        · exact h
      obtain ⟨bb, bo, rfl, hcb⟩ : ∃ bb bo, sb = some ⟨bb, bo, none⟩ ∧ ∀ j, j < xs.length → w.cell? ⟨bb, bo + j, none⟩ = some (.string (xs.getD j ByteArray.empty)) := by
        rcases hb.cells with h | h
        · rw [h] at hlt; simp at hlt
        · exact h
      have ka := (hbw.cell (p := ⟨ab, ao + k, none⟩) (block_lt_of_cell (hca k hlt))).trans (hca k hlt)
      have kb := (hbw.cell (p := ⟨bb, bo + k, none⟩) (block_lt_of_cell (hcb k hlt))).trans (hcb k hlt)
      have hltI : (k : Int) < xs.length := by omega
      have h0 : (0 : Int) ≤ k := by omega
      clear hca hcb
      generalize xs.getD k ByteArray.empty = x at *
      go_wp2_with fail
      go_region_held3 (fun w' => w'.cell? ⟨ab, ao + k, none⟩ = some (.string x) ∧ w'.cell? ⟨bb, bo + k, none⟩ = some (.string x)) (go_keep) (fail)
      all_goals
        go_wp2_with fail
        go_roundw
        case rel =>
          have hR : ∃ k' : Nat, k' ≤ xs.length ∧ (Value.int .i64 ((k : Int) + 1)) = .int .i64 k' ∧ Below w.heap.size w wr.drew := ⟨k + 1, by omega, by go_num, hbw.drew⟩
          first | exact hR | ((repeat apply Exists.intro); exact ⟨hR, rfl⟩)
        case measure => simp [intOf]; omega
    · obtain rfl : k = xs.length := by omega
      have hltI : ¬ (xs.length : Int) < xs.length := by omega
      go_wp2_with fail
      go_ret
      exact ⟨rfl, hbw⟩
set_option maxRecDepth 100000 in
set_option maxHeartbeats 400000 in
theorem sameBatchL_eq (au nu : Int) (xs : List ByteArray) (sa sb : Option Addr) (n m c d : Nat) (w : World) (hn : n = xs.length) (hm : m = xs.length) (hl : n ≤ maxLen) (ha : StrsAt w sa xs) (hb : StrsAt w sb xs) :
    Calls Try.prog 38 #[.agg #[.int .i64 au, .int .i64 nu, .slice sa n c], .agg #[.int .i64 au, .int .i64 nu, .slice sb m d]] w fun e w' => e = .returned (.bool true) ∧ Below w.heap.size w w' := by
  have hA : Below w.heap.size w ((w.alloc (.cells #[.int .i64 au, .int .i64 nu, .slice sa n c] 43)).alloc (.cells #[.int .i64 au, .int .i64 nu, .slice sb m d] 43)) := ((Below.refl _ _).alloc (Nat.le_refl _) _).alloc (by simp) _
  have hT := sameTextsL_eq xs sa sb n m c d _ hn hm hl (ha.below hA) (hb.below hA)
  clear hn hm hl
  go_enter Try.func38, Try.ntmps38
  go_wp2_with fail
  refine hT.mono ?_
  rintro e w1 ⟨he, hb1⟩
  subst he
  dsimp only
  go_wp2_with fail
  go_ret
  exact ⟨rfl, below_alloc (below_alloc hb1)⟩
end Go.Proofs.Ytldlknmpkoebbaa

namespace Go.Proofs.Ytldlknmpkoebbaa
open Go.RowKit

set_option maxRecDepth 100000 in
set_option maxHeartbeats 1000000 in
theorem sameListsL_eq (ps qs : List Part) (sa sb : Option Addr) (c d : Nat) (w : World) (hS : Same ps qs) (ha : ListAt w sa c ps) (hb : ListAt w sb d qs) :
    Calls Try.prog 57 #[.slice sa qs.length c, .slice sb qs.length d] w fun e w' => e = .returned (.bool true) ∧ Below w.heap.size w w' := by
  have hl := hS.length
  have hF : Hid (ps.length = qs.length) := hl
  have HS : Hid _ := hS
  have hsm := hb.small
  clear hl hS
  go_enter Try.func57, Try.ntmps57
  go_wp2_with fail
  go_loopw [5] (fun j wr => ∃ k : Nat, k ≤ qs.length ∧ j = .int .i64 k ∧ Below w.heap.size w wr) (fun j _ => qs.length - (intOf j).toNat)
  case atStart => exact ⟨0, Nat.zero_le _, rfl, Below.refl _ _⟩
  case round =>
    obtain ⟨k, hk, rfl, hbw⟩ := hrel
    by_cases hlt2 : k < qs.length
    · have hlt : k < ps.length := by have := hF.out; omega
      obtain ⟨ab, ao, rfl, hca⟩ : ∃ ab ao, sa = some ⟨ab, ao, none⟩ ∧ ∀ j (h : j < ps.length), w.cell? ⟨ab, ao + j, none⟩ = some (.slice (ps[j]).sa (ps[j]).bs.length (ps[j]).cap) := by
        rcases ha.parts.cells with h | h
        · subst h; simp at hlt
        · exact h
      obtain ⟨bb, bo, rfl, hcb⟩ : ∃ bb bo, sb = some ⟨bb, bo, none⟩ ∧ ∀ j (h : j < qs.length), w.cell? ⟨bb, bo + j, none⟩ = some (.slice (qs[j]).sa (qs[j]).bs.length (qs[j]).cap) := by
        rcases hb.parts.cells with h | h
        · subst h; simp at hlt2
        · exact h
      have ka := (hbw.cell (p := ⟨ab, ao + k, none⟩) (block_lt_of_cell (hca k hlt))).trans (hca k hlt)
      have kb := (hbw.cell (p := ⟨bb, bo + k, none⟩) (block_lt_of_cell (hcb k hlt2))).trans (hcb k hlt2)
      have hpa := ((ha.parts.each ps[k] (List.getElem_mem hlt)).below hbw).below (Below.refl _ _).drew
      have hpb := ((hb.parts.each qs[k] (List.getElem_mem hlt2)).below hbw).below (Below.refl _ _).drew
      have hpq : (ps[k]).bs = (qs[k]).bs := by
        have h1 : (ps.map (·.bs))[k]? = (qs.map (·.bs))[k]? := by rw [show ps.map (·.bs) = qs.map (·.bs) from HS.out]
        simpa [hlt, hlt2] using h1
      have hltI : (k : Int) < qs.length := by omega
      have h0 : (0 : Int) ≤ k := by omega
      clear hca hcb
      generalize ps[k] = p at *
      generalize qs[k] = q at *
      obtain ⟨pa, pc, pb⟩ := p
      obtain ⟨qa, qc, qb⟩ := q
      simp only at hpq ka kb hpa hpb
      subst hpq
      have t1 := run_text wr.drew pa pb.length pc pb rfl hpa
      have t2 := run_text wr.drew qa pb.length qc pb rfl hpb
      generalize bstr pb = S at *
      go_wp2_with fail
      go_region
      all_goals
        go_wp2_with fail
        go_roundw
        case rel =>
          have hR : ∃ k' : Nat, k' ≤ qs.length ∧ (Value.int .i64 ((k : Int) + 1)) = .int .i64 k' ∧ Below w.heap.size w wr.drew := ⟨k + 1, by omega, by go_num, hbw.drew⟩
          first | exact hR | ((repeat apply Exists.intro); exact ⟨hR, rfl⟩)
        case measure => simp [intOf]; omega
    · obtain rfl : k = qs.length := by omega
      have hltI : ¬ (qs.length : Int) < qs.length := by omega
      go_wp2_with fail
      go_ret
      exact ⟨rfl, hbw⟩
set_option maxRecDepth 100000 in
set_option maxHeartbeats 1000000 in
theorem sameHeaderL_eq (au rd : Int) (xa : Option Addr) (xc : Nat) (xl : List Part) (ya : Option Addr) (yc : Nat) (yl : List Part) (ba : Option Addr) (bc : Nat) (bl : List Part) (pa : Option Addr) (pc : Nat) (pl : List Part) (w : World) (s1 : Same xl bl) (s2 : Same yl pl) (h1 : ListAt w xa xc xl) (h2 : ListAt w ya yc yl) (h3 : ListAt w ba bc bl) (h4 : ListAt w pa pc pl) :
    Calls Try.prog 39 #[.agg #[.int .i64 au, .int .i64 rd, .slice xa bl.length xc, .slice ya pl.length yc], .agg #[.int .i64 au, .int .i64 rd, .slice ba bl.length bc, .slice pa pl.length pc]] w fun e w' => e = .returned (.bool true) ∧ Below w.heap.size w w' := by
  have hA : Below w.heap.size w ((w.alloc (.cells #[.int .i64 au, .int .i64 rd, .slice xa bl.length xc, .slice ya pl.length yc] 46)).alloc (.cells #[.int .i64 au, .int .i64 rd, .slice ba bl.length bc, .slice pa pl.length pc] 46)) := ((Below.refl _ _).alloc (Nat.le_refl _) _).alloc (by simp) _
  have hB : ∀ wx, Below w.heap.size w wx → _ := fun wx h => sameListsL_eq xl bl xa ba xc bc wx s1 (h1.below h) (h3.below h)
  have hP : ∀ wx, Below w.heap.size w wx → _ := fun wx h => sameListsL_eq yl pl ya pa yc pc wx s2 (h2.below h) (h4.below h)
  have HB : Hid _ := hB
  have HP : Hid _ := hP
  clear hB hP h1 h2 h3 h4 s1 s2
  go_enter Try.func39, Try.ntmps39
  go_wp2_with fail
  refine (HB.out _ hA).mono ?_
  rintro e w1 ⟨rfl, hb1⟩
  have r1 := row_new hb1
  have r0 := row_new (below_alloc hb1)
  rw [size_alloc] at r1
  replace hb1 := below_alloc (below_alloc hb1)
  have c3 : w1.cell? ⟨w.heap.size, 3, none⟩ = some (.slice ya pl.length yc) := cells_at r0 3 _ rfl
  have d3 : w1.cell? ⟨w.heap.size + 1, 3, none⟩ = some (.slice pa pl.length pc) := cells_at r1 3 _ rfl
  go_wp2_with fail
  refine (HP.out _ hb1).mono ?_
  rintro e w2 ⟨rfl, hb2⟩
  go_wp2_with fail
  go_ret
  exact ⟨rfl, hb1.trans (hb2.mono hb1.size)⟩
end Go.Proofs.Ytldlknmpkoebbaa
