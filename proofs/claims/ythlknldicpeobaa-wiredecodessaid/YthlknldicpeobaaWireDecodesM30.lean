/- sheaveslaw.sameSlot of slots that are the same. -/
import Derived.Test.YthlknldicpeobaaWireDecodesM24
import Derived.Test.YthlknldicpeobaaWireDecodesM0
import Derived.Test.YthlknldicpeobaaOwnL
import Derived.Test.YthlknldicpeobaaHeadF
import Derived.Test.YthlknldicpeobaaCertF
import Derived.Test.YthlknldicpeobaaStrsAt
import Derived.Test.YthlknldicpeobaaSx
import Derived.Deep.RegionHeld3
import Derived.RegionTactic
import Derived.Test.YthlknldicpeobaaIntsL
import Derived.Test.YthlknldicpeobaaApp
namespace Go.Proofs.Ythlknldicpeobaa
open Go.RowKit

set_option maxRecDepth 100000 in
set_option maxHeartbeats 8000000 in
theorem mof_5 (bs : List Int) (sb so cap : Nat) (w : World) (hs : SliceAt w (some ⟨sb, so, none⟩) cap bs) (hu : U8s bs) (hl : bs.length ≤ 4000) (hpos : 0 < bs.length) (hk : bs.getD 0 0 = 5) :
    Calls Try.prog 7 #[.slice (some ⟨sb, so, none⟩) bs.length cap] w fun e w' => DecIs w w' e bs := by
  have hne : bs ≠ [] := by intro h; rw [h] at hpos; simp at hpos
  have hK0 : nB 1 (bs, false) = 5 := by rw [nB1_first hne, hk]
  have HRF : Hid (readF bs = if (mS (bs, false)).2 = true then 5 else if (mS (bs, false)).1 ≠ [] then 4 else 0) := by
    show _ = _
    rw [readF, if_neg (by omega), if_neg hne, hk, if_neg (by decide)]
  have HMS : Hid (mS (bs, false) = nx 3 (nx 1 (nx 1 (nx 1 (bs, false))))) := by
    show _ = _
    rw [mS, hK0]; rfl
  have HPM : Hid (pM (bs, false) = ⟨nB 1 (nx 1 (bs, false)), nB 1 (nx 1 (nx 1 (bs, false))), nB 1 (bs, false), 0, 0, [], 0, 0, [], [], 0, 0, [], 0, 0, [], [], [], nB 3 (nx 1 (nx 1 (nx 1 (bs, false))))⟩) := by
    show _ = _
    rw [pM, hK0]; rfl
  have HN1 : Hid ((nx 1 (bs, false)).2 = false) := (tk_ok (n := 1) (l := bs) (by omega)).2.2
  have HK0 : Hid (nB 1 (bs, false) = 5) := hK0
  have c0 : w.cell? ⟨sb, so, none⟩ = some (.int .u8 5) := by
    rcases hs.bytes with h | ⟨sb', so', e, h⟩
    · rw [h] at hpos; simp at hpos
    · cases e
      have := h 0 hpos
      rw [hk] at this
      simpa using this
  have hlI : ¬ (4000 : Int) < bs.length := by omega
  have hpI : ((bs.length : Int) == 0) = false := by rw [beq_eq_false_iff_ne]; omega
  have hpJ : (0 : Int) < bs.length := by omega
  have hblt : sb < w.heap.size := block_lt_of_cell c0
  clear hk hK0 hne
  go_enter Try.func7, Try.ntmps7
  go_upto_region 8 with (first
    | (go_at_call 16; refine (in_true _ _ _ _ (by decide)).mono ?_; rintro e w9 ⟨rfl, rfl⟩))
  have hA1 : Below w.heap.size w ((w.alloc (.cells #[.int .i64 0, .int .i64 0, .int .i64 0, .int .i64 0, .int .i64 0, .slice none 0 0, .int .i64 0, .int .i64 0, .slice none 0 0, .slice none 0 0, .int .i64 0, .int .i64 0, .slice none 0 0, .int .i64 0, .int .i64 0, .slice none 0 0, .slice none 0 0, .slice none 0 0, .int .i64 0] 35)).alloc (.cells #[.slice (some ⟨sb, so, none⟩) bs.length cap, .int .i64 0] 55)) := ((Below.refl _ _).alloc (Nat.le_refl _) _).alloc (by simp) _
  have qR := heap_alloc2_old w (.cells #[.int .i64 0, .int .i64 0, .int .i64 0, .int .i64 0, .int .i64 0, .slice none 0 0, .int .i64 0, .int .i64 0, .slice none 0 0, .slice none 0 0, .int .i64 0, .int .i64 0, .slice none 0 0, .int .i64 0, .int .i64 0, .slice none 0 0, .slice none 0 0, .slice none 0 0, .int .i64 0] 35) (.cells #[.slice (some ⟨sb, so, none⟩) bs.length cap, .int .i64 0] 55)
  have qS := heap_alloc2_new w (.cells #[.int .i64 0, .int .i64 0, .int .i64 0, .int .i64 0, .int .i64 0, .slice none 0 0, .int .i64 0, .int .i64 0, .slice none 0 0, .slice none 0 0, .int .i64 0, .int .i64 0, .slice none 0 0, .int .i64 0, .int .i64 0, .slice none 0 0, .slice none 0 0, .slice none 0 0, .int .i64 0] 35) (.cells #[.slice (some ⟨sb, so, none⟩) bs.length cap, .int .i64 0] 55)
  have hz1 : ((w.alloc (.cells #[.int .i64 0, .int .i64 0, .int .i64 0, .int .i64 0, .int .i64 0, .slice none 0 0, .int .i64 0, .int .i64 0, .slice none 0 0, .slice none 0 0, .int .i64 0, .int .i64 0, .slice none 0 0, .int .i64 0, .int .i64 0, .slice none 0 0, .slice none 0 0, .slice none 0 0, .int .i64 0] 35)).alloc (.cells #[.slice (some ⟨sb, so, none⟩) bs.length cap, .int .i64 0] 55)).heap.size = w.heap.size + 2 := by simp
  generalize (w.alloc (.cells #[.int .i64 0, .int .i64 0, .int .i64 0, .int .i64 0, .int .i64 0, .slice none 0 0, .int .i64 0, .int .i64 0, .slice none 0 0, .slice none 0 0, .int .i64 0, .int .i64 0, .slice none 0 0, .int .i64 0, .int .i64 0, .slice none 0 0, .slice none 0 0, .slice none 0 0, .int .i64 0] 35)).alloc (.cells #[.slice (some ⟨sb, so, none⟩) bs.length cap, .int .i64 0] 55) = W1 at hA1 qR qS hz1 ⊢
  have hSc1 : ScAt W1 (w.heap.size + 1) bs (bs, false) 0 := ⟨_, _, 0, qS, hs.below hA1, (fun sb' so' e => by cases e; omega), Nat.le_refl _, (fun _ => ⟨Nat.zero_le _, rfl⟩), (fun h => by cases h)⟩
  have qz : (W1.alloc (.cells #[.int .i64 0, .int .i64 0, .int .i64 0, .int .i64 0, .int .i64 0, .slice none 0 0, .int .i64 0, .int .i64 0, .slice none 0 0, .slice none 0 0, .int .i64 0, .int .i64 0, .slice none 0 0, .int .i64 0, .int .i64 0, .slice none 0 0, .slice none 0 0, .slice none 0 0, .int .i64 0] 35)).heap[w.heap.size + 2]? = some (.cells #[.int .i64 0, .int .i64 0, .int .i64 0, .int .i64 0, .int .i64 0, .slice none 0 0, .int .i64 0, .int .i64 0, .slice none 0 0, .slice none 0 0, .int .i64 0, .int .i64 0, .slice none 0 0, .int .i64 0, .int .i64 0, .slice none 0 0, .slice none 0 0, .slice none 0 0, .int .i64 0] 35 (0, 0)) := by rw [← hz1]; exact heap_alloc_new W1 (.cells #[.int .i64 0, .int .i64 0, .int .i64 0, .int .i64 0, .int .i64 0, .slice none 0 0, .int .i64 0, .int .i64 0, .slice none 0 0, .slice none 0 0, .int .i64 0, .int .i64 0, .slice none 0 0, .int .i64 0, .int .i64 0, .slice none 0 0, .slice none 0 0, .slice none 0 0, .int .i64 0] 35)
  have hM0 : MoB ((W1.alloc (.cells #[.int .i64 0, .int .i64 0, .int .i64 0, .int .i64 0, .int .i64 0, .slice none 0 0, .int .i64 0, .int .i64 0, .slice none 0 0, .slice none 0 0, .int .i64 0, .int .i64 0, .slice none 0 0, .int .i64 0, .int .i64 0, .slice none 0 0, .slice none 0 0, .slice none 0 0, .int .i64 0] 35)).setRow (w.heap.size + 2) #[.int .i64 0, .int .i64 0, .int .i64 0, .int .i64 0, .int .i64 0, .slice none 0 0, .int .i64 0, .int .i64 0, .slice none 0 0, .slice none 0 0, .int .i64 0, .int .i64 0, .slice none 0 0, .int .i64 0, .int .i64 0, .slice none 0 0, .slice none 0 0, .slice none 0 0, .int .i64 0]) w w.heap.size (w.heap.size + 1) (w.heap.size + 2) bs (bs, false) 0 #[.int .i64 0, .int .i64 0, .int .i64 0, .int .i64 0, .int .i64 0, .slice none 0 0, .int .i64 0, .int .i64 0, .slice none 0 0, .slice none 0 0, .int .i64 0, .int .i64 0, .slice none 0 0, .int .i64 0, .int .i64 0, .slice none 0 0, .slice none 0 0, .slice none 0 0, .int .i64 0] := by
    have hb : Below W1.heap.size W1 ((W1.alloc (.cells #[.int .i64 0, .int .i64 0, .int .i64 0, .int .i64 0, .int .i64 0, .slice none 0 0, .int .i64 0, .int .i64 0, .slice none 0 0, .slice none 0 0, .int .i64 0, .int .i64 0, .slice none 0 0, .int .i64 0, .int .i64 0, .slice none 0 0, .slice none 0 0, .slice none 0 0, .int .i64 0] 35)).setRow (w.heap.size + 2) #[.int .i64 0, .int .i64 0, .int .i64 0, .int .i64 0, .int .i64 0, .slice none 0 0, .int .i64 0, .int .i64 0, .slice none 0 0, .slice none 0 0, .int .i64 0, .int .i64 0, .slice none 0 0, .int .i64 0, .int .i64 0, .slice none 0 0, .slice none 0 0, .slice none 0 0, .int .i64 0]) := ⟨rfl, rfl, rfl, by simp [World.setRow], fun k hk => (setRow_other _ _ _ _ (by omega)).trans (Below.heap_alloc _ _ _ hk)⟩
    exact ⟨setRow_heap _ _ _ _ _ _ qz, (hb.block _ (by omega)).trans qR, hSc1.below hb, hA1.trans (hb.mono (by omega)), Nat.le_refl _, by omega, by omega⟩
  go_upto_region 9 with (refine wpList_store_row rfl 35 _ _ rfl (w.heap.size + 2) #[.int .i64 0, .int .i64 0, .int .i64 0, .int .i64 0, .int .i64 0, .slice none 0 0, .int .i64 0, .int .i64 0, .slice none 0 0, .slice none 0 0, .int .i64 0, .int .i64 0, .slice none 0 0, .int .i64 0, .int .i64 0, .slice none 0 0, .slice none 0 0, .slice none 0 0, .int .i64 0] rfl rfl 35 _ qz sMsg' rfl (by simp [Value.oneCell']) ?_)
  generalize (W1.alloc (.cells #[.int .i64 0, .int .i64 0, .int .i64 0, .int .i64 0, .int .i64 0, .slice none 0 0, .int .i64 0, .int .i64 0, .slice none 0 0, .slice none 0 0, .int .i64 0, .int .i64 0, .slice none 0 0, .int .i64 0, .int .i64 0, .slice none 0 0, .slice none 0 0, .slice none 0 0, .int .i64 0] 35)).setRow (w.heap.size + 2) #[.int .i64 0, .int .i64 0, .int .i64 0, .int .i64 0, .int .i64 0, .slice none 0 0, .int .i64 0, .int .i64 0, .slice none 0 0, .slice none 0 0, .int .i64 0, .int .i64 0, .slice none 0 0, .int .i64 0, .int .i64 0, .slice none 0 0, .slice none 0 0, .slice none 0 0, .int .i64 0] = V0 at hM0 ⊢
  clear qz qR qS hSc1 hA1 hz1 c0 hblt hpI hs
  generalize hMM : w.heap.size + 2 = M at hM0 ⊢
  generalize hSS : w.heap.size + 1 = S at hM0 ⊢
  clear hMM hSS
  go_wp2_with fail
  refine (num_sc S 1 bs (bs, false) _ V0 hM0.sc hu (by omega) (by omega)).mono ?_
  intro e w1 h1
  obtain ⟨ki, he, ki0, ki1, ki2, kig, hSc, ho1⟩ := h1.out
  subst he
  dsimp only
  clear h1
  have hC1 := hM0.call ho1 hSc
  have dj := cells_at hC1.box 2 _ rfl
  have fj := frozen_at hC1.box 2
  have hM1 := hC1.cell 2 (.int .i64 ki) #[.int .i64 0, .int .i64 0, .int .i64 ki, .int .i64 0, .int .i64 0, .slice none 0 0, .int .i64 0, .int .i64 0, .slice none 0 0, .slice none 0 0, .int .i64 0, .int .i64 0, .slice none 0 0, .int .i64 0, .int .i64 0, .slice none 0 0, .slice none 0 0, .slice none 0 0, .int .i64 0] rfl
  go_upto_region 10 with fail
  generalize w1.setCell ⟨M, 2, none⟩ (.int .i64 ki) = V1 at hM1 ⊢
  clear dj fj hC1 hSc ho1 hM0
  go_wp2_with fail
  refine (num_sc S 1 bs (nx 1 (bs, false)) _ V1 hM1.sc hu (by omega) (by omega)).mono ?_
  intro e w2 h1
  obtain ⟨fr, he, fr0, fr1, fr2, frg, hSc, ho1⟩ := h1.out
  subst he
  dsimp only
  clear h1
  have hC2 := hM1.call ho1 hSc
  have dj := cells_at hC2.box 0 _ rfl
  have fj := frozen_at hC2.box 0
  have hM2 := hC2.cell 0 (.int .i64 fr) #[.int .i64 fr, .int .i64 0, .int .i64 ki, .int .i64 0, .int .i64 0, .slice none 0 0, .int .i64 0, .int .i64 0, .slice none 0 0, .slice none 0 0, .int .i64 0, .int .i64 0, .slice none 0 0, .int .i64 0, .int .i64 0, .slice none 0 0, .slice none 0 0, .slice none 0 0, .int .i64 0] rfl
  go_upto_region 11 with fail
  generalize w2.setCell ⟨M, 0, none⟩ (.int .i64 fr) = V2 at hM2 ⊢
  clear dj fj hC2 hSc ho1 hM1
  go_wp2_with fail
  refine (num_sc S 1 bs (nx 1 (nx 1 (bs, false))) _ V2 hM2.sc hu (by omega) (by omega)).mono ?_
  intro e w3 h1
  obtain ⟨tt, he, tt0, tt1, tt2, ttg, hSc, ho1⟩ := h1.out
  subst he
  dsimp only
  clear h1
  have hC3 := hM2.call ho1 hSc
  have dj := cells_at hC3.box 1 _ rfl
  have fj := frozen_at hC3.box 1
  have hM3 := hC3.cell 1 (.int .i64 tt) #[.int .i64 fr, .int .i64 tt, .int .i64 ki, .int .i64 0, .int .i64 0, .slice none 0 0, .int .i64 0, .int .i64 0, .slice none 0 0, .slice none 0 0, .int .i64 0, .int .i64 0, .slice none 0 0, .int .i64 0, .int .i64 0, .slice none 0 0, .slice none 0 0, .slice none 0 0, .int .i64 0] rfl
  go_upto_region 12 with fail
  generalize w3.setCell ⟨M, 1, none⟩ (.int .i64 tt) = V3 at hM3 ⊢
  clear dj fj hC3 hSc ho1 hM2
  have hki : ki = 5 := (kig HN1.out).trans HK0.out
  subst hki
  have dk := cells_at hM3.box 2 _ rfl
  go_wp2_with fail
  refine (num_sc S 3 bs (nx 1 (nx 1 (nx 1 (bs, false)))) _ V3 hM3.sc hu (by omega) (by omega)).mono ?_
  intro e w4 h1
  obtain ⟨ro, he, ro0, ro1, ro2, rog, hSc, ho1⟩ := h1.out
  subst he
  dsimp only
  clear h1
  have hC4 := hM3.call ho1 hSc
  have dj := cells_at hC4.box 18 _ rfl
  have fj := frozen_at hC4.box 18
  have hM4 := hC4.cell 18 (.int .i64 ro) #[.int .i64 fr, .int .i64 tt, .int .i64 5, .int .i64 0, .int .i64 0, .slice none 0 0, .int .i64 0, .int .i64 0, .slice none 0 0, .slice none 0 0, .int .i64 0, .int .i64 0, .slice none 0 0, .int .i64 0, .int .i64 0, .slice none 0 0, .slice none 0 0, .slice none 0 0, .int .i64 ro] rfl
  go_upto_region 39 with fail
  generalize w4.setCell ⟨M, 18, none⟩ (.int .i64 ro) = V4 at hM4 ⊢
  clear dj fj hC4 hSc ho1 hM3
  have hX : Hid (MoX V4 w w.heap.size S M bs 6) := by
    refine ⟨⟨{ fr := fr, tt := tt, ki := 5, bau := 0, bnu := 0, bta := none, btn := 0, btc := 0, hau := 0, hrd := 0, hba := none, hbn := 0, hbc := 0, hpa := none, hpn := 0, hpc := 0, sau := 0, srd := 0, sda := none, sdn := 0, sdc := 0, cau := 0, crd := 0, cba := none, cbn := 0, cbc := 0, cpa := none, cpn := 0, cpc := 0, cva := none, cvn := 0, cvc := 0, ro := ro }, [], [], [], [], [], [], []⟩, ?_, ?_, ?_, ?_⟩
    · rw [HMS.out]; exact hM4.st (by omega)
    · exact ⟨⟨rfl, rfl, rfl, rfl, rfl, rfl, Nat.zero_le _, Nat.zero_le _, Nat.zero_le _, strs_nil _, list_nilM _, list_nilM _, list_nilM _, list_nilM _, ints_nil _⟩, nilM _, rfl⟩
    · exact ⟨(fun sb so e => by cases e), has_nil, has_nil, (fun sb so e => by cases e), has_nil, has_nil, (fun sb so e => by cases e)⟩
    · intro h9
      rw [HMS.out] at h9
      have h8 := nx_over h9
      have h7 := nx_over h8
      rw [HPM.out, HK0.out, ← rog h9, ← ttg h8, ← frg h7]
      rfl
  clear hM4 dk
  obtain ⟨x, hM, hA, hH, hC⟩ := hX.out.out
  clear hX
  go_wp2_with fail
  refine (over_sc S bs _ _ V4 hM.sc).mono ?_
  rintro e w1 ⟨he, hb1⟩
  subst he
  dsimp only
  have hB := hM.belowW hb1
  have hA1 := hA.below hb1
  have HH : Hid (HasM (fun q => M < q) x) := hH
  have l1 := hB.l1
  have l2 := hB.l2
  have lM : M < w1.heap.size := lt_of_heap hB.box
  clear hM hA hH hb1
  obtain ⟨ba, bc, a, qS, hbS, hneS, haN, h5, h6⟩ := hB.sc.out
  generalize mS (bs, false) = ms at *
  obtain ⟨ml, msh⟩ := ms
  dsimp only at *
  cases msh with
  | true =>
    have hF : Hid (readF bs = 5) := by show _ = _; rw [HRF.out, if_pos rfl]
    clear h5 h6 hC
    go_wp2_with (refine wpList_store_row rfl 35 _ _ rfl w.heap.size #[.int .i64 0, .int .i64 0, .int .i64 0, .int .i64 0, .int .i64 0, .slice none 0 0, .int .i64 0, .int .i64 0, .slice none 0 0, .slice none 0 0, .int .i64 0, .int .i64 0, .slice none 0 0, .int .i64 0, .int .i64 0, .slice none 0 0, .slice none 0 0, .slice none 0 0, .int .i64 0] rfl rfl 35 _ hB.res sMsg' rfl (by simp [Value.oneCell']) ?_)
    have hFc := hF.out
    refine bodyPost_ret (v := .tuple #[.agg #[.int .i64 0, .int .i64 0, .int .i64 0, .int .i64 0, .int .i64 0, .slice none 0 0, .int .i64 0, .int .i64 0, .slice none 0 0, .slice none 0 0, .int .i64 0, .int .i64 0, .slice none 0 0, .int .i64 0, .int .i64 0, .slice none 0 0, .slice none 0 0, .slice none 0 0, .int .i64 0], .int .i64 5]) (results_cell_slot (fn := Try.f7) (p := 2) (q := 3) (ty := 35) rfl _ _ w.heap.size 35 _ (0, 0) _ (.int .i64 5) ⟨rfl, rfl⟩ (setRow_heap _ _ _ _ _ _ hB.res) Try.underlying35 rfl sMsg') rfl ⟨.inl ⟨by rw [hFc]; decide, by rw [hFc]⟩, (Upd.setRow hB.res).below hB.below hB.below.size (Nat.le_refl _)⟩
  | false =>
    obtain ⟨h51, h52⟩ := h5 rfl
    have HCX : Hid (x.c = pM (bs, false)) := hC rfl
    clear h5 h6 hC
    have s1 : w1.cell? ⟨S, 1, none⟩ = some (.int .i64 (a : Int)) := cells_at qS 1 _ rfl
    by_cases hml : a = bs.length
    · have hF : Hid (readF bs = 0) := by
        show _ = _
        rw [HRF.out, if_neg (by decide), if_neg (fun h => h (by rw [h52, hml]; simp))]
      have haI : ¬ (a : Int) < bs.length := by omega
      clear hml h51 h52 HRF
      have hB2 : Below w1.heap.size w1 w1.drew := (Below.refl _ _).drew
      go_upto_region 43 with fail
      have HF9 := messageFault_any x.m x.ss x.bl x.pl x.cbl x.cpl x.vl w1 hA1.at'
      go_wp2_with (refine wpList_load_row rfl 35 _ rfl M rfl 35 #[.int .i64 x.m.fr, .int .i64 x.m.tt, .int .i64 x.m.ki, .int .i64 x.m.bau, .int .i64 x.m.bnu, .slice x.m.bta x.m.btn x.m.btc, .int .i64 x.m.hau, .int .i64 x.m.hrd, .slice x.m.hba x.m.hbn x.m.hbc, .slice x.m.hpa x.m.hpn x.m.hpc, .int .i64 x.m.sau, .int .i64 x.m.srd, .slice x.m.sda x.m.sdn x.m.sdc, .int .i64 x.m.cau, .int .i64 x.m.crd, .slice x.m.cba x.m.cbn x.m.cbc, .slice x.m.cpa x.m.cpn x.m.cpc, .slice x.m.cva x.m.cvn x.m.cvc, .int .i64 x.m.ro] (0, 0) _ hB.box Try.underlying35 rfl sMsg' ?_)
      refine HF9.mono ?_
      rintro e w2 ⟨he, hb2⟩
      subst he
      dsimp only
      clear HF9 s1
      have hD := hB.belowW hb2
      have hA2 : Hid (MAt w2 x) := hA1.below hb2
      have HCR : Hid (carriedF x.m x.ss x.bl x.pl x.cbl x.cpl x.vl = x.car) := rfl
      generalize hCk : checkF x.m (carriedF x.m x.ss x.bl x.pl x.cbl x.cpl x.vl) = C at *
      have HCK : Hid (checkF x.m x.car = C) := hCk
      clear hCk
      by_cases hc0 : C = 0
      · subst hc0
        go_wp2_with (first | refine wpList_load_row rfl 35 _ rfl M rfl 35 #[.int .i64 x.m.fr, .int .i64 x.m.tt, .int .i64 x.m.ki, .int .i64 x.m.bau, .int .i64 x.m.bnu, .slice x.m.bta x.m.btn x.m.btc, .int .i64 x.m.hau, .int .i64 x.m.hrd, .slice x.m.hba x.m.hbn x.m.hbc, .slice x.m.hpa x.m.hpn x.m.hpc, .int .i64 x.m.sau, .int .i64 x.m.srd, .slice x.m.sda x.m.sdn x.m.sdc, .int .i64 x.m.cau, .int .i64 x.m.crd, .slice x.m.cba x.m.cbn x.m.cbc, .slice x.m.cpa x.m.cpn x.m.cpc, .slice x.m.cva x.m.cvn x.m.cvc, .int .i64 x.m.ro] (0, 0) _ hD.box Try.underlying35 rfl sMsg' ?_ | refine wpList_store_row rfl 35 _ _ rfl w.heap.size #[.int .i64 x.m.fr, .int .i64 x.m.tt, .int .i64 x.m.ki, .int .i64 x.m.bau, .int .i64 x.m.bnu, .slice x.m.bta x.m.btn x.m.btc, .int .i64 x.m.hau, .int .i64 x.m.hrd, .slice x.m.hba x.m.hbn x.m.hbc, .slice x.m.hpa x.m.hpn x.m.hpc, .int .i64 x.m.sau, .int .i64 x.m.srd, .slice x.m.sda x.m.sdn x.m.sdc, .int .i64 x.m.cau, .int .i64 x.m.crd, .slice x.m.cba x.m.cbn x.m.cbc, .slice x.m.cpa x.m.cpn x.m.cpc, .slice x.m.cva x.m.cvn x.m.cvc, .int .i64 x.m.ro] rfl rfl 35 _ hD.res sMsg' rfl (by simp [Value.oneCell']) ?_)
        refine bodyPost_ret (v := .tuple #[.agg #[.int .i64 x.m.fr, .int .i64 x.m.tt, .int .i64 x.m.ki, .int .i64 x.m.bau, .int .i64 x.m.bnu, .slice x.m.bta x.m.btn x.m.btc, .int .i64 x.m.hau, .int .i64 x.m.hrd, .slice x.m.hba x.m.hbn x.m.hbc, .slice x.m.hpa x.m.hpn x.m.hpc, .int .i64 x.m.sau, .int .i64 x.m.srd, .slice x.m.sda x.m.sdn x.m.sdc, .int .i64 x.m.cau, .int .i64 x.m.crd, .slice x.m.cba x.m.cbn x.m.cbc, .slice x.m.cpa x.m.cpn x.m.cpc, .slice x.m.cva x.m.cvn x.m.cvc, .int .i64 x.m.ro], .int .i64 0]) (results_cell_slot (fn := Try.f7) (p := 2) (q := 3) (ty := 35) rfl _ _ w.heap.size 35 _ (0, 0) _ (.int .i64 0) ⟨rfl, rfl⟩ (setRow_heap _ _ _ _ _ _ hD.res) Try.underlying35 rfl sMsg') rfl ⟨.inr ⟨hF.out, x, HCX.out, ?_, HH.out.mono (fun q hq => by omega), .inl ⟨HCK.out, rfl⟩⟩, (Upd.setRow hD.res).below hD.below hD.below.size (Nat.le_refl _)⟩
        exact hA2.out.setRow (B := M + 1) (HH.out.mono (fun q hq => by omega)) (by omega)
      · have hcn : (C != 0) = true := by simpa using hc0
        have HC0 : Hid (C ≠ 0) := hc0
        go_wp2_with (refine wpList_store_row rfl 35 _ _ rfl w.heap.size #[.int .i64 0, .int .i64 0, .int .i64 0, .int .i64 0, .int .i64 0, .slice none 0 0, .int .i64 0, .int .i64 0, .slice none 0 0, .slice none 0 0, .int .i64 0, .int .i64 0, .slice none 0 0, .int .i64 0, .int .i64 0, .slice none 0 0, .slice none 0 0, .slice none 0 0, .int .i64 0] rfl rfl 35 _ hD.res sMsg' rfl (by simp [Value.oneCell']) ?_)
        refine bodyPost_ret (v := .tuple #[.agg #[.int .i64 0, .int .i64 0, .int .i64 0, .int .i64 0, .int .i64 0, .slice none 0 0, .int .i64 0, .int .i64 0, .slice none 0 0, .slice none 0 0, .int .i64 0, .int .i64 0, .slice none 0 0, .int .i64 0, .int .i64 0, .slice none 0 0, .slice none 0 0, .slice none 0 0, .int .i64 0], .int .i64 C]) (results_cell_slot (fn := Try.f7) (p := 2) (q := 3) (ty := 35) rfl _ _ w.heap.size 35 _ (0, 0) _ (.int .i64 C) ⟨rfl, rfl⟩ (setRow_heap _ _ _ _ _ _ hD.res) Try.underlying35 rfl sMsg') rfl ⟨.inr ⟨hF.out, x, HCX.out, ?_, HH.out.mono (fun q hq => by omega), .inr ⟨by rw [HCK.out]; exact HC0.out, by rw [HCK.out]⟩⟩, (Upd.setRow hD.res).below hD.below hD.below.size (Nat.le_refl _)⟩
        exact hA2.out.setRow (B := M + 1) (HH.out.mono (fun q hq => by omega)) (by omega)
    · have hF : Hid (readF bs = 4) := by
        show _ = _
        rw [HRF.out, if_neg (by decide), if_pos (fun h => hml (by rw [h52, List.drop_eq_nil_iff] at h; omega))]
      have haI : (a : Int) < bs.length := by omega
      clear hml h51 h52 HRF
      go_wp2_with (refine wpList_store_row rfl 35 _ _ rfl w.heap.size #[.int .i64 0, .int .i64 0, .int .i64 0, .int .i64 0, .int .i64 0, .slice none 0 0, .int .i64 0, .int .i64 0, .slice none 0 0, .slice none 0 0, .int .i64 0, .int .i64 0, .slice none 0 0, .int .i64 0, .int .i64 0, .slice none 0 0, .slice none 0 0, .slice none 0 0, .int .i64 0] rfl rfl 35 _ hB.res sMsg' rfl (by simp [Value.oneCell']) ?_)
      have hFc := hF.out
      refine bodyPost_ret (v := .tuple #[.agg #[.int .i64 0, .int .i64 0, .int .i64 0, .int .i64 0, .int .i64 0, .slice none 0 0, .int .i64 0, .int .i64 0, .slice none 0 0, .slice none 0 0, .int .i64 0, .int .i64 0, .slice none 0 0, .int .i64 0, .int .i64 0, .slice none 0 0, .slice none 0 0, .slice none 0 0, .int .i64 0], .int .i64 4]) (results_cell_slot (fn := Try.f7) (p := 2) (q := 3) (ty := 35) rfl _ _ w.heap.size 35 _ (0, 0) _ (.int .i64 4) ⟨rfl, rfl⟩ (setRow_heap _ _ _ _ _ _ hB.res) Try.underlying35 rfl sMsg') rfl ⟨.inl ⟨by rw [hFc]; decide, by rw [hFc]⟩, (Upd.setRow hB.res).below hB.below hB.below.size (Nat.le_refl _)⟩
end Go.Proofs.Ythlknldicpeobaa

namespace Go.Proofs.Ythlknldicpeobaa
open Go.RowKit

set_option maxRecDepth 100000 in
theorem bsAt_c {ps qs : List Part} (h : Same ps qs) (k : Nat) : (partAt ps k).bs = (partAt qs k).bs := by
  have hk : (ps.map (·.bs))[k]? = (qs.map (·.bs))[k]? := by rw [h]
  simp only [List.getElem?_map] at hk
  simp only [partAt, List.getD]
  cases h1 : ps[k]? <;> cases h2 : qs[k]? <;> simp_all
set_option maxRecDepth 100000 in
theorem digTo1_c {ps qs : List Part} (h : Same ps qs) (k : Nat) : digTo1 ps k = digTo1 qs k := by
  induction k with
  | zero => rfl
  | succ k ih =>
    have e1 : digAt ps k = digAt qs k := by
      have e2 : twice ps k = twice qs k := by
        simp only [twice, bsAt_c h]
      rw [digAt, digAt, e2, bsAt_c h k]
    rw [digTo1, digTo1, ih, e1]
set_option maxRecDepth 100000 in
theorem digF_c {ps qs : List Part} (h : Same ps qs) : digF ps = digF qs := by
  rw [digF, digF, h.length, digTo1_c h]
set_option maxRecDepth 100000 in
theorem headerF_c {au rd : Int} {bl pl bl' pl' : List Part} (h1 : Same bl bl') (h2 : Same pl pl') : headerF au rd bl pl = headerF au rd bl' pl' := by
  rw [headerF, headerF, digF_c h1, digF_c h2, h1.length, h2.length]
set_option maxRecDepth 100000 in
theorem certF_c {au rd : Int} {bl pl bl' pl' : List Part} {vl : List Int} (h1 : Same bl bl') (h2 : Same pl pl') : certF au rd bl pl vl = certF au rd bl' pl' vl := by
  rw [certF, certF, headerF_c h1 h2]
set_option maxRecDepth 100000 in
set_option maxHeartbeats 1000000 in
/-- What is told of a message hangs on what it says. -/
theorem check_c {w w' : World} {x y : MV} (hx : MAt w x) (hy : MAt w' y) (h : y.c = x.c) : checkF y.m y.car = checkF x.m x.car := by
  simp only [MV.c, MC.mk.injEq] at h
  obtain ⟨e1, e2, e3, e4, e5, e6, e7, e8, e9, e10, e11, e12, e13, e14, e15, e16, e17, e18, e19⟩ := h
  have n1 : y.m.btn = x.m.btn := by rw [hy.at'.e1, hx.at'.e1, e6]
  have n2 : y.m.hbn = x.m.hbn := by rw [hy.at'.e2, hx.at'.e2]; exact Same.length e9
  have n3 : y.m.hpn = x.m.hpn := by rw [hy.at'.e3, hx.at'.e3]; exact Same.length e10
  have n4 : y.m.cbn = x.m.cbn := by rw [hy.at'.e4, hx.at'.e4]; exact Same.length e16
  have n5 : y.m.cpn = x.m.cpn := by rw [hy.at'.e5, hx.at'.e5]; exact Same.length e17
  have n6 : y.m.cvn = x.m.cvn := by rw [hy.at'.e6, hx.at'.e6, e18]
  have n7 : y.m.sdn = x.m.sdn := by rw [hy.dn, hx.dn, e13]
  have hH : headerF y.m.hau y.m.hrd y.bl y.pl = headerF x.m.hau x.m.hrd x.bl x.pl := by rw [e7, e8]; exact headerF_c e9 e10
  have hK : certF y.m.cau y.m.crd y.cbl y.cpl y.vl = certF x.m.cau x.m.crd x.cbl x.cpl x.vl := by rw [e14, e15, e18]; exact certF_c e16 e17
  have c1 : y.car = x.car := by
    show carriedF y.m y.ss y.bl y.pl y.cbl y.cpl y.vl = carriedF x.m x.ss x.bl x.pl x.cbl x.cpl x.vl
    rw [carriedF, carriedF, hH, hK, e3, e4, e5, e6, e11, e12, n7, e19]
  have hm : msgEmpty (strip y.m) = msgEmpty (strip x.m) := by
    rw [strip, strip, e3]
    by_cases k1 : x.m.ki = 1
    · rw [if_pos k1, if_pos k1]
      simp only [msgEmpty, e7, e8, e11, e12, e14, e15, e19, n2, n3, n4, n5, n6, n7]
    · rw [if_neg k1, if_neg k1]
      by_cases k2 : x.m.ki = 2
      · rw [if_pos k2, if_pos k2]
        simp only [msgEmpty, e4, e5, e11, e12, e14, e15, e19, n1, n4, n5, n6, n7]
      · rw [if_neg k2, if_neg k2]
        by_cases k3 : x.m.ki = 3
        · rw [if_pos k3, if_pos k3]
          simp only [msgEmpty, e4, e5, e7, e8, e14, e15, e19, n1, n2, n3, n4, n5, n6]
        · rw [if_neg k3, if_neg k3]
          by_cases k4 : x.m.ki = 4
          · rw [if_pos k4, if_pos k4]
            simp only [msgEmpty, e4, e5, e7, e8, e11, e12, e19, n1, n2, n3, n7]
          · rw [if_neg k4, if_neg k4]
            simp only [msgEmpty, e4, e5, e7, e8, e11, e12, e14, e15, n1, n2, n3, n4, n5, n6, n7]
  rw [checkF, checkF, e1, e2, c1, hm]
end Go.Proofs.Ythlknldicpeobaa

namespace Go.Proofs.Ythlknldicpeobaa
open Go.RowKit

set_option maxRecDepth 100000 in
set_option maxHeartbeats 1000000 in
theorem sameTextsL_eq (xs : List ByteArray) (sa sb : Option Addr) (n m c d : Nat) (w : World) (hn : n = xs.length) (hm : m = xs.length) (hl : n ≤ maxLen) (ha : StrsAt w sa xs) (hb : StrsAt w sb xs) :
    Calls Try.prog 44 #[.slice sa n c, .slice sb m d] w fun e w' => e = .returned (.bool true) ∧ Below w.heap.size w w' := by
  subst hn hm
  unfold maxLen at hl
  go_enter Try.func44, Try.ntmps44
  go_wp2_with fail
  go_loopw [5] (fun j wr => ∃ k : Nat, k ≤ xs.length ∧ j = .int .i64 k ∧ Below w.heap.size w wr) (fun j _ => xs.length - (intOf j).toNat)
  case atStart => exact ⟨0, Nat.zero_le _, rfl, Below.refl _ _⟩
  case round =>
    obtain ⟨k, hk, rfl, hbw⟩ := hrel
    by_cases hlt : k < xs.length
    · obtain ⟨ab, ao, rfl, hca⟩ : ∃ ab ao, sa = some ⟨ab, ao, none⟩ ∧ ∀ j, j < xs.length → w.cell? ⟨ab, ao + j, none⟩ = some (.string (xs.getD j ByteArray.empty)) := by
        rcases ha.cells with h | h
        · rw [h] at hlt; simp at hlt
        · exact h
      obtain ⟨bb, bo, rfl, hcb⟩ : ∃ bb bo, sb = some ⟨bb, bo, none⟩ ∧ ∀ j, j < xs.length → w.cell? ⟨bb, bo + j, none⟩ = some (.string (xs.getD j ByteArray.empty)) := by
        rcases hb.cells with h | h
        · rw [h] at hlt; simp at hlt
        · exact h
      have ka := (hbw.cell (p := ⟨ab, ao + k, none⟩) (block_lt_of_cell (hca k hlt))).trans (hca k hlt)
      have kb := (hbw.cell (p := ⟨bb, bo + k, none⟩) (block_lt_of_cell (hcb k hlt))).trans (hcb k hlt)
      have hltI : (k : Int) < xs.length := by omega
      have h0 : (0 : Int) ≤ k := by omega
      clear hca hcb
      generalize xs.getD k ByteArray.empty = x at *
      go_wp2_with fail
      go_region_held3 (fun w' => w'.cell? ⟨ab, ao + k, none⟩ = some (.string x) ∧ w'.cell? ⟨bb, bo + k, none⟩ = some (.string x)) (go_keep) (fail)
      all_goals
        go_wp2_with fail
        go_roundw
        case rel =>
          have hR : ∃ k' : Nat, k' ≤ xs.length ∧ (Value.int .i64 ((k : Int) + 1)) = .int .i64 k' ∧ Below w.heap.size w wr.drew := ⟨k + 1, by omega, by go_num, hbw.drew⟩
          first | exact hR | ((repeat apply Exists.intro); exact ⟨hR, rfl⟩)
        case measure => simp [intOf]; omega
    · obtain rfl : k = xs.length := by omega
      have hltI : ¬ (xs.length : Int) < xs.length := by omega
      go_wp2_with fail
      go_ret
      exact ⟨rfl, hbw⟩
set_option maxRecDepth 100000 in
set_option maxHeartbeats 400000 in
theorem sameBatchL_eq (au nu : Int) (xs : List ByteArray) (sa sb : Option Addr) (n m c d : Nat) (w : World) (hn : n = xs.length) (hm : m = xs.length) (hl : n ≤ maxLen) (ha : StrsAt w sa xs) (hb : StrsAt w sb xs) :
    Calls Try.prog 22 #[.agg #[.int .i64 au, .int .i64 nu, .slice sa n c], .agg #[.int .i64 au, .int .i64 nu, .slice sb m d]] w fun e w' => e = .returned (.bool true) ∧ Below w.heap.size w w' := by
  have hA : Below w.heap.size w ((w.alloc (.cells #[.int .i64 au, .int .i64 nu, .slice sa n c] 25)).alloc (.cells #[.int .i64 au, .int .i64 nu, .slice sb m d] 25)) := ((Below.refl _ _).alloc (Nat.le_refl _) _).alloc (by simp) _
  have hT := sameTextsL_eq xs sa sb n m c d _ hn hm hl (ha.below hA) (hb.below hA)
  clear hn hm hl
  go_enter Try.func22, Try.ntmps22
  go_wp2_with fail
  refine hT.mono ?_
  rintro e w1 ⟨he, hb1⟩
  subst he
  dsimp only
  go_wp2_with fail
  go_ret
  exact ⟨rfl, below_alloc (below_alloc hb1)⟩
end Go.Proofs.Ythlknldicpeobaa

namespace Go.Proofs.Ythlknldicpeobaa
open Go.RowKit

set_option maxRecDepth 100000 in
set_option maxHeartbeats 1000000 in
theorem sameListsL_eq (ps qs : List Part) (sa sb : Option Addr) (c d : Nat) (w : World) (hS : Same ps qs) (ha : ListAt w sa c ps) (hb : ListAt w sb d qs) :
    Calls Try.prog 45 #[.slice sa qs.length c, .slice sb qs.length d] w fun e w' => e = .returned (.bool true) ∧ Below w.heap.size w w' := by
  have hl := hS.length
  have hF : Hid (ps.length = qs.length) := hl
  have HS : Hid _ := hS
  have hsm := hb.small
  clear hl hS
  go_enter Try.func45, Try.ntmps45
  go_wp2_with fail
  go_loopw [5] (fun j wr => ∃ k : Nat, k ≤ qs.length ∧ j = .int .i64 k ∧ Below w.heap.size w wr) (fun j _ => qs.length - (intOf j).toNat)
  case atStart => exact ⟨0, Nat.zero_le _, rfl, Below.refl _ _⟩
  case round =>
    obtain ⟨k, hk, rfl, hbw⟩ := hrel
    by_cases hlt2 : k < qs.length
    · have hlt : k < ps.length := by have := hF.out; omega
      obtain ⟨ab, ao, rfl, hca⟩ : ∃ ab ao, sa = some ⟨ab, ao, none⟩ ∧ ∀ j (h : j < ps.length), w.cell? ⟨ab, ao + j, none⟩ = some (.slice (ps[j]).sa (ps[j]).bs.length (ps[j]).cap) := by
        rcases ha.parts.cells with h | h
        · subst h; simp at hlt
        · exact h
      obtain ⟨bb, bo, rfl, hcb⟩ : ∃ bb bo, sb = some ⟨bb, bo, none⟩ ∧ ∀ j (h : j < qs.length), w.cell? ⟨bb, bo + j, none⟩ = some (.slice (qs[j]).sa (qs[j]).bs.length (qs[j]).cap) := by
        rcases hb.parts.cells with h | h
        · subst h; simp at hlt2
        · exact h
      have ka := (hbw.cell (p := ⟨ab, ao + k, none⟩) (block_lt_of_cell (hca k hlt))).trans (hca k hlt)
      have kb := (hbw.cell (p := ⟨bb, bo + k, none⟩) (block_lt_of_cell (hcb k hlt2))).trans (hcb k hlt2)
      have hpa := ((ha.parts.each ps[k] (List.getElem_mem hlt)).below hbw).below (Below.refl _ _).drew
      have hpb := ((hb.parts.each qs[k] (List.getElem_mem hlt2)).below hbw).below (Below.refl _ _).drew
      have hpq : (ps[k]).bs = (qs[k]).bs := by
        have h1 : (ps.map (·.bs))[k]? = (qs.map (·.bs))[k]? := by rw [show ps.map (·.bs) = qs.map (·.bs) from HS.out]
        simpa [hlt, hlt2] using h1
      have hltI : (k : Int) < qs.length := by omega
      have h0 : (0 : Int) ≤ k := by omega
      clear hca hcb
      generalize ps[k] = p at *
      generalize qs[k] = q at *
      obtain ⟨pa, pc, pb⟩ := p
      obtain ⟨qa, qc, qb⟩ := q
      simp only at hpq ka kb hpa hpb
      subst hpq
      have t1 := run_text wr.drew pa pb.length pc pb rfl hpa
      have t2 := run_text wr.drew qa pb.length qc pb rfl hpb
      generalize bstr pb = S at *
      go_wp2_with fail
      go_region
      all_goals
        go_wp2_with fail
        go_roundw
        case rel =>
          have hR : ∃ k' : Nat, k' ≤ qs.length ∧ (Value.int .i64 ((k : Int) + 1)) = .int .i64 k' ∧ Below w.heap.size w wr.drew := ⟨k + 1, by omega, by go_num, hbw.drew⟩
          first | exact hR | ((repeat apply Exists.intro); exact ⟨hR, rfl⟩)
        case measure => simp [intOf]; omega
    · obtain rfl : k = qs.length := by omega
      have hltI : ¬ (qs.length : Int) < qs.length := by omega
      go_wp2_with fail
      go_ret
      exact ⟨rfl, hbw⟩
set_option maxRecDepth 100000 in
set_option maxHeartbeats 1000000 in
theorem sameHeaderL_eq (au rd : Int) (xa : Option Addr) (xc : Nat) (xl : List Part) (ya : Option Addr) (yc : Nat) (yl : List Part) (ba : Option Addr) (bc : Nat) (bl : List Part) (pa : Option Addr) (pc : Nat) (pl : List Part) (w : World) (s1 : Same xl bl) (s2 : Same yl pl) (h1 : ListAt w xa xc xl) (h2 : ListAt w ya yc yl) (h3 : ListAt w ba bc bl) (h4 : ListAt w pa pc pl) :
    Calls Try.prog 23 #[.agg #[.int .i64 au, .int .i64 rd, .slice xa bl.length xc, .slice ya pl.length yc], .agg #[.int .i64 au, .int .i64 rd, .slice ba bl.length bc, .slice pa pl.length pc]] w fun e w' => e = .returned (.bool true) ∧ Below w.heap.size w w' := by
  have hA : Below w.heap.size w ((w.alloc (.cells #[.int .i64 au, .int .i64 rd, .slice xa bl.length xc, .slice ya pl.length yc] 28)).alloc (.cells #[.int .i64 au, .int .i64 rd, .slice ba bl.length bc, .slice pa pl.length pc] 28)) := ((Below.refl _ _).alloc (Nat.le_refl _) _).alloc (by simp) _
  have hB : ∀ wx, Below w.heap.size w wx → _ := fun wx h => sameListsL_eq xl bl xa ba xc bc wx s1 (h1.below h) (h3.below h)
  have hP : ∀ wx, Below w.heap.size w wx → _ := fun wx h => sameListsL_eq yl pl ya pa yc pc wx s2 (h2.below h) (h4.below h)
  have HB : Hid _ := hB
  have HP : Hid _ := hP
  clear hB hP h1 h2 h3 h4 s1 s2
  go_enter Try.func23, Try.ntmps23
  go_wp2_with fail
  refine (HB.out _ hA).mono ?_
  rintro e w1 ⟨rfl, hb1⟩
  have r1 := row_new hb1
  have r0 := row_new (below_alloc hb1)
  rw [size_alloc] at r1
  replace hb1 := below_alloc (below_alloc hb1)
  have c3 : w1.cell? ⟨w.heap.size, 3, none⟩ = some (.slice ya pl.length yc) := cells_at r0 3 _ rfl
  have d3 : w1.cell? ⟨w.heap.size + 1, 3, none⟩ = some (.slice pa pl.length pc) := cells_at r1 3 _ rfl
  go_wp2_with fail
  refine (HP.out _ hb1).mono ?_
  rintro e w2 ⟨rfl, hb2⟩
  go_wp2_with fail
  go_ret
  exact ⟨rfl, hb1.trans (hb2.mono hb1.size)⟩
end Go.Proofs.Ythlknldicpeobaa

namespace Go.Proofs.Ythlknldicpeobaa
open Go.RowKit

set_option maxRecDepth 100000 in
set_option maxHeartbeats 1000000 in
theorem sameIntsL_eq (vl : List Int) (sa sb : Option Addr) (c d : Nat) (w : World) (hl : vl.length ≤ 9000000000000000000) (ha : IntsAt w sa vl) (hb : IntsAt w sb vl) :
    Calls Try.prog 46 #[.slice sa vl.length c, .slice sb vl.length d] w fun e w' => e = .returned (.bool true) ∧ Below w.heap.size w w' := by
  go_enter Try.func46, Try.ntmps46
  go_wp2_with fail
  go_loopw [5] (fun j wr => ∃ k : Nat, k ≤ vl.length ∧ j = .int .i64 k ∧ Below w.heap.size w wr) (fun j _ => vl.length - (intOf j).toNat)
  case atStart => exact ⟨0, Nat.zero_le _, rfl, Below.refl _ _⟩
  case round =>
    obtain ⟨k, hk, rfl, hbw⟩ := hrel
    by_cases hlt2 : k < vl.length
    · obtain ⟨ab, ao, rfl, hca⟩ : ∃ ab ao, sa = some ⟨ab, ao, none⟩ ∧ ∀ j, j < vl.length → wr.cell? ⟨ab, ao + j, none⟩ = some (.int .i64 (vl.getD j 0)) := by
        rcases (ha.below hbw).cells with h | h
        · subst h; simp at hlt2
        · exact h
      obtain ⟨bb, bo, rfl, hcb⟩ : ∃ bb bo, sb = some ⟨bb, bo, none⟩ ∧ ∀ j, j < vl.length → wr.cell? ⟨bb, bo + j, none⟩ = some (.int .i64 (vl.getD j 0)) := by
        rcases (hb.below hbw).cells with h | h
        · subst h; simp at hlt2
        · exact h
      have ka := hca k hlt2
      have kb := hcb k hlt2
      have hltI : (k : Int) < vl.length := by omega
      have h0 : (0 : Int) ≤ k := by omega
      clear hca hcb
      generalize vl.getD k 0 = x at *
      go_wp2_with fail
      go_region
      all_goals
        go_wp2_with fail
        go_roundw
        case rel =>
          have hR : ∃ k' : Nat, k' ≤ vl.length ∧ (Value.int .i64 ((k : Int) + 1)) = .int .i64 k' ∧ Below w.heap.size w wr.drew := ⟨k + 1, by omega, by go_num, hbw.drew⟩
          first | exact hR | ((repeat apply Exists.intro); exact ⟨hR, rfl⟩)
        case measure => simp [intOf]; omega
    · obtain rfl : k = vl.length := by omega
      have hltI : ¬ (vl.length : Int) < vl.length := by omega
      go_wp2_with fail
      go_ret
      exact ⟨rfl, hbw⟩
set_option maxRecDepth 100000 in
set_option maxHeartbeats 1000000 in
theorem sameCertR_eq (au rd : Int) (xa : Option Addr) (xc : Nat) (xl : List Part) (ya : Option Addr) (yc : Nat) (yl : List Part) (za : Option Addr) (zc : Nat) (zl : List Int) (ba : Option Addr) (bc : Nat) (bl : List Part) (pa : Option Addr) (pc : Nat) (pl : List Part) (va : Option Addr) (vc : Nat) (w : World) (S1 : Same xl bl) (S2 : Same yl pl) (hl : zl.length ≤ 9000000000000000000) (a1 : ListAt w xa xc xl) (a2 : ListAt w ya yc yl) (a3 : IntsAt w za zl) (b1 : ListAt w ba bc bl) (b2 : ListAt w pa pc pl) (b3 : IntsAt w va zl) :
    Calls Try.prog 25 #[.agg #[.int .i64 au, .int .i64 rd, .slice xa xl.length xc, .slice ya yl.length yc, .slice za zl.length zc], .agg #[.int .i64 au, .int .i64 rd, .slice ba bl.length bc, .slice pa pl.length pc, .slice va zl.length vc]] w fun e w' => e = .returned (.bool true) ∧ Below w.heap.size w w' := by
  rw [S1.length, S2.length]
  have hA : Below w.heap.size w ((w.alloc (.cells #[.int .i64 au, .int .i64 rd, .slice xa bl.length xc, .slice ya pl.length yc, .slice za zl.length zc] 33)).alloc (.cells #[.int .i64 au, .int .i64 rd, .slice ba bl.length bc, .slice pa pl.length pc, .slice va zl.length vc] 33)) := ((Below.refl _ _).alloc (Nat.le_refl _) _).alloc (by rw [size_alloc]; omega) _
  have q0 := heap_alloc2_old w (.cells #[.int .i64 au, .int .i64 rd, .slice xa bl.length xc, .slice ya pl.length yc, .slice za zl.length zc] 33) (.cells #[.int .i64 au, .int .i64 rd, .slice ba bl.length bc, .slice pa pl.length pc, .slice va zl.length vc] 33)
  have q1 : ((w.alloc (.cells #[.int .i64 au, .int .i64 rd, .slice xa bl.length xc, .slice ya pl.length yc, .slice za zl.length zc] 33)).alloc (.cells #[.int .i64 au, .int .i64 rd, .slice ba bl.length bc, .slice pa pl.length pc, .slice va zl.length vc] 33)).heap[w.heap.size + 1]? = some (.cells #[.int .i64 au, .int .i64 rd, .slice ba bl.length bc, .slice pa pl.length pc, .slice va zl.length vc] 33 (0, 0)) := by
    have := heap_alloc_new (w.alloc (.cells #[.int .i64 au, .int .i64 rd, .slice xa bl.length xc, .slice ya pl.length yc, .slice za zl.length zc] 33)) (.cells #[.int .i64 au, .int .i64 rd, .slice ba bl.length bc, .slice pa pl.length pc, .slice va zl.length vc] 33)
    rw [size_alloc] at this; exact this
  have HS1 : Hid _ := S1
  have HS2 : Hid _ := S2
  clear S1 S2
  go_enter Try.func25, Try.ntmps25
  go_wp2_with fail
  generalize (w.alloc (.cells #[.int .i64 au, .int .i64 rd, .slice xa bl.length xc, .slice ya pl.length yc, .slice za zl.length zc] 33)).alloc (.cells #[.int .i64 au, .int .i64 rd, .slice ba bl.length bc, .slice pa pl.length pc, .slice va zl.length vc] 33) = W0 at hA q0 q1 ⊢
  refine (sameHeaderL_eq au rd xa xc xl ya yc yl ba bc bl pa pc pl W0 HS1.out HS2.out (a1.below hA) (a2.below hA) (b1.below hA) (b2.below hA)).mono ?_
  rintro e w1 ⟨he, hb1⟩
  subst he
  dsimp only
  have r0 := (hb1.block _ (lt_of_heap q0)).trans q0
  have r1 := (hb1.block _ (lt_of_heap q1)).trans q1
  have k4 := cells_at r0 4 _ rfl
  have m4 := cells_at r1 4 _ rfl
  have hB1 := hA.trans (hb1.mono hA.size)
  go_wp2_with fail
  refine (sameIntsL_eq zl za va zc vc w1 hl (a3.below hB1) (b3.below hB1)).mono ?_
  rintro e w2 ⟨he, hb2⟩
  subst he
  dsimp only
  go_wp2_with fail
  go_ret
  exact ⟨rfl, hB1.trans (hb2.mono hB1.size)⟩
end Go.Proofs.Ythlknldicpeobaa

namespace Go.Proofs.Ythlknldicpeobaa
open Go.RowKit

set_option maxRecDepth 100000 in
set_option maxHeartbeats 1000000 in
theorem sameSlotL_eq (au rd : Int) (bs : List Int) (sa sb : Option Addr) (n m c d : Nat) (w : World) (hn : n = bs.length) (hm : m = bs.length) (ha : SliceAt w sa c bs) (hb : SliceAt w sb d bs) :
    Calls Try.prog 24 #[.agg #[.int .i64 au, .int .i64 rd, .slice sa n c], .agg #[.int .i64 au, .int .i64 rd, .slice sb m d]] w fun e w' => e = .returned (.bool true) ∧ Below w.heap.size w w' := by
  have hA : Below w.heap.size w ((w.alloc (.cells #[.int .i64 au, .int .i64 rd, .slice sa n c] 30)).alloc (.cells #[.int .i64 au, .int .i64 rd, .slice sb m d] 30)) := ((Below.refl _ _).alloc (Nat.le_refl _) _).alloc (by simp) _
  have h1 := run_text _ sa n c bs hn (ha.below hA)
  have h2 := run_text _ sb m d bs hm (hb.below hA)
  clear hn hm ha hb
  generalize bstr bs = A at *
  go_enter Try.func24, Try.ntmps24
  go_wp2_with fail
  go_ret
  exact ⟨by first | rfl | simp, hA⟩
end Go.Proofs.Ythlknldicpeobaa
