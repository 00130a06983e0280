/- The walk of SignOnce. -/
import Derived.Test.YtmpflkggbekpfaaGCell
import Derived.Test.YtmpflkggbekpfaaKAdd
import Derived.Test.YtmpflkggbekpfaaOpenN
import Derived.Test.YtmpflkggbekpfaaSameSK
import Derived.Test.YtmpflkggbekpfaaCallsG
import Derived.Deep.RegionHeld3
namespace Go.Proofs.Ytmpflkggbekpfaa
open Go.RowKit

set_option maxRecDepth 100000 in
theorem cells_of_heap {w : World} {b : Nat} {c : List Value} {e : TypeId} (h : w.heap[b]? = some (.cells c.toArray e (0, 0))) : ∀ j u, c[j]? = some u → w.cell? ((⟨b, 0, none⟩ : Addr).add j) = some u := by
  intro j u hu
  rw [add_off]
  refine cells_at h _ _ ?_
  simpa using hu
set_option maxRecDepth 100000 in
theorem signs_of_owns {w : World} {base n : Nat} {v : Value} {ls : List Sg} (h : w.ownsRow base 31 4 v n (gv ls)) (he : ∀ s ∈ ls, SliceAt w s.p.sa s.p.cap s.p.bs ∧ AllU8 s.p.bs) : ∃ ra rc, v = .slice ra n rc ∧ n = ls.length ∧ SignsAt w ra ls := by
  have hl : n = ls.length := by have := h.1; rw [gv_length] at this; omega
  rcases h.2 with ⟨rfl, hn⟩ | ⟨g, cap, cur, rfl, hr⟩
  · have hb : ls = [] := List.eq_nil_of_length_eq_zero (by omega)
    subst hn hb
    exact ⟨none, 0, rfl, rfl, ⟨.inl rfl, fun p hp => by cases hp⟩⟩
  · refine ⟨some ⟨g, 0, none⟩, cap, rfl, hl, ⟨.inr ⟨g, 0, rfl, fun j hj => ?_⟩, he⟩⟩
    have e : ∀ i, i < 4 → w.cell? ⟨g, j * 4 + i, none⟩ = (ls[j]).cs[i]? := fun i hi => by rw [World.ownsRow.cellAt h (j * 4 + i) (by omega), gv_get ls j i hj hi]
    have e0 := e 0 (by omega)
    have e1 := e 1 (by omega)
    have e2 := e 2 (by omega)
    have e3 := e 3 (by omega)
    clear e
    simp only [Nat.add_zero] at e0
    rw [Nat.zero_add]
    exact ⟨e0, e1, e2, e3⟩
set_option maxRecDepth 100000 in
set_option maxHeartbeats 4000000 in
theorem signOnce_walk (va : Option Addr) (vc : Nat) (vl : List Int) (n : Int) (w : World) (hv : NumsIn w va vc vl) (n0 : -9223372036854775808 ≤ n) (n1 : n ≤ 9223372036854775807) :
    Calls Try.prog 3 #[.slice va vl.length vc, .int .i64 n] w fun e w' => e = .returned (.bool true) ∧ Below w.heap.size w w' := by
  have pn := pk_bounds n 4 (by decide)
  have HB := Below.refl w.heap.size w
  go_enter Try.func3, Try.ntmps3
  go_wp2_with fail
  refine (signs_any vl va _ vc w rfl hv.le hv.max hv.ints hv.each).mono ?_
  rintro e w1 ⟨ra, rc, ks, he, hT, hO, hb1⟩
  subst he
  dsimp only
  replace HB := HB.trans (hb1.mono HB.size)
  have hk30 : ks.length ≤ 30 := by have := hO.few; rw [gvs_length] at this; exact this
  have HO : Hid (SignsOf (gvs ks)) := hO
  clear hO hv
  go_wp2_with fail
  refine (picked_any n 4 w1 n0 n1 (by decide) (by decide)).mono ?_
  rintro e wq ⟨he, hwq⟩
  subst he hwq
  dsimp only
  go_wp2_with fail
  refine (slot_any n 3 w1 ⟨n0, n1⟩).mono ?_
  rintro e w2 ⟨bn, he, hsn, hbbn, hbn⟩
  subst he
  dsimp only
  replace hT := hT.below hbn
  replace HB := HB.trans (hbn.mono HB.size)
  have hA1 := (Below.refl w2.heap.size w2).alloc (Nat.le_refl _) (.cells #[.int .i64 (pk n 4), .int .i64 (pk n 3), .int .i64 (1 + pk n 5), .slice (some ⟨bn, 0, none⟩) 32 32] 31)
  have q := heap_alloc_new w2 (.cells #[.int .i64 (pk n 4), .int .i64 (pk n 3), .int .i64 (1 + pk n 5), .slice (some ⟨bn, 0, none⟩) 32 32] 31)
  have q_c0 := cells_at q 0 _ rfl
  have q_c1 := cells_at q 1 _ rfl
  have q_c2 := cells_at q 2 _ rfl
  have q_c3 := cells_at q 3 _ rfl
  go_wp2_with fail
  clear q_c0 q_c1 q_c2 q_c3
  generalize hG : w2.alloc (.cells #[.int .i64 (pk n 4), .int .i64 (pk n 3), .int .i64 (1 + pk n 5), .slice (some ⟨bn, 0, none⟩) 32 32] 31) = w3 at hA1 q ⊢
  clear hG
  replace hT := hT.below hA1
  replace hsn := hsn.below hA1
  replace HB := HB.trans (hA1.mono HB.size)
  generalize hq : w2.heap.size = Q at q ⊢
  clear hq
  have gn : Hid (gF (kG (pk n 4) n 3) = 0) := kG_ok _ n 3 pn
  refine (addK_any ks ra rc (pk n 4) n 3 bn w3 (by omega) hT hsn HO.out.ok pn).mono ?_
  rintro e w4 ⟨ua, uc, us, he, hus, hU, hb4⟩
  subst he
  dsimp only
  replace hT := hT.below hb4
  replace hsn := hsn.below hb4
  replace q := (hb4.block _ (lt_of_heap q)).trans q
  replace HB := HB.trans (hb4.mono HB.size)
  have HUs : Hid (gvs us = more (gvs ks) (kG (pk n 4) n 3)) := hus
  clear hus
  have HUo : Hid (signsF (gvs us) = 0) := by show _ = _; rw [HUs.out]; exact more_ok HO.out.ok gn.out
  have HUm : Hid (kG (pk n 4) n 3 ∈ gvs us) := by show _ ∈ _; rw [HUs.out]; exact more_mem _ _
  have hu31 : us.length ≤ 31 := by
    have := more_length (gvs ks) (kG (pk n 4) n 3)
    rw [← HUs.out, gvs_length, gvs_length] at this
    omega
  have q_c0 := cells_at q 0 _ rfl
  have q_c1 := cells_at q 1 _ rfl
  have q_c2 := cells_at q 2 _ rfl
  have q_c3 := cells_at q 3 _ rfl
  go_wp2_with fail
  refine (addK_any us ua uc (pk n 4) n 3 bn w4 (by omega) hU hsn HUo.out pn).mono ?_
  rintro e w5 ⟨za, zc, zs, he, hzs, hZ, hb5⟩
  subst he
  dsimp only
  clear q_c0 q_c1 q_c2 q_c3
  replace hT := hT.below hb5
  replace hsn := hsn.below hb5
  replace q := (hb5.block _ (lt_of_heap q)).trans q
  replace hU := hU.below hb5
  replace HB := HB.trans (hb5.mono HB.size)
  have hzl : zs.length = us.length := by
    have := congrArg List.length hzs
    rw [more, if_pos HUm.out, gvs_length, gvs_length] at this
    exact this
  have HZL : Hid (zs.length = us.length) := hzl
  clear hzs hzl hZ
  have C1 := signedK_any ks ra rc (-1) (pk n 4) n 3 bn w5 hT hsn
  rw [signedF_nobody HO.out.ok gn.out] at C1
  have q_c0 := cells_at q 0 _ rfl
  have q_c1 := cells_at q 1 _ rfl
  have q_c2 := cells_at q 2 _ rfl
  have q_c3 := cells_at q 3 _ rfl
  go_wp2_with fail
  refine C1.mono ?_
  rintro e w6 ⟨he, hb6⟩
  subst he
  dsimp only
  clear C1
  clear q_c0 q_c1 q_c2 q_c3
  replace hT := hT.below hb6
  replace hsn := hsn.below hb6
  replace q := (hb6.block _ (lt_of_heap q)).trans q
  replace hU := hU.below hb6
  replace HB := HB.trans (hb6.mono HB.size)
  have C2 := signedK_any us ua uc (-1) (pk n 4) n 3 bn w6 hU hsn
  rw [signedF_nobody HUo.out gn.out, decide_eq_true HUm.out] at C2
  have q_c0 := cells_at q 0 _ rfl
  have q_c1 := cells_at q 1 _ rfl
  have q_c2 := cells_at q 2 _ rfl
  have q_c3 := cells_at q 3 _ rfl
  go_wp2_with fail
  refine C2.mono ?_
  rintro e w7 ⟨he, hb7⟩
  subst he
  dsimp only
  clear C2
  clear q_c0 q_c1 q_c2 q_c3
  replace hT := hT.below hb7
  replace hsn := hsn.below hb7
  replace q := (hb7.block _ (lt_of_heap q)).trans q
  replace hU := hU.below hb7
  replace HB := HB.trans (hb7.mono HB.size)
  rw [HZL.out]
  have HP : Hid (∃ rest, gvs us = gvs ks ++ rest) := by
    show ∃ rest, _
    rw [HUs.out, more]
    split
    · exact ⟨[], by simp⟩
    · exact ⟨_, rfl⟩
  have hlen : ((us.length : Int) == (ks.length : Int)) = decide (kG (pk n 4) n 3 ∈ gvs ks) := by
    have h := congrArg List.length HUs.out
    rw [more] at h
    by_cases hm : kG (pk n 4) n 3 ∈ gvs ks
    · rw [if_pos hm, gvs_length, gvs_length] at h
      rw [decide_eq_true hm, h]; simp
    · rw [if_neg hm, List.length_append, gvs_length, gvs_length] at h
      rw [decide_eq_false hm]
      simp at h ⊢
      omega
  have hne : ((us.length : Int) != (us.length : Int)) = false := by simp
  have hle : ks.length ≤ us.length := by
    obtain ⟨rest, h⟩ := HP.out
    have := congrArg List.length h
    rw [gvs_length, List.length_append, gvs_length] at this
    omega
  generalize decide (kG (pk n 4) n 3 ∈ gvs ks) = r at hlen ⊢
  have hbb : ∀ b : Bool, (b != b) = false := by intro b; cases b <;> rfl
  go_wp2_with fail
  have HK30 : ks.length ≤ 30 := hk30
  clear hlen hne hbb
  go_loopw [15] (fun i wr => ∃ k : Nat, k ≤ ks.length ∧ i = .int .i64 k ∧ Below w7.heap.size w7 wr) (fun i _ => ks.length - (intOf i).toNat)
  case atStart => exact ⟨0, Nat.zero_le _, rfl, Below.refl _ _⟩
  case round =>
    obtain ⟨k, hk, rfl, hbw⟩ := hrel
    by_cases hlt : k < ks.length
    · have hlt2 : k < us.length := by omega
      have hpa := hT.slots.below hbw
      have hpb := hU.slots.below hbw
      obtain ⟨ab, ao, rfl, hca⟩ : ∃ sb so, ra = some ⟨sb, so, none⟩ ∧ ∀ j (h : j < ks.length), wr.cell? ⟨sb, so + j * 4, none⟩ = some (.int .i64 (ks[j]).nd) ∧ wr.cell? ⟨sb, so + j * 4 + 1, none⟩ = some (.int .i64 (ks[j]).au) ∧ wr.cell? ⟨sb, so + j * 4 + 2, none⟩ = some (.int .i64 (ks[j]).rd) ∧ wr.cell? ⟨sb, so + j * 4 + 3, none⟩ = some (.slice (ks[j]).p.sa (ks[j]).p.bs.length (ks[j]).p.cap) := by
        rcases hpa.cells with h | h
        · rw [h] at hlt; simp at hlt
        · exact h
      obtain ⟨bb, bo, rfl, hcb⟩ : ∃ sb so, ua = some ⟨sb, so, none⟩ ∧ ∀ j (h : j < us.length), wr.cell? ⟨sb, so + j * 4, none⟩ = some (.int .i64 (us[j]).nd) ∧ wr.cell? ⟨sb, so + j * 4 + 1, none⟩ = some (.int .i64 (us[j]).au) ∧ wr.cell? ⟨sb, so + j * 4 + 2, none⟩ = some (.int .i64 (us[j]).rd) ∧ wr.cell? ⟨sb, so + j * 4 + 3, none⟩ = some (.slice (us[j]).p.sa (us[j]).p.bs.length (us[j]).p.cap) := by
        rcases hpb.cells with h | h
        · rw [h] at hlt2; simp at hlt2
        · exact h
      obtain ⟨c0, c1, c2, c3⟩ := hca k hlt
      obtain ⟨d0, d1, d2, d3⟩ := hcb k hlt2
      have hx := (hpa.each (ks[k]) (List.getElem_mem hlt)).1
      have hy := (hpb.each (us[k]) (List.getElem_mem hlt2)).1
      have hvk : (us[k]).v = (ks[k]).v := by
        obtain ⟨rest, hr⟩ := HP.out
        rw [← gvs_get us k (by rw [gvs_length]; exact hlt2), ← gvs_get ks k (by rw [gvs_length]; exact hlt)]
        simp only [hr]
        rw [List.getElem_append_left]
      have hltI : (k : Int) < ks.length := by omega
      have hltJ : (k : Int) < us.length := by omega
      clear hca hcb hpa hpb
      generalize ks[k] = s at *
      generalize us[k] = t at *
      obtain ⟨nd', au', rd', ⟨xa, xc, bs'⟩⟩ := s
      obtain ⟨nd, au, rd, ⟨ya, yc, bs⟩⟩ := t
      simp only [Sg.v, Prod.mk.injEq] at hvk
      obtain ⟨rfl, rfl, rfl, rfl⟩ := hvk
      have hab : ab < wr.heap.size := block_lt_of_cell c0
      have hbb2 : bb < wr.heap.size := block_lt_of_cell d0
      dsimp only at *
      have HS := sameSlotK_eq au rd bs xa ya _ _ xc yc wr.drew rfl rfl (hx.below ((Below.refl _ _).drew)) (hy.below ((Below.refl _ _).drew))
      go_wp2_with fail
      refine wp_region_held_drew (S := (fun w' => w'.cell? ⟨ab, ao + k * 4, none⟩ = some (.int .i64 nd) ∧ w'.cell? ⟨ab, ao + k * 4 + 1, none⟩ = some (.int .i64 au) ∧ w'.cell? ⟨ab, ao + k * 4 + 2, none⟩ = some (.int .i64 rd) ∧ w'.cell? ⟨ab, ao + k * 4 + 3, none⟩ = some (.slice xa bs.length xc) ∧ w'.cell? ⟨bb, bo + k * 4, none⟩ = some (.int .i64 nd) ∧ w'.cell? ⟨bb, bo + k * 4 + 1, none⟩ = some (.int .i64 au) ∧ w'.cell? ⟨bb, bo + k * 4 + 2, none⟩ = some (.int .i64 rd) ∧ w'.cell? ⟨bb, bo + k * 4 + 3, none⟩ = some (.slice ya bs.length yc))) (by kernel_rfl) ⟨c0, c1, c2, c3, d0, d1, d2, d3⟩ (fun hHeld => ?_)
      refine take_dst (i := 0) (d := 87) (v := .slice (some ⟨ab, ao, none⟩) ks.length rc) rfl rfl (by kernel_rfl) (by kernel_rfl) (by kernel_rfl) (fun _ _ _ h => h) (Or.inl ⟨by rfl, ?_⟩) hHeld ?_
      · (intro w0 hSw; (try dsimp only at hSw); go_simp)
      simp only [Act.put, List.setIfInBounds_toArray, List.set_cons_zero, List.set_cons_succ]
      refine take_dst (i := 1) (d := 88) (v := .int .i64 k) rfl rfl (by kernel_rfl) (by kernel_rfl) (by kernel_rfl) (fun _ _ _ h => h) (Or.inl ⟨by rfl, ?_⟩) hHeld ?_
      · (intro w0 hSw; (try dsimp only at hSw); go_simp)
      simp only [Act.put, List.setIfInBounds_toArray, List.set_cons_zero, List.set_cons_succ]
      refine take_dst (i := 2) (d := 89) (v := .pointer (some ⟨ab, ao + k * 4, none⟩)) rfl rfl (by kernel_rfl) (by kernel_rfl) (by kernel_rfl) (fun _ _ _ h => h) (Or.inl ⟨by rfl, ?_⟩) hHeld ?_
      · (intro w0 hSw; (try dsimp only at hSw); go_simp)
      simp only [Act.put, List.setIfInBounds_toArray, List.set_cons_zero, List.set_cons_succ]
      refine take_dst (i := 3) (d := 90) (v := .pointer (some ⟨ab, ao + k * 4, none⟩)) rfl rfl (by kernel_rfl) (by kernel_rfl) (by kernel_rfl) (fun _ _ _ h => h) (Or.inl ⟨by rfl, ?_⟩) hHeld ?_
      · (intro w0 hSw; (try dsimp only at hSw); go_simp)
      simp only [Act.put, List.setIfInBounds_toArray, List.set_cons_zero, List.set_cons_succ]
      refine take_dst (i := 4) (d := 91) (v := .int .i64 nd) rfl rfl (by kernel_rfl) (by kernel_rfl) (by kernel_rfl) (fun _ _ _ h => h) (Or.inl ⟨by rfl, ?_⟩) hHeld ?_
      · (intro w0 hSw; (try dsimp only at hSw); go_simp)
      simp only [Act.put, List.setIfInBounds_toArray, List.set_cons_zero, List.set_cons_succ]
      refine take_dst (i := 5) (d := 92) (v := .slice (some ⟨bb, bo, none⟩) us.length uc) rfl rfl (by kernel_rfl) (by kernel_rfl) (by kernel_rfl) (fun _ _ _ h => h) (Or.inl ⟨by rfl, ?_⟩) hHeld ?_
      · (intro w0 hSw; (try dsimp only at hSw); go_simp)
      simp only [Act.put, List.setIfInBounds_toArray, List.set_cons_zero, List.set_cons_succ]
      refine take_dst (i := 6) (d := 93) (v := .int .i64 k) rfl rfl (by kernel_rfl) (by kernel_rfl) (by kernel_rfl) (fun _ _ _ h => h) (Or.inl ⟨by rfl, ?_⟩) hHeld ?_
      · (intro w0 hSw; (try dsimp only at hSw); go_simp)
      simp only [Act.put, List.setIfInBounds_toArray, List.set_cons_zero, List.set_cons_succ]
      refine take_dst (i := 7) (d := 94) (v := .pointer (some ⟨bb, bo + k * 4, none⟩)) rfl rfl (by kernel_rfl) (by kernel_rfl) (by kernel_rfl) (fun _ _ _ h => h) (Or.inl ⟨by rfl, ?_⟩) hHeld ?_
      · (intro w0 hSw; (try dsimp only at hSw); go_simp)
      simp only [Act.put, List.setIfInBounds_toArray, List.set_cons_zero, List.set_cons_succ]
      refine take_dst (i := 8) (d := 95) (v := .pointer (some ⟨bb, bo + k * 4, none⟩)) rfl rfl (by kernel_rfl) (by kernel_rfl) (by kernel_rfl) (fun _ _ _ h => h) (Or.inl ⟨by rfl, ?_⟩) hHeld ?_
      · (intro w0 hSw; (try dsimp only at hSw); go_simp)
      simp only [Act.put, List.setIfInBounds_toArray, List.set_cons_zero, List.set_cons_succ]
      refine take_dst (i := 9) (d := 96) (v := .int .i64 nd) rfl rfl (by kernel_rfl) (by kernel_rfl) (by kernel_rfl) (fun _ _ _ h => h) (Or.inl ⟨by rfl, ?_⟩) hHeld ?_
      · (intro w0 hSw; (try dsimp only at hSw); go_simp)
      simp only [Act.put, List.setIfInBounds_toArray, List.set_cons_zero, List.set_cons_succ]
      refine take_dst (i := 10) (d := 97) (v := .bool false) rfl rfl (by kernel_rfl) (by kernel_rfl) (by kernel_rfl) (fun _ _ _ h => h) (Or.inl ⟨by rfl, ?_⟩) hHeld ?_
      · (intro w0 hSw; (try dsimp only at hSw); go_simp)
      simp only [Act.put, List.setIfInBounds_toArray, List.set_cons_zero, List.set_cons_succ]
      refine take_dst (i := 11) (d := 98) (v := .bool false) rfl rfl (by kernel_rfl) (by kernel_rfl) (by kernel_rfl) (fun _ _ _ h => h) (Or.inl ⟨by rfl, ?_⟩) hHeld ?_
      · (intro w0 hSw; (try dsimp only at hSw); go_simp)
      simp only [Act.put, List.setIfInBounds_toArray, List.set_cons_zero, List.set_cons_succ]
      refine take_dst (i := 12) (d := 99) (v := .slice (some ⟨ab, ao, none⟩) ks.length rc) rfl rfl (by kernel_rfl) (by kernel_rfl) (by kernel_rfl) (fun _ _ _ h => h) (Or.inl ⟨by rfl, ?_⟩) hHeld ?_
      · (intro w0 hSw; (try dsimp only at hSw); go_simp)
      simp only [Act.put, List.setIfInBounds_toArray, List.set_cons_zero, List.set_cons_succ]
      refine take_dst (i := 13) (d := 100) (v := .int .i64 k) rfl rfl (by kernel_rfl) (by kernel_rfl) (by kernel_rfl) (fun _ _ _ h => h) (Or.inl ⟨by rfl, ?_⟩) hHeld ?_
      · (intro w0 hSw; (try dsimp only at hSw); go_simp)
      simp only [Act.put, List.setIfInBounds_toArray, List.set_cons_zero, List.set_cons_succ]
      refine take_dst (i := 14) (d := 101) (v := .pointer (some ⟨ab, ao + k * 4, none⟩)) rfl rfl (by kernel_rfl) (by kernel_rfl) (by kernel_rfl) (fun _ _ _ h => h) (Or.inl ⟨by rfl, ?_⟩) hHeld ?_
      · (intro w0 hSw; (try dsimp only at hSw); go_simp)
      simp only [Act.put, List.setIfInBounds_toArray, List.set_cons_zero, List.set_cons_succ]
      refine take_dst (i := 15) (d := 102) (v := .pointer (some ⟨ab, ao + k * 4 + 1, none⟩)) rfl rfl (by kernel_rfl) (by kernel_rfl) (by kernel_rfl) (fun _ _ _ h => h) (Or.inl ⟨by rfl, ?_⟩) hHeld ?_
      · (intro w0 hSw; (try dsimp only at hSw); go_simp)
      simp only [Act.put, List.setIfInBounds_toArray, List.set_cons_zero, List.set_cons_succ]
      refine take_dst (i := 16) (d := 103) (v := .agg #[.int .i64 au, .int .i64 rd, .slice xa bs.length xc]) rfl rfl (by kernel_rfl) (by kernel_rfl) (by kernel_rfl) (fun _ _ _ h => h) (Or.inl ⟨by rfl, ?_⟩) hHeld ?_
      · (intro w0 hSw; (try dsimp only at hSw); go_simp)
      simp only [Act.put, List.setIfInBounds_toArray, List.set_cons_zero, List.set_cons_succ]
      refine take_dst (i := 17) (d := 104) (v := .slice (some ⟨bb, bo, none⟩) us.length uc) rfl rfl (by kernel_rfl) (by kernel_rfl) (by kernel_rfl) (fun _ _ _ h => h) (Or.inl ⟨by rfl, ?_⟩) hHeld ?_
      · (intro w0 hSw; (try dsimp only at hSw); go_simp)
      simp only [Act.put, List.setIfInBounds_toArray, List.set_cons_zero, List.set_cons_succ]
      refine take_dst (i := 18) (d := 105) (v := .int .i64 k) rfl rfl (by kernel_rfl) (by kernel_rfl) (by kernel_rfl) (fun _ _ _ h => h) (Or.inl ⟨by rfl, ?_⟩) hHeld ?_
      · (intro w0 hSw; (try dsimp only at hSw); go_simp)
      simp only [Act.put, List.setIfInBounds_toArray, List.set_cons_zero, List.set_cons_succ]
      refine take_dst (i := 19) (d := 106) (v := .pointer (some ⟨bb, bo + k * 4, none⟩)) rfl rfl (by kernel_rfl) (by kernel_rfl) (by kernel_rfl) (fun _ _ _ h => h) (Or.inl ⟨by rfl, ?_⟩) hHeld ?_
      · (intro w0 hSw; (try dsimp only at hSw); go_simp)
      simp only [Act.put, List.setIfInBounds_toArray, List.set_cons_zero, List.set_cons_succ]
      refine take_dst (i := 20) (d := 107) (v := .pointer (some ⟨bb, bo + k * 4 + 1, none⟩)) rfl rfl (by kernel_rfl) (by kernel_rfl) (by kernel_rfl) (fun _ _ _ h => h) (Or.inl ⟨by rfl, ?_⟩) hHeld ?_
      · (intro w0 hSw; (try dsimp only at hSw); go_simp)
      simp only [Act.put, List.setIfInBounds_toArray, List.set_cons_zero, List.set_cons_succ]
      refine take_dst (i := 21) (d := 108) (v := .agg #[.int .i64 au, .int .i64 rd, .slice ya bs.length yc]) rfl rfl (by kernel_rfl) (by kernel_rfl) (by kernel_rfl) (fun _ _ _ h => h) (Or.inl ⟨by rfl, ?_⟩) hHeld ?_
      · (intro w0 hSw; (try dsimp only at hSw); go_simp)
      simp only [Act.put, List.setIfInBounds_toArray, List.set_cons_zero, List.set_cons_succ]
      refine wpAnyH_ready (rs := [22]) (by kernel_rfl) (by simp) (AllReadyH.cons rfl (fun K hK => ?_) AllReadyH.nil)
      refine step_calls_on (by rfl) 109 rfl 12 [.tmp 103, .tmp 108] #[28, 28] rfl [.agg #[.int .i64 au, .int .i64 rd, .slice xa bs.length xc], .agg #[.int .i64 au, .int .i64 rd, .slice ya bs.length yc]] rfl (enters_of Try.func12 (by kernel_rfl) rfl) (fun v w' => v = .bool true ∧ Below wr.heap.size wr w') (HS.mono (fun e w2 h => ⟨_, h.1, rfl, below_drew h.2⟩)) ?_
      rintro v w8 ⟨rfl, hbB⟩
      refine hK.out _ _ ⟨(hbB.cell (p := ⟨ab, ao + k * 4, none⟩) hab).trans c0, (hbB.cell (p := ⟨ab, ao + k * 4 + 1, none⟩) hab).trans c1, (hbB.cell (p := ⟨ab, ao + k * 4 + 2, none⟩) hab).trans c2, (hbB.cell (p := ⟨ab, ao + k * 4 + 3, none⟩) hab).trans c3, (hbB.cell (p := ⟨bb, bo + k * 4, none⟩) hbb2).trans d0, (hbB.cell (p := ⟨bb, bo + k * 4 + 1, none⟩) hbb2).trans d1, (hbB.cell (p := ⟨bb, bo + k * 4 + 2, none⟩) hbb2).trans d2, (hbB.cell (p := ⟨bb, bo + k * 4 + 3, none⟩) hbb2).trans d3⟩ (fun hHeld => ?_)
      simp only [Act.put, List.setIfInBounds_toArray, List.set_cons_zero, List.set_cons_succ]
      refine take_dst (i := 23) (d := 110) (v := .bool false) rfl rfl (by kernel_rfl) (by kernel_rfl) (by kernel_rfl) (fun _ _ _ h => h) (Or.inl ⟨by rfl, ?_⟩) hHeld ?_
      · (intro w0 hSw; (try dsimp only at hSw); go_simp)
      simp only [Act.put, List.setIfInBounds_toArray, List.set_cons_zero, List.set_cons_succ]
      refine take_dst (i := 24) (d := 111) (v := .bool false) rfl rfl (by kernel_rfl) (by kernel_rfl) (by kernel_rfl) (fun _ _ _ h => h) (Or.inl ⟨by rfl, ?_⟩) hHeld ?_
      · (intro w0 hSw; (try dsimp only at hSw); go_simp)
      simp only [Act.put, List.setIfInBounds_toArray, List.set_cons_zero, List.set_cons_succ]
      refine wpAnyH_done (by kernel_rfl) ?_ _
      go_wp2_with fail
      go_roundw
      case rel => exact ⟨k + 1, by omega, by go_num, hbw.trans (hbB.mono hbw.size)⟩
      case measure => simp [intOf]; omega
    · obtain rfl : k = ks.length := by omega
      replace q := (hbw.block _ (lt_of_heap q)).trans q
      replace hU := hU.below hbw
      replace hsn := hsn.below hbw
      replace HB := HB.trans (hbw.mono HB.size)
      have HC1 := sealCheck_any us ua _ uc wr.drew rfl hU.small (hU.slots.below (Below.refl _ _).drew)
      rw [HUo.out] at HC1
      have c0 := cells_at q 0 _ rfl
      have c1 := cells_at q 1 _ rfl
      have c2 := cells_at q 2 _ rfl
      have c3 := cells_at q 3 _ rfl
      have hqlt := lt_of_heap q
      obtain ⟨i, hi, hz0, hz1, hz2⟩ := info_parts infoSign
      obtain ⟨b0, o0, rfl⟩ : ∃ b0 o0, ua = some ⟨b0, o0, none⟩ := by
        rcases hU.slots.cells with h | ⟨sb, so, e, _⟩
        · have := HUm.out
          rw [h] at this
          cases this
        · exact ⟨sb, so, e⟩
      go_wp2_with fail
      refine wp_region_held_drew (S := fun w' => w'.cell? ⟨Q, 0, none⟩ = some (.int .i64 (pk n 4)) ∧ w'.cell? ⟨Q, 1, none⟩ = some (.int .i64 (pk n 3)) ∧ w'.cell? ⟨Q, 2, none⟩ = some (.int .i64 (1 + pk n 5)) ∧ w'.cell? ⟨Q, 3, none⟩ = some (.slice (some ⟨bn, 0, none⟩) 32 32)) (by kernel_rfl) ⟨c0, c1, c2, c3⟩ (fun hHeld => ?_)
      refine take_dst (i := 0) (d := 112) (v := .slice (some ⟨b0, o0, none⟩) us.length uc) rfl rfl (by kernel_rfl) (by kernel_rfl) (by kernel_rfl) (fun _ _ _ h => h) (Or.inl ⟨by rfl, ?_⟩) hHeld ?_
      · (intro w0 hSw; (try dsimp only at hSw); go_simp)
      simp only [Act.put, List.setIfInBounds_toArray, List.set_cons_zero, List.set_cons_succ]
      refine wpAnyH_ready (rs := [1]) (by kernel_rfl) (by simp) (AllReadyH.cons rfl (fun K hK => ?_) AllReadyH.nil)
      refine step_calls_dst rfl 113 rfl 13 [.tmp 112] #[23] rfl [.slice (some ⟨b0, o0, none⟩) us.length uc] rfl (enters_of Try.func13 (by kernel_rfl) rfl) (fun v w' => v = .int .i64 0 ∧ Below wr.heap.size wr w') (HC1.mono (fun e w2 h => ⟨_, h.1, rfl, below_drew h.2⟩)) ?_
      rintro v w8 ⟨rfl, hb8⟩
      have q8 := (hb8.block _ hqlt).trans q
      refine hK.out _ _ ⟨cells_at q8 0 _ rfl, cells_at q8 1 _ rfl, cells_at q8 2 _ rfl, cells_at q8 3 _ rfl⟩ (fun hHeld => ?_)
      simp only [Act.put, List.setIfInBounds_toArray, List.set_cons_zero, List.set_cons_succ]
      have hU8 := hU.below hb8
      have hs8 := hsn.below hb8
      replace HB := HB.trans (hb8.mono HB.size)
      clear c0 c1 c2 c3 HC1
      refine take_dst (i := 2) (d := 114) (v := .bool true) rfl rfl (by kernel_rfl) (by kernel_rfl) (by kernel_rfl) (fun _ _ _ h => h) (Or.inl ⟨by rfl, ?_⟩) hHeld ?_
      · (intro w0 hSw; (try dsimp only at hSw); go_simp)
      simp only [Act.put, List.setIfInBounds_toArray, List.set_cons_zero, List.set_cons_succ]
      refine take_dst (i := 3) (d := 115) (v := .bool true) rfl rfl (by kernel_rfl) (by kernel_rfl) (by kernel_rfl) (fun _ _ _ h => h) (Or.inl ⟨by rfl, ?_⟩) hHeld ?_
      · (intro w0 hSw; (try dsimp only at hSw); go_simp)
      simp only [Act.put, List.setIfInBounds_toArray, List.set_cons_zero, List.set_cons_succ]
      refine take_dst (i := 4) (d := 116) (v := .slice (some ⟨b0, o0, none⟩) us.length uc) rfl rfl (by kernel_rfl) (by kernel_rfl) (by kernel_rfl) (fun _ _ _ h => h) (Or.inl ⟨by rfl, ?_⟩) hHeld ?_
      · (intro w0 hSw; (try dsimp only at hSw); go_simp)
      simp only [Act.put, List.setIfInBounds_toArray, List.set_cons_zero, List.set_cons_succ]
      have HX := Below.refl w8.heap.size w8
      have hq8 := lt_of_heap q8
      have HK31 : us.length ≤ 31 := hu31
      refine take_dst (i := 6) (d := 118) (v := .agg #[.int .i64 (pk n 4), .int .i64 (pk n 3), .int .i64 (1 + pk n 5), .slice (some ⟨bn, 0, none⟩) 32 32]) rfl rfl (by kernel_rfl) (by kernel_rfl) (by kernel_rfl) (fun _ _ _ h => h) (Or.inl ⟨by rfl, ?_⟩) hHeld ?_
      · (intro w0 hSw; (try dsimp only at hSw); go_simp)
      simp only [Act.put, List.setIfInBounds_toArray, List.set_cons_zero, List.set_cons_succ]
      refine wpAnyH_ready (rs := [5, 7]) (by kernel_rfl) (by simp) (AllReadyH.cons rfl (fun K hK => ?_) (AllReadyH.cons rfl (fun K hK => ?_) AllReadyH.nil))
      · refine step_append_on (by rfl) 117 rfl (.const (.slice none 0 0)) (.tmp 116) 23 rfl w8.heap.size 31 i (.agg #[.int .i64 0, .int .i64 0, .int .i64 0, .slice none 0 0]) 4 48 Try.underlying23 hi hz0 hz1 hz2 rfl (by decide) (.slice none 0 0) 0 [] rfl (World.ownsRow_nil _ _ _ _) ⟨b0, o0, none⟩ us.length uc (gv us) rfl (gv_length us) (signs_cells (hU8.slots.below HX)) (gv_one us) (by unfold maxLen; omega) (by omega) HX.size ?_
        intro v1 w9 ho9 G9
        rw [List.nil_append, Nat.zero_add] at ho9
        have HX9 := HX.grown G9.grown HX.size (fun k e => by cases e)
        have q9 := (HX9.block _ hq8).trans q8
        refine hK.out _ _ ⟨cells_at q9 0 _ rfl, cells_at q9 1 _ rfl, cells_at q9 2 _ rfl, cells_at q9 3 _ rfl⟩ (fun hHeld => ?_)
        simp only [Act.put, List.setIfInBounds_toArray, List.set_cons_zero, List.set_cons_succ]
        refine wpAnyH_ready (rs := [7]) (by kernel_rfl) (by simp) (AllReadyH.cons rfl (fun K hK => ?_) AllReadyH.nil)
        refine step_run_on (by rfl) 119 rfl (.slice (some ⟨w9.heap.size, 0, none⟩) 1 1) (w9.alloc (.cells #[.int .i64 (pk n 4), .int .i64 (pk n 3), .int .i64 (1 + pk n 5), .slice (some ⟨bn, 0, none⟩) 32 32] 31)) (by go_simp) ?_
        have qb := heap_alloc_new w9 (.cells #[.int .i64 (pk n 4), .int .i64 (pk n 3), .int .i64 (1 + pk n 5), .slice (some ⟨bn, 0, none⟩) 32 32] 31)
        have HXX := HX9.alloc HX9.size (.cells #[.int .i64 (pk n 4), .int .i64 (pk n 3), .int .i64 (1 + pk n 5), .slice (some ⟨bn, 0, none⟩) 32 32] 31)
        have hoX := World.ownsRow.alloc ho9 (.cells #[.int .i64 (pk n 4), .int .i64 (pk n 3), .int .i64 (1 + pk n 5), .slice (some ⟨bn, 0, none⟩) 32 32] 31)
        have q10 := (HXX.block _ hq8).trans q8
        refine hK.out _ _ ⟨cells_at q10 0 _ rfl, cells_at q10 1 _ rfl, cells_at q10 2 _ rfl, cells_at q10 3 _ rfl⟩ (fun hHeld => ?_)
        simp only [Act.put, List.setIfInBounds_toArray, List.set_cons_zero, List.set_cons_succ]
        refine wpAnyH_ready (rs := [8]) (by kernel_rfl) (by simp) (AllReadyH.cons rfl (fun K hK => ?_) AllReadyH.nil)
        refine step_append_on (by rfl) 120 rfl (.tmp 117) (.tmp 119) 23 rfl w8.heap.size 31 i (.agg #[.int .i64 0, .int .i64 0, .int .i64 0, .slice none 0 0]) 4 48 Try.underlying23 hi hz0 hz1 hz2 rfl (by decide) v1 us.length (gv us) rfl hoX ⟨w9.heap.size, 0, none⟩ 1 1 [.int .i64 (pk n 4), .int .i64 (pk n 3), .int .i64 (1 + pk n 5), .slice (some ⟨bn, 0, none⟩) 32 32] rfl rfl (cells_of_heap qb) (by intro u hu; simp at hu; rcases hu with rfl | rfl | rfl | rfl <;> rfl) (by unfold maxLen; omega) (by omega) HXX.size ?_
        intro v2 wA hoA GA
        have HXA := HXX.grown GA.grown HXX.size (fun k e => (hoX.lt k e).1)
        have hoB : wA.ownsRow w8.heap.size 31 4 v2 (us.length + 1) (gv (us ++ [⟨pk n 4, pk n 3, 1 + pk n 5, ⟨some ⟨bn, 0, none⟩, 32, someL n 3⟩⟩])) := by rw [gv_snoc]; simpa [Sg.cs, someL_length] using hoA
        obtain ⟨pa, pc, rfl, hpl, hSA⟩ := signs_of_owns hoB (fun s hs => by
          rcases List.mem_append.1 hs with hs | hs
          · exact ⟨(hU8.slots.each s hs).1.below HXA, (hU8.slots.each s hs).2⟩
          · rw [List.mem_singleton] at hs; subst hs; exact ⟨hs8.below HXA, someL_u8 n 3⟩)
        have HC2 := sealCheck_any _ pa _ pc wA hpl (by simp; omega) hSA
        have HF2 : signsF (gvs (us ++ [⟨pk n 4, pk n 3, 1 + pk n 5, ⟨some ⟨bn, 0, none⟩, 32, someL n 3⟩⟩])) = 12 := by
          refine signsF_twice ?_
          simp only [gvs, List.map_append, List.map_cons, List.map_nil]
          rw [List.nodup_append]
          intro h
          exact h.2.2 _ HUm.out _ (by simp; rfl) rfl
        rw [HF2] at HC2
        have qA := (HXA.block _ hq8).trans q8
        refine hK.out _ _ ⟨cells_at qA 0 _ rfl, cells_at qA 1 _ rfl, cells_at qA 2 _ rfl, cells_at qA 3 _ rfl⟩ (fun hHeld => ?_)
        simp only [Act.put, List.setIfInBounds_toArray, List.set_cons_zero, List.set_cons_succ]
        refine wpAnyH_ready (rs := [9]) (by kernel_rfl) (by simp) (AllReadyH.cons rfl (fun K hK => ?_) AllReadyH.nil)
        refine step_calls_on (by rfl) 121 rfl 13 [.tmp 120] #[23] rfl [.slice pa (us.length + 1) pc] rfl (enters_of Try.func13 (by kernel_rfl) rfl) (fun v w' => v = .int .i64 12 ∧ Below wA.heap.size wA w') (HC2.mono (fun e w2 h => ⟨_, h.1, rfl, h.2⟩)) ?_
        rintro v wB ⟨rfl, hbB2⟩
        have qB := (hbB2.block _ (lt_of_heap qA)).trans qA
        refine hK.out _ _ ⟨cells_at qB 0 _ rfl, cells_at qB 1 _ rfl, cells_at qB 2 _ rfl, cells_at qB 3 _ rfl⟩ (fun hHeld => ?_)
        simp only [Act.put, List.setIfInBounds_toArray, List.set_cons_zero, List.set_cons_succ]
        clear HF2 HC2 hSA hoB hoA hoX HUs HUo HUm HP HO gn hpl hle hk30 hu31 HK31 HK30
        refine take_dst (i := 10) (d := 122) (v := .bool true) rfl rfl (by kernel_rfl) (by kernel_rfl) (by kernel_rfl) (fun _ _ _ h => h) (Or.inl ⟨by rfl, ?_⟩) hHeld ?_
        · (intro w0 hSw; (try dsimp only at hSw); go_simp)
        simp only [Act.put, List.setIfInBounds_toArray, List.set_cons_zero, List.set_cons_succ]
        refine take_dst (i := 11) (d := 123) (v := .bool true) rfl rfl (by kernel_rfl) (by kernel_rfl) (by kernel_rfl) (fun _ _ _ h => h) (Or.inl ⟨by rfl, ?_⟩) hHeld ?_
        · (intro w0 hSw; (try dsimp only at hSw); go_simp)
        simp only [Act.put, List.setIfInBounds_toArray, List.set_cons_zero, List.set_cons_succ]
        refine take_dst (i := 12) (d := 4) (v := .bool true) rfl rfl (by kernel_rfl) (by kernel_rfl) (by kernel_rfl) (fun _ _ _ h => h) (Or.inl ⟨by rfl, ?_⟩) hHeld ?_
        · (intro w0 hSw; (try dsimp only at hSw); go_simp)
        simp only [Act.put, List.setIfInBounds_toArray, List.set_cons_zero, List.set_cons_succ]
        refine wpAnyH_done (by kernel_rfl) ?_ _
        replace HB := (HB.trans (HXA.mono HB.size)).trans (hbB2.mono (Nat.le_trans HB.size HXA.size))
        go_wp2_with fail
        go_ret
        exact ⟨by first | rfl | simp, HB⟩
      · refine step_run_on (by rfl) 119 rfl (.slice (some ⟨w8.heap.size, 0, none⟩) 1 1) (w8.alloc (.cells #[.int .i64 (pk n 4), .int .i64 (pk n 3), .int .i64 (1 + pk n 5), .slice (some ⟨bn, 0, none⟩) 32 32] 31)) (by go_simp) ?_
        have qb := heap_alloc_new w8 (.cells #[.int .i64 (pk n 4), .int .i64 (pk n 3), .int .i64 (1 + pk n 5), .slice (some ⟨bn, 0, none⟩) 32 32] 31)
        replace HX := HX.alloc HX.size (.cells #[.int .i64 (pk n 4), .int .i64 (pk n 3), .int .i64 (1 + pk n 5), .slice (some ⟨bn, 0, none⟩) 32 32] 31)
        have q10 := (HX.block _ hq8).trans q8
        refine hK.out _ _ ⟨cells_at q10 0 _ rfl, cells_at q10 1 _ rfl, cells_at q10 2 _ rfl, cells_at q10 3 _ rfl⟩ (fun hHeld => ?_)
        simp only [Act.put, List.setIfInBounds_toArray, List.set_cons_zero, List.set_cons_succ]
        refine wpAnyH_ready (rs := [5]) (by kernel_rfl) (by simp) (AllReadyH.cons rfl (fun K hK => ?_) AllReadyH.nil)
        refine step_append_on (by rfl) 117 rfl (.const (.slice none 0 0)) (.tmp 116) 23 rfl w8.heap.size 31 i (.agg #[.int .i64 0, .int .i64 0, .int .i64 0, .slice none 0 0]) 4 48 Try.underlying23 hi hz0 hz1 hz2 rfl (by decide) (.slice none 0 0) 0 [] rfl (World.ownsRow_nil _ _ _ _) ⟨b0, o0, none⟩ us.length uc (gv us) rfl (gv_length us) (signs_cells (hU8.slots.below HX)) (gv_one us) (by unfold maxLen; omega) (by omega) HX.size ?_
        intro v1 w9 ho9 G9
        rw [List.nil_append, Nat.zero_add] at ho9
        have HX9 := HX.grown G9.grown HX.size (fun k e => by cases e)
        have q9 := (HX9.block _ hq8).trans q8
        replace qb := (G9.grown.block _ (lt_of_heap qb) (by intro e; cases e)).trans qb
        have HXX := HX9
        have hoX := ho9
        refine hK.out _ _ ⟨cells_at q9 0 _ rfl, cells_at q9 1 _ rfl, cells_at q9 2 _ rfl, cells_at q9 3 _ rfl⟩ (fun hHeld => ?_)
        simp only [Act.put, List.setIfInBounds_toArray, List.set_cons_zero, List.set_cons_succ]
        refine wpAnyH_ready (rs := [8]) (by kernel_rfl) (by simp) (AllReadyH.cons rfl (fun K hK => ?_) AllReadyH.nil)
        refine step_append_on (by rfl) 120 rfl (.tmp 117) (.tmp 119) 23 rfl w8.heap.size 31 i (.agg #[.int .i64 0, .int .i64 0, .int .i64 0, .slice none 0 0]) 4 48 Try.underlying23 hi hz0 hz1 hz2 rfl (by decide) v1 us.length (gv us) rfl hoX ⟨w8.heap.size, 0, none⟩ 1 1 [.int .i64 (pk n 4), .int .i64 (pk n 3), .int .i64 (1 + pk n 5), .slice (some ⟨bn, 0, none⟩) 32 32] rfl rfl (cells_of_heap qb) (by intro u hu; simp at hu; rcases hu with rfl | rfl | rfl | rfl <;> rfl) (by unfold maxLen; omega) (by omega) HXX.size ?_
        intro v2 wA hoA GA
        have HXA := HXX.grown GA.grown HXX.size (fun k e => (hoX.lt k e).1)
        have hoB : wA.ownsRow w8.heap.size 31 4 v2 (us.length + 1) (gv (us ++ [⟨pk n 4, pk n 3, 1 + pk n 5, ⟨some ⟨bn, 0, none⟩, 32, someL n 3⟩⟩])) := by rw [gv_snoc]; simpa [Sg.cs, someL_length] using hoA
        obtain ⟨pa, pc, rfl, hpl, hSA⟩ := signs_of_owns hoB (fun s hs => by
          rcases List.mem_append.1 hs with hs | hs
          · exact ⟨(hU8.slots.each s hs).1.below HXA, (hU8.slots.each s hs).2⟩
          · rw [List.mem_singleton] at hs; subst hs; exact ⟨hs8.below HXA, someL_u8 n 3⟩)
        have HC2 := sealCheck_any _ pa _ pc wA hpl (by simp; omega) hSA
        have HF2 : signsF (gvs (us ++ [⟨pk n 4, pk n 3, 1 + pk n 5, ⟨some ⟨bn, 0, none⟩, 32, someL n 3⟩⟩])) = 12 := by
          refine signsF_twice ?_
          simp only [gvs, List.map_append, List.map_cons, List.map_nil]
          rw [List.nodup_append]
          intro h
          exact h.2.2 _ HUm.out _ (by simp; rfl) rfl
        rw [HF2] at HC2
        have qA := (HXA.block _ hq8).trans q8
        refine hK.out _ _ ⟨cells_at qA 0 _ rfl, cells_at qA 1 _ rfl, cells_at qA 2 _ rfl, cells_at qA 3 _ rfl⟩ (fun hHeld => ?_)
        simp only [Act.put, List.setIfInBounds_toArray, List.set_cons_zero, List.set_cons_succ]
        refine wpAnyH_ready (rs := [9]) (by kernel_rfl) (by simp) (AllReadyH.cons rfl (fun K hK => ?_) AllReadyH.nil)
        refine step_calls_on (by rfl) 121 rfl 13 [.tmp 120] #[23] rfl [.slice pa (us.length + 1) pc] rfl (enters_of Try.func13 (by kernel_rfl) rfl) (fun v w' => v = .int .i64 12 ∧ Below wA.heap.size wA w') (HC2.mono (fun e w2 h => ⟨_, h.1, rfl, h.2⟩)) ?_
        rintro v wB ⟨rfl, hbB2⟩
        have qB := (hbB2.block _ (lt_of_heap qA)).trans qA
        refine hK.out _ _ ⟨cells_at qB 0 _ rfl, cells_at qB 1 _ rfl, cells_at qB 2 _ rfl, cells_at qB 3 _ rfl⟩ (fun hHeld => ?_)
        simp only [Act.put, List.setIfInBounds_toArray, List.set_cons_zero, List.set_cons_succ]
        clear HF2 HC2 hSA hoB hoA hoX HUs HUo HUm HP HO gn hpl hle hk30 hu31 HK31 HK30
        refine take_dst (i := 10) (d := 122) (v := .bool true) rfl rfl (by kernel_rfl) (by kernel_rfl) (by kernel_rfl) (fun _ _ _ h => h) (Or.inl ⟨by rfl, ?_⟩) hHeld ?_
        · (intro w0 hSw; (try dsimp only at hSw); go_simp)
        simp only [Act.put, List.setIfInBounds_toArray, List.set_cons_zero, List.set_cons_succ]
        refine take_dst (i := 11) (d := 123) (v := .bool true) rfl rfl (by kernel_rfl) (by kernel_rfl) (by kernel_rfl) (fun _ _ _ h => h) (Or.inl ⟨by rfl, ?_⟩) hHeld ?_
        · (intro w0 hSw; (try dsimp only at hSw); go_simp)
        simp only [Act.put, List.setIfInBounds_toArray, List.set_cons_zero, List.set_cons_succ]
        refine take_dst (i := 12) (d := 4) (v := .bool true) rfl rfl (by kernel_rfl) (by kernel_rfl) (by kernel_rfl) (fun _ _ _ h => h) (Or.inl ⟨by rfl, ?_⟩) hHeld ?_
        · (intro w0 hSw; (try dsimp only at hSw); go_simp)
        simp only [Act.put, List.setIfInBounds_toArray, List.set_cons_zero, List.set_cons_succ]
        refine wpAnyH_done (by kernel_rfl) ?_ _
        replace HB := (HB.trans (HXA.mono HB.size)).trans (hbB2.mono (Nat.le_trans HB.size HXA.size))
        go_wp2_with fail
        go_ret
        exact ⟨by first | rfl | simp, HB⟩
end Go.Proofs.Ytmpflkggbekpfaa
