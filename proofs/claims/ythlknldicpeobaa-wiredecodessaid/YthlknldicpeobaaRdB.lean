/- wire's reader.batch. -/
import Derived.Test.YthlknldicpeobaaRdC
import Derived.Test.YthlknldicpeobaaTxt
import Derived.Test.YthlknldicpeobaaBstr
namespace Go.Proofs.Ythlknldicpeobaa
open Go.RowKit

set_option maxRecDepth 100000 in
theorem bstr_size (bs : List Int) : (bstr bs).size = bs.length := by
  have h := congrArg List.length (bstr_data bs)
  simpa using h
/-- So many texts, each behind its length. -/
def bL (s : St) : Nat → St
  | 0 => s
  | k + 1 => nx (nB 1 (bL s k)).toNat (nx 1 (bL s k))
def bT (s : St) : Nat → List ByteArray
  | 0 => []
  | k + 1 => bT s k ++ [bstr (tT (nB 1 (bL s k)).toNat (nx 1 (bL s k)))]
set_option maxRecDepth 100000 in
theorem bL_good {s : St} (h : GoodS s) (k : Nat) : GoodS (bL s k) := by
  induction k with
  | zero => exact h
  | succ k ih => exact ih.nx.nx
set_option maxRecDepth 100000 in
theorem bT_length (s : St) (k : Nat) : (bT s k).length = k := by
  induction k with
  | zero => rfl
  | succ k ih => simp [bT, ih]
set_option maxRecDepth 100000 in
theorem nB1_bounds {s : St} (h : GoodS s) : 0 ≤ nB 1 s ∧ nB 1 s ≤ 255 := numB1_bounds h.u8
set_option maxRecDepth 100000 in
theorem bT_size {s : St} (h : GoodS s) (k : Nat) : ∀ t ∈ bT s k, t.size ≤ maxLen := by
  induction k with
  | zero => intro t ht; cases ht
  | succ k ih =>
    intro t ht
    rcases List.mem_append.1 ht with ht | ht
    · exact ih t ht
    · obtain rfl : t = _ := by simpa using ht
      rw [bstr_size]
      have h1 := tkT_len (n := (nB 1 (bL s k)).toNat) (l := (nx 1 (bL s k)).1) (sh := (nx 1 (bL s k)).2)
      have h2 := nB1_bounds (bL_good h k)
      unfold maxLen
      show (tkT _ _ _).length ≤ _
      omega
def bS3 (s : St) : St := nx 3 (nx 1 s)
def bN (s : St) : Nat := (nB 1 (bS3 s)).toNat
structure BatchRd (w w' : World) (e : Ending) (R : Nat) (s : St) : Prop where
  out : ∃ ta tc, e = .returned (.agg #[.int .i64 (nB 1 s), .int .i64 (nB 3 (nx 1 s)), .slice ta (bN s) tc]) ∧ StrsAt w' ta (bT (nx 1 (bS3 s)) (bN s)) ∧ (∀ sb so, ta = some ⟨sb, so, none⟩ → w.heap.size ≤ sb) ∧ RdS w' R (bL (nx 1 (bS3 s)) (bN s)) ∧ Only R w w'
set_option maxRecDepth 100000 in
theorem strs_only {R : Nat} {w w' : World} {va : Option Addr} {ss : List ByteArray} (h : StrsAt w va ss) (ho : Only R w w') (hne : ∀ sb so, va = some ⟨sb, so, none⟩ → sb ≠ R) : StrsAt w' va ss := by
  refine ⟨?_, h.size⟩
  rcases h.cells with hb | ⟨sb, so, e, hc⟩
  · exact .inl hb
  · exact .inr ⟨sb, so, e, fun j hj => (World.cell?_of_block (ho.block sb (block_lt_of_cell (hc j hj)) (hne sb so e))).trans (hc j hj)⟩
set_option maxRecDepth 100000 in
set_option maxHeartbeats 4000000 in
theorem batch_rd (R : Nat) (s : St) (w : World) (hR : RdS w R s) (hs : GoodS s) :
    Calls Try.prog 50 #[.pointer (some ⟨R, 0, none⟩)] w fun e w' => BatchRd w w' e R s := by
  obtain ⟨i, hi, hz0, hz1, hz2⟩ := info_parts infoStr
  have hlt : R < w.heap.size := hR.lt
  have hA : Below w.heap.size w (w.alloc (.cells #[.int .i64 0, .int .i64 0, .slice none 0 0] 25)) := (Below.refl _ _).alloc (Nat.le_refl _) _
  have q0 := heap_alloc_new w (.cells #[.int .i64 0, .int .i64 0, .slice none 0 0] 25)
  have hsz : w.heap.size < (w.alloc (.cells #[.int .i64 0, .int .i64 0, .slice none 0 0] 25)).heap.size := lt_of_heap q0
  have hg3 : GoodS (bS3 s) := hs.nx.nx
  obtain ⟨hb0, hb1⟩ := nB1_bounds hg3
  have hNI : Hid (((bN s : Nat) : Int) = nB 1 (bS3 s)) := by show _ = _; show ((nB 1 (bS3 s)).toNat : Int) = _; omega
  have hN255 : bN s ≤ 255 := by show (nB 1 (bS3 s)).toNat ≤ 255; omega
  clear hb0 hb1
  go_enter Try.func50, Try.ntmps50
  go_wp2_with fail
  generalize w.alloc (.cells #[.int .i64 0, .int .i64 0, .slice none 0 0] 25) = W0 at hA q0 hsz ⊢
  refine (number_st R 1 s W0 (RdrAt.below hR hA) hs (by omega)).mono ?_
  rintro e w0 ⟨he, hR0, ho0⟩
  subst he
  dsimp only
  go_wp2_with fail
  refine (round_st R _ w0 hR0 hs.nx).mono ?_
  rintro e w1 ⟨he, hR1, ho1'⟩
  subst he
  dsimp only
  have ho1 := ho0.trans ho1'
  have p0 := (ho1.block _ hsz (by omega)).trans q0
  have hOw1 := (only_of_below (R := R) hA).trans ho1
  have hlt1 : w.heap.size < w1.heap.size := lt_of_heap p0
  generalize hAU' : nB 1 s = AU at *
  generalize hRD' : nB 3 (nx 1 s) = RD at *
  have hAU : Hid (nB 1 s = AU) := hAU'
  have hRD : Hid (nB 3 (nx 1 s) = RD) := hRD'
  clear hAU' hRD'
  go_upto_region 2 with fail
  have hA1 : Below w1.heap.size w1 (w1.alloc (.cells #[.int .i64 AU, .int .i64 RD, .slice none 0 0] 25)) := (Below.refl _ _).alloc (Nat.le_refl _) _
  have qC := heap_alloc_new w1 (.cells #[.int .i64 AU, .int .i64 RD, .slice none 0 0] 25)
  have hszC : w1.heap.size < (w1.alloc (.cells #[.int .i64 AU, .int .i64 RD, .slice none 0 0] 25)).heap.size := lt_of_heap qC
  generalize hCB : w1.heap.size = CB at qC hszC ⊢
  generalize w1.alloc (.cells #[.int .i64 AU, .int .i64 RD, .slice none 0 0] 25) = W1 at hA1 qC hszC ⊢
  have HCB : Hid (w1.heap.size = CB) := hCB
  have hRCB : R < CB := by omega
  have hwCB : w.heap.size < CB := by omega
  clear hCB
  have hN := number_st R 1 (bS3 s) W1 (RdrAt.below hR1 hA1) hg3 (by omega)
  rw [← hNI.out] at hN
  go_wp2_with fail
  refine hN.mono ?_
  rintro e w2 ⟨he, hR2, ho2⟩
  subst he
  dsimp only
  clear hN
  have p2 := (ho2.block _ hszC (by omega)).trans qC
  have hO12 : Only R w1 w2 := (only_of_below hA1).trans ho2
  have hg5 : GoodS (nx 1 (bS3 s)) := hg3.nx
  generalize hs5 : nx 1 (bS3 s) = s5 at *
  generalize hcn : bN s = N at *
  have HS5 : Hid (nx 1 (bS3 s) = s5) := hs5
  have HK : Hid (bN s = N) := hcn
  clear hs5 hcn
  go_upto_region 3 with fail
  go_loopw [11] (fun j wr => ∃ (k : Nat) (tv : Value), k ≤ N ∧ j = .int .i64 k ∧ wr.ownsRow W1.heap.size 9 1 tv k (sv (bT s5 k)) ∧ wr.heap[CB]? = some (.cells #[.int .i64 AU, .int .i64 RD, tv] 25 (0, 0)) ∧ RdS wr R (bL s5 k) ∧ Only R w1 wr ∧ W1.heap.size ≤ wr.heap.size) (fun j _ => N - (intOf j).toNat)
  case atStart => exact ⟨0, .slice none 0 0, Nat.zero_le _, rfl, World.ownsRow_nil _ _ _ _, p2, hR2, hO12, ho2.size⟩
  case round =>
    obtain ⟨k, tv, hk, rfl, ho, r0, hRk, hok, hszk⟩ := hrel
    by_cases hltk : k < N
    · have hltI : (k : Int) < N := by omega
      have hgk := bL_good hg5 k
      have hNk := number_st R 1 (bL s5 k) wr.drew (RdrAt.below hRk ((Below.refl _ _).drew)) hgk (by omega)
      obtain ⟨hx0, hx1⟩ := nB1_bounds hgk
      have hst : Hid (bT s5 (k + 1) = bT s5 k ++ [bstr (tT (nB 1 (bL s5 k)).toNat (nx 1 (bL s5 k)))]) := rfl
      have hst2 : Hid (bL s5 (k + 1) = nx (nB 1 (bL s5 k)).toNat (nx 1 (bL s5 k))) := rfl
      have HTk : Hid (∀ W : World, RdS W R (nx 1 (bL s5 k)) → Calls Try.prog 64 #[.pointer (some ⟨R, 0, none⟩), .int .i64 (nB 1 (bL s5 k))] W fun e w' => TakeIs W w' e R (tT (nB 1 (bL s5 k)).toNat (nx 1 (bL s5 k))) (nx (nB 1 (bL s5 k)).toNat (nx 1 (bL s5 k))).1 (nx (nB 1 (bL s5 k)).toNat (nx 1 (bL s5 k))).2) := by
        show ∀ _, _
        intro W hW
        have h := take_any R (nB 1 (bL s5 k)).toNat (nx 1 (bL s5 k)).1 (nx 1 (bL s5 k)).2 W hW hgk.nx.len (by omega)
        rw [show (((nB 1 (bL s5 k)).toNat : Nat) : Int) = nB 1 (bL s5 k) by omega] at h
        exact h
      have hE2 : Hid (∀ args w, (callFunc 49 args).run Try.prog w = .ok (.enter 49 args) w) := enters_of Try.func49 (by kernel_rfl) rfl
      have hE3 : Hid (∀ args w, (callFunc 64 args).run Try.prog w = .ok (.enter 64 args) w) := enters_of Try.func64 (by kernel_rfl) rfl
      have hCBlt : CB < wr.heap.size := lt_of_heap r0
      have hneC : CB ≠ R := by omega
      have c4 : wr.cell? ⟨CB, 2, none⟩ = some tv := cells_at r0 2 _ rfl
      have c4d : wr.drew.cell? ⟨CB, 2, none⟩ = some tv := c4
      generalize tT (nB 1 (bL s5 k)).toNat (nx 1 (bL s5 k)) = TX at *
      generalize nx (nB 1 (bL s5 k)).toNat (nx 1 (bL s5 k)) = s7 at *
      generalize nB 1 (bL s5 k) = X at *
      generalize nx 1 (bL s5 k) = s6 at *
      have hvC : tv.ownBlock ≠ some CB := fun e => by have := (ho.lt _ e).1; omega
      go_wp2_with fail
      go_region_law (first
        | (refine step_calls rfl 49 _ _ rfl [.pointer (some ⟨R, 0, none⟩), .int .i64 1] rfl hE2.out (fun u w9 => u = .int .i64 X ∧ RdS w9 R s6 ∧ Only R wr w9) (hNk.mono (fun e w9 ⟨he, h1, h2⟩ => ⟨_, he, rfl, h1, only_of_drew h2⟩)) ?_; rintro u w4 ⟨rfl, hR4, ho4⟩; have v4 := (ho4.block _ hCBlt hneC).trans r0; have b4 : w4.cell? ⟨CB, 2, none⟩ = some tv := cells_at v4 2 _ rfl)
        | (refine step_calls rfl 64 _ _ rfl [.pointer (some ⟨R, 0, none⟩), .int .i64 X] rfl hE3.out (fun u w9 => ∃ ta tc, u = .slice ta TX.length tc ∧ SliceAt w9 ta tc TX ∧ RdS w9 R s7 ∧ Only R w4 w9) ((HTk.out w4 hR4).mono (fun e w9 h => by obtain ⟨ta, tc, he, h1, _, h2, h3⟩ := h.out; exact ⟨_, he, ta, tc, rfl, h1, h2, h3⟩)) ?_; rintro u w5 ⟨ta, tc, rfl, hs5', hR5, ho5'⟩; have ho5 := ho4.trans ho5'; have v5 := (ho5.block _ hCBlt hneC).trans r0; have d4 : w5.cell? ⟨CB, 2, none⟩ = some tv := cells_at v5 2 _ rfl; have d4a : (w5.alloc (.cells #[.string (bstr TX)] 9)).cell? ⟨CB, 2, none⟩ = some tv := cells_at (heap_keep v5) 2 _ rfl; have hob := owns_only ho ho5 (by omega); have hw5 : W1.heap.size ≤ w5.heap.size := Nat.le_trans hszk ho5.size; have htx := run_text w5 ta _ tc TX rfl hs5')
        | (refine step_append_at rfl _ _ 23 rfl W1.heap.size 9 i (.string ByteArray.empty) 1 16 Try.underlying23 hi hz0 hz1 hz2 rfl (by decide) tv k (sv (bT s5 k)) rfl (World.ownsRow.alloc hob _) ⟨w5.heap.size, 0, none⟩ 1 1 [.string (bstr TX)] rfl rfl (cells_new _ _ _) (by intro u hu; simp at hu; subst hu; rfl) (by unfold maxLen; omega) (by omega) (le_alloc hw5 _) ?_; intro v6 w6 ho6 G6; have x5 := G6.row (heap_keep v5) hvC; have xd4 := cells_at x5 2 _ rfl; have xf4 := frozen_at x5 2; obtain ⟨fa, fc, hvf⟩ := owns_shape ho6; subst hvf))
      all_goals
        have hG := G6.grown
        have hb5 : Below w5.heap.size w5 (w5.alloc (.cells #[.string (bstr TX)] 9)) := (Below.refl _ _).alloc (Nat.le_refl _) _
        have hOw5 := hok.trans ho5
        have hvlt : ∀ q, tv.ownBlock = some q → W1.heap.size ≤ q := fun q e => (ho.lt q e).1
        have hO6 : Only R w1 w6 := by
          refine ⟨hG.os.trans hOw5.os, hG.tape.trans hOw5.tape, hG.output.trans hOw5.output, Nat.le_trans hOw5.size (Nat.le_trans hb5.size hG.size), fun q hq hn => ?_⟩
          have := HCB.out
          exact (hG.block q (by have := hb5.size; have := hOw5.size; omega) (fun e => by have := hvlt q e.symm; omega)).trans ((hb5.block q (by have := hOw5.size; omega)).trans (hOw5.block q hq hn))
        have hR6 : RdS w6 R s7 := (RdrAt.below hR5 hb5).stays (fun q hq => hG.block q (by have := hb5.size; have := RdrAt.lt hR5; omega) (fun e => by have := hvlt q e.symm; omega))
        go_wp2_with fail
        go_roundw
        case rel =>
          refine ⟨k + 1, .slice fa (k + 1) fc, by omega, by go_num, ?_, by simpa using heap_setCell_same _ _ 2 _ _ (.slice fa (k + 1) fc) x5, ?_, ?_, ?_⟩
          · rw [hst.out]
            have h := owns_far ho6 CB 2 (.slice fa (k + 1) fc) hszC
            simpa [sv] using h
          · rw [hst2.out]
            exact RdrAt.far hR6 hRCB
          · have := HCB.out
            exact ⟨hO6.os, hO6.tape, hO6.output, by simpa using hO6.size, fun q hq hn => (heap_setCell_other _ ⟨CB, 2, none⟩ q _ (by show q ≠ CB; omega)).trans (hO6.block q hq hn)⟩
          · have := hb5.size
            have := hG.size
            simp
            omega
        case measure => simp [intOf]; omega
    · obtain rfl : k = N := by omega
      have hltI : ¬ (k : Int) < k := by omega
      obtain ⟨va, vc, hv, -, hI, hfv⟩ := strsAt_of_owns ho (bT_size hg5 k)
      subst hv
      have z0 := (hok.block _ hlt1 (by omega)).trans p0
      have hOw := hOw1.trans hok
      have c0 := cells_at r0 0 _ rfl
      have c1 := cells_at r0 1 _ rfl
      have c2 := cells_at r0 2 _ rfl
      have d0 := cells_at z0 0 _ rfl
      have d1 := cells_at z0 1 _ rfl
      have d2 := cells_at z0 2 _ rfl
      have f0 := frozen_at z0 0
      have f1 := frozen_at z0 1
      have f2 := frozen_at z0 2
      have HAU : Hid (nB 1 s = AU ∧ nB 3 (nx 1 s) = RD ∧ bN s = k ∧ nx 1 (bS3 s) = s5) := ⟨hAU.out, hRD.out, HK.out, HS5.out⟩
      have hX : Hid (BatchRd w (((wr.setCell ⟨w.heap.size, 0, none⟩ (.int .i64 AU)).setCell ⟨w.heap.size, 1, none⟩ (.int .i64 RD)).setCell ⟨w.heap.size, 2, none⟩ (.slice va k vc)) (.returned (.agg #[.int .i64 AU, .int .i64 RD, .slice va k vc])) R s) := by
        have farI : ∀ (W : World) (j : Nat) (v : Value), StrsAt W va (bT s5 k) → StrsAt (W.setCell ⟨w.heap.size, j, none⟩ v) va (bT s5 k) := fun W j v h => strs_only (R := w.heap.size) h ((Only.refl _ W).setCell) (fun sb so e e2 => by have := hfv sb so e; omega)
        refine ⟨va, vc, ?_, ?_, fun sb so e => by have := hfv sb so e; omega, ?_, ?_⟩
        · rw [HAU.out.1, HAU.out.2.1, HAU.out.2.2.1]
        · rw [HAU.out.2.2.1, HAU.out.2.2.2]
          exact farI _ _ _ (farI _ _ _ (farI _ _ _ hI))
        · rw [HAU.out.2.2.1, HAU.out.2.2.2]
          exact RdrAt.far (RdrAt.far (RdrAt.far hRk hlt) hlt) hlt
        · exact ⟨hOw.os, hOw.tape, hOw.output, by simpa using hOw.size, fun q hq hn => (heap_setCell_other _ ⟨w.heap.size, 2, none⟩ q _ (by show q ≠ w.heap.size; omega)).trans ((heap_setCell_other _ ⟨w.heap.size, 1, none⟩ q _ (by show q ≠ w.heap.size; omega)).trans ((heap_setCell_other _ ⟨w.heap.size, 0, none⟩ q _ (by show q ≠ w.heap.size; omega)).trans (hOw.block q hq hn)))⟩
      clear hI hfv hRk hok hOw hOw1 ho z0 r0
      go_wp2_with fail
      exact bodyPost_ret (v := .agg #[.int .i64 AU, .int .i64 RD, .slice va k vc]) (by simp [results, Try.results50, go_sem, d0, d1, d2]) rfl hX.out
end Go.Proofs.Ythlknldicpeobaa
