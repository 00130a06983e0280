/- wire's reader.cert. -/
import Derived.Test.YthlknldicpeobaaRdS
import Derived.Test.YthlknldicpeobaaIv
import Derived.Test.YthlknldicpeobaaCalls
import Derived.Test.YthlknldicpeobaaRawU
import Derived.Deep.RegionHeld3
namespace Go.Proofs.Ythlknldicpeobaa
open Go.RowKit

/-- So many numbers of one byte. -/
def nL (s : St) : Nat → St
  | 0 => s
  | k + 1 => nx 1 (nL s k)
def nV (s : St) : Nat → List Int
  | 0 => []
  | k + 1 => nV s k ++ [nB 1 (nL s k)]
set_option maxRecDepth 100000 in
theorem nL_good {s : St} (h : GoodS s) (k : Nat) : GoodS (nL s k) := by
  induction k with
  | zero => exact h
  | succ k ih => exact ih.nx
set_option maxRecDepth 100000 in
theorem nV_length (s : St) (k : Nat) : (nV s k).length = k := by
  induction k with
  | zero => rfl
  | succ k ih => simp [nV, ih]
set_option maxRecDepth 100000 in
theorem infoIntR : (Try.prog.info? 3).map (fun i => (i.zero, i.size, i.bytes)) = some (some (.int .i64 0), 1, 8) := by kernel_rfl
set_option maxRecDepth 100000 in
theorem only_of_drew {R : Nat} {w w' : World} (h : Only R w.drew w') : Only R w w' := ⟨h.os, h.tape, h.output, h.size, h.block⟩
def hS4 (s : St) : St := dgS (dgS (nx 3 (nx 1 s)))
def cN (s : St) : Nat := (nB 1 (hS4 s)).toNat
structure CertRd (w w' : World) (e : Ending) (R : Nat) (s : St) : Prop where
  out : ∃ ba bc bl pa pc pl va vc, e = .returned (.agg #[.int .i64 (nB 1 s), .int .i64 (nB 3 (nx 1 s)), .slice ba (List.length bl) bc, .slice pa (List.length pl) pc, .slice va (cN s) vc]) ∧ bl.map (·.bs) = dgs (nx 3 (nx 1 s)) ∧ pl.map (·.bs) = dgs (dgS (nx 3 (nx 1 s))) ∧ ListAt w' ba bc bl ∧ ListAt w' pa pc pl ∧ Fresh w.heap.size ba bl ∧ Fresh w.heap.size pa pl ∧ IntsAt w' va (nV (nx 1 (hS4 s)) (cN s)) ∧ (∀ sb so, va = some ⟨sb, so, none⟩ → w.heap.size ≤ sb) ∧ RdS w' R (nL (nx 1 (hS4 s)) (cN s)) ∧ Only R w w'
set_option maxRecDepth 100000 in
theorem ints_ownedR {w : World} {base n : Nat} {v : Value} {vl : List Int} (h : w.ownsRow base 3 1 v n (iv vl)) : ∃ va vc, v = .slice va n vc ∧ IntsAt w va vl ∧ ∀ sb so, va = some ⟨sb, so, none⟩ → base ≤ sb := by
  have hl : n = vl.length := by have := h.1; simp [iv] at this; omega
  have hlt := h.lt
  rcases h.2 with ⟨e, hn⟩ | ⟨g, cap, cur, e, hg, _⟩
  · exact ⟨none, 0, by rw [e, hn], ⟨.inl (List.eq_nil_of_length_eq_zero (by omega))⟩, fun _ _ e => by cases e⟩
  · subst e
    refine ⟨_, _, rfl, ⟨.inr ⟨g, 0, rfl, fun j hj => ?_⟩⟩, fun sb so e => by cases e; exact hg⟩
    rw [Nat.zero_add, World.ownsRow.cellAt h j (by omega)]
    simp [iv, hj]
set_option maxRecDepth 100000 in
theorem ints_only {R : Nat} {w w' : World} {va : Option Addr} {vl : List Int} (h : IntsAt w va vl) (ho : Only R w w') (hne : ∀ sb so, va = some ⟨sb, so, none⟩ → sb ≠ R) : IntsAt w' va vl := by
  refine ⟨?_⟩
  rcases h.cells with hb | ⟨sb, so, e, hc⟩
  · exact .inl hb
  · exact .inr ⟨sb, so, e, fun j hj => (World.cell?_of_block (ho.block sb (block_lt_of_cell (hc j hj)) (hne sb so e))).trans (hc j hj)⟩
set_option maxRecDepth 100000 in
set_option maxHeartbeats 4000000 in
theorem cert_rd (R : Nat) (s : St) (w : World) (hR : RdS w R s) (hs : GoodS s) :
    Calls Try.prog 53 #[.pointer (some ⟨R, 0, none⟩)] w fun e w' => CertRd w w' e R s := by
  obtain ⟨i, hi, hz0, hz1, hz2⟩ := info_parts infoIntR
  have hlt : R < w.heap.size := hR.lt
  have hA : Below w.heap.size w (w.alloc (.cells #[.int .i64 0, .int .i64 0, .slice none 0 0, .slice none 0 0, .slice none 0 0] 33)) := (Below.refl _ _).alloc (Nat.le_refl _) _
  have q0 := heap_alloc_new w (.cells #[.int .i64 0, .int .i64 0, .slice none 0 0, .slice none 0 0, .slice none 0 0] 33)
  have hsz : w.heap.size < (w.alloc (.cells #[.int .i64 0, .int .i64 0, .slice none 0 0, .slice none 0 0, .slice none 0 0] 33)).heap.size := lt_of_heap q0
  have hg4 : GoodS (hS4 s) := GoodS.dgS (GoodS.dgS hs.nx.nx)
  obtain ⟨hb0, hb1⟩ := numB1_bounds (l := (hS4 s).1) (sh := (hS4 s).2) hg4.u8
  have hNI : Hid (((cN s : Nat) : Int) = nB 1 (hS4 s)) := by show _ = _; show ((numB (tkT 1 (hS4 s).1 (hS4 s).2)).toNat : Int) = numB (tkT 1 (hS4 s).1 (hS4 s).2); omega
  have hN255 : cN s ≤ 255 := by show (numB (tkT 1 (hS4 s).1 (hS4 s).2)).toNat ≤ 255; omega
  clear hb0 hb1
  go_enter Try.func53, Try.ntmps53
  go_wp2_with fail
  generalize w.alloc (.cells #[.int .i64 0, .int .i64 0, .slice none 0 0, .slice none 0 0, .slice none 0 0] 33) = W0 at hA q0 hsz ⊢
  refine (header_rd R s W0 (RdrAt.below hR hA) hs).mono ?_
  rintro e w1 ⟨ba, bc, bl, pa, pc, pl, he, hq1, hq2, hL1, hL2, hF1, hF2, hR1, ho1⟩
  subst he
  dsimp only
  have p0 := (ho1.block _ hsz (by omega)).trans q0
  have hOw1 := (only_of_below (R := R) hA).trans ho1
  have hlt1 : w.heap.size < w1.heap.size := lt_of_heap p0
  generalize hAU' : nB 1 s = AU at *
  generalize hRD' : nB 3 (nx 1 s) = RD at *
  have hAU : Hid (nB 1 s = AU) := hAU'
  have hRD : Hid (nB 3 (nx 1 s) = RD) := hRD'
  clear hAU' hRD'
  go_upto_region 2 with fail
  have hA1 : Below w1.heap.size w1 (w1.alloc (.cells #[.int .i64 AU, .int .i64 RD, .slice ba bl.length bc, .slice pa pl.length pc, .slice none 0 0] 33)) := (Below.refl _ _).alloc (Nat.le_refl _) _
  have qC := heap_alloc_new w1 (.cells #[.int .i64 AU, .int .i64 RD, .slice ba bl.length bc, .slice pa pl.length pc, .slice none 0 0] 33)
  have hszC : w1.heap.size < (w1.alloc (.cells #[.int .i64 AU, .int .i64 RD, .slice ba bl.length bc, .slice pa pl.length pc, .slice none 0 0] 33)).heap.size := lt_of_heap qC
  generalize hCB : w1.heap.size = CB at qC hszC ⊢
  generalize w1.alloc (.cells #[.int .i64 AU, .int .i64 RD, .slice ba bl.length bc, .slice pa pl.length pc, .slice none 0 0] 33) = W1 at hA1 qC hszC ⊢
  have HCB : Hid (w1.heap.size = CB) := hCB
  have hRCB : R < CB := by omega
  have hwCB : w.heap.size < CB := by omega
  clear hCB
  have hN := number_st R 1 (hS4 s) W1 (RdrAt.below hR1 hA1) hg4 (by omega)
  rw [← hNI.out] at hN
  go_wp2_with fail
  refine hN.mono ?_
  rintro e w2 ⟨he, hR2, ho2⟩
  subst he
  dsimp only
  clear hN
  have p2 := (ho2.block _ hszC (by omega)).trans qC
  have hO12 : Only R w1 w2 := (only_of_below hA1).trans ho2
  have hg5 : GoodS (nx 1 (hS4 s)) := hg4.nx
  generalize hs5 : nx 1 (hS4 s) = s5 at *
  generalize hcn : cN s = N at *
  have HS5 : Hid (nx 1 (hS4 s) = s5) := hs5
  have HK : Hid (cN s = N) := hcn
  clear hs5 hcn
  go_upto_region 3 with fail
  go_loopw [9] (fun j wr => ∃ (k : Nat) (tv : Value), k ≤ N ∧ j = .int .i64 k ∧ wr.ownsRow W1.heap.size 3 1 tv k (iv (nV s5 k)) ∧ wr.heap[CB]? = some (.cells #[.int .i64 AU, .int .i64 RD, .slice ba bl.length bc, .slice pa pl.length pc, tv] 33 (0, 0)) ∧ RdS wr R (nL s5 k) ∧ Only R w1 wr ∧ W1.heap.size ≤ wr.heap.size) (fun j _ => N - (intOf j).toNat)
  case atStart => exact ⟨0, .slice none 0 0, Nat.zero_le _, rfl, World.ownsRow_nil _ _ _ _, p2, hR2, hO12, ho2.size⟩
  case round =>
    obtain ⟨k, tv, hk, rfl, ho, r0, hRk, hok, hszk⟩ := hrel
    by_cases hltk : k < N
    · have hltI : (k : Int) < N := by omega
      have hNk := number_st R 1 (nL s5 k) wr.drew (RdrAt.below hRk ((Below.refl _ _).drew)) (nL_good hg5 k) (by omega)
      have hst : Hid (nV s5 (k + 1) = nV s5 k ++ [nB 1 (nL s5 k)]) := rfl
      have hst2 : Hid (nL s5 (k + 1) = nx 1 (nL s5 k)) := rfl
      have hE2 : Hid (∀ args w, (callFunc 49 args).run Try.prog w = .ok (.enter 49 args) w) := enters_of Try.func49 (by kernel_rfl) rfl
      have hCBlt : CB < wr.heap.size := lt_of_heap r0
      have hneC : CB ≠ R := by omega
      have c4 : wr.cell? ⟨CB, 4, none⟩ = some tv := cells_at r0 4 _ rfl
      have c4d : wr.drew.cell? ⟨CB, 4, none⟩ = some tv := c4
      generalize nB 1 (nL s5 k) = X at *
      generalize nx 1 (nL s5 k) = s6 at *
      have HNk : Hid _ := hNk
      have hvC : tv.ownBlock ≠ some CB := fun e => by have := (ho.lt _ e).1; omega
      go_wp2_with fail
      go_region_law (first
        | (refine step_calls rfl 49 _ _ rfl [.pointer (some ⟨R, 0, none⟩), .int .i64 1] rfl hE2.out (fun u w9 => u = .int .i64 X ∧ RdS w9 R s6 ∧ Only R wr w9) (hNk.mono (fun e w9 ⟨he, h1, h2⟩ => ⟨_, he, rfl, h1, only_of_drew h2⟩)) ?_; rintro u w5 ⟨rfl, hR5, ho5⟩; have v5 := (ho5.block _ hCBlt hneC).trans r0; have d4 : w5.cell? ⟨CB, 4, none⟩ = some tv := cells_at v5 4 _ rfl; have d4a : (w5.alloc (.cells #[.int .i64 X] 3)).cell? ⟨CB, 4, none⟩ = some tv := cells_at (heap_keep v5) 4 _ rfl; have hob := owns_only ho ho5 (by omega); have hw5 : W1.heap.size ≤ w5.heap.size := Nat.le_trans hszk ho5.size)
        | (refine step_append_at rfl _ _ 31 rfl W1.heap.size 3 i (.int .i64 0) 1 8 Try.underlying31 hi hz0 hz1 hz2 rfl (by decide) tv k (iv (nV s5 k)) rfl (World.ownsRow.alloc hob _) ⟨w5.heap.size, 0, none⟩ 1 1 [.int .i64 X] rfl rfl (cells_new _ _ _) (by intro u hu; simp at hu; subst hu; rfl) (by unfold maxLen; omega) (by omega) (le_alloc hw5 _) ?_; intro v6 w6 ho6 G6; have x5 := G6.row (heap_keep v5) hvC; have xd4 := cells_at x5 4 _ rfl; have xf4 := frozen_at x5 4; obtain ⟨fa, fc, hvf⟩ := owns_shape ho6; subst hvf))
      all_goals
        have hG := G6.grown
        have hb5 : Below w5.heap.size w5 (w5.alloc (.cells #[.int .i64 X] 3)) := (Below.refl _ _).alloc (Nat.le_refl _) _
        have hOw5 := hok.trans ho5
        have hvlt : ∀ q, tv.ownBlock = some q → W1.heap.size ≤ q := fun q e => (ho.lt q e).1
        have ho6' := ownsRow_base' ho6 (Nat.le_refl _)
        have hO6 : Only R w1 w6 := by
          refine ⟨hG.os.trans hOw5.os, hG.tape.trans hOw5.tape, hG.output.trans hOw5.output, Nat.le_trans hOw5.size (Nat.le_trans hb5.size hG.size), fun q hq hn => ?_⟩
          have := HCB.out
          exact (hG.block q (by have := hb5.size; have := hOw5.size; omega) (fun e => by have := hvlt q e.symm; omega)).trans ((hb5.block q (by have := hOw5.size; omega)).trans (hOw5.block q hq hn))
        have hR6 : RdS w6 R s6 := (hR5.below hb5).stays (fun q hq => hG.block q (by have := hb5.size; have := hR5.lt; omega) (fun e => by have := hvlt q e.symm; omega))
        go_wp2_with fail
        go_roundw
        case rel =>
          refine ⟨k + 1, .slice fa (k + 1) fc, by omega, by go_num, ?_, by simpa using heap_setCell_same _ _ 4 _ _ (.slice fa (k + 1) fc) x5, ?_, ?_, ?_⟩
          · rw [hst.out]
            have h := owns_far ho6' CB 4 (.slice fa (k + 1) fc) hszC
            simpa [iv] using h
          · rw [hst2.out]
            exact RdrAt.far hR6 hRCB
          · have := HCB.out
            exact ⟨hO6.os, hO6.tape, hO6.output, by simpa using hO6.size, fun q hq hn => (heap_setCell_other _ ⟨CB, 4, none⟩ q _ (by show q ≠ CB; omega)).trans (hO6.block q hq hn)⟩
          · have := hb5.size
            have := hG.size
            simp
            omega
        case measure => simp [intOf]; omega
    · obtain rfl : k = N := by omega
      have hltI : ¬ (k : Int) < k := by omega
      have hL1k := list_only hL1 hF1 hok (by omega)
      have hL2k := list_only hL2 hF2 hok (by omega)
      obtain ⟨va, vc, hv, hI, hfv⟩ := ints_ownedR ho
      subst hv
      have z0 := (hok.block _ hlt1 (by omega)).trans p0
      have hOw := hOw1.trans hok
      have c0 := cells_at r0 0 _ rfl
      have c1 := cells_at r0 1 _ rfl
      have c2 := cells_at r0 2 _ rfl
      have c3 := cells_at r0 3 _ rfl
      have c4 := cells_at r0 4 _ rfl
      have d0 := cells_at z0 0 _ rfl
      have d1 := cells_at z0 1 _ rfl
      have d2 := cells_at z0 2 _ rfl
      have d3 := cells_at z0 3 _ rfl
      have d4 := cells_at z0 4 _ rfl
      have f0 := frozen_at z0 0
      have f1 := frozen_at z0 1
      have f2 := frozen_at z0 2
      have f3 := frozen_at z0 3
      have f4 := frozen_at z0 4
      have HAU : Hid (nB 1 s = AU ∧ nB 3 (nx 1 s) = RD ∧ cN s = k ∧ nx 1 (hS4 s) = s5) := ⟨hAU.out, hRD.out, HK.out, HS5.out⟩
      have hX : Hid (CertRd w (((((wr.setCell ⟨w.heap.size, 0, none⟩ (.int .i64 AU)).setCell ⟨w.heap.size, 1, none⟩ (.int .i64 RD)).setCell ⟨w.heap.size, 2, none⟩ (.slice ba bl.length bc)).setCell ⟨w.heap.size, 3, none⟩ (.slice pa pl.length pc)).setCell ⟨w.heap.size, 4, none⟩ (.slice va k vc)) (.returned (.agg #[.int .i64 AU, .int .i64 RD, .slice ba bl.length bc, .slice pa pl.length pc, .slice va k vc])) R s) := by
        have far : ∀ (W : World) (ra : Option Addr) (rc : Nat) (qs : List Part) (j : Nat) (v : Value), Fresh W0.heap.size ra qs → ListAt W ra rc qs → ListAt (W.setCell ⟨w.heap.size, j, none⟩ v) ra rc qs := fun W ra rc qs j v hF h => h.setCell hF _ _ _ hsz
        have farI : ∀ (W : World) (j : Nat) (v : Value), IntsAt W va (nV s5 k) → IntsAt (W.setCell ⟨w.heap.size, j, none⟩ v) va (nV s5 k) := fun W j v h => ints_only (R := w.heap.size) h ((Only.refl _ W).setCell) (fun sb so e e2 => by have := hfv sb so e; omega)
        refine ⟨ba, bc, bl, pa, pc, pl, va, vc, ?_, hq1, hq2, ?_, ?_, ⟨fun sb so e => by have := hF1.row sb so e; omega, fun p hp sb so e => by have := hF1.each p hp sb so e; omega⟩, ⟨fun sb so e => by have := hF2.row sb so e; omega, fun p hp sb so e => by have := hF2.each p hp sb so e; omega⟩, ?_, fun sb so e => by have := hfv sb so e; omega, ?_, ?_⟩
        · rw [HAU.out.1, HAU.out.2.1, HAU.out.2.2.1]
        · exact far _ _ _ _ _ _ hF1 (far _ _ _ _ _ _ hF1 (far _ _ _ _ _ _ hF1 (far _ _ _ _ _ _ hF1 (far _ _ _ _ _ _ hF1 (hL1k)))))
        · exact far _ _ _ _ _ _ hF2 (far _ _ _ _ _ _ hF2 (far _ _ _ _ _ _ hF2 (far _ _ _ _ _ _ hF2 (far _ _ _ _ _ _ hF2 (hL2k)))))
        · rw [HAU.out.2.2.1, HAU.out.2.2.2]
          exact farI _ _ _ (farI _ _ _ (farI _ _ _ (farI _ _ _ (farI _ _ _ (hI)))))
        · rw [HAU.out.2.2.1, HAU.out.2.2.2]
          exact RdrAt.far (RdrAt.far (RdrAt.far (RdrAt.far (RdrAt.far (hRk) hlt) hlt) hlt) hlt) hlt
        · exact ⟨hOw.os, hOw.tape, hOw.output, by simpa using hOw.size, fun q hq hn => ((heap_setCell_other _ ⟨w.heap.size, 4, none⟩ q _ (by show q ≠ w.heap.size; omega)).trans ((heap_setCell_other _ ⟨w.heap.size, 3, none⟩ q _ (by show q ≠ w.heap.size; omega)).trans ((heap_setCell_other _ ⟨w.heap.size, 2, none⟩ q _ (by show q ≠ w.heap.size; omega)).trans ((heap_setCell_other _ ⟨w.heap.size, 1, none⟩ q _ (by show q ≠ w.heap.size; omega)).trans ((heap_setCell_other _ ⟨w.heap.size, 0, none⟩ q _ (by show q ≠ w.heap.size; omega)).trans (hOw.block q hq hn))))))⟩
      clear hq1 hq2 hL1 hL2 hF1 hF2 hL1k hL2k hI hfv hRk hok hOw hOw1 ho z0 r0
      go_wp2_with fail
      exact bodyPost_ret (v := .agg #[.int .i64 AU, .int .i64 RD, .slice ba bl.length bc, .slice pa pl.length pc, .slice va k vc]) (by simp [results, Try.results53, go_sem, d0, d1, d2, d3, d4]) rfl hX.out
end Go.Proofs.Ythlknldicpeobaa
