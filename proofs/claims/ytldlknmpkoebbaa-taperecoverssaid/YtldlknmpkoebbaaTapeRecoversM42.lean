/- wire.read: what it answers, for all bytes. -/
import Derived.Test.YtldlknmpkoebbaaApp
import Derived.Laws.Strings
import Derived.Test.YtldlknmpkoebbaaTapeRecoversM36
import Derived.Test.YtldlknmpkoebbaaTapeRecoversM6
import Derived.Test.YtldlknmpkoebbaaTapeRecoversM18
namespace Go.Proofs.Ytldlknmpkoebbaa
open Go.RowKit

set_option maxRecDepth 100000 in
theorem ba_ext {a b : ByteArray} (h : a.toList = b.toList) : a = b := by
  rw [ByteArray.toList_eq, ByteArray.toList_eq] at h
  exact Go.WideShapes.bytes_inj h
set_option maxRecDepth 100000 in
/-- The bytes as a text has them, one by one. -/
theorem bstr_data (bs : List Int) : (bstr bs).data.toList = bs.map fun n => UInt8.ofNat n.toNat := by
  have h : ∀ (l : List Int) (r : ByteArray), (l.foldl (fun r n => r.push (UInt8.ofNat n.toNat)) r).data.toList = r.data.toList ++ l.map fun n => UInt8.ofNat n.toNat := by
    intro l
    induction l with
    | nil => simp
    | cons x l ih => intro r; rw [List.foldl_cons, ih]; simp [ByteArray.push]
  rw [bstr, h]
  simp
set_option maxRecDepth 100000 in
theorem bstr_inj {xs ys : List Int} (hx : ∀ x ∈ xs, 0 ≤ x ∧ x ≤ 255) (hy : ∀ x ∈ ys, 0 ≤ x ∧ x ≤ 255) (h : bstr xs = bstr ys) : xs = ys := by
  have h1 : xs.map (fun n => UInt8.ofNat n.toNat) = ys.map (fun n => UInt8.ofNat n.toNat) := by rw [← bstr_data, ← bstr_data, h]
  have back : ∀ l : List Int, (∀ x ∈ l, 0 ≤ x ∧ x ≤ 255) → (l.map (fun n => UInt8.ofNat n.toNat)).map (fun b => (b.toNat : Int)) = l := by
    intro l hl
    rw [List.map_map]
    conv => rhs; rw [← List.map_id l]
    refine List.map_congr_left fun x hx => ?_
    have := hl x hx
    simp only [Function.comp, id]
    rw [UInt8.toNat_ofNat', Nat.mod_eq_of_lt (by omega)]
    omega
  rw [← back xs hx, ← back ys hy, h1]
end Go.Proofs.Ytldlknmpkoebbaa

namespace Go.Proofs.Ytldlknmpkoebbaa
open Go.RowKit

set_option maxRecDepth 100000 in
theorem bstr_size (bs : List Int) : (bstr bs).size = bs.length := by
  have h := congrArg List.length (bstr_data bs)
  simpa using h
/-- So many texts, each behind its length. -/
def bL (s : St) : Nat → St
  | 0 => s
  | k + 1 => nx (nB 1 (bL s k)).toNat (nx 1 (bL s k))
def bT (s : St) : Nat → List ByteArray
  | 0 => []
  | k + 1 => bT s k ++ [bstr (tT (nB 1 (bL s k)).toNat (nx 1 (bL s k)))]
set_option maxRecDepth 100000 in
theorem bL_good {s : St} (h : GoodS s) (k : Nat) : GoodS (bL s k) := by
  induction k with
  | zero => exact h
  | succ k ih => exact ih.nx.nx
set_option maxRecDepth 100000 in
theorem bT_length (s : St) (k : Nat) : (bT s k).length = k := by
  induction k with
  | zero => rfl
  | succ k ih => simp [bT, ih]
set_option maxRecDepth 100000 in
theorem nB1_bounds {s : St} (h : GoodS s) : 0 ≤ nB 1 s ∧ nB 1 s ≤ 255 := numB1_bounds h.u8
set_option maxRecDepth 100000 in
theorem bT_size {s : St} (h : GoodS s) (k : Nat) : ∀ t ∈ bT s k, t.size ≤ maxLen := by
  induction k with
  | zero => intro t ht; cases ht
  | succ k ih =>
    intro t ht
    rcases List.mem_append.1 ht with ht | ht
    · exact ih t ht
    · obtain rfl : t = _ := by simpa using ht
      rw [bstr_size]
      have h1 := tkT_len (n := (nB 1 (bL s k)).toNat) (l := (nx 1 (bL s k)).1) (sh := (nx 1 (bL s k)).2)
      have h2 := nB1_bounds (bL_good h k)
      unfold maxLen
      show (tkT _ _ _).length ≤ _
      omega
def bS3 (s : St) : St := nx 3 (nx 1 s)
def bN (s : St) : Nat := (nB 1 (bS3 s)).toNat
structure BatchRd (w w' : World) (e : Ending) (R : Nat) (s : St) : Prop where
  out : ∃ ta tc, e = .returned (.agg #[.int .i64 (nB 1 s), .int .i64 (nB 3 (nx 1 s)), .slice ta (bN s) tc]) ∧ StrsAt w' ta (bT (nx 1 (bS3 s)) (bN s)) ∧ (∀ sb so, ta = some ⟨sb, so, none⟩ → w.heap.size ≤ sb) ∧ RdS w' R (bL (nx 1 (bS3 s)) (bN s)) ∧ Only R w w'
set_option maxRecDepth 100000 in
theorem strs_only {R : Nat} {w w' : World} {va : Option Addr} {ss : List ByteArray} (h : StrsAt w va ss) (ho : Only R w w') (hne : ∀ sb so, va = some ⟨sb, so, none⟩ → sb ≠ R) : StrsAt w' va ss := by
  refine ⟨?_, h.size⟩
  rcases h.cells with hb | ⟨sb, so, e, hc⟩
  · exact .inl hb
  · exact .inr ⟨sb, so, e, fun j hj => (World.cell?_of_block (ho.block sb (block_lt_of_cell (hc j hj)) (hne sb so e))).trans (hc j hj)⟩
set_option maxRecDepth 100000 in
set_option maxHeartbeats 4000000 in
theorem batch_rd (R : Nat) (s : St) (w : World) (hR : RdS w R s) (hs : GoodS s) :
    Calls Try.prog 82 #[.pointer (some ⟨R, 0, none⟩)] w fun e w' => BatchRd w w' e R s := by
  obtain ⟨i, hi, hz0, hz1, hz2⟩ := info_parts infoStr
  have hlt : R < w.heap.size := hR.lt
  have hA : Below w.heap.size w (w.alloc (.cells #[.int .i64 0, .int .i64 0, .slice none 0 0] 43)) := (Below.refl _ _).alloc (Nat.le_refl _) _
  have q0 := heap_alloc_new w (.cells #[.int .i64 0, .int .i64 0, .slice none 0 0] 43)
  have hsz : w.heap.size < (w.alloc (.cells #[.int .i64 0, .int .i64 0, .slice none 0 0] 43)).heap.size := lt_of_heap q0
  have hg3 : GoodS (bS3 s) := hs.nx.nx
  obtain ⟨hb0, hb1⟩ := nB1_bounds hg3
  have hNI : Hid (((bN s : Nat) : Int) = nB 1 (bS3 s)) := by show _ = _; show ((nB 1 (bS3 s)).toNat : Int) = _; omega
  have hN255 : bN s ≤ 255 := by show (nB 1 (bS3 s)).toNat ≤ 255; omega
  clear hb0 hb1
  go_enter Try.func82, Try.ntmps82
  go_wp2_with fail
  generalize w.alloc (.cells #[.int .i64 0, .int .i64 0, .slice none 0 0] 43) = W0 at hA q0 hsz ⊢
  refine (number_st R 1 s W0 (RdrAt.below hR hA) hs (by omega)).mono ?_
  rintro e w0 ⟨he, hR0, ho0⟩
  subst he
  dsimp only
  go_wp2_with fail
  refine (round_st R _ w0 hR0 hs.nx).mono ?_
  rintro e w1 ⟨he, hR1, ho1'⟩
  subst he
  dsimp only
  have ho1 := ho0.trans ho1'
  have p0 := (ho1.block _ hsz (by omega)).trans q0
  have hOw1 := (only_of_below (R := R) hA).trans ho1
  have hlt1 : w.heap.size < w1.heap.size := lt_of_heap p0
  generalize hAU' : nB 1 s = AU at *
  generalize hRD' : nB 3 (nx 1 s) = RD at *
  have hAU : Hid (nB 1 s = AU) := hAU'
  have hRD : Hid (nB 3 (nx 1 s) = RD) := hRD'
  clear hAU' hRD'
  go_upto_region 2 with fail
  have hA1 : Below w1.heap.size w1 (w1.alloc (.cells #[.int .i64 AU, .int .i64 RD, .slice none 0 0] 43)) := (Below.refl _ _).alloc (Nat.le_refl _) _
  have qC := heap_alloc_new w1 (.cells #[.int .i64 AU, .int .i64 RD, .slice none 0 0] 43)
  have hszC : w1.heap.size < (w1.alloc (.cells #[.int .i64 AU, .int .i64 RD, .slice none 0 0] 43)).heap.size := lt_of_heap qC
  generalize hCB : w1.heap.size = CB at qC hszC ⊢
  generalize w1.alloc (.cells #[.int .i64 AU, .int .i64 RD, .slice none 0 0] 43) = W1 at hA1 qC hszC ⊢
  have HCB : Hid (w1.heap.size = CB) := hCB
  have hRCB : R < CB := by omega
  have hwCB : w.heap.size < CB := by omega
  clear hCB
  have hN := number_st R 1 (bS3 s) W1 (RdrAt.below hR1 hA1) hg3 (by omega)
  rw [← hNI.out] at hN
  go_wp2_with fail
  refine hN.mono ?_
  rintro e w2 ⟨he, hR2, ho2⟩
  subst he
  dsimp only
  clear hN
  have p2 := (ho2.block _ hszC (by omega)).trans qC
  have hO12 : Only R w1 w2 := (only_of_below hA1).trans ho2
  have hg5 : GoodS (nx 1 (bS3 s)) := hg3.nx
  generalize hs5 : nx 1 (bS3 s) = s5 at *
  generalize hcn : bN s = N at *
  have HS5 : Hid (nx 1 (bS3 s) = s5) := hs5
  have HK : Hid (bN s = N) := hcn
  clear hs5 hcn
  go_upto_region 3 with fail
  go_loopw [11] (fun j wr => ∃ (k : Nat) (tv : Value), k ≤ N ∧ j = .int .i64 k ∧ wr.ownsRow W1.heap.size 9 1 tv k (sv (bT s5 k)) ∧ wr.heap[CB]? = some (.cells #[.int .i64 AU, .int .i64 RD, tv] 43 (0, 0)) ∧ RdS wr R (bL s5 k) ∧ Only R w1 wr ∧ W1.heap.size ≤ wr.heap.size) (fun j _ => N - (intOf j).toNat)
  case atStart => exact ⟨0, .slice none 0 0, Nat.zero_le _, rfl, World.ownsRow_nil _ _ _ _, p2, hR2, hO12, ho2.size⟩
  case round =>
    obtain ⟨k, tv, hk, rfl, ho, r0, hRk, hok, hszk⟩ := hrel
    by_cases hltk : k < N
    · have hltI : (k : Int) < N := by omega
      have hgk := bL_good hg5 k
      have hNk := number_st R 1 (bL s5 k) wr.drew (RdrAt.below hRk ((Below.refl _ _).drew)) hgk (by omega)
      obtain ⟨hx0, hx1⟩ := nB1_bounds hgk
      have hst : Hid (bT s5 (k + 1) = bT s5 k ++ [bstr (tT (nB 1 (bL s5 k)).toNat (nx 1 (bL s5 k)))]) := rfl
      have hst2 : Hid (bL s5 (k + 1) = nx (nB 1 (bL s5 k)).toNat (nx 1 (bL s5 k))) := rfl
      have HTk : Hid (∀ W : World, RdS W R (nx 1 (bL s5 k)) → Calls Try.prog 97 #[.pointer (some ⟨R, 0, none⟩), .int .i64 (nB 1 (bL s5 k))] W fun e w' => TakeIs W w' e R (tT (nB 1 (bL s5 k)).toNat (nx 1 (bL s5 k))) (nx (nB 1 (bL s5 k)).toNat (nx 1 (bL s5 k))).1 (nx (nB 1 (bL s5 k)).toNat (nx 1 (bL s5 k))).2) := by
        show ∀ _, _
        intro W hW
        have h := take_any R (nB 1 (bL s5 k)).toNat (nx 1 (bL s5 k)).1 (nx 1 (bL s5 k)).2 W hW hgk.nx.len (by omega)
        rw [show (((nB 1 (bL s5 k)).toNat : Nat) : Int) = nB 1 (bL s5 k) by omega] at h
        exact h
      have hE2 : Hid (∀ args w, (callFunc 81 args).run Try.prog w = .ok (.enter 81 args) w) := enters_of Try.func81 (by kernel_rfl) rfl
      have hE3 : Hid (∀ args w, (callFunc 97 args).run Try.prog w = .ok (.enter 97 args) w) := enters_of Try.func97 (by kernel_rfl) rfl
      have hCBlt : CB < wr.heap.size := lt_of_heap r0
      have hneC : CB ≠ R := by omega
      have c4 : wr.cell? ⟨CB, 2, none⟩ = some tv := cells_at r0 2 _ rfl
      have c4d : wr.drew.cell? ⟨CB, 2, none⟩ = some tv := c4
      generalize tT (nB 1 (bL s5 k)).toNat (nx 1 (bL s5 k)) = TX at *
      generalize nx (nB 1 (bL s5 k)).toNat (nx 1 (bL s5 k)) = s7 at *
      generalize nB 1 (bL s5 k) = X at *
      generalize nx 1 (bL s5 k) = s6 at *
      have hvC : tv.ownBlock ≠ some CB := fun e => by have := (ho.lt _ e).1; omega
      go_wp2_with fail
      go_region_law (first
        | (refine step_calls rfl 81 _ _ rfl [.pointer (some ⟨R, 0, none⟩), .int .i64 1] rfl hE2.out (fun u w9 => u = .int .i64 X ∧ RdS w9 R s6 ∧ Only R wr w9) (hNk.mono (fun e w9 ⟨he, h1, h2⟩ => ⟨_, he, rfl, h1, only_of_drew h2⟩)) ?_; rintro u w4 ⟨rfl, hR4, ho4⟩; have v4 := (ho4.block _ hCBlt hneC).trans r0; have b4 : w4.cell? ⟨CB, 2, none⟩ = some tv := cells_at v4 2 _ rfl)
        | (refine step_calls rfl 97 _ _ rfl [.pointer (some ⟨R, 0, none⟩), .int .i64 X] rfl hE3.out (fun u w9 => ∃ ta tc, u = .slice ta TX.length tc ∧ SliceAt w9 ta tc TX ∧ RdS w9 R s7 ∧ Only R w4 w9) ((HTk.out w4 hR4).mono (fun e w9 h => by obtain ⟨ta, tc, he, h1, _, h2, h3⟩ := h.out; exact ⟨_, he, ta, tc, rfl, h1, h2, h3⟩)) ?_; rintro u w5 ⟨ta, tc, rfl, hs5', hR5, ho5'⟩; have ho5 := ho4.trans ho5'; have v5 := (ho5.block _ hCBlt hneC).trans r0; have d4 : w5.cell? ⟨CB, 2, none⟩ = some tv := cells_at v5 2 _ rfl; have d4a : (w5.alloc (.cells #[.string (bstr TX)] 9)).cell? ⟨CB, 2, none⟩ = some tv := cells_at (heap_keep v5) 2 _ rfl; have hob := owns_only ho ho5 (by omega); have hw5 : W1.heap.size ≤ w5.heap.size := Nat.le_trans hszk ho5.size; have htx := run_text w5 ta _ tc TX rfl hs5')
        | (refine step_append_at rfl _ _ 41 rfl W1.heap.size 9 i (.string ByteArray.empty) 1 16 Try.underlying41 hi hz0 hz1 hz2 rfl (by decide) tv k (sv (bT s5 k)) rfl (World.ownsRow.alloc hob _) ⟨w5.heap.size, 0, none⟩ 1 1 [.string (bstr TX)] rfl rfl (cells_new _ _ _) (by intro u hu; simp at hu; subst hu; rfl) (by unfold maxLen; omega) (by omega) (le_alloc hw5 _) ?_; intro v6 w6 ho6 G6; have x5 := G6.row (heap_keep v5) hvC; have xd4 := cells_at x5 2 _ rfl; have xf4 := frozen_at x5 2; obtain ⟨fa, fc, hvf⟩ := owns_shape ho6; subst hvf))
      all_goals
        have hG := G6.grown
        have hb5 : Below w5.heap.size w5 (w5.alloc (.cells #[.string (bstr TX)] 9)) := (Below.refl _ _).alloc (Nat.le_refl _) _
        have hOw5 := hok.trans ho5
        have hvlt : ∀ q, tv.ownBlock = some q → W1.heap.size ≤ q := fun q e => (ho.lt q e).1
        have hO6 : Only R w1 w6 := by
          refine ⟨hG.os.trans hOw5.os, hG.tape.trans hOw5.tape, hG.output.trans hOw5.output, Nat.le_trans hOw5.size (Nat.le_trans hb5.size hG.size), fun q hq hn => ?_⟩
          have := HCB.out
          exact (hG.block q (by have := hb5.size; have := hOw5.size; omega) (fun e => by have := hvlt q e.symm; omega)).trans ((hb5.block q (by have := hOw5.size; omega)).trans (hOw5.block q hq hn))
        have hR6 : RdS w6 R s7 := (RdrAt.below hR5 hb5).stays (fun q hq => hG.block q (by have := hb5.size; have := RdrAt.lt hR5; omega) (fun e => by have := hvlt q e.symm; omega))
        go_wp2_with fail
        go_roundw
        case rel =>
          refine ⟨k + 1, .slice fa (k + 1) fc, by omega, by go_num, ?_, by simpa using heap_setCell_same _ _ 2 _ _ (.slice fa (k + 1) fc) x5, ?_, ?_, ?_⟩
          · rw [hst.out]
            have h := owns_far ho6 CB 2 (.slice fa (k + 1) fc) hszC
            simpa [sv] using h
          · rw [hst2.out]
            exact RdrAt.far hR6 hRCB
          · have := HCB.out
            exact ⟨hO6.os, hO6.tape, hO6.output, by simpa using hO6.size, fun q hq hn => (heap_setCell_other _ ⟨CB, 2, none⟩ q _ (by show q ≠ CB; omega)).trans (hO6.block q hq hn)⟩
          · have := hb5.size
            have := hG.size
            simp
            omega
        case measure => simp [intOf]; omega
    · obtain rfl : k = N := by omega
      have hltI : ¬ (k : Int) < k := by omega
      obtain ⟨va, vc, hv, -, hI, hfv⟩ := strsAt_of_owns ho (bT_size hg5 k)
      subst hv
      have z0 := (hok.block _ hlt1 (by omega)).trans p0
      have hOw := hOw1.trans hok
      have c0 := cells_at r0 0 _ rfl
      have c1 := cells_at r0 1 _ rfl
      have c2 := cells_at r0 2 _ rfl
      have d0 := cells_at z0 0 _ rfl
      have d1 := cells_at z0 1 _ rfl
      have d2 := cells_at z0 2 _ rfl
      have f0 := frozen_at z0 0
      have f1 := frozen_at z0 1
      have f2 := frozen_at z0 2
      have HAU : Hid (nB 1 s = AU ∧ nB 3 (nx 1 s) = RD ∧ bN s = k ∧ nx 1 (bS3 s) = s5) := ⟨hAU.out, hRD.out, HK.out, HS5.out⟩
      have hX : Hid (BatchRd w (((wr.setCell ⟨w.heap.size, 0, none⟩ (.int .i64 AU)).setCell ⟨w.heap.size, 1, none⟩ (.int .i64 RD)).setCell ⟨w.heap.size, 2, none⟩ (.slice va k vc)) (.returned (.agg #[.int .i64 AU, .int .i64 RD, .slice va k vc])) R s) := by
        have farI : ∀ (W : World) (j : Nat) (v : Value), StrsAt W va (bT s5 k) → StrsAt (W.setCell ⟨w.heap.size, j, none⟩ v) va (bT s5 k) := fun W j v h => strs_only (R := w.heap.size) h ((Only.refl _ W).setCell) (fun sb so e e2 => by have := hfv sb so e; omega)
        refine ⟨va, vc, ?_, ?_, fun sb so e => by have := hfv sb so e; omega, ?_, ?_⟩
        · rw [HAU.out.1, HAU.out.2.1, HAU.out.2.2.1]
        · rw [HAU.out.2.2.1, HAU.out.2.2.2]
          exact farI _ _ _ (farI _ _ _ (farI _ _ _ hI))
        · rw [HAU.out.2.2.1, HAU.out.2.2.2]
          exact RdrAt.far (RdrAt.far (RdrAt.far hRk hlt) hlt) hlt
        · exact ⟨hOw.os, hOw.tape, hOw.output, by simpa using hOw.size, fun q hq hn => (heap_setCell_other _ ⟨w.heap.size, 2, none⟩ q _ (by show q ≠ w.heap.size; omega)).trans ((heap_setCell_other _ ⟨w.heap.size, 1, none⟩ q _ (by show q ≠ w.heap.size; omega)).trans ((heap_setCell_other _ ⟨w.heap.size, 0, none⟩ q _ (by show q ≠ w.heap.size; omega)).trans (hOw.block q hq hn)))⟩
      clear hI hfv hRk hok hOw hOw1 ho z0 r0
      go_wp2_with fail
      exact bodyPost_ret (v := .agg #[.int .i64 AU, .int .i64 RD, .slice va k vc]) (by simp [results, Try.results82, go_sem, d0, d1, d2]) rfl hX.out
end Go.Proofs.Ytldlknmpkoebbaa

namespace Go.Proofs.Ytldlknmpkoebbaa
open Go.RowKit

/-- What a message says. -/
structure MC where
  (fr tt ki bau bnu : Int) (ss : List ByteArray) (hau hrd : Int) (bl pl : List (List Int)) (sau srd : Int) (ds : List Int) (cau crd : Int) (cbl cpl : List (List Int)) (vl : List Int) (ro : Int)
def MV.c (x : MV) : MC := ⟨x.m.fr, x.m.tt, x.m.ki, x.m.bau, x.m.bnu, x.ss, x.m.hau, x.m.hrd, x.bl.map (·.bs), x.pl.map (·.bs), x.m.sau, x.m.srd, x.ds, x.m.cau, x.m.crd, x.cbl.map (·.bs), x.cpl.map (·.bs), x.vl, x.m.ro⟩
/-- The message that bytes tell, by its kind. -/
def pM (s : St) : MC :=
  if nB 1 s = 1 then ⟨nB 1 (nx 1 s), nB 1 (nx 1 (nx 1 s)), nB 1 s, nB 1 (nx 1 (nx 1 (nx 1 s))), nB 3 (nx 1 (nx 1 (nx 1 (nx 1 s)))), bT (nx 1 (bS3 (nx 1 (nx 1 (nx 1 s))))) (bN (nx 1 (nx 1 (nx 1 s)))), 0, 0, [], [], 0, 0, [], 0, 0, [], [], [], 0⟩
  else if nB 1 s = 2 then ⟨nB 1 (nx 1 s), nB 1 (nx 1 (nx 1 s)), nB 1 s, 0, 0, [], nB 1 (nx 1 (nx 1 (nx 1 s))), nB 3 (nx 1 (nx 1 (nx 1 (nx 1 s)))), dgs (nx 3 (nx 1 (nx 1 (nx 1 (nx 1 s))))), dgs (dgS (nx 3 (nx 1 (nx 1 (nx 1 (nx 1 s)))))), 0, 0, [], 0, 0, [], [], [], 0⟩
  else if nB 1 s = 3 then ⟨nB 1 (nx 1 s), nB 1 (nx 1 (nx 1 s)), nB 1 s, 0, 0, [], 0, 0, [], [], nB 1 (nx 1 (nx 1 (nx 1 s))), nB 3 (nx 1 (nx 1 (nx 1 (nx 1 s)))), tT 32 (nx 3 (nx 1 (nx 1 (nx 1 (nx 1 s))))), 0, 0, [], [], [], 0⟩
  else if nB 1 s = 4 then ⟨nB 1 (nx 1 s), nB 1 (nx 1 (nx 1 s)), nB 1 s, 0, 0, [], 0, 0, [], [], 0, 0, [], nB 1 (nx 1 (nx 1 (nx 1 s))), nB 3 (nx 1 (nx 1 (nx 1 (nx 1 s)))), dgs (nx 3 (nx 1 (nx 1 (nx 1 (nx 1 s))))), dgs (dgS (nx 3 (nx 1 (nx 1 (nx 1 (nx 1 s)))))), nV (nx 1 (hS4 (nx 1 (nx 1 (nx 1 s))))) (cN (nx 1 (nx 1 (nx 1 s)))), 0⟩
  else ⟨nB 1 (nx 1 s), nB 1 (nx 1 (nx 1 s)), nB 1 s, 0, 0, [], 0, 0, [], [], 0, 0, [], 0, 0, [], [], [], nB 3 (nx 1 (nx 1 (nx 1 s)))⟩
/-- What is left behind it. -/
def mS (s : St) : St :=
  if nB 1 s = 1 then bL (nx 1 (bS3 (nx 1 (nx 1 (nx 1 s))))) (bN (nx 1 (nx 1 (nx 1 s)))) else if nB 1 s = 2 then dgS (dgS (nx 3 (nx 1 (nx 1 (nx 1 (nx 1 s)))))) else if nB 1 s = 3 then nx 32 (nx 3 (nx 1 (nx 1 (nx 1 (nx 1 s))))) else if nB 1 s = 4 then nL (nx 1 (hS4 (nx 1 (nx 1 (nx 1 s))))) (cN (nx 1 (nx 1 (nx 1 s)))) else nx 3 (nx 1 (nx 1 (nx 1 s)))
structure MsgRd (w w' : World) (e : Ending) (R : Nat) (s : St) : Prop where
  out : ∃ x : MV, e = .returned (.agg #[.int .i64 x.m.fr, .int .i64 x.m.tt, .int .i64 x.m.ki, .int .i64 x.m.bau, .int .i64 x.m.bnu, .slice x.m.bta x.m.btn x.m.btc, .int .i64 x.m.hau, .int .i64 x.m.hrd, .slice x.m.hba x.m.hbn x.m.hbc, .slice x.m.hpa x.m.hpn x.m.hpc, .int .i64 x.m.sau, .int .i64 x.m.srd, .slice x.m.sda x.m.sdn x.m.sdc, .int .i64 x.m.cau, .int .i64 x.m.crd, .slice x.m.cba x.m.cbn x.m.cbc, .slice x.m.cpa x.m.cpn x.m.cpc, .slice x.m.cva x.m.cvn x.m.cvc, .int .i64 x.m.ro]) ∧ MAt w' x ∧ HasM (fun q => w.heap.size ≤ q) x ∧ x.c = pM s ∧ RdS w' R (mS s) ∧ Only R w w'
set_option maxRecDepth 100000 in
set_option maxHeartbeats 8000000 in
theorem message_rd (R : Nat) (s : St) (w : World) (hR : RdS w R s) (hs : GoodS s) (hk : 1 ≤ nB 1 s ∧ nB 1 s ≤ 5) :
    Calls Try.prog 73 #[.pointer (some ⟨R, 0, none⟩)] w fun e w' => MsgRd w w' e R s := by
  have hlt : R < w.heap.size := RdrAt.lt hR
  have hA : Below w.heap.size w (w.alloc (.cells #[.int .i64 0, .int .i64 0, .int .i64 0, .int .i64 0, .int .i64 0, .slice none 0 0, .int .i64 0, .int .i64 0, .slice none 0 0, .slice none 0 0, .int .i64 0, .int .i64 0, .slice none 0 0, .int .i64 0, .int .i64 0, .slice none 0 0, .slice none 0 0, .slice none 0 0, .int .i64 0] 53)) := (Below.refl _ _).alloc (Nat.le_refl _) _
  have q0 := heap_alloc_new w (.cells #[.int .i64 0, .int .i64 0, .int .i64 0, .int .i64 0, .int .i64 0, .slice none 0 0, .int .i64 0, .int .i64 0, .slice none 0 0, .slice none 0 0, .int .i64 0, .int .i64 0, .slice none 0 0, .int .i64 0, .int .i64 0, .slice none 0 0, .slice none 0 0, .slice none 0 0, .int .i64 0] 53)
  have hsz : w.heap.size < (w.alloc (.cells #[.int .i64 0, .int .i64 0, .int .i64 0, .int .i64 0, .int .i64 0, .slice none 0 0, .int .i64 0, .int .i64 0, .slice none 0 0, .slice none 0 0, .int .i64 0, .int .i64 0, .slice none 0 0, .int .i64 0, .int .i64 0, .slice none 0 0, .slice none 0 0, .slice none 0 0, .int .i64 0] 53)).heap.size := lt_of_heap q0
  have hgs3 : GoodS (nx 1 (nx 1 (nx 1 s))) := hs.nx.nx.nx
  have hn1 : bN (nx 1 (nx 1 (nx 1 s))) ≤ 255 := by have := nB1_bounds (s := bS3 (nx 1 (nx 1 (nx 1 s)))) hgs3.nx.nx; show (nB 1 (bS3 (nx 1 (nx 1 (nx 1 s))))).toNat ≤ 255; omega
  have hn4 : cN (nx 1 (nx 1 (nx 1 s))) ≤ 255 := by have := nB1_bounds (s := hS4 (nx 1 (nx 1 (nx 1 s)))) (GoodS.dgS (GoodS.dgS hgs3.nx.nx)); show (nB 1 (hS4 (nx 1 (nx 1 (nx 1 s))))).toNat ≤ 255; omega
  go_enter Try.func73, Try.ntmps73
  go_wp2_with fail
  generalize w.alloc (.cells #[.int .i64 0, .int .i64 0, .int .i64 0, .int .i64 0, .int .i64 0, .slice none 0 0, .int .i64 0, .int .i64 0, .slice none 0 0, .slice none 0 0, .int .i64 0, .int .i64 0, .slice none 0 0, .int .i64 0, .int .i64 0, .slice none 0 0, .slice none 0 0, .slice none 0 0, .int .i64 0] 53) = W0 at hA q0 hsz ⊢
  refine (number_st R 1 s W0 (RdrAt.below hR hA) hs (by omega)).mono ?_
  rintro e w1 ⟨he, hR1, ho1⟩
  subst he
  dsimp only
  go_wp2_with fail
  refine (number_st R 1 _ w1 hR1 hs.nx (by omega)).mono ?_
  rintro e w2 ⟨he, hR2, ho2⟩
  subst he
  dsimp only
  go_wp2_with fail
  refine (number_st R 1 _ w2 hR2 hs.nx.nx (by omega)).mono ?_
  rintro e w3 ⟨he, hR3, ho3⟩
  subst he
  dsimp only
  have hO3 := (ho1.trans ho2).trans ho3
  have p3 := (hO3.block _ hsz (by omega)).trans q0
  have hlt3 : w.heap.size < w3.heap.size := lt_of_heap p3
  have qz := heap_alloc_new w3 (.cells #[.int .i64 0, .int .i64 0, .int .i64 0, .int .i64 0, .int .i64 0, .slice none 0 0, .int .i64 0, .int .i64 0, .slice none 0 0, .slice none 0 0, .int .i64 0, .int .i64 0, .slice none 0 0, .int .i64 0, .int .i64 0, .slice none 0 0, .slice none 0 0, .slice none 0 0, .int .i64 0] 53)
  have hAM : Below w3.heap.size w3 ((w3.alloc (.cells #[.int .i64 0, .int .i64 0, .int .i64 0, .int .i64 0, .int .i64 0, .slice none 0 0, .int .i64 0, .int .i64 0, .slice none 0 0, .slice none 0 0, .int .i64 0, .int .i64 0, .slice none 0 0, .int .i64 0, .int .i64 0, .slice none 0 0, .slice none 0 0, .slice none 0 0, .int .i64 0] 53)).setRow w3.heap.size #[.int .i64 (nB 1 (nx 1 s)), .int .i64 (nB 1 (nx 1 (nx 1 s))), .int .i64 (nB 1 s), .int .i64 0, .int .i64 0, .slice none 0 0, .int .i64 0, .int .i64 0, .slice none 0 0, .slice none 0 0, .int .i64 0, .int .i64 0, .slice none 0 0, .int .i64 0, .int .i64 0, .slice none 0 0, .slice none 0 0, .slice none 0 0, .int .i64 0]) := laid_row w3 #[.int .i64 0, .int .i64 0, .int .i64 0, .int .i64 0, .int .i64 0, .slice none 0 0, .int .i64 0, .int .i64 0, .slice none 0 0, .slice none 0 0, .int .i64 0, .int .i64 0, .slice none 0 0, .int .i64 0, .int .i64 0, .slice none 0 0, .slice none 0 0, .slice none 0 0, .int .i64 0] #[.int .i64 (nB 1 (nx 1 s)), .int .i64 (nB 1 (nx 1 (nx 1 s))), .int .i64 (nB 1 s), .int .i64 0, .int .i64 0, .slice none 0 0, .int .i64 0, .int .i64 0, .slice none 0 0, .slice none 0 0, .int .i64 0, .int .i64 0, .slice none 0 0, .int .i64 0, .int .i64 0, .slice none 0 0, .slice none 0 0, .slice none 0 0, .int .i64 0] 53
  have qM := setRow_heap _ _ _ #[.int .i64 (nB 1 (nx 1 s)), .int .i64 (nB 1 (nx 1 (nx 1 s))), .int .i64 (nB 1 s), .int .i64 0, .int .i64 0, .slice none 0 0, .int .i64 0, .int .i64 0, .slice none 0 0, .slice none 0 0, .int .i64 0, .int .i64 0, .slice none 0 0, .int .i64 0, .int .i64 0, .slice none 0 0, .slice none 0 0, .slice none 0 0, .int .i64 0] _ _ qz
  have zM := (hAM.block _ hlt3).trans p3
  have hszM : w3.heap.size < ((w3.alloc (.cells #[.int .i64 0, .int .i64 0, .int .i64 0, .int .i64 0, .int .i64 0, .slice none 0 0, .int .i64 0, .int .i64 0, .slice none 0 0, .slice none 0 0, .int .i64 0, .int .i64 0, .slice none 0 0, .int .i64 0, .int .i64 0, .slice none 0 0, .slice none 0 0, .slice none 0 0, .int .i64 0] 53)).setRow w3.heap.size #[.int .i64 (nB 1 (nx 1 s)), .int .i64 (nB 1 (nx 1 (nx 1 s))), .int .i64 (nB 1 s), .int .i64 0, .int .i64 0, .slice none 0 0, .int .i64 0, .int .i64 0, .slice none 0 0, .slice none 0 0, .int .i64 0, .int .i64 0, .slice none 0 0, .int .i64 0, .int .i64 0, .slice none 0 0, .slice none 0 0, .slice none 0 0, .int .i64 0]).heap.size := lt_of_heap qM
  go_upto_region 2 with (refine wpList_store_row rfl 53 _ _ rfl w3.heap.size #[.int .i64 (nB 1 (nx 1 s)), .int .i64 (nB 1 (nx 1 (nx 1 s))), .int .i64 (nB 1 s), .int .i64 0, .int .i64 0, .slice none 0 0, .int .i64 0, .int .i64 0, .slice none 0 0, .slice none 0 0, .int .i64 0, .int .i64 0, .slice none 0 0, .int .i64 0, .int .i64 0, .slice none 0 0, .slice none 0 0, .slice none 0 0, .int .i64 0] rfl rfl 53 _ qz sMsg' rfl (by simp [Value.oneCell']) ?_)
  generalize (w3.alloc (.cells #[.int .i64 0, .int .i64 0, .int .i64 0, .int .i64 0, .int .i64 0, .slice none 0 0, .int .i64 0, .int .i64 0, .slice none 0 0, .slice none 0 0, .int .i64 0, .int .i64 0, .slice none 0 0, .int .i64 0, .int .i64 0, .slice none 0 0, .slice none 0 0, .slice none 0 0, .int .i64 0] 53)).setRow w3.heap.size #[.int .i64 (nB 1 (nx 1 s)), .int .i64 (nB 1 (nx 1 (nx 1 s))), .int .i64 (nB 1 s), .int .i64 0, .int .i64 0, .slice none 0 0, .int .i64 0, .int .i64 0, .slice none 0 0, .slice none 0 0, .int .i64 0, .int .i64 0, .slice none 0 0, .int .i64 0, .int .i64 0, .slice none 0 0, .slice none 0 0, .slice none 0 0, .int .i64 0] = WB at hAM qM zM hszM ⊢
  have hRM : RdS WB R (nx 1 (nx 1 (nx 1 s))) := RdrAt.below hR3 hAM
  have hOM : Only R W0 WB := hO3.trans (only_of_below hAM)
  have hOw0 : Only R w W0 := only_of_below hA
  generalize hMB : w3.heap.size = MB at qM hszM hlt3 ⊢
  clear hMB hAM qz p3 hO3 ho1 ho2 ho3 hR1 hR2 hR3 q0
  have c2 : WB.cell? ⟨MB, 2, none⟩ = some (.int .i64 (nB 1 s)) := cells_at qM 2 _ rfl
  have hkk : nB 1 s = 1 ∨ nB 1 s = 2 ∨ nB 1 s = 3 ∨ nB 1 s = 4 ∨ nB 1 s = 5 := by omega
  clear hk
  rcases hkk with hk | hk | hk | hk | hk
  · rw [hk] at qM c2 ⊢
    have HKI : Hid (nB 1 s = 1) := hk
    clear hk
    go_wp2_with fail
    refine (batch_rd R (nx 1 (nx 1 (nx 1 s))) WB hRM hgs3).mono ?_
    rintro e w5 ⟨ta, tc, he, hS5, hf5, hR5, ho5⟩
    subst he
    dsimp only
    have r5 := (ho5.block _ hszM (by omega)).trans qM
    have z5 := (ho5.block _ (by omega) (by omega)).trans zM
    have hO5 := hOM.trans ho5
    have hne0 : w.heap.size ≠ MB := by omega
    have hneM := hne0
    have x3 : w5.cell? ⟨MB, 3, none⟩ = some (.int .i64 0) := cells_at r5 3 _ rfl
    have y3 := frozen_at r5 3
    have x4 : w5.cell? ⟨MB, 4, none⟩ = some (.int .i64 0) := cells_at r5 4 _ rfl
    have y4 := frozen_at r5 4
    have x5 : w5.cell? ⟨MB, 5, none⟩ = some (.slice none 0 0) := cells_at r5 5 _ rfl
    have y5 := frozen_at r5 5
    have rF : (((w5.setCell ⟨MB, 3, none⟩ (.int .i64 (nB 1 (nx 1 (nx 1 (nx 1 s)))))).setCell ⟨MB, 4, none⟩ (.int .i64 (nB 3 (nx 1 (nx 1 (nx 1 (nx 1 s))))))).setCell ⟨MB, 5, none⟩ (.slice ta (bN (nx 1 (nx 1 (nx 1 s)))) tc)).heap[MB]? = some (.cells #[.int .i64 (nB 1 (nx 1 s)), .int .i64 (nB 1 (nx 1 (nx 1 s))), .int .i64 1, .int .i64 (nB 1 (nx 1 (nx 1 (nx 1 s)))), .int .i64 (nB 3 (nx 1 (nx 1 (nx 1 (nx 1 s))))), .slice ta (bN (nx 1 (nx 1 (nx 1 s)))) tc, .int .i64 0, .int .i64 0, .slice none 0 0, .slice none 0 0, .int .i64 0, .int .i64 0, .slice none 0 0, .int .i64 0, .int .i64 0, .slice none 0 0, .slice none 0 0, .slice none 0 0, .int .i64 0] 53 (0, 0)) := by simpa using (heap_setCell_same _ _ 5 _ _ (.slice ta (bN (nx 1 (nx 1 (nx 1 s)))) tc) (heap_setCell_same _ _ 4 _ _ (.int .i64 (nB 3 (nx 1 (nx 1 (nx 1 (nx 1 s)))))) (heap_setCell_same _ _ 3 _ _ (.int .i64 (nB 1 (nx 1 (nx 1 (nx 1 s))))) r5)))
    have zF := (heap_far (j := 5) (v := .slice ta (bN (nx 1 (nx 1 (nx 1 s)))) tc) (heap_far (j := 4) (v := .int .i64 (nB 3 (nx 1 (nx 1 (nx 1 (nx 1 s)))))) (heap_far (j := 3) (v := .int .i64 (nB 1 (nx 1 (nx 1 (nx 1 s))))) z5 hneM) hneM) hneM)
    have HX : Hid (∃ x : MV, (.agg #[.int .i64 x.m.fr, .int .i64 x.m.tt, .int .i64 x.m.ki, .int .i64 x.m.bau, .int .i64 x.m.bnu, .slice x.m.bta x.m.btn x.m.btc, .int .i64 x.m.hau, .int .i64 x.m.hrd, .slice x.m.hba x.m.hbn x.m.hbc, .slice x.m.hpa x.m.hpn x.m.hpc, .int .i64 x.m.sau, .int .i64 x.m.srd, .slice x.m.sda x.m.sdn x.m.sdc, .int .i64 x.m.cau, .int .i64 x.m.crd, .slice x.m.cba x.m.cbn x.m.cbc, .slice x.m.cpa x.m.cpn x.m.cpc, .slice x.m.cva x.m.cvn x.m.cvc, .int .i64 x.m.ro] : Value) = .agg #[.int .i64 (nB 1 (nx 1 s)), .int .i64 (nB 1 (nx 1 (nx 1 s))), .int .i64 1, .int .i64 (nB 1 (nx 1 (nx 1 (nx 1 s)))), .int .i64 (nB 3 (nx 1 (nx 1 (nx 1 (nx 1 s))))), .slice ta (bN (nx 1 (nx 1 (nx 1 s)))) tc, .int .i64 0, .int .i64 0, .slice none 0 0, .slice none 0 0, .int .i64 0, .int .i64 0, .slice none 0 0, .int .i64 0, .int .i64 0, .slice none 0 0, .slice none 0 0, .slice none 0 0, .int .i64 0] ∧ MAt w5 x ∧ HasM (fun q => WB.heap.size ≤ q) x ∧ x.c = pM s ∧ RdS w5 R (mS s)) := by
      refine ⟨⟨⟨nB 1 (nx 1 s), nB 1 (nx 1 (nx 1 s)), 1, nB 1 (nx 1 (nx 1 (nx 1 s))), nB 3 (nx 1 (nx 1 (nx 1 (nx 1 s)))), 0, 0, 0, 0, 0, 0, 0, ta, none, none, none, none, none, none, bN (nx 1 (nx 1 (nx 1 s))), tc, 0, 0, 0, 0, 0, 0, 0, 0, 0, 0, 0, 0⟩, bT (nx 1 (bS3 (nx 1 (nx 1 (nx 1 s))))) (bN (nx 1 (nx 1 (nx 1 s)))), [], [], [], [], [], []⟩, rfl, ⟨⟨(bT_length _ _).symm, rfl, rfl, rfl, rfl, rfl, by rw [bT_length]; have := hn1; omega, by simp, by simp, hS5, (list_nilM _), (list_nilM _), (list_nilM _), (list_nilM _), ⟨.inl rfl⟩⟩, (nilM _), rfl⟩, NewM.has (x := ⟨⟨nB 1 (nx 1 s), nB 1 (nx 1 (nx 1 s)), 1, nB 1 (nx 1 (nx 1 (nx 1 s))), nB 3 (nx 1 (nx 1 (nx 1 (nx 1 s)))), 0, 0, 0, 0, 0, 0, 0, ta, none, none, none, none, none, none, bN (nx 1 (nx 1 (nx 1 s))), tc, 0, 0, 0, 0, 0, 0, 0, 0, 0, 0, 0, 0⟩, bT (nx 1 (bS3 (nx 1 (nx 1 (nx 1 s))))) (bN (nx 1 (nx 1 (nx 1 s)))), [], [], [], [], [], []⟩) ⟨hf5, ⟨(fun _ _ e => by cases e), (fun p hp => by cases hp)⟩, ⟨(fun _ _ e => by cases e), (fun p hp => by cases hp)⟩, (fun _ _ e => by cases e), ⟨(fun _ _ e => by cases e), (fun p hp => by cases hp)⟩, ⟨(fun _ _ e => by cases e), (fun p hp => by cases hp)⟩, (fun _ _ e => by cases e)⟩, ?_, ?_⟩
      · simp only [MV.c, pM, HKI.out]; rfl
      · simp only [mS, HKI.out]
        exact hR5
    have HQ : Hid (∀ q, q ≠ MB → (((w5.setCell ⟨MB, 3, none⟩ (.int .i64 (nB 1 (nx 1 (nx 1 (nx 1 s)))))).setCell ⟨MB, 4, none⟩ (.int .i64 (nB 3 (nx 1 (nx 1 (nx 1 (nx 1 s))))))).setCell ⟨MB, 5, none⟩ (.slice ta (bN (nx 1 (nx 1 (nx 1 s)))) tc)).heap[q]? = w5.heap[q]?) := by
      show ∀ _, _
      intro q hq1
      exact ((heap_setCell_other _ ⟨MB, 5, none⟩ q _ hq1).trans ((heap_setCell_other _ ⟨MB, 4, none⟩ q _ hq1).trans ((heap_setCell_other _ ⟨MB, 3, none⟩ q _ hq1).trans (rfl : w5.heap[q]? = w5.heap[q]?))))
    have HZ : Hid ((((w5.setCell ⟨MB, 3, none⟩ (.int .i64 (nB 1 (nx 1 (nx 1 (nx 1 s)))))).setCell ⟨MB, 4, none⟩ (.int .i64 (nB 3 (nx 1 (nx 1 (nx 1 (nx 1 s))))))).setCell ⟨MB, 5, none⟩ (.slice ta (bN (nx 1 (nx 1 (nx 1 s)))) tc)).heap.size = w5.heap.size) := by show _ = _; simp
    have HO : Hid ((((w5.setCell ⟨MB, 3, none⟩ (.int .i64 (nB 1 (nx 1 (nx 1 (nx 1 s)))))).setCell ⟨MB, 4, none⟩ (.int .i64 (nB 3 (nx 1 (nx 1 (nx 1 (nx 1 s))))))).setCell ⟨MB, 5, none⟩ (.slice ta (bN (nx 1 (nx 1 (nx 1 s)))) tc)).os = w5.os ∧ (((w5.setCell ⟨MB, 3, none⟩ (.int .i64 (nB 1 (nx 1 (nx 1 (nx 1 s)))))).setCell ⟨MB, 4, none⟩ (.int .i64 (nB 3 (nx 1 (nx 1 (nx 1 (nx 1 s))))))).setCell ⟨MB, 5, none⟩ (.slice ta (bN (nx 1 (nx 1 (nx 1 s)))) tc)).tape = w5.tape ∧ (((w5.setCell ⟨MB, 3, none⟩ (.int .i64 (nB 1 (nx 1 (nx 1 (nx 1 s)))))).setCell ⟨MB, 4, none⟩ (.int .i64 (nB 3 (nx 1 (nx 1 (nx 1 (nx 1 s))))))).setCell ⟨MB, 5, none⟩ (.slice ta (bN (nx 1 (nx 1 (nx 1 s)))) tc)).output = w5.output) := ⟨rfl, rfl, rfl⟩
    go_upto_region 13 with fail
    generalize (((w5.setCell ⟨MB, 3, none⟩ (.int .i64 (nB 1 (nx 1 (nx 1 (nx 1 s)))))).setCell ⟨MB, 4, none⟩ (.int .i64 (nB 3 (nx 1 (nx 1 (nx 1 (nx 1 s))))))).setCell ⟨MB, 5, none⟩ (.slice ta (bN (nx 1 (nx 1 (nx 1 s)))) tc)) = VF at rF zF HQ HZ HO ⊢
    clear r5 z5 x3 y3 x4 y4 x5 y5
    go_wp2_with (first | refine wpList_load_row rfl 53 _ rfl MB rfl 53 #[.int .i64 (nB 1 (nx 1 s)), .int .i64 (nB 1 (nx 1 (nx 1 s))), .int .i64 1, .int .i64 (nB 1 (nx 1 (nx 1 (nx 1 s)))), .int .i64 (nB 3 (nx 1 (nx 1 (nx 1 (nx 1 s))))), .slice ta (bN (nx 1 (nx 1 (nx 1 s)))) tc, .int .i64 0, .int .i64 0, .slice none 0 0, .slice none 0 0, .int .i64 0, .int .i64 0, .slice none 0 0, .int .i64 0, .int .i64 0, .slice none 0 0, .slice none 0 0, .slice none 0 0, .int .i64 0] (0, 0) _ rF Try.underlying53 rfl sMsg' ?_ | refine wpList_store_row rfl 53 _ _ rfl w.heap.size #[.int .i64 (nB 1 (nx 1 s)), .int .i64 (nB 1 (nx 1 (nx 1 s))), .int .i64 1, .int .i64 (nB 1 (nx 1 (nx 1 (nx 1 s)))), .int .i64 (nB 3 (nx 1 (nx 1 (nx 1 (nx 1 s))))), .slice ta (bN (nx 1 (nx 1 (nx 1 s)))) tc, .int .i64 0, .int .i64 0, .slice none 0 0, .slice none 0 0, .int .i64 0, .int .i64 0, .slice none 0 0, .int .i64 0, .int .i64 0, .slice none 0 0, .slice none 0 0, .slice none 0 0, .int .i64 0] rfl rfl 53 _ zF sMsg' rfl (by simp [Value.oneCell']) ?_)
    obtain ⟨x, hxe, hxM, hxH, hxc, hxR⟩ := HX.out
    refine bodyPost_ret (v := .agg #[.int .i64 (nB 1 (nx 1 s)), .int .i64 (nB 1 (nx 1 (nx 1 s))), .int .i64 1, .int .i64 (nB 1 (nx 1 (nx 1 (nx 1 s)))), .int .i64 (nB 3 (nx 1 (nx 1 (nx 1 (nx 1 s))))), .slice ta (bN (nx 1 (nx 1 (nx 1 s)))) tc, .int .i64 0, .int .i64 0, .slice none 0 0, .slice none 0 0, .int .i64 0, .int .i64 0, .slice none 0 0, .int .i64 0, .int .i64 0, .slice none 0 0, .slice none 0 0, .slice none 0 0, .int .i64 0]) (results_cell_row (fn := Try.f73) (p := 2) (ty := 53) rfl _ _ w.heap.size 53 _ (0, 0) _ rfl (setRow_heap _ _ _ _ _ _ zF) Try.underlying53 rfl sMsg') rfl ⟨x, by rw [hxe], ?_, hxH.mono (fun q hq => by omega), hxc, ?_, ?_⟩
    · refine hxM.stays (G := fun q => WB.heap.size ≤ q) (fun q hq => ?_) hxH
      exact (setRow_other _ w.heap.size q _ (by omega)).trans (HQ.out q (by omega))
    · refine RdrAt.stays hxR (fun q hq => ?_)
      exact (setRow_other _ w.heap.size q _ (by omega)).trans (HQ.out q (by omega))
    · have hOw := hOw0.trans hO5
      refine ⟨HO.out.1.trans hOw.os, HO.out.2.1.trans hOw.tape, HO.out.2.2.trans hOw.output, by have := hOw.size; have := HZ.out; simp [World.setRow]; omega, fun q hq hn => ?_⟩
      exact ((setRow_other _ w.heap.size q _ (by omega)).trans (HQ.out q (by omega))).trans (hOw.block q hq hn)
  · rw [hk] at qM c2 ⊢
    have HKI : Hid (nB 1 s = 2) := hk
    clear hk
    go_wp2_with fail
    refine (header_rd R (nx 1 (nx 1 (nx 1 s))) WB hRM hgs3).mono ?_
    rintro e w5 ⟨ba, bc, bl, pa, pc, pl, he, hq1, hq2, hL1, hL2, hF1, hF2, hR5, ho5⟩
    subst he
    dsimp only
    have r5 := (ho5.block _ hszM (by omega)).trans qM
    have z5 := (ho5.block _ (by omega) (by omega)).trans zM
    have hO5 := hOM.trans ho5
    have hne0 : w.heap.size ≠ MB := by omega
    have hneM := hne0
    have x6 : w5.cell? ⟨MB, 6, none⟩ = some (.int .i64 0) := cells_at r5 6 _ rfl
    have y6 := frozen_at r5 6
    have x7 : w5.cell? ⟨MB, 7, none⟩ = some (.int .i64 0) := cells_at r5 7 _ rfl
    have y7 := frozen_at r5 7
    have x8 : w5.cell? ⟨MB, 8, none⟩ = some (.slice none 0 0) := cells_at r5 8 _ rfl
    have y8 := frozen_at r5 8
    have x9 : w5.cell? ⟨MB, 9, none⟩ = some (.slice none 0 0) := cells_at r5 9 _ rfl
    have y9 := frozen_at r5 9
    have rF : ((((w5.setCell ⟨MB, 6, none⟩ (.int .i64 (nB 1 (nx 1 (nx 1 (nx 1 s)))))).setCell ⟨MB, 7, none⟩ (.int .i64 (nB 3 (nx 1 (nx 1 (nx 1 (nx 1 s))))))).setCell ⟨MB, 8, none⟩ (.slice ba bl.length bc)).setCell ⟨MB, 9, none⟩ (.slice pa pl.length pc)).heap[MB]? = some (.cells #[.int .i64 (nB 1 (nx 1 s)), .int .i64 (nB 1 (nx 1 (nx 1 s))), .int .i64 2, .int .i64 0, .int .i64 0, .slice none 0 0, .int .i64 (nB 1 (nx 1 (nx 1 (nx 1 s)))), .int .i64 (nB 3 (nx 1 (nx 1 (nx 1 (nx 1 s))))), .slice ba bl.length bc, .slice pa pl.length pc, .int .i64 0, .int .i64 0, .slice none 0 0, .int .i64 0, .int .i64 0, .slice none 0 0, .slice none 0 0, .slice none 0 0, .int .i64 0] 53 (0, 0)) := by simpa using (heap_setCell_same _ _ 9 _ _ (.slice pa pl.length pc) (heap_setCell_same _ _ 8 _ _ (.slice ba bl.length bc) (heap_setCell_same _ _ 7 _ _ (.int .i64 (nB 3 (nx 1 (nx 1 (nx 1 (nx 1 s)))))) (heap_setCell_same _ _ 6 _ _ (.int .i64 (nB 1 (nx 1 (nx 1 (nx 1 s))))) r5))))
    have zF := (heap_far (j := 9) (v := .slice pa pl.length pc) (heap_far (j := 8) (v := .slice ba bl.length bc) (heap_far (j := 7) (v := .int .i64 (nB 3 (nx 1 (nx 1 (nx 1 (nx 1 s)))))) (heap_far (j := 6) (v := .int .i64 (nB 1 (nx 1 (nx 1 (nx 1 s))))) z5 hneM) hneM) hneM) hneM)
    have HX : Hid (∃ x : MV, (.agg #[.int .i64 x.m.fr, .int .i64 x.m.tt, .int .i64 x.m.ki, .int .i64 x.m.bau, .int .i64 x.m.bnu, .slice x.m.bta x.m.btn x.m.btc, .int .i64 x.m.hau, .int .i64 x.m.hrd, .slice x.m.hba x.m.hbn x.m.hbc, .slice x.m.hpa x.m.hpn x.m.hpc, .int .i64 x.m.sau, .int .i64 x.m.srd, .slice x.m.sda x.m.sdn x.m.sdc, .int .i64 x.m.cau, .int .i64 x.m.crd, .slice x.m.cba x.m.cbn x.m.cbc, .slice x.m.cpa x.m.cpn x.m.cpc, .slice x.m.cva x.m.cvn x.m.cvc, .int .i64 x.m.ro] : Value) = .agg #[.int .i64 (nB 1 (nx 1 s)), .int .i64 (nB 1 (nx 1 (nx 1 s))), .int .i64 2, .int .i64 0, .int .i64 0, .slice none 0 0, .int .i64 (nB 1 (nx 1 (nx 1 (nx 1 s)))), .int .i64 (nB 3 (nx 1 (nx 1 (nx 1 (nx 1 s))))), .slice ba bl.length bc, .slice pa pl.length pc, .int .i64 0, .int .i64 0, .slice none 0 0, .int .i64 0, .int .i64 0, .slice none 0 0, .slice none 0 0, .slice none 0 0, .int .i64 0] ∧ MAt w5 x ∧ HasM (fun q => WB.heap.size ≤ q) x ∧ x.c = pM s ∧ RdS w5 R (mS s)) := by
      refine ⟨⟨⟨nB 1 (nx 1 s), nB 1 (nx 1 (nx 1 s)), 2, 0, 0, nB 1 (nx 1 (nx 1 (nx 1 s))), nB 3 (nx 1 (nx 1 (nx 1 (nx 1 s)))), 0, 0, 0, 0, 0, none, ba, pa, none, none, none, none, 0, 0, bl.length, bc, pl.length, pc, 0, 0, 0, 0, 0, 0, 0, 0⟩, [], bl, pl, [], [], [], []⟩, rfl, ⟨⟨rfl, rfl, rfl, rfl, rfl, rfl, by simp, by simp, by simp, ⟨.inl rfl, fun s h => by cases h⟩, hL1, hL2, (list_nilM _), (list_nilM _), ⟨.inl rfl⟩⟩, (nilM _), rfl⟩, NewM.has (x := ⟨⟨nB 1 (nx 1 s), nB 1 (nx 1 (nx 1 s)), 2, 0, 0, nB 1 (nx 1 (nx 1 (nx 1 s))), nB 3 (nx 1 (nx 1 (nx 1 (nx 1 s)))), 0, 0, 0, 0, 0, none, ba, pa, none, none, none, none, 0, 0, bl.length, bc, pl.length, pc, 0, 0, 0, 0, 0, 0, 0, 0⟩, [], bl, pl, [], [], [], []⟩) ⟨(fun _ _ e => by cases e), hF1, hF2, (fun _ _ e => by cases e), ⟨(fun _ _ e => by cases e), (fun p hp => by cases hp)⟩, ⟨(fun _ _ e => by cases e), (fun p hp => by cases hp)⟩, (fun _ _ e => by cases e)⟩, ?_, ?_⟩
      · simp only [MV.c, pM, HKI.out, hq1, hq2]; rfl
      · simp only [mS, HKI.out]
        exact hR5
    clear hq1 hq2 hL1 hL2 hF1 hF2
    have HQ : Hid (∀ q, q ≠ MB → ((((w5.setCell ⟨MB, 6, none⟩ (.int .i64 (nB 1 (nx 1 (nx 1 (nx 1 s)))))).setCell ⟨MB, 7, none⟩ (.int .i64 (nB 3 (nx 1 (nx 1 (nx 1 (nx 1 s))))))).setCell ⟨MB, 8, none⟩ (.slice ba bl.length bc)).setCell ⟨MB, 9, none⟩ (.slice pa pl.length pc)).heap[q]? = w5.heap[q]?) := by
      show ∀ _, _
      intro q hq1
      exact ((heap_setCell_other _ ⟨MB, 9, none⟩ q _ hq1).trans ((heap_setCell_other _ ⟨MB, 8, none⟩ q _ hq1).trans ((heap_setCell_other _ ⟨MB, 7, none⟩ q _ hq1).trans ((heap_setCell_other _ ⟨MB, 6, none⟩ q _ hq1).trans (rfl : w5.heap[q]? = w5.heap[q]?)))))
    have HZ : Hid (((((w5.setCell ⟨MB, 6, none⟩ (.int .i64 (nB 1 (nx 1 (nx 1 (nx 1 s)))))).setCell ⟨MB, 7, none⟩ (.int .i64 (nB 3 (nx 1 (nx 1 (nx 1 (nx 1 s))))))).setCell ⟨MB, 8, none⟩ (.slice ba bl.length bc)).setCell ⟨MB, 9, none⟩ (.slice pa pl.length pc)).heap.size = w5.heap.size) := by show _ = _; simp
    have HO : Hid (((((w5.setCell ⟨MB, 6, none⟩ (.int .i64 (nB 1 (nx 1 (nx 1 (nx 1 s)))))).setCell ⟨MB, 7, none⟩ (.int .i64 (nB 3 (nx 1 (nx 1 (nx 1 (nx 1 s))))))).setCell ⟨MB, 8, none⟩ (.slice ba bl.length bc)).setCell ⟨MB, 9, none⟩ (.slice pa pl.length pc)).os = w5.os ∧ ((((w5.setCell ⟨MB, 6, none⟩ (.int .i64 (nB 1 (nx 1 (nx 1 (nx 1 s)))))).setCell ⟨MB, 7, none⟩ (.int .i64 (nB 3 (nx 1 (nx 1 (nx 1 (nx 1 s))))))).setCell ⟨MB, 8, none⟩ (.slice ba bl.length bc)).setCell ⟨MB, 9, none⟩ (.slice pa pl.length pc)).tape = w5.tape ∧ ((((w5.setCell ⟨MB, 6, none⟩ (.int .i64 (nB 1 (nx 1 (nx 1 (nx 1 s)))))).setCell ⟨MB, 7, none⟩ (.int .i64 (nB 3 (nx 1 (nx 1 (nx 1 (nx 1 s))))))).setCell ⟨MB, 8, none⟩ (.slice ba bl.length bc)).setCell ⟨MB, 9, none⟩ (.slice pa pl.length pc)).output = w5.output) := ⟨rfl, rfl, rfl⟩
    go_upto_region 13 with fail
    generalize ((((w5.setCell ⟨MB, 6, none⟩ (.int .i64 (nB 1 (nx 1 (nx 1 (nx 1 s)))))).setCell ⟨MB, 7, none⟩ (.int .i64 (nB 3 (nx 1 (nx 1 (nx 1 (nx 1 s))))))).setCell ⟨MB, 8, none⟩ (.slice ba bl.length bc)).setCell ⟨MB, 9, none⟩ (.slice pa pl.length pc)) = VF at rF zF HQ HZ HO ⊢
    clear r5 z5 x6 y6 x7 y7 x8 y8 x9 y9
    go_wp2_with (first | refine wpList_load_row rfl 53 _ rfl MB rfl 53 #[.int .i64 (nB 1 (nx 1 s)), .int .i64 (nB 1 (nx 1 (nx 1 s))), .int .i64 2, .int .i64 0, .int .i64 0, .slice none 0 0, .int .i64 (nB 1 (nx 1 (nx 1 (nx 1 s)))), .int .i64 (nB 3 (nx 1 (nx 1 (nx 1 (nx 1 s))))), .slice ba bl.length bc, .slice pa pl.length pc, .int .i64 0, .int .i64 0, .slice none 0 0, .int .i64 0, .int .i64 0, .slice none 0 0, .slice none 0 0, .slice none 0 0, .int .i64 0] (0, 0) _ rF Try.underlying53 rfl sMsg' ?_ | refine wpList_store_row rfl 53 _ _ rfl w.heap.size #[.int .i64 (nB 1 (nx 1 s)), .int .i64 (nB 1 (nx 1 (nx 1 s))), .int .i64 2, .int .i64 0, .int .i64 0, .slice none 0 0, .int .i64 (nB 1 (nx 1 (nx 1 (nx 1 s)))), .int .i64 (nB 3 (nx 1 (nx 1 (nx 1 (nx 1 s))))), .slice ba bl.length bc, .slice pa pl.length pc, .int .i64 0, .int .i64 0, .slice none 0 0, .int .i64 0, .int .i64 0, .slice none 0 0, .slice none 0 0, .slice none 0 0, .int .i64 0] rfl rfl 53 _ zF sMsg' rfl (by simp [Value.oneCell']) ?_)
    obtain ⟨x, hxe, hxM, hxH, hxc, hxR⟩ := HX.out
    refine bodyPost_ret (v := .agg #[.int .i64 (nB 1 (nx 1 s)), .int .i64 (nB 1 (nx 1 (nx 1 s))), .int .i64 2, .int .i64 0, .int .i64 0, .slice none 0 0, .int .i64 (nB 1 (nx 1 (nx 1 (nx 1 s)))), .int .i64 (nB 3 (nx 1 (nx 1 (nx 1 (nx 1 s))))), .slice ba bl.length bc, .slice pa pl.length pc, .int .i64 0, .int .i64 0, .slice none 0 0, .int .i64 0, .int .i64 0, .slice none 0 0, .slice none 0 0, .slice none 0 0, .int .i64 0]) (results_cell_row (fn := Try.f73) (p := 2) (ty := 53) rfl _ _ w.heap.size 53 _ (0, 0) _ rfl (setRow_heap _ _ _ _ _ _ zF) Try.underlying53 rfl sMsg') rfl ⟨x, by rw [hxe], ?_, hxH.mono (fun q hq => by omega), hxc, ?_, ?_⟩
    · refine hxM.stays (G := fun q => WB.heap.size ≤ q) (fun q hq => ?_) hxH
      exact (setRow_other _ w.heap.size q _ (by omega)).trans (HQ.out q (by omega))
    · refine RdrAt.stays hxR (fun q hq => ?_)
      exact (setRow_other _ w.heap.size q _ (by omega)).trans (HQ.out q (by omega))
    · have hOw := hOw0.trans hO5
      refine ⟨HO.out.1.trans hOw.os, HO.out.2.1.trans hOw.tape, HO.out.2.2.trans hOw.output, by have := hOw.size; have := HZ.out; simp [World.setRow]; omega, fun q hq hn => ?_⟩
      exact ((setRow_other _ w.heap.size q _ (by omega)).trans (HQ.out q (by omega))).trans (hOw.block q hq hn)
  · rw [hk] at qM c2 ⊢
    have HKI : Hid (nB 1 s = 3) := hk
    clear hk
    go_wp2_with fail
    refine (slot_any R (nx 1 (nx 1 (nx 1 s))) WB hRM hgs3).mono ?_
    rintro e w5 ⟨da, dc, he, hS5, hf5, hR5, ho5⟩
    subst he
    dsimp only
    have r5 := (ho5.block _ hszM (by omega)).trans qM
    have z5 := (ho5.block _ (by omega) (by omega)).trans zM
    have hO5 := hOM.trans ho5
    have hne0 : w.heap.size ≠ MB := by omega
    have hneM := hne0
    have x10 : w5.cell? ⟨MB, 10, none⟩ = some (.int .i64 0) := cells_at r5 10 _ rfl
    have y10 := frozen_at r5 10
    have x11 : w5.cell? ⟨MB, 11, none⟩ = some (.int .i64 0) := cells_at r5 11 _ rfl
    have y11 := frozen_at r5 11
    have x12 : w5.cell? ⟨MB, 12, none⟩ = some (.slice none 0 0) := cells_at r5 12 _ rfl
    have y12 := frozen_at r5 12
    have rF : (((w5.setCell ⟨MB, 10, none⟩ (.int .i64 (nB 1 (nx 1 (nx 1 (nx 1 s)))))).setCell ⟨MB, 11, none⟩ (.int .i64 (nB 3 (nx 1 (nx 1 (nx 1 (nx 1 s))))))).setCell ⟨MB, 12, none⟩ (.slice da (tT 32 (nx 3 (nx 1 (nx 1 (nx 1 (nx 1 s)))))).length dc)).heap[MB]? = some (.cells #[.int .i64 (nB 1 (nx 1 s)), .int .i64 (nB 1 (nx 1 (nx 1 s))), .int .i64 3, .int .i64 0, .int .i64 0, .slice none 0 0, .int .i64 0, .int .i64 0, .slice none 0 0, .slice none 0 0, .int .i64 (nB 1 (nx 1 (nx 1 (nx 1 s)))), .int .i64 (nB 3 (nx 1 (nx 1 (nx 1 (nx 1 s))))), .slice da (tT 32 (nx 3 (nx 1 (nx 1 (nx 1 (nx 1 s)))))).length dc, .int .i64 0, .int .i64 0, .slice none 0 0, .slice none 0 0, .slice none 0 0, .int .i64 0] 53 (0, 0)) := by simpa using (heap_setCell_same _ _ 12 _ _ (.slice da (tT 32 (nx 3 (nx 1 (nx 1 (nx 1 (nx 1 s)))))).length dc) (heap_setCell_same _ _ 11 _ _ (.int .i64 (nB 3 (nx 1 (nx 1 (nx 1 (nx 1 s)))))) (heap_setCell_same _ _ 10 _ _ (.int .i64 (nB 1 (nx 1 (nx 1 (nx 1 s))))) r5)))
    have zF := (heap_far (j := 12) (v := .slice da (tT 32 (nx 3 (nx 1 (nx 1 (nx 1 (nx 1 s)))))).length dc) (heap_far (j := 11) (v := .int .i64 (nB 3 (nx 1 (nx 1 (nx 1 (nx 1 s)))))) (heap_far (j := 10) (v := .int .i64 (nB 1 (nx 1 (nx 1 (nx 1 s))))) z5 hneM) hneM) hneM)
    have HX : Hid (∃ x : MV, (.agg #[.int .i64 x.m.fr, .int .i64 x.m.tt, .int .i64 x.m.ki, .int .i64 x.m.bau, .int .i64 x.m.bnu, .slice x.m.bta x.m.btn x.m.btc, .int .i64 x.m.hau, .int .i64 x.m.hrd, .slice x.m.hba x.m.hbn x.m.hbc, .slice x.m.hpa x.m.hpn x.m.hpc, .int .i64 x.m.sau, .int .i64 x.m.srd, .slice x.m.sda x.m.sdn x.m.sdc, .int .i64 x.m.cau, .int .i64 x.m.crd, .slice x.m.cba x.m.cbn x.m.cbc, .slice x.m.cpa x.m.cpn x.m.cpc, .slice x.m.cva x.m.cvn x.m.cvc, .int .i64 x.m.ro] : Value) = .agg #[.int .i64 (nB 1 (nx 1 s)), .int .i64 (nB 1 (nx 1 (nx 1 s))), .int .i64 3, .int .i64 0, .int .i64 0, .slice none 0 0, .int .i64 0, .int .i64 0, .slice none 0 0, .slice none 0 0, .int .i64 (nB 1 (nx 1 (nx 1 (nx 1 s)))), .int .i64 (nB 3 (nx 1 (nx 1 (nx 1 (nx 1 s))))), .slice da (tT 32 (nx 3 (nx 1 (nx 1 (nx 1 (nx 1 s)))))).length dc, .int .i64 0, .int .i64 0, .slice none 0 0, .slice none 0 0, .slice none 0 0, .int .i64 0] ∧ MAt w5 x ∧ HasM (fun q => WB.heap.size ≤ q) x ∧ x.c = pM s ∧ RdS w5 R (mS s)) := by
      refine ⟨⟨⟨nB 1 (nx 1 s), nB 1 (nx 1 (nx 1 s)), 3, 0, 0, 0, 0, nB 1 (nx 1 (nx 1 (nx 1 s))), nB 3 (nx 1 (nx 1 (nx 1 (nx 1 s)))), 0, 0, 0, none, none, none, da, none, none, none, 0, 0, 0, 0, 0, 0, (tT 32 (nx 3 (nx 1 (nx 1 (nx 1 (nx 1 s)))))).length, dc, 0, 0, 0, 0, 0, 0⟩, [], [], [], [], [], tT 32 (nx 3 (nx 1 (nx 1 (nx 1 (nx 1 s))))), []⟩, rfl, ⟨⟨rfl, rfl, rfl, rfl, rfl, rfl, by simp, by simp, by have := tkT_len (n := 32) (l := (nx 3 (nx 1 (nx 1 (nx 1 (nx 1 s))))).1) (sh := (nx 3 (nx 1 (nx 1 (nx 1 (nx 1 s))))).2); show (tkT _ _ _).length ≤ _; omega, ⟨.inl rfl, fun s h => by cases h⟩, (list_nilM _), (list_nilM _), (list_nilM _), (list_nilM _), ⟨.inl rfl⟩⟩, hS5, rfl⟩, NewM.has (x := ⟨⟨nB 1 (nx 1 s), nB 1 (nx 1 (nx 1 s)), 3, 0, 0, 0, 0, nB 1 (nx 1 (nx 1 (nx 1 s))), nB 3 (nx 1 (nx 1 (nx 1 (nx 1 s)))), 0, 0, 0, none, none, none, da, none, none, none, 0, 0, 0, 0, 0, 0, (tT 32 (nx 3 (nx 1 (nx 1 (nx 1 (nx 1 s)))))).length, dc, 0, 0, 0, 0, 0, 0⟩, [], [], [], [], [], tT 32 (nx 3 (nx 1 (nx 1 (nx 1 (nx 1 s))))), []⟩) ⟨(fun _ _ e => by cases e), ⟨(fun _ _ e => by cases e), (fun p hp => by cases hp)⟩, ⟨(fun _ _ e => by cases e), (fun p hp => by cases hp)⟩, hf5, ⟨(fun _ _ e => by cases e), (fun p hp => by cases hp)⟩, ⟨(fun _ _ e => by cases e), (fun p hp => by cases hp)⟩, (fun _ _ e => by cases e)⟩, ?_, ?_⟩
      · simp only [MV.c, pM, HKI.out]; rfl
      · simp only [mS, HKI.out]
        exact hR5
    have HQ : Hid (∀ q, q ≠ MB → (((w5.setCell ⟨MB, 10, none⟩ (.int .i64 (nB 1 (nx 1 (nx 1 (nx 1 s)))))).setCell ⟨MB, 11, none⟩ (.int .i64 (nB 3 (nx 1 (nx 1 (nx 1 (nx 1 s))))))).setCell ⟨MB, 12, none⟩ (.slice da (tT 32 (nx 3 (nx 1 (nx 1 (nx 1 (nx 1 s)))))).length dc)).heap[q]? = w5.heap[q]?) := by
      show ∀ _, _
      intro q hq1
      exact ((heap_setCell_other _ ⟨MB, 12, none⟩ q _ hq1).trans ((heap_setCell_other _ ⟨MB, 11, none⟩ q _ hq1).trans ((heap_setCell_other _ ⟨MB, 10, none⟩ q _ hq1).trans (rfl : w5.heap[q]? = w5.heap[q]?))))
    have HZ : Hid ((((w5.setCell ⟨MB, 10, none⟩ (.int .i64 (nB 1 (nx 1 (nx 1 (nx 1 s)))))).setCell ⟨MB, 11, none⟩ (.int .i64 (nB 3 (nx 1 (nx 1 (nx 1 (nx 1 s))))))).setCell ⟨MB, 12, none⟩ (.slice da (tT 32 (nx 3 (nx 1 (nx 1 (nx 1 (nx 1 s)))))).length dc)).heap.size = w5.heap.size) := by show _ = _; simp
    have HO : Hid ((((w5.setCell ⟨MB, 10, none⟩ (.int .i64 (nB 1 (nx 1 (nx 1 (nx 1 s)))))).setCell ⟨MB, 11, none⟩ (.int .i64 (nB 3 (nx 1 (nx 1 (nx 1 (nx 1 s))))))).setCell ⟨MB, 12, none⟩ (.slice da (tT 32 (nx 3 (nx 1 (nx 1 (nx 1 (nx 1 s)))))).length dc)).os = w5.os ∧ (((w5.setCell ⟨MB, 10, none⟩ (.int .i64 (nB 1 (nx 1 (nx 1 (nx 1 s)))))).setCell ⟨MB, 11, none⟩ (.int .i64 (nB 3 (nx 1 (nx 1 (nx 1 (nx 1 s))))))).setCell ⟨MB, 12, none⟩ (.slice da (tT 32 (nx 3 (nx 1 (nx 1 (nx 1 (nx 1 s)))))).length dc)).tape = w5.tape ∧ (((w5.setCell ⟨MB, 10, none⟩ (.int .i64 (nB 1 (nx 1 (nx 1 (nx 1 s)))))).setCell ⟨MB, 11, none⟩ (.int .i64 (nB 3 (nx 1 (nx 1 (nx 1 (nx 1 s))))))).setCell ⟨MB, 12, none⟩ (.slice da (tT 32 (nx 3 (nx 1 (nx 1 (nx 1 (nx 1 s)))))).length dc)).output = w5.output) := ⟨rfl, rfl, rfl⟩
    go_upto_region 13 with fail
    generalize (((w5.setCell ⟨MB, 10, none⟩ (.int .i64 (nB 1 (nx 1 (nx 1 (nx 1 s)))))).setCell ⟨MB, 11, none⟩ (.int .i64 (nB 3 (nx 1 (nx 1 (nx 1 (nx 1 s))))))).setCell ⟨MB, 12, none⟩ (.slice da (tT 32 (nx 3 (nx 1 (nx 1 (nx 1 (nx 1 s)))))).length dc)) = VF at rF zF HQ HZ HO ⊢
    clear r5 z5 x10 y10 x11 y11 x12 y12
    go_wp2_with (first | refine wpList_load_row rfl 53 _ rfl MB rfl 53 #[.int .i64 (nB 1 (nx 1 s)), .int .i64 (nB 1 (nx 1 (nx 1 s))), .int .i64 3, .int .i64 0, .int .i64 0, .slice none 0 0, .int .i64 0, .int .i64 0, .slice none 0 0, .slice none 0 0, .int .i64 (nB 1 (nx 1 (nx 1 (nx 1 s)))), .int .i64 (nB 3 (nx 1 (nx 1 (nx 1 (nx 1 s))))), .slice da (tT 32 (nx 3 (nx 1 (nx 1 (nx 1 (nx 1 s)))))).length dc, .int .i64 0, .int .i64 0, .slice none 0 0, .slice none 0 0, .slice none 0 0, .int .i64 0] (0, 0) _ rF Try.underlying53 rfl sMsg' ?_ | refine wpList_store_row rfl 53 _ _ rfl w.heap.size #[.int .i64 (nB 1 (nx 1 s)), .int .i64 (nB 1 (nx 1 (nx 1 s))), .int .i64 3, .int .i64 0, .int .i64 0, .slice none 0 0, .int .i64 0, .int .i64 0, .slice none 0 0, .slice none 0 0, .int .i64 (nB 1 (nx 1 (nx 1 (nx 1 s)))), .int .i64 (nB 3 (nx 1 (nx 1 (nx 1 (nx 1 s))))), .slice da (tT 32 (nx 3 (nx 1 (nx 1 (nx 1 (nx 1 s)))))).length dc, .int .i64 0, .int .i64 0, .slice none 0 0, .slice none 0 0, .slice none 0 0, .int .i64 0] rfl rfl 53 _ zF sMsg' rfl (by simp [Value.oneCell']) ?_)
    obtain ⟨x, hxe, hxM, hxH, hxc, hxR⟩ := HX.out
    refine bodyPost_ret (v := .agg #[.int .i64 (nB 1 (nx 1 s)), .int .i64 (nB 1 (nx 1 (nx 1 s))), .int .i64 3, .int .i64 0, .int .i64 0, .slice none 0 0, .int .i64 0, .int .i64 0, .slice none 0 0, .slice none 0 0, .int .i64 (nB 1 (nx 1 (nx 1 (nx 1 s)))), .int .i64 (nB 3 (nx 1 (nx 1 (nx 1 (nx 1 s))))), .slice da (tT 32 (nx 3 (nx 1 (nx 1 (nx 1 (nx 1 s)))))).length dc, .int .i64 0, .int .i64 0, .slice none 0 0, .slice none 0 0, .slice none 0 0, .int .i64 0]) (results_cell_row (fn := Try.f73) (p := 2) (ty := 53) rfl _ _ w.heap.size 53 _ (0, 0) _ rfl (setRow_heap _ _ _ _ _ _ zF) Try.underlying53 rfl sMsg') rfl ⟨x, by rw [hxe], ?_, hxH.mono (fun q hq => by omega), hxc, ?_, ?_⟩
    · refine hxM.stays (G := fun q => WB.heap.size ≤ q) (fun q hq => ?_) hxH
      exact (setRow_other _ w.heap.size q _ (by omega)).trans (HQ.out q (by omega))
    · refine RdrAt.stays hxR (fun q hq => ?_)
      exact (setRow_other _ w.heap.size q _ (by omega)).trans (HQ.out q (by omega))
    · have hOw := hOw0.trans hO5
      refine ⟨HO.out.1.trans hOw.os, HO.out.2.1.trans hOw.tape, HO.out.2.2.trans hOw.output, by have := hOw.size; have := HZ.out; simp [World.setRow]; omega, fun q hq hn => ?_⟩
      exact ((setRow_other _ w.heap.size q _ (by omega)).trans (HQ.out q (by omega))).trans (hOw.block q hq hn)
  · rw [hk] at qM c2 ⊢
    have HKI : Hid (nB 1 s = 4) := hk
    clear hk
    go_wp2_with fail
    refine (cert_rd R (nx 1 (nx 1 (nx 1 s))) WB hRM hgs3).mono ?_
    rintro e w5 ⟨ba, bc, bl, pa, pc, pl, va, vc, he, hq1, hq2, hL1, hL2, hF1, hF2, hI5, hf5, hR5, ho5⟩
    subst he
    dsimp only
    have r5 := (ho5.block _ hszM (by omega)).trans qM
    have z5 := (ho5.block _ (by omega) (by omega)).trans zM
    have hO5 := hOM.trans ho5
    have hne0 : w.heap.size ≠ MB := by omega
    have hneM := hne0
    have x13 : w5.cell? ⟨MB, 13, none⟩ = some (.int .i64 0) := cells_at r5 13 _ rfl
    have y13 := frozen_at r5 13
    have x14 : w5.cell? ⟨MB, 14, none⟩ = some (.int .i64 0) := cells_at r5 14 _ rfl
    have y14 := frozen_at r5 14
    have x15 : w5.cell? ⟨MB, 15, none⟩ = some (.slice none 0 0) := cells_at r5 15 _ rfl
    have y15 := frozen_at r5 15
    have x16 : w5.cell? ⟨MB, 16, none⟩ = some (.slice none 0 0) := cells_at r5 16 _ rfl
    have y16 := frozen_at r5 16
    have x17 : w5.cell? ⟨MB, 17, none⟩ = some (.slice none 0 0) := cells_at r5 17 _ rfl
    have y17 := frozen_at r5 17
    have rF : (((((w5.setCell ⟨MB, 13, none⟩ (.int .i64 (nB 1 (nx 1 (nx 1 (nx 1 s)))))).setCell ⟨MB, 14, none⟩ (.int .i64 (nB 3 (nx 1 (nx 1 (nx 1 (nx 1 s))))))).setCell ⟨MB, 15, none⟩ (.slice ba bl.length bc)).setCell ⟨MB, 16, none⟩ (.slice pa pl.length pc)).setCell ⟨MB, 17, none⟩ (.slice va (cN (nx 1 (nx 1 (nx 1 s)))) vc)).heap[MB]? = some (.cells #[.int .i64 (nB 1 (nx 1 s)), .int .i64 (nB 1 (nx 1 (nx 1 s))), .int .i64 4, .int .i64 0, .int .i64 0, .slice none 0 0, .int .i64 0, .int .i64 0, .slice none 0 0, .slice none 0 0, .int .i64 0, .int .i64 0, .slice none 0 0, .int .i64 (nB 1 (nx 1 (nx 1 (nx 1 s)))), .int .i64 (nB 3 (nx 1 (nx 1 (nx 1 (nx 1 s))))), .slice ba bl.length bc, .slice pa pl.length pc, .slice va (cN (nx 1 (nx 1 (nx 1 s)))) vc, .int .i64 0] 53 (0, 0)) := by simpa using (heap_setCell_same _ _ 17 _ _ (.slice va (cN (nx 1 (nx 1 (nx 1 s)))) vc) (heap_setCell_same _ _ 16 _ _ (.slice pa pl.length pc) (heap_setCell_same _ _ 15 _ _ (.slice ba bl.length bc) (heap_setCell_same _ _ 14 _ _ (.int .i64 (nB 3 (nx 1 (nx 1 (nx 1 (nx 1 s)))))) (heap_setCell_same _ _ 13 _ _ (.int .i64 (nB 1 (nx 1 (nx 1 (nx 1 s))))) r5)))))
    have zF := (heap_far (j := 17) (v := .slice va (cN (nx 1 (nx 1 (nx 1 s)))) vc) (heap_far (j := 16) (v := .slice pa pl.length pc) (heap_far (j := 15) (v := .slice ba bl.length bc) (heap_far (j := 14) (v := .int .i64 (nB 3 (nx 1 (nx 1 (nx 1 (nx 1 s)))))) (heap_far (j := 13) (v := .int .i64 (nB 1 (nx 1 (nx 1 (nx 1 s))))) z5 hneM) hneM) hneM) hneM) hneM)
    have HX : Hid (∃ x : MV, (.agg #[.int .i64 x.m.fr, .int .i64 x.m.tt, .int .i64 x.m.ki, .int .i64 x.m.bau, .int .i64 x.m.bnu, .slice x.m.bta x.m.btn x.m.btc, .int .i64 x.m.hau, .int .i64 x.m.hrd, .slice x.m.hba x.m.hbn x.m.hbc, .slice x.m.hpa x.m.hpn x.m.hpc, .int .i64 x.m.sau, .int .i64 x.m.srd, .slice x.m.sda x.m.sdn x.m.sdc, .int .i64 x.m.cau, .int .i64 x.m.crd, .slice x.m.cba x.m.cbn x.m.cbc, .slice x.m.cpa x.m.cpn x.m.cpc, .slice x.m.cva x.m.cvn x.m.cvc, .int .i64 x.m.ro] : Value) = .agg #[.int .i64 (nB 1 (nx 1 s)), .int .i64 (nB 1 (nx 1 (nx 1 s))), .int .i64 4, .int .i64 0, .int .i64 0, .slice none 0 0, .int .i64 0, .int .i64 0, .slice none 0 0, .slice none 0 0, .int .i64 0, .int .i64 0, .slice none 0 0, .int .i64 (nB 1 (nx 1 (nx 1 (nx 1 s)))), .int .i64 (nB 3 (nx 1 (nx 1 (nx 1 (nx 1 s))))), .slice ba bl.length bc, .slice pa pl.length pc, .slice va (cN (nx 1 (nx 1 (nx 1 s)))) vc, .int .i64 0] ∧ MAt w5 x ∧ HasM (fun q => WB.heap.size ≤ q) x ∧ x.c = pM s ∧ RdS w5 R (mS s)) := by
      refine ⟨⟨⟨nB 1 (nx 1 s), nB 1 (nx 1 (nx 1 s)), 4, 0, 0, 0, 0, 0, 0, nB 1 (nx 1 (nx 1 (nx 1 s))), nB 3 (nx 1 (nx 1 (nx 1 (nx 1 s)))), 0, none, none, none, none, ba, pa, va, 0, 0, 0, 0, 0, 0, 0, 0, bl.length, bc, pl.length, pc, cN (nx 1 (nx 1 (nx 1 s))), vc⟩, [], [], [], bl, pl, [], nV (nx 1 (hS4 (nx 1 (nx 1 (nx 1 s))))) (cN (nx 1 (nx 1 (nx 1 s))))⟩, rfl, ⟨⟨rfl, rfl, rfl, rfl, rfl, (nV_length _ _).symm, by simp, by rw [nV_length]; have := hn4; omega, by simp, ⟨.inl rfl, fun s h => by cases h⟩, (list_nilM _), (list_nilM _), hL1, hL2, hI5⟩, (nilM _), rfl⟩, NewM.has (x := ⟨⟨nB 1 (nx 1 s), nB 1 (nx 1 (nx 1 s)), 4, 0, 0, 0, 0, 0, 0, nB 1 (nx 1 (nx 1 (nx 1 s))), nB 3 (nx 1 (nx 1 (nx 1 (nx 1 s)))), 0, none, none, none, none, ba, pa, va, 0, 0, 0, 0, 0, 0, 0, 0, bl.length, bc, pl.length, pc, cN (nx 1 (nx 1 (nx 1 s))), vc⟩, [], [], [], bl, pl, [], nV (nx 1 (hS4 (nx 1 (nx 1 (nx 1 s))))) (cN (nx 1 (nx 1 (nx 1 s))))⟩) ⟨(fun _ _ e => by cases e), ⟨(fun _ _ e => by cases e), (fun p hp => by cases hp)⟩, ⟨(fun _ _ e => by cases e), (fun p hp => by cases hp)⟩, (fun _ _ e => by cases e), hF1, hF2, hf5⟩, ?_, ?_⟩
      · simp only [MV.c, pM, HKI.out, hq1, hq2]; rfl
      · simp only [mS, HKI.out]
        exact hR5
    clear hq1 hq2 hL1 hL2 hF1 hF2 hI5
    have HQ : Hid (∀ q, q ≠ MB → (((((w5.setCell ⟨MB, 13, none⟩ (.int .i64 (nB 1 (nx 1 (nx 1 (nx 1 s)))))).setCell ⟨MB, 14, none⟩ (.int .i64 (nB 3 (nx 1 (nx 1 (nx 1 (nx 1 s))))))).setCell ⟨MB, 15, none⟩ (.slice ba bl.length bc)).setCell ⟨MB, 16, none⟩ (.slice pa pl.length pc)).setCell ⟨MB, 17, none⟩ (.slice va (cN (nx 1 (nx 1 (nx 1 s)))) vc)).heap[q]? = w5.heap[q]?) := by
      show ∀ _, _
      intro q hq1
      exact ((heap_setCell_other _ ⟨MB, 17, none⟩ q _ hq1).trans ((heap_setCell_other _ ⟨MB, 16, none⟩ q _ hq1).trans ((heap_setCell_other _ ⟨MB, 15, none⟩ q _ hq1).trans ((heap_setCell_other _ ⟨MB, 14, none⟩ q _ hq1).trans ((heap_setCell_other _ ⟨MB, 13, none⟩ q _ hq1).trans (rfl : w5.heap[q]? = w5.heap[q]?))))))
    have HZ : Hid ((((((w5.setCell ⟨MB, 13, none⟩ (.int .i64 (nB 1 (nx 1 (nx 1 (nx 1 s)))))).setCell ⟨MB, 14, none⟩ (.int .i64 (nB 3 (nx 1 (nx 1 (nx 1 (nx 1 s))))))).setCell ⟨MB, 15, none⟩ (.slice ba bl.length bc)).setCell ⟨MB, 16, none⟩ (.slice pa pl.length pc)).setCell ⟨MB, 17, none⟩ (.slice va (cN (nx 1 (nx 1 (nx 1 s)))) vc)).heap.size = w5.heap.size) := by show _ = _; simp
    have HO : Hid ((((((w5.setCell ⟨MB, 13, none⟩ (.int .i64 (nB 1 (nx 1 (nx 1 (nx 1 s)))))).setCell ⟨MB, 14, none⟩ (.int .i64 (nB 3 (nx 1 (nx 1 (nx 1 (nx 1 s))))))).setCell ⟨MB, 15, none⟩ (.slice ba bl.length bc)).setCell ⟨MB, 16, none⟩ (.slice pa pl.length pc)).setCell ⟨MB, 17, none⟩ (.slice va (cN (nx 1 (nx 1 (nx 1 s)))) vc)).os = w5.os ∧ (((((w5.setCell ⟨MB, 13, none⟩ (.int .i64 (nB 1 (nx 1 (nx 1 (nx 1 s)))))).setCell ⟨MB, 14, none⟩ (.int .i64 (nB 3 (nx 1 (nx 1 (nx 1 (nx 1 s))))))).setCell ⟨MB, 15, none⟩ (.slice ba bl.length bc)).setCell ⟨MB, 16, none⟩ (.slice pa pl.length pc)).setCell ⟨MB, 17, none⟩ (.slice va (cN (nx 1 (nx 1 (nx 1 s)))) vc)).tape = w5.tape ∧ (((((w5.setCell ⟨MB, 13, none⟩ (.int .i64 (nB 1 (nx 1 (nx 1 (nx 1 s)))))).setCell ⟨MB, 14, none⟩ (.int .i64 (nB 3 (nx 1 (nx 1 (nx 1 (nx 1 s))))))).setCell ⟨MB, 15, none⟩ (.slice ba bl.length bc)).setCell ⟨MB, 16, none⟩ (.slice pa pl.length pc)).setCell ⟨MB, 17, none⟩ (.slice va (cN (nx 1 (nx 1 (nx 1 s)))) vc)).output = w5.output) := ⟨rfl, rfl, rfl⟩
    go_upto_region 13 with fail
    generalize (((((w5.setCell ⟨MB, 13, none⟩ (.int .i64 (nB 1 (nx 1 (nx 1 (nx 1 s)))))).setCell ⟨MB, 14, none⟩ (.int .i64 (nB 3 (nx 1 (nx 1 (nx 1 (nx 1 s))))))).setCell ⟨MB, 15, none⟩ (.slice ba bl.length bc)).setCell ⟨MB, 16, none⟩ (.slice pa pl.length pc)).setCell ⟨MB, 17, none⟩ (.slice va (cN (nx 1 (nx 1 (nx 1 s)))) vc)) = VF at rF zF HQ HZ HO ⊢
    clear r5 z5 x13 y13 x14 y14 x15 y15 x16 y16 x17 y17
    go_wp2_with (first | refine wpList_load_row rfl 53 _ rfl MB rfl 53 #[.int .i64 (nB 1 (nx 1 s)), .int .i64 (nB 1 (nx 1 (nx 1 s))), .int .i64 4, .int .i64 0, .int .i64 0, .slice none 0 0, .int .i64 0, .int .i64 0, .slice none 0 0, .slice none 0 0, .int .i64 0, .int .i64 0, .slice none 0 0, .int .i64 (nB 1 (nx 1 (nx 1 (nx 1 s)))), .int .i64 (nB 3 (nx 1 (nx 1 (nx 1 (nx 1 s))))), .slice ba bl.length bc, .slice pa pl.length pc, .slice va (cN (nx 1 (nx 1 (nx 1 s)))) vc, .int .i64 0] (0, 0) _ rF Try.underlying53 rfl sMsg' ?_ | refine wpList_store_row rfl 53 _ _ rfl w.heap.size #[.int .i64 (nB 1 (nx 1 s)), .int .i64 (nB 1 (nx 1 (nx 1 s))), .int .i64 4, .int .i64 0, .int .i64 0, .slice none 0 0, .int .i64 0, .int .i64 0, .slice none 0 0, .slice none 0 0, .int .i64 0, .int .i64 0, .slice none 0 0, .int .i64 (nB 1 (nx 1 (nx 1 (nx 1 s)))), .int .i64 (nB 3 (nx 1 (nx 1 (nx 1 (nx 1 s))))), .slice ba bl.length bc, .slice pa pl.length pc, .slice va (cN (nx 1 (nx 1 (nx 1 s)))) vc, .int .i64 0] rfl rfl 53 _ zF sMsg' rfl (by simp [Value.oneCell']) ?_)
    obtain ⟨x, hxe, hxM, hxH, hxc, hxR⟩ := HX.out
    refine bodyPost_ret (v := .agg #[.int .i64 (nB 1 (nx 1 s)), .int .i64 (nB 1 (nx 1 (nx 1 s))), .int .i64 4, .int .i64 0, .int .i64 0, .slice none 0 0, .int .i64 0, .int .i64 0, .slice none 0 0, .slice none 0 0, .int .i64 0, .int .i64 0, .slice none 0 0, .int .i64 (nB 1 (nx 1 (nx 1 (nx 1 s)))), .int .i64 (nB 3 (nx 1 (nx 1 (nx 1 (nx 1 s))))), .slice ba bl.length bc, .slice pa pl.length pc, .slice va (cN (nx 1 (nx 1 (nx 1 s)))) vc, .int .i64 0]) (results_cell_row (fn := Try.f73) (p := 2) (ty := 53) rfl _ _ w.heap.size 53 _ (0, 0) _ rfl (setRow_heap _ _ _ _ _ _ zF) Try.underlying53 rfl sMsg') rfl ⟨x, by rw [hxe], ?_, hxH.mono (fun q hq => by omega), hxc, ?_, ?_⟩
    · refine hxM.stays (G := fun q => WB.heap.size ≤ q) (fun q hq => ?_) hxH
      exact (setRow_other _ w.heap.size q _ (by omega)).trans (HQ.out q (by omega))
    · refine RdrAt.stays hxR (fun q hq => ?_)
      exact (setRow_other _ w.heap.size q _ (by omega)).trans (HQ.out q (by omega))
    · have hOw := hOw0.trans hO5
      refine ⟨HO.out.1.trans hOw.os, HO.out.2.1.trans hOw.tape, HO.out.2.2.trans hOw.output, by have := hOw.size; have := HZ.out; simp [World.setRow]; omega, fun q hq hn => ?_⟩
      exact ((setRow_other _ w.heap.size q _ (by omega)).trans (HQ.out q (by omega))).trans (hOw.block q hq hn)
  · rw [hk] at qM c2 ⊢
    have HKI : Hid (nB 1 s = 5) := hk
    clear hk
    go_wp2_with fail
    refine (round_st R (nx 1 (nx 1 (nx 1 s))) WB hRM hgs3).mono ?_
    rintro e w5 ⟨he, hR5, ho5⟩
    subst he
    dsimp only
    have r5 := (ho5.block _ hszM (by omega)).trans qM
    have z5 := (ho5.block _ (by omega) (by omega)).trans zM
    have hO5 := hOM.trans ho5
    have hne0 : w.heap.size ≠ MB := by omega
    have hneM := hne0
    have x18 : w5.cell? ⟨MB, 18, none⟩ = some (.int .i64 0) := cells_at r5 18 _ rfl
    have y18 := frozen_at r5 18
    have rF : (w5.setCell ⟨MB, 18, none⟩ (.int .i64 (nB 3 (nx 1 (nx 1 (nx 1 s)))))).heap[MB]? = some (.cells #[.int .i64 (nB 1 (nx 1 s)), .int .i64 (nB 1 (nx 1 (nx 1 s))), .int .i64 5, .int .i64 0, .int .i64 0, .slice none 0 0, .int .i64 0, .int .i64 0, .slice none 0 0, .slice none 0 0, .int .i64 0, .int .i64 0, .slice none 0 0, .int .i64 0, .int .i64 0, .slice none 0 0, .slice none 0 0, .slice none 0 0, .int .i64 (nB 3 (nx 1 (nx 1 (nx 1 s))))] 53 (0, 0)) := by simpa using (heap_setCell_same _ _ 18 _ _ (.int .i64 (nB 3 (nx 1 (nx 1 (nx 1 s))))) r5)
    have zF := (heap_far (j := 18) (v := .int .i64 (nB 3 (nx 1 (nx 1 (nx 1 s))))) z5 hneM)
    have HX : Hid (∃ x : MV, (.agg #[.int .i64 x.m.fr, .int .i64 x.m.tt, .int .i64 x.m.ki, .int .i64 x.m.bau, .int .i64 x.m.bnu, .slice x.m.bta x.m.btn x.m.btc, .int .i64 x.m.hau, .int .i64 x.m.hrd, .slice x.m.hba x.m.hbn x.m.hbc, .slice x.m.hpa x.m.hpn x.m.hpc, .int .i64 x.m.sau, .int .i64 x.m.srd, .slice x.m.sda x.m.sdn x.m.sdc, .int .i64 x.m.cau, .int .i64 x.m.crd, .slice x.m.cba x.m.cbn x.m.cbc, .slice x.m.cpa x.m.cpn x.m.cpc, .slice x.m.cva x.m.cvn x.m.cvc, .int .i64 x.m.ro] : Value) = .agg #[.int .i64 (nB 1 (nx 1 s)), .int .i64 (nB 1 (nx 1 (nx 1 s))), .int .i64 5, .int .i64 0, .int .i64 0, .slice none 0 0, .int .i64 0, .int .i64 0, .slice none 0 0, .slice none 0 0, .int .i64 0, .int .i64 0, .slice none 0 0, .int .i64 0, .int .i64 0, .slice none 0 0, .slice none 0 0, .slice none 0 0, .int .i64 (nB 3 (nx 1 (nx 1 (nx 1 s))))] ∧ MAt w5 x ∧ HasM (fun q => WB.heap.size ≤ q) x ∧ x.c = pM s ∧ RdS w5 R (mS s)) := by
      refine ⟨⟨⟨nB 1 (nx 1 s), nB 1 (nx 1 (nx 1 s)), 5, 0, 0, 0, 0, 0, 0, 0, 0, nB 3 (nx 1 (nx 1 (nx 1 s))), none, none, none, none, none, none, none, 0, 0, 0, 0, 0, 0, 0, 0, 0, 0, 0, 0, 0, 0⟩, [], [], [], [], [], [], []⟩, rfl, ⟨⟨rfl, rfl, rfl, rfl, rfl, rfl, by simp, by simp, by simp, ⟨.inl rfl, fun s h => by cases h⟩, (list_nilM _), (list_nilM _), (list_nilM _), (list_nilM _), ⟨.inl rfl⟩⟩, (nilM _), rfl⟩, NewM.has (x := ⟨⟨nB 1 (nx 1 s), nB 1 (nx 1 (nx 1 s)), 5, 0, 0, 0, 0, 0, 0, 0, 0, nB 3 (nx 1 (nx 1 (nx 1 s))), none, none, none, none, none, none, none, 0, 0, 0, 0, 0, 0, 0, 0, 0, 0, 0, 0, 0, 0⟩, [], [], [], [], [], [], []⟩) ⟨(fun _ _ e => by cases e), ⟨(fun _ _ e => by cases e), (fun p hp => by cases hp)⟩, ⟨(fun _ _ e => by cases e), (fun p hp => by cases hp)⟩, (fun _ _ e => by cases e), ⟨(fun _ _ e => by cases e), (fun p hp => by cases hp)⟩, ⟨(fun _ _ e => by cases e), (fun p hp => by cases hp)⟩, (fun _ _ e => by cases e)⟩, ?_, ?_⟩
      · simp only [MV.c, pM, HKI.out]; rfl
      · simp only [mS, HKI.out]
        exact hR5
    have HQ : Hid (∀ q, q ≠ MB → (w5.setCell ⟨MB, 18, none⟩ (.int .i64 (nB 3 (nx 1 (nx 1 (nx 1 s)))))).heap[q]? = w5.heap[q]?) := by
      show ∀ _, _
      intro q hq1
      exact ((heap_setCell_other _ ⟨MB, 18, none⟩ q _ hq1).trans (rfl : w5.heap[q]? = w5.heap[q]?))
    have HZ : Hid ((w5.setCell ⟨MB, 18, none⟩ (.int .i64 (nB 3 (nx 1 (nx 1 (nx 1 s)))))).heap.size = w5.heap.size) := by show _ = _; simp
    have HO : Hid ((w5.setCell ⟨MB, 18, none⟩ (.int .i64 (nB 3 (nx 1 (nx 1 (nx 1 s)))))).os = w5.os ∧ (w5.setCell ⟨MB, 18, none⟩ (.int .i64 (nB 3 (nx 1 (nx 1 (nx 1 s)))))).tape = w5.tape ∧ (w5.setCell ⟨MB, 18, none⟩ (.int .i64 (nB 3 (nx 1 (nx 1 (nx 1 s)))))).output = w5.output) := ⟨rfl, rfl, rfl⟩
    go_upto_region 13 with fail
    generalize (w5.setCell ⟨MB, 18, none⟩ (.int .i64 (nB 3 (nx 1 (nx 1 (nx 1 s)))))) = VF at rF zF HQ HZ HO ⊢
    clear r5 z5 x18 y18
    go_wp2_with (first | refine wpList_load_row rfl 53 _ rfl MB rfl 53 #[.int .i64 (nB 1 (nx 1 s)), .int .i64 (nB 1 (nx 1 (nx 1 s))), .int .i64 5, .int .i64 0, .int .i64 0, .slice none 0 0, .int .i64 0, .int .i64 0, .slice none 0 0, .slice none 0 0, .int .i64 0, .int .i64 0, .slice none 0 0, .int .i64 0, .int .i64 0, .slice none 0 0, .slice none 0 0, .slice none 0 0, .int .i64 (nB 3 (nx 1 (nx 1 (nx 1 s))))] (0, 0) _ rF Try.underlying53 rfl sMsg' ?_ | refine wpList_store_row rfl 53 _ _ rfl w.heap.size #[.int .i64 (nB 1 (nx 1 s)), .int .i64 (nB 1 (nx 1 (nx 1 s))), .int .i64 5, .int .i64 0, .int .i64 0, .slice none 0 0, .int .i64 0, .int .i64 0, .slice none 0 0, .slice none 0 0, .int .i64 0, .int .i64 0, .slice none 0 0, .int .i64 0, .int .i64 0, .slice none 0 0, .slice none 0 0, .slice none 0 0, .int .i64 (nB 3 (nx 1 (nx 1 (nx 1 s))))] rfl rfl 53 _ zF sMsg' rfl (by simp [Value.oneCell']) ?_)
    obtain ⟨x, hxe, hxM, hxH, hxc, hxR⟩ := HX.out
    refine bodyPost_ret (v := .agg #[.int .i64 (nB 1 (nx 1 s)), .int .i64 (nB 1 (nx 1 (nx 1 s))), .int .i64 5, .int .i64 0, .int .i64 0, .slice none 0 0, .int .i64 0, .int .i64 0, .slice none 0 0, .slice none 0 0, .int .i64 0, .int .i64 0, .slice none 0 0, .int .i64 0, .int .i64 0, .slice none 0 0, .slice none 0 0, .slice none 0 0, .int .i64 (nB 3 (nx 1 (nx 1 (nx 1 s))))]) (results_cell_row (fn := Try.f73) (p := 2) (ty := 53) rfl _ _ w.heap.size 53 _ (0, 0) _ rfl (setRow_heap _ _ _ _ _ _ zF) Try.underlying53 rfl sMsg') rfl ⟨x, by rw [hxe], ?_, hxH.mono (fun q hq => by omega), hxc, ?_, ?_⟩
    · refine hxM.stays (G := fun q => WB.heap.size ≤ q) (fun q hq => ?_) hxH
      exact (setRow_other _ w.heap.size q _ (by omega)).trans (HQ.out q (by omega))
    · refine RdrAt.stays hxR (fun q hq => ?_)
      exact (setRow_other _ w.heap.size q _ (by omega)).trans (HQ.out q (by omega))
    · have hOw := hOw0.trans hO5
      refine ⟨HO.out.1.trans hOw.os, HO.out.2.1.trans hOw.tape, HO.out.2.2.trans hOw.output, by have := hOw.size; have := HZ.out; simp [World.setRow]; omega, fun q hq hn => ?_⟩
      exact ((setRow_other _ w.heap.size q _ (by omega)).trans (HQ.out q (by omega))).trans (hOw.block q hq hn)
end Go.Proofs.Ytldlknmpkoebbaa

namespace Go.Proofs.Ytldlknmpkoebbaa
open Go.RowKit

set_option maxRecDepth 100000 in
theorem tk_app {n : Nat} {t : List Int} (r : List Int) (h : t.length = n) : tT n (t ++ r, false) = t ∧ nx n (t ++ r, false) = (r, false) := by
  obtain ⟨h1, h2, h3⟩ := tk_ok (n := n) (l := t ++ r) (by simp; omega)
  refine ⟨h1.trans ?_, ?_⟩
  · subst h; simp
  · show (tkL n (t ++ r) false, tkS n (t ++ r) false) = (r, false)
    rw [h2, h3]
    subst h
    simp
set_option maxRecDepth 100000 in
theorem nB_one (a : Int) (r : List Int) : nB 1 (a :: r, false) = a ∧ nx 1 (a :: r, false) = (r, false) := by
  obtain ⟨h1, h2⟩ := tk_app (n := 1) (t := [a]) r rfl
  refine ⟨?_, h2⟩
  show numB (tT 1 ([a] ++ r, false)) = a
  rw [h1]
  simp [numB]
set_option maxRecDepth 100000 in
theorem nB_three (n : Int) (r : List Int) : nB 3 (rd3 n ++ r, false) = n ∧ nx 3 (rd3 n ++ r, false) = (r, false) := by
  obtain ⟨h1, h2⟩ := tk_app (n := 3) (t := rd3 n) r rfl
  refine ⟨?_, h2⟩
  show numB (tT 3 (rd3 n ++ r, false)) = n
  rw [h1]
  simp [numB, rd3]
  omega
set_option maxRecDepth 100000 in
theorem flatB_appP (l m : List Part) : flatB (l ++ m) = flatB l ++ flatB m := by
  induction l with
  | nil => simp [flatB]
  | cons x l ih => simp [flatB, ih]
set_option maxRecDepth 100000 in
theorem dg_run (qs : List Part) (r : List Int) (h : ∀ p ∈ qs, p.bs.length = 32) (k : Nat) (hk : k ≤ qs.length) : dgL (flatB qs ++ r) false k = (flatB (qs.drop k) ++ r, false) ∧ dgD (flatB qs ++ r) false k = (qs.take k).map (·.bs) := by
  induction k with
  | zero => exact ⟨rfl, rfl⟩
  | succ k ih =>
    obtain ⟨h1, h2⟩ := ih (by omega)
    have hd : qs.drop k = qs[k] :: qs.drop (k + 1) := List.drop_eq_getElem_cons (by omega)
    have h32 : (qs[k]).bs.length = 32 := h _ (List.getElem_mem (by omega))
    obtain ⟨t1, t2⟩ := tk_app (n := 32) (t := (qs[k]).bs) (flatB (qs.drop (k + 1)) ++ r) h32
    have he : flatB (qs.drop k) ++ r = (qs[k]).bs ++ (flatB (qs.drop (k + 1)) ++ r) := by rw [hd, flatB, List.append_assoc]
    constructor
    · show (tkL 32 (dgL (flatB qs ++ r) false k).1 (dgL (flatB qs ++ r) false k).2, tkS 32 (dgL (flatB qs ++ r) false k).1 (dgL (flatB qs ++ r) false k).2) = _
      rw [h1]
      show (tkL 32 (flatB (qs.drop k) ++ r) false, tkS 32 (flatB (qs.drop k) ++ r) false) = _
      rw [he]
      exact t2
    · show dgD (flatB qs ++ r) false k ++ [tkT 32 (dgL (flatB qs ++ r) false k).1 (dgL (flatB qs ++ r) false k).2] = _
      rw [h1, h2]
      show _ ++ [tkT 32 (flatB (qs.drop k) ++ r) false] = _
      rw [he]
      have t1' : tkT 32 ((qs[k]).bs ++ (flatB (qs.drop (k + 1)) ++ r)) false = (qs[k]).bs := t1
      rw [t1', List.take_succ_eq_append_getElem (by omega), List.map_append]
      rfl
set_option maxRecDepth 100000 in
theorem dgs_back (qs : List Part) (r : List Int) (h : ∀ p ∈ qs, p.bs.length = 32) : dgs (digsB qs ++ r, false) = qs.map (·.bs) ∧ dgS (digsB qs ++ r, false) = (r, false) := by
  have hc : digsB qs ++ r = (qs.length : Int) :: (flatB qs ++ r) := rfl
  obtain ⟨n1, n2⟩ := nB_one (qs.length : Int) (flatB qs ++ r)
  have hN : dN ((qs.length : Int) :: (flatB qs ++ r)) false = qs.length := by
    show (nB 1 ((qs.length : Int) :: (flatB qs ++ r), false)).toNat = _
    rw [n1]; omega
  obtain ⟨d1, d2⟩ := dg_run qs r h qs.length (Nat.le_refl _)
  rw [hc]
  constructor
  · show dgD (nx 1 ((qs.length : Int) :: (flatB qs ++ r), false)).1 (nx 1 ((qs.length : Int) :: (flatB qs ++ r), false)).2 (dN ((qs.length : Int) :: (flatB qs ++ r)) false) = _
    rw [n2, hN, d2, List.take_of_length_le (Nat.le_refl _)]
  · show dgL (nx 1 ((qs.length : Int) :: (flatB qs ++ r), false)).1 (nx 1 ((qs.length : Int) :: (flatB qs ++ r), false)).2 (dN ((qs.length : Int) :: (flatB qs ++ r)) false) = _
    rw [n2, hN, d1, List.drop_of_length_le (Nat.le_refl _)]
    rfl
set_option maxRecDepth 100000 in
theorem nV_run (vl r : List Int) (k : Nat) (hk : k ≤ vl.length) : nL (vl ++ r, false) k = (vl.drop k ++ r, false) ∧ nV (vl ++ r, false) k = vl.take k := by
  induction k with
  | zero => exact ⟨rfl, rfl⟩
  | succ k ih =>
    obtain ⟨h1, h2⟩ := ih (by omega)
    have hd : vl.drop k = vl[k] :: vl.drop (k + 1) := List.drop_eq_getElem_cons (by omega)
    obtain ⟨t1, t2⟩ := nB_one (vl[k]) (vl.drop (k + 1) ++ r)
    constructor
    · show nx 1 (nL (vl ++ r, false) k) = _
      rw [h1, hd]
      exact t2
    · show nV (vl ++ r, false) k ++ [nB 1 (nL (vl ++ r, false) k)] = _
      rw [h1, h2, hd, List.take_succ_eq_append_getElem (by omega)]
      show _ ++ [nB 1 (vl[k] :: (vl.drop (k + 1) ++ r), false)] = _
      rw [t1]
set_option maxRecDepth 100000 in
theorem bstr_tb (s : ByteArray) : bstr (tb s) = s := by
  apply ba_ext
  rw [ByteArray.toList_eq, ByteArray.toList_eq, bstr_data, tb]
  rw [List.map_map]
  conv => rhs; rw [← List.map_id s.data.toList]
  refine List.map_congr_left fun x hx => ?_
  simp
set_option maxRecDepth 100000 in
theorem bT_run (ss : List ByteArray) (r : List Int) (k : Nat) (hk : k ≤ ss.length) : bL (txsB ss ++ r, false) k = (txsB (ss.drop k) ++ r, false) ∧ bT (txsB ss ++ r, false) k = ss.take k := by
  induction k with
  | zero => exact ⟨rfl, rfl⟩
  | succ k ih =>
    obtain ⟨h1, h2⟩ := ih (by omega)
    have hd : ss.drop k = ss[k] :: ss.drop (k + 1) := List.drop_eq_getElem_cons (by omega)
    have he : txsB (ss.drop k) ++ r = ((ss[k]).size : Int) :: (tb (ss[k]) ++ (txsB (ss.drop (k + 1)) ++ r)) := by rw [hd]; simp [txsB]
    obtain ⟨t1, t2⟩ := nB_one ((ss[k]).size : Int) (tb (ss[k]) ++ (txsB (ss.drop (k + 1)) ++ r))
    obtain ⟨u1, u2⟩ := tk_app (n := (ss[k]).size) (t := tb (ss[k])) (txsB (ss.drop (k + 1)) ++ r) (tb_length _)
    constructor
    · show nx (nB 1 (bL (txsB ss ++ r, false) k)).toNat (nx 1 (bL (txsB ss ++ r, false) k)) = _
      rw [h1, he, t1, t2]
      exact u2
    · show bT (txsB ss ++ r, false) k ++ [bstr (tT (nB 1 (bL (txsB ss ++ r, false) k)).toNat (nx 1 (bL (txsB ss ++ r, false) k)))] = _
      rw [h1, h2, he, t1, t2]
      show _ ++ [bstr (tT (ss[k]).size (tb (ss[k]) ++ (txsB (ss.drop (k + 1)) ++ r), false))] = _
      rw [u1, bstr_tb, List.take_succ_eq_append_getElem (by omega)]
set_option maxRecDepth 100000 in
theorem head_back (au rd : Int) (bl pl : List Part) (r : List Int) (hb : ∀ p ∈ bl, p.bs.length = 32) (hp : ∀ p ∈ pl, p.bs.length = 32) :
    nB 1 (headB au rd bl pl ++ r, false) = au ∧ nB 3 (nx 1 (headB au rd bl pl ++ r, false)) = rd ∧ dgs (nx 3 (nx 1 (headB au rd bl pl ++ r, false))) = bl.map (·.bs) ∧ dgs (dgS (nx 3 (nx 1 (headB au rd bl pl ++ r, false)))) = pl.map (·.bs) ∧ dgS (dgS (nx 3 (nx 1 (headB au rd bl pl ++ r, false)))) = (r, false) := by
  have e : headB au rd bl pl ++ r = au :: (rd3 rd ++ (digsB bl ++ (digsB pl ++ r))) := by simp [headB]
  obtain ⟨a1, a2⟩ := nB_one au (rd3 rd ++ (digsB bl ++ (digsB pl ++ r)))
  obtain ⟨b1, b2⟩ := nB_three rd (digsB bl ++ (digsB pl ++ r))
  obtain ⟨c1, c2⟩ := dgs_back bl (digsB pl ++ r) hb
  obtain ⟨d1, d2⟩ := dgs_back pl r hp
  rw [e, a1, a2, b1, b2, c1, c2, d1, d2]
  exact ⟨rfl, rfl, rfl, rfl, rfl⟩
set_option maxRecDepth 100000 in
theorem len_nil {α : Type} {l : List α} {n : Nat} (h : n = l.length) (h0 : n = 0) : l = [] := List.eq_nil_of_length_eq_zero (by omega)
set_option maxRecDepth 100000 in
set_option maxHeartbeats 1000000 in
/-- What is encoded is read as it was, and what is behind it is left. -/
theorem parse_back {w : World} (x : MV) (r : List Int) (hM : MAt w x) (hc : x.car = 0) (he : msgEmpty (strip x.m) = true) : pM (x.bytes ++ r, false) = x.c ∧ mS (x.bytes ++ r, false) = (r, false) := by
  have hb : x.bytes ++ r = x.m.ki :: (x.m.fr :: (x.m.tt :: (bodyB x.m x.ss x.bl x.pl x.cbl x.cpl x.ds x.vl ++ r))) := by simp [MV.bytes, msgB]
  rw [hb]
  obtain ⟨a1, a2⟩ := nB_one x.m.ki (x.m.fr :: (x.m.tt :: (bodyB x.m x.ss x.bl x.pl x.cbl x.cpl x.ds x.vl ++ r)))
  obtain ⟨b1, b2⟩ := nB_one x.m.fr (x.m.tt :: (bodyB x.m x.ss x.bl x.pl x.cbl x.cpl x.ds x.vl ++ r))
  obtain ⟨c1, c2⟩ := nB_one x.m.tt (bodyB x.m x.ss x.bl x.pl x.cbl x.cpl x.ds x.vl ++ r)
  have hc' : carriedF x.m x.ss x.bl x.pl x.cbl x.cpl x.vl = 0 := hc
  have H := hM.at'
  rcases carriedF_kind hc' with k | k | k | k | k
  · rw [carried1 k] at hc'
    rw [bodyB1 k] at a1 a2 b1 b2 c1 c2 ⊢
    simp [strip, msgEmpty, k] at he
    obtain ⟨h1, h2, h3, h4, h5⟩ := he
    have l1 := len_nil H.e2 h1.2.2.1
    have l2 := len_nil H.e3 h1.2.2.2
    have l3 := len_nil hM.dn h2.2.2
    have l4 := len_nil H.e4 h3.2.2.1
    have l5 := len_nil H.e5 h3.2.2.2
    have l6 := len_nil H.e6 h4
    have e : batchB x.m.bau x.m.bnu x.ss ++ r = x.m.bau :: (rd3 x.m.bnu ++ ((x.ss.length : Int) :: (txsB x.ss ++ r))) := by simp [batchB]
    obtain ⟨d1, d2⟩ := nB_one x.m.bau (rd3 x.m.bnu ++ ((x.ss.length : Int) :: (txsB x.ss ++ r)))
    obtain ⟨f1, f2⟩ := nB_three x.m.bnu ((x.ss.length : Int) :: (txsB x.ss ++ r))
    obtain ⟨g1, g2⟩ := nB_one (x.ss.length : Int) (txsB x.ss ++ r)
    obtain ⟨i1, i2⟩ := bT_run x.ss r x.ss.length (Nat.le_refl _)
    have hN : bN (x.m.bau :: (rd3 x.m.bnu ++ ((x.ss.length : Int) :: (txsB x.ss ++ r))), false) = x.ss.length := by
      show (nB 1 (nx 3 (nx 1 _))).toNat = _
      rw [d2, f2, g1]; omega
    have hS : bS3 (x.m.bau :: (rd3 x.m.bnu ++ ((x.ss.length : Int) :: (txsB x.ss ++ r))), false) = ((x.ss.length : Int) :: (txsB x.ss ++ r), false) := by
      show nx 3 (nx 1 _) = _
      rw [d2, f2]
    rw [e] at a1 a2 b1 b2 c1 c2 ⊢
    rw [pM, mS, a1, if_pos k, if_pos k, a2, b1, b2, c1, c2, d1, d2, f1, hS, hN, g2, i1, i2, List.take_of_length_le (Nat.le_refl _), List.drop_of_length_le (Nat.le_refl _)]
    refine ⟨?_, rfl⟩
    simp only [MV.c, l1, l2, l3, l4, l5, l6, h1, h2, h3, h5, List.map_nil]
  · rw [carried2 k] at hc'
    rw [bodyB2 k] at a1 a2 b1 b2 c1 c2 ⊢
    obtain ⟨_, _, _, _, g5, g6⟩ := headerF_ok hc'
    simp [strip, msgEmpty, k] at he
    obtain ⟨h1, h2, h3, h4, h5⟩ := he
    have l1 := len_nil H.e1 h1.2.2
    have l3 := len_nil hM.dn h2.2.2
    have l4 := len_nil H.e4 h3.2.2.1
    have l5 := len_nil H.e5 h3.2.2.2
    have l6 := len_nil H.e6 h4
    obtain ⟨d1, d2, d3, d4, d5⟩ := head_back x.m.hau x.m.hrd x.bl x.pl r g5 g6
    have k1 : ¬ x.m.ki = 1 := by omega
    rw [pM, mS, a1, if_neg k1, if_neg k1, if_pos k, if_pos k, a2, b1, b2, c1, c2, d1, d2, d3, d4, d5]
    refine ⟨?_, rfl⟩
    simp only [MV.c, l1, l3, l4, l5, l6, h1, h2, h3, h5, List.map_nil]
  · rw [carried3 k] at hc'
    rw [bodyB3 k] at a1 a2 b1 b2 c1 c2 ⊢
    obtain ⟨_, _, g3⟩ := slotF_ok hc'
    simp [strip, msgEmpty, k] at he
    obtain ⟨h1, h2, h3, h4, h5⟩ := he
    have l1 := len_nil H.e1 h1.2.2
    have l2 := len_nil H.e2 h2.2.2.1
    have l3 := len_nil H.e3 h2.2.2.2
    have l4 := len_nil H.e4 h3.2.2.1
    have l5 := len_nil H.e5 h3.2.2.2
    have l6 := len_nil H.e6 h4
    have e : [x.m.sau] ++ rd3 x.m.srd ++ x.ds ++ r = x.m.sau :: (rd3 x.m.srd ++ (x.ds ++ r)) := by simp
    obtain ⟨d1, d2⟩ := nB_one x.m.sau (rd3 x.m.srd ++ (x.ds ++ r))
    obtain ⟨f1, f2⟩ := nB_three x.m.srd (x.ds ++ r)
    obtain ⟨i1, i2⟩ := tk_app (n := 32) (t := x.ds) r (by have := hM.dn; omega)
    rw [e] at a1 a2 b1 b2 c1 c2 ⊢
    have k1 : ¬ x.m.ki = 1 := by omega
    have k2 : ¬ x.m.ki = 2 := by omega
    rw [pM, mS, a1, if_neg k1, if_neg k1, if_neg k2, if_neg k2, if_pos k, if_pos k, a2, b1, b2, c1, c2, d1, d2, f1, f2, i1, i2]
    refine ⟨?_, rfl⟩
    simp only [MV.c, l1, l2, l3, l4, l5, l6, h1, h2, h3, h5, List.map_nil]
  · rw [carried4 k] at hc'
    rw [bodyB4 k] at a1 a2 b1 b2 c1 c2 ⊢
    obtain ⟨hh, _, _, _⟩ := certF_ok hc'
    obtain ⟨_, _, _, _, g5, g6⟩ := headerF_ok hh
    simp [strip, msgEmpty, k] at he
    obtain ⟨h1, h2, h3, h5⟩ := he
    have l1 := len_nil H.e1 h1.2.2
    have l2 := len_nil H.e2 h2.2.2.1
    have l3 := len_nil H.e3 h2.2.2.2
    have l4 := len_nil hM.dn h3.2.2
    have e : certB x.m.cau x.m.crd x.cbl x.cpl x.vl ++ r = headB x.m.cau x.m.crd x.cbl x.cpl ++ ((x.vl.length : Int) :: (x.vl ++ r)) := by simp [certB]
    obtain ⟨d1, d2, d3, d4, d5⟩ := head_back x.m.cau x.m.crd x.cbl x.cpl ((x.vl.length : Int) :: (x.vl ++ r)) g5 g6
    obtain ⟨n1, n2⟩ := nB_one (x.vl.length : Int) (x.vl ++ r)
    obtain ⟨i1, i2⟩ := nV_run x.vl r x.vl.length (Nat.le_refl _)
    have hS : hS4 (headB x.m.cau x.m.crd x.cbl x.cpl ++ ((x.vl.length : Int) :: (x.vl ++ r)), false) = ((x.vl.length : Int) :: (x.vl ++ r), false) := d5
    have hN : cN (headB x.m.cau x.m.crd x.cbl x.cpl ++ ((x.vl.length : Int) :: (x.vl ++ r)), false) = x.vl.length := by
      show (nB 1 (hS4 _)).toNat = _
      rw [hS, n1]; omega
    rw [e] at a1 a2 b1 b2 c1 c2 ⊢
    have k1 : ¬ x.m.ki = 1 := by omega
    have k2 : ¬ x.m.ki = 2 := by omega
    have k3 : ¬ x.m.ki = 3 := by omega
    rw [pM, mS, a1, if_neg k1, if_neg k1, if_neg k2, if_neg k2, if_neg k3, if_neg k3, if_pos k, if_pos k, a2, b1, b2, c1, c2, d1, d2, d3, d4, hS, hN, n2, i1, i2, List.take_of_length_le (Nat.le_refl _), List.drop_of_length_le (Nat.le_refl _)]
    refine ⟨?_, rfl⟩
    simp only [MV.c, l1, l2, l3, l4, h1, h2, h3, h5, List.map_nil]
  · rw [bodyB5 k] at a1 a2 b1 b2 c1 c2 ⊢
    simp [strip, msgEmpty, k] at he
    obtain ⟨h1, h2, h3, h4, h5⟩ := he
    have l1 := len_nil H.e1 h1.2.2
    have l2 := len_nil H.e2 h2.2.2.1
    have l3 := len_nil H.e3 h2.2.2.2
    have l0 := len_nil hM.dn h3.2.2
    have l4 := len_nil H.e4 h4.2.2.1
    have l5 := len_nil H.e5 h4.2.2.2
    have l6 := len_nil H.e6 h5
    obtain ⟨f1, f2⟩ := nB_three x.m.ro r
    have k1 : ¬ x.m.ki = 1 := by omega
    have k2 : ¬ x.m.ki = 2 := by omega
    have k3 : ¬ x.m.ki = 3 := by omega
    have k4 : ¬ x.m.ki = 4 := by omega
    rw [pM, mS, a1, if_neg k1, if_neg k1, if_neg k2, if_neg k2, if_neg k3, if_neg k3, if_neg k4, if_neg k4, a2, b1, b2, c1, c2, f1, f2]
    refine ⟨?_, rfl⟩
    simp only [MV.c, l0, l1, l2, l3, l4, l5, l6, h1, h2, h3, h4, List.map_nil]
end Go.Proofs.Ytldlknmpkoebbaa

namespace Go.Proofs.Ytldlknmpkoebbaa
open Go.RowKit

/-- The same with bytes behind. -/
def ap (q : List Int) (s : St) : St := (s.1 ++ q, s.2)
set_option maxRecDepth 100000 in
theorem nx_ext {n : Nat} {s : St} (q : List Int) (h : (nx n s).2 = false) : nx n (ap q s) = ap q (nx n s) ∧ tT n (ap q s) = tT n s ∧ s.2 = false := by
  obtain ⟨l, sh⟩ := s
  have h' : tkS n l sh = false := h
  simp only [tkS, Bool.or_eq_false_iff, decide_eq_false_iff_not] at h'
  obtain ⟨rfl, hl⟩ := h'
  obtain ⟨a1, a2, a3⟩ := tk_ok (n := n) (l := l) (by omega)
  obtain ⟨b1, b2, b3⟩ := tk_ok (n := n) (l := l ++ q) (by simp; omega)
  refine ⟨?_, ?_, rfl⟩
  · show (tkL n (l ++ q) false, tkS n (l ++ q) false) = (tkL n l false ++ q, tkS n l false)
    rw [a2, a3, b2, b3, List.drop_append_of_le_length (by omega)]
  · show tkT n (l ++ q) false = tkT n l false
    rw [a1, b1, List.take_append_of_le_length (by omega)]
set_option maxRecDepth 100000 in
theorem nB_ext {n : Nat} {s : St} (q : List Int) (h : (nx n s).2 = false) : nB n (ap q s) = nB n s := by
  show numB (tT n (ap q s)) = numB (tT n s)
  rw [(nx_ext q h).2.1]
set_option maxRecDepth 100000 in
theorem dg_ext {s : St} (q : List Int) (k : Nat) (h : (dgL s.1 s.2 k).2 = false) : dgL (ap q s).1 (ap q s).2 k = ap q (dgL s.1 s.2 k) ∧ s.2 = false := by
  induction k with
  | zero => exact ⟨rfl, h⟩
  | succ k ih =>
    have h1 : (nx 32 (dgL s.1 s.2 k)).2 = false := h
    obtain ⟨e1, _, e3⟩ := nx_ext q h1
    obtain ⟨i1, i2⟩ := ih e3
    refine ⟨?_, i2⟩
    show nx 32 (dgL (ap q s).1 (ap q s).2 k) = ap q (nx 32 (dgL s.1 s.2 k))
    rw [i1, e1]
set_option maxRecDepth 100000 in
theorem dgS_ext {s : St} (q : List Int) (h : (dgS s).2 = false) : dgS (ap q s) = ap q (dgS s) ∧ s.2 = false := by
  obtain ⟨d1, d2⟩ := dg_ext (s := nx 1 s) q (dN s.1 s.2) h
  obtain ⟨e1, _, e3⟩ := nx_ext q d2
  refine ⟨?_, e3⟩
  have hN : dN (ap q s).1 (ap q s).2 = dN s.1 s.2 := by
    show (nB 1 (ap q s)).toNat = (nB 1 s).toNat
    rw [nB_ext q d2]
  show dgL (nx 1 (ap q s)).1 (nx 1 (ap q s)).2 (dN (ap q s).1 (ap q s).2) = _
  rw [hN, e1, d1]
  rfl
set_option maxRecDepth 100000 in
theorem nL_ext {s : St} (q : List Int) (k : Nat) (h : (nL s k).2 = false) : nL (ap q s) k = ap q (nL s k) ∧ s.2 = false := by
  induction k with
  | zero => exact ⟨rfl, h⟩
  | succ k ih =>
    have h1 : (nx 1 (nL s k)).2 = false := h
    obtain ⟨e1, _, e3⟩ := nx_ext q h1
    obtain ⟨i1, i2⟩ := ih e3
    refine ⟨?_, i2⟩
    show nx 1 (nL (ap q s) k) = ap q (nx 1 (nL s k))
    rw [i1, e1]
set_option maxRecDepth 100000 in
theorem bL_ext {s : St} (q : List Int) (k : Nat) (h : (bL s k).2 = false) : bL (ap q s) k = ap q (bL s k) ∧ s.2 = false := by
  induction k with
  | zero => exact ⟨rfl, h⟩
  | succ k ih =>
    have h1 : (nx (nB 1 (bL s k)).toNat (nx 1 (bL s k))).2 = false := h
    obtain ⟨e1, _, e3⟩ := nx_ext q h1
    obtain ⟨f1, _, f3⟩ := nx_ext q e3
    obtain ⟨i1, i2⟩ := ih f3
    refine ⟨?_, i2⟩
    show nx (nB 1 (bL (ap q s) k)).toNat (nx 1 (bL (ap q s) k)) = ap q (nx (nB 1 (bL s k)).toNat (nx 1 (bL s k)))
    rw [i1, nB_ext q e3, f1, e1]
set_option maxRecDepth 100000 in
theorem mS_ext {s : St} (q : List Int) (h : (mS s).2 = false) : mS (ap q s) = ap q (mS s) := by
  have hK : ∀ h9 : (nx 1 s).2 = false, nB 1 (ap q s) = nB 1 s := fun h9 => nB_ext q h9
  by_cases k1 : nB 1 s = 1
  · rw [mS, if_pos k1] at h
    obtain ⟨a1, a2⟩ := bL_ext q _ h
    obtain ⟨b1, _, b3⟩ := nx_ext q a2
    obtain ⟨c1, _, c3⟩ := nx_ext q (show (nx 3 (nx 1 (nx 1 (nx 1 (nx 1 s))))).2 = false from b3)
    obtain ⟨d1, _, d3⟩ := nx_ext q c3
    obtain ⟨e1, _, e3⟩ := nx_ext q d3
    obtain ⟨f1, _, f3⟩ := nx_ext q e3
    obtain ⟨g1, _, g3⟩ := nx_ext q f3
    have hS : bS3 (nx 1 (nx 1 (nx 1 (ap q s)))) = ap q (bS3 (nx 1 (nx 1 (nx 1 s)))) := by
      show nx 3 (nx 1 (nx 1 (nx 1 (nx 1 (ap q s))))) = _
      rw [g1, f1, e1, d1, c1]
      rfl
    have hN : bN (nx 1 (nx 1 (nx 1 (ap q s)))) = bN (nx 1 (nx 1 (nx 1 s))) := by
      show (nB 1 (bS3 _)).toNat = (nB 1 (bS3 _)).toNat
      rw [hS, nB_ext q a2]
    rw [mS, mS, if_pos k1, if_pos ((hK f3).trans k1), hS, hN, b1, a1]
  · by_cases k2 : nB 1 s = 2
    · rw [mS, if_neg k1, if_pos k2] at h
      obtain ⟨a1, a2⟩ := dgS_ext q h
      obtain ⟨b1, b3⟩ := dgS_ext q a2
      obtain ⟨c1, _, c3⟩ := nx_ext q b3
      obtain ⟨d1, _, d3⟩ := nx_ext q c3
      obtain ⟨e1, _, e3⟩ := nx_ext q d3
      obtain ⟨f1, _, f3⟩ := nx_ext q e3
      obtain ⟨g1, _, g3⟩ := nx_ext q f3
      rw [mS, mS, if_neg k1, if_pos k2, hK f3, if_neg k1, if_pos k2, g1, f1, e1, d1, c1, b1, a1]
    · by_cases k3 : nB 1 s = 3
      · rw [mS, if_neg k1, if_neg k2, if_pos k3] at h
        obtain ⟨b1, _, b3⟩ := nx_ext q h
        obtain ⟨c1, _, c3⟩ := nx_ext q b3
        obtain ⟨d1, _, d3⟩ := nx_ext q c3
        obtain ⟨e1, _, e3⟩ := nx_ext q d3
        obtain ⟨f1, _, f3⟩ := nx_ext q e3
        obtain ⟨g1, _, g3⟩ := nx_ext q f3
        rw [mS, mS, if_neg k1, if_neg k2, if_pos k3, hK f3, if_neg k1, if_neg k2, if_pos k3, g1, f1, e1, d1, c1, b1]
      · by_cases k4 : nB 1 s = 4
        · rw [mS, if_neg k1, if_neg k2, if_neg k3, if_pos k4] at h
          obtain ⟨a1, a2⟩ := nL_ext q _ h
          obtain ⟨b1, _, b3⟩ := nx_ext q a2
          obtain ⟨x1, x2⟩ := dgS_ext q (show (dgS (dgS (nx 3 (nx 1 (nx 1 (nx 1 (nx 1 s))))))).2 = false from b3)
          obtain ⟨y1, y2⟩ := dgS_ext q x2
          obtain ⟨c1, _, c3⟩ := nx_ext q y2
          obtain ⟨d1, _, d3⟩ := nx_ext q c3
          obtain ⟨e1, _, e3⟩ := nx_ext q d3
          obtain ⟨f1, _, f3⟩ := nx_ext q e3
          obtain ⟨g1, _, g3⟩ := nx_ext q f3
          have hS : hS4 (nx 1 (nx 1 (nx 1 (ap q s)))) = ap q (hS4 (nx 1 (nx 1 (nx 1 s)))) := by
            show dgS (dgS (nx 3 (nx 1 (nx 1 (nx 1 (nx 1 (ap q s))))))) = _
            rw [g1, f1, e1, d1, c1, y1, x1]
            rfl
          have hN : cN (nx 1 (nx 1 (nx 1 (ap q s)))) = cN (nx 1 (nx 1 (nx 1 s))) := by
            show (nB 1 (hS4 _)).toNat = (nB 1 (hS4 _)).toNat
            rw [hS, nB_ext q a2]
          rw [mS, mS, if_neg k1, if_neg k2, if_neg k3, if_pos k4, hK f3, if_neg k1, if_neg k2, if_neg k3, if_pos k4, hS, hN, b1, a1]
        · rw [mS, if_neg k1, if_neg k2, if_neg k3, if_neg k4] at h
          obtain ⟨b1, _, b3⟩ := nx_ext q h
          obtain ⟨c1, _, c3⟩ := nx_ext q b3
          obtain ⟨d1, _, d3⟩ := nx_ext q c3
          obtain ⟨e1, _, e3⟩ := nx_ext q d3
          rw [mS, mS, if_neg k1, if_neg k2, if_neg k3, if_neg k4, hK d3, if_neg k1, if_neg k2, if_neg k3, if_neg k4, e1, d1, c1, b1]
set_option maxRecDepth 100000 in
/-- What is torn is too short. -/
theorem mS_torn {p q : List Int} (hq : q ≠ []) (h : mS (p ++ q, false) = ([], false)) : (mS (p, false)).2 = true := by
  cases hs : (mS (p, false)).2 with
  | true => rfl
  | false =>
    have e := mS_ext (s := (p, false)) q hs
    have e' : mS (ap q (p, false)) = ([], false) := h
    rw [e'] at e
    have e2 : [] = (mS (p, false)).1 ++ q := congrArg Prod.fst e
    exact absurd (List.append_eq_nil_iff.1 e2.symm).2 hq
end Go.Proofs.Ytldlknmpkoebbaa

namespace Go.Proofs.Ytldlknmpkoebbaa
open Go.RowKit

set_option maxRecDepth 100000 in
theorem isKind_bool (k : Int) (r : Bool) (w : World) (h : r = decide (1 ≤ k ∧ k ≤ 5)) : Calls Try.prog 72 #[.int .i64 k] w fun e w' => e = .returned (.bool r) ∧ w = w' := by
  by_cases h1 : 1 ≤ k
  · by_cases h2 : k ≤ 5
    · obtain rfl : r = true := by simp [h, h1, h2]
      clear h
      go_enter Try.func72, Try.ntmps72
      go_wp2
      go_ret
      exact ⟨rfl, rfl⟩
    · obtain rfl : r = false := by simp [h, h2]
      clear h
      go_enter Try.func72, Try.ntmps72
      go_wp2
      go_ret
      exact ⟨rfl, rfl⟩
  · obtain rfl : r = false := by simp [h, h1]
    clear h
    go_enter Try.func72, Try.ntmps72
    go_wp2
    go_ret
    exact ⟨rfl, rfl⟩
/-- P2.10: what is told of bytes, but for what they say. -/
def readF (bs : List Int) : Int := if 4000 < bs.length then 1 else if bs = [] then 5 else if ¬ (1 ≤ bs.getD 0 0 ∧ bs.getD 0 0 ≤ 5) then 3 else if (mS (bs, false)).2 = true then 5 else if (mS (bs, false)).1 ≠ [] then 4 else 0
/-- What read gives. -/
structure ReadIs (w w' : World) (e : Ending) (bs : List Int) : Prop where
  out : (readF bs ≠ 0 ∧ e = .returned (.tuple #[.agg #[.int .i64 0, .int .i64 0, .int .i64 0, .int .i64 0, .int .i64 0, .slice none 0 0, .int .i64 0, .int .i64 0, .slice none 0 0, .slice none 0 0, .int .i64 0, .int .i64 0, .slice none 0 0, .int .i64 0, .int .i64 0, .slice none 0 0, .slice none 0 0, .slice none 0 0, .int .i64 0], .int .i64 (readF bs)]) ∨ readF bs = 0 ∧ ∃ x : MV, e = .returned (.tuple #[.agg #[.int .i64 x.m.fr, .int .i64 x.m.tt, .int .i64 x.m.ki, .int .i64 x.m.bau, .int .i64 x.m.bnu, .slice x.m.bta x.m.btn x.m.btc, .int .i64 x.m.hau, .int .i64 x.m.hrd, .slice x.m.hba x.m.hbn x.m.hbc, .slice x.m.hpa x.m.hpn x.m.hpc, .int .i64 x.m.sau, .int .i64 x.m.srd, .slice x.m.sda x.m.sdn x.m.sdc, .int .i64 x.m.cau, .int .i64 x.m.crd, .slice x.m.cba x.m.cbn x.m.cbc, .slice x.m.cpa x.m.cpn x.m.cpc, .slice x.m.cva x.m.cvn x.m.cvc, .int .i64 x.m.ro], .int .i64 0]) ∧ MAt w' x ∧ HasM (fun q => w.heap.size ≤ q) x ∧ x.c = pM (bs, false))
  below : Below w.heap.size w w'
set_option maxRecDepth 100000 in
theorem nB1_first {bs : List Int} (h : bs ≠ []) : nB 1 (bs, false) = bs.getD 0 0 := by
  cases bs with
  | nil => exact absurd rfl h
  | cons a l =>
    have e : tT 1 (a :: l, false) = [a] := (tk_ok (n := 1) (l := a :: l) (by simp)).1
    rw [nB, e]
    simp [numB]
set_option maxRecDepth 100000 in
theorem results_cell_slot {fn : Func} {p q : Tmp} {ty : TypeId} (h : fn.results = #[.cell p ty, .tmp q]) (tmps : Array Value) (w : World) (g : Nat) (t : TypeId) (cs : Array Value) (fr : Nat × Nat) (d : TypeDesc) (v : Value)
    (hp : tmps.getD p undef = .pointer (some ⟨g, 0, none⟩) ∧ tmps.getD q undef = v) (hg : w.heap[g]? = some (.cells cs t fr))
    (hu : Try.prog.underlying ty = some d) (hd : (match d with | .struct _ | .array _ _ => true | _ => false) = true) (hi : (Try.prog.info? ty).map (·.size) = some cs.size) :
    (results fn tmps).run Try.prog w = .ok (.tuple #[.agg cs, v]) w := by
  have hp' : tmps[p]?.getD undef = .pointer (some ⟨g, 0, none⟩) := by simpa using hp.1
  have hq' : tmps[q]?.getD undef = v := by simpa using hp.2
  simp [results, h, hp', hq', asAddr, run_loadVar_row w g t ty cs fr d hg hu (by cases d <;> first | exact hd | rfl) hi]
set_option maxRecDepth 100000 in
set_option maxHeartbeats 4000000 in
theorem read_any (bs : List Int) (sa : Option Addr) (n cap : Nat) (w : World) (hn : n = bs.length) (hs : SliceAt w sa cap bs) (hu : U8s bs) (hl : bs.length ≤ 140737488355328) :
    Calls Try.prog 48 #[.slice sa n cap] w fun e w' => ReadIs w w' e bs := by
  subst hn
  have hA : Below w.heap.size w (w.alloc (.cells #[.int .i64 0, .int .i64 0, .int .i64 0, .int .i64 0, .int .i64 0, .slice none 0 0, .int .i64 0, .int .i64 0, .slice none 0 0, .slice none 0 0, .int .i64 0, .int .i64 0, .slice none 0 0, .int .i64 0, .int .i64 0, .slice none 0 0, .slice none 0 0, .slice none 0 0, .int .i64 0] 53)) := (Below.refl _ _).alloc (Nat.le_refl _) _
  have q0 := heap_alloc_new w (.cells #[.int .i64 0, .int .i64 0, .int .i64 0, .int .i64 0, .int .i64 0, .slice none 0 0, .int .i64 0, .int .i64 0, .slice none 0 0, .slice none 0 0, .int .i64 0, .int .i64 0, .slice none 0 0, .int .i64 0, .int .i64 0, .slice none 0 0, .slice none 0 0, .slice none 0 0, .int .i64 0] 53)
  have hsz : w.heap.size < (w.alloc (.cells #[.int .i64 0, .int .i64 0, .int .i64 0, .int .i64 0, .int .i64 0, .slice none 0 0, .int .i64 0, .int .i64 0, .slice none 0 0, .slice none 0 0, .int .i64 0, .int .i64 0, .slice none 0 0, .int .i64 0, .int .i64 0, .slice none 0 0, .slice none 0 0, .slice none 0 0, .int .i64 0] 53)).heap.size := lt_of_heap q0
  by_cases h1 : 4000 < bs.length
  · have hF : Hid (readF bs = 1) := by show _ = _; rw [readF, if_pos h1]
    have h1I : (4000 : Int) < bs.length := by omega
    go_enter Try.func48, Try.ntmps48
    go_upto_region 2 with fail
    generalize w.alloc (.cells #[.int .i64 0, .int .i64 0, .int .i64 0, .int .i64 0, .int .i64 0, .slice none 0 0, .int .i64 0, .int .i64 0, .slice none 0 0, .slice none 0 0, .int .i64 0, .int .i64 0, .slice none 0 0, .int .i64 0, .int .i64 0, .slice none 0 0, .slice none 0 0, .slice none 0 0, .int .i64 0] 53) = W0 at hA q0 hsz ⊢
    go_wp2_with (refine wpList_store_row rfl 53 _ _ rfl w.heap.size #[.int .i64 0, .int .i64 0, .int .i64 0, .int .i64 0, .int .i64 0, .slice none 0 0, .int .i64 0, .int .i64 0, .slice none 0 0, .slice none 0 0, .int .i64 0, .int .i64 0, .slice none 0 0, .int .i64 0, .int .i64 0, .slice none 0 0, .slice none 0 0, .slice none 0 0, .int .i64 0] rfl rfl 53 _ q0 sMsg' rfl (by simp [Value.oneCell']) ?_)
    have hFc := hF.out
    refine bodyPost_ret (v := .tuple #[.agg #[.int .i64 0, .int .i64 0, .int .i64 0, .int .i64 0, .int .i64 0, .slice none 0 0, .int .i64 0, .int .i64 0, .slice none 0 0, .slice none 0 0, .int .i64 0, .int .i64 0, .slice none 0 0, .int .i64 0, .int .i64 0, .slice none 0 0, .slice none 0 0, .slice none 0 0, .int .i64 0], .int .i64 1]) (results_cell_slot (fn := Try.f48) (p := 2) (q := 3) (ty := 53) rfl _ _ w.heap.size 53 _ (0, 0) _ (.int .i64 1) ⟨rfl, rfl⟩ (setRow_heap _ _ _ _ _ _ q0) Try.underlying53 rfl sMsg') rfl ⟨.inl ⟨by rw [hFc]; decide, by rw [hFc]⟩, (Upd.setRow q0).below hA hA.size (Nat.le_refl _)⟩
  · have h1I : ¬ (4000 : Int) < bs.length := by omega
    by_cases h2 : bs = []
    · have hF : Hid (readF bs = 5) := by show _ = _; rw [readF, if_neg h1, if_pos h2]
      have h2I : ((bs.length : Int) == 0) = true := by rw [h2]; rfl
      clear h2 hs hu
      go_enter Try.func48, Try.ntmps48
      go_upto_region 4 with fail
      generalize w.alloc (.cells #[.int .i64 0, .int .i64 0, .int .i64 0, .int .i64 0, .int .i64 0, .slice none 0 0, .int .i64 0, .int .i64 0, .slice none 0 0, .slice none 0 0, .int .i64 0, .int .i64 0, .slice none 0 0, .int .i64 0, .int .i64 0, .slice none 0 0, .slice none 0 0, .slice none 0 0, .int .i64 0] 53) = W0 at hA q0 hsz ⊢
      go_wp2_with (refine wpList_store_row rfl 53 _ _ rfl w.heap.size #[.int .i64 0, .int .i64 0, .int .i64 0, .int .i64 0, .int .i64 0, .slice none 0 0, .int .i64 0, .int .i64 0, .slice none 0 0, .slice none 0 0, .int .i64 0, .int .i64 0, .slice none 0 0, .int .i64 0, .int .i64 0, .slice none 0 0, .slice none 0 0, .slice none 0 0, .int .i64 0] rfl rfl 53 _ q0 sMsg' rfl (by simp [Value.oneCell']) ?_)
      have hFc := hF.out
      refine bodyPost_ret (v := .tuple #[.agg #[.int .i64 0, .int .i64 0, .int .i64 0, .int .i64 0, .int .i64 0, .slice none 0 0, .int .i64 0, .int .i64 0, .slice none 0 0, .slice none 0 0, .int .i64 0, .int .i64 0, .slice none 0 0, .int .i64 0, .int .i64 0, .slice none 0 0, .slice none 0 0, .slice none 0 0, .int .i64 0], .int .i64 5]) (results_cell_slot (fn := Try.f48) (p := 2) (q := 3) (ty := 53) rfl _ _ w.heap.size 53 _ (0, 0) _ (.int .i64 5) ⟨rfl, rfl⟩ (setRow_heap _ _ _ _ _ _ q0) Try.underlying53 rfl sMsg') rfl ⟨.inl ⟨by rw [hFc]; decide, by rw [hFc]⟩, (Upd.setRow q0).below hA hA.size (Nat.le_refl _)⟩
    · have hpos : 0 < bs.length := by cases bs with | nil => exact absurd rfl h2 | cons _ _ => simp
      have hposI : (0 : Int) < bs.length := by omega
      have h2I : ((bs.length : Int) == 0) = false := by simp; omega
      obtain ⟨sb, so, rfl, hc⟩ : ∃ sb so, sa = some ⟨sb, so, none⟩ ∧ ∀ j, j < bs.length → w.cell? ⟨sb, so + j, none⟩ = some (.int .u8 (bs.getD j 0)) := by
        rcases hs.bytes with h | h
        · exact absurd h h2
        · exact h
      have hsb : sb < w.heap.size := block_lt_of_cell (hc 0 hpos)
      have c0 : (w.alloc (.cells #[.int .i64 0, .int .i64 0, .int .i64 0, .int .i64 0, .int .i64 0, .slice none 0 0, .int .i64 0, .int .i64 0, .slice none 0 0, .slice none 0 0, .int .i64 0, .int .i64 0, .slice none 0 0, .int .i64 0, .int .i64 0, .slice none 0 0, .slice none 0 0, .slice none 0 0, .int .i64 0] 53)).cell? ⟨sb, so, none⟩ = some (.int .u8 (bs.getD 0 0)) := (hA.cell (p := ⟨sb, so, none⟩) hsb).trans (hc 0 hpos)
      obtain ⟨hx0, hx1⟩ := hu (bs.getD 0 0) (by simp [List.getD, hpos])
      have hK := nB1_first h2
      have hR0 : readF bs = if ¬ (1 ≤ bs.getD 0 0 ∧ bs.getD 0 0 ≤ 5) then 3 else if (mS (bs, false)).2 = true then 5 else if (mS (bs, false)).1 ≠ [] then 4 else 0 := by rw [readF, if_neg h1, if_neg h2]
      have HR0 : Hid _ := hR0
      have HNE : Hid (bs ≠ []) := h2
      clear hR0 hc h2
      generalize hX : bs.getD 0 0 = X at *
      have HKX : Hid (nB 1 (bs, false) = X) := hK
      clear hK hX
      by_cases hk : 1 ≤ X ∧ X ≤ 5
      · have hkd : decide (1 ≤ X ∧ X ≤ 5) = true := decide_eq_true hk
        have HIK : Hid (∀ W : World, Calls Try.prog 72 #[.int .i64 X] W fun e w' => e = .returned (.bool true) ∧ W = w') := by
          show ∀ _, _
          intro W
          exact isKind_bool X true W hkd.symm
        have HKK : Hid (1 ≤ X ∧ X ≤ 5) := hk
        clear hkd
        obtain ⟨hk1, hk2⟩ := hk
        go_enter Try.func48, Try.ntmps48
        go_upto_region 8 with (go_at_call 72; refine (HIK.out _).mono ?_; rintro e w9 ⟨rfl, rfl⟩)
        have hA2 : Below w.heap.size w ((w.alloc (.cells #[.int .i64 0, .int .i64 0, .int .i64 0, .int .i64 0, .int .i64 0, .slice none 0 0, .int .i64 0, .int .i64 0, .slice none 0 0, .slice none 0 0, .int .i64 0, .int .i64 0, .slice none 0 0, .int .i64 0, .int .i64 0, .slice none 0 0, .slice none 0 0, .slice none 0 0, .int .i64 0] 53)).alloc (.cells #[.slice (some ⟨sb, so, none⟩) bs.length cap, .bool false] 104)) := hA.alloc hA.size _
        have qR := heap_alloc2_new w (.cells #[.int .i64 0, .int .i64 0, .int .i64 0, .int .i64 0, .int .i64 0, .slice none 0 0, .int .i64 0, .int .i64 0, .slice none 0 0, .slice none 0 0, .int .i64 0, .int .i64 0, .slice none 0 0, .int .i64 0, .int .i64 0, .slice none 0 0, .slice none 0 0, .slice none 0 0, .int .i64 0] 53) (.cells #[.slice (some ⟨sb, so, none⟩) bs.length cap, .bool false] 104)
        have q0A := heap_alloc2_old w (.cells #[.int .i64 0, .int .i64 0, .int .i64 0, .int .i64 0, .int .i64 0, .slice none 0 0, .int .i64 0, .int .i64 0, .slice none 0 0, .slice none 0 0, .int .i64 0, .int .i64 0, .slice none 0 0, .int .i64 0, .int .i64 0, .slice none 0 0, .slice none 0 0, .slice none 0 0, .int .i64 0] 53) (.cells #[.slice (some ⟨sb, so, none⟩) bs.length cap, .bool false] 104)
        generalize (w.alloc (.cells #[.int .i64 0, .int .i64 0, .int .i64 0, .int .i64 0, .int .i64 0, .slice none 0 0, .int .i64 0, .int .i64 0, .slice none 0 0, .slice none 0 0, .int .i64 0, .int .i64 0, .slice none 0 0, .int .i64 0, .int .i64 0, .slice none 0 0, .slice none 0 0, .slice none 0 0, .int .i64 0] 53)).alloc (.cells #[.slice (some ⟨sb, so, none⟩) bs.length cap, .bool false] 104) = W2 at hA2 qR q0A ⊢
        have hRd : RdS W2 (w.heap.size + 1) (bs, false) := ⟨some ⟨sb, so, none⟩, cap, qR, hs.below hA2, fun sb' so' e => by cases e; exact ⟨by omega, fun _ => by omega⟩⟩
        have hMs := message_rd (w.heap.size + 1) (bs, false) W2 hRd ⟨by show bs.length ≤ _; omega, hu⟩ (by rw [HKX.out]; exact HKK.out)
        have hszW : w.heap.size + 1 < W2.heap.size := lt_of_heap qR
        have HR1 : Hid (readF bs = if (mS (bs, false)).2 = true then 5 else if (mS (bs, false)).1 ≠ [] then 4 else 0) := by show _ = _; rw [HR0.out, if_neg (fun h => h HKK.out)]
        clear hRd c0 HR0 hs hu hA q0 hsz
        go_wp2_with fail
        refine hMs.mono ?_
        rintro e w3 ⟨x, he, hM, hH, hcx, hR3, ho3⟩
        subst he
        dsimp only
        clear hMs
        have z3 := (ho3.block _ (by omega) (by omega)).trans q0A
        obtain ⟨la, lc, hr3, -, -⟩ := RdrAt.out hR3
        generalize (mS (bs, false)).1 = ml at *
        generalize (mS (bs, false)).2 = msh at *
        have hOw : Only (w.heap.size + 1) w w3 := (only_of_below hA2).trans ho3
        have hB3 := hOw.below (B := w.heap.size) (by omega) (Nat.le_refl _)
        have hlt3 : w.heap.size + 1 < w3.heap.size := lt_of_heap hr3
        have qz := heap_alloc_new w3 (.cells #[.int .i64 0, .int .i64 0, .int .i64 0, .int .i64 0, .int .i64 0, .slice none 0 0, .int .i64 0, .int .i64 0, .slice none 0 0, .slice none 0 0, .int .i64 0, .int .i64 0, .slice none 0 0, .int .i64 0, .int .i64 0, .slice none 0 0, .slice none 0 0, .slice none 0 0, .int .i64 0] 53)
        have hAM : Below w3.heap.size w3 ((w3.alloc (.cells #[.int .i64 0, .int .i64 0, .int .i64 0, .int .i64 0, .int .i64 0, .slice none 0 0, .int .i64 0, .int .i64 0, .slice none 0 0, .slice none 0 0, .int .i64 0, .int .i64 0, .slice none 0 0, .int .i64 0, .int .i64 0, .slice none 0 0, .slice none 0 0, .slice none 0 0, .int .i64 0] 53)).setRow w3.heap.size #[.int .i64 x.m.fr, .int .i64 x.m.tt, .int .i64 x.m.ki, .int .i64 x.m.bau, .int .i64 x.m.bnu, .slice x.m.bta x.m.btn x.m.btc, .int .i64 x.m.hau, .int .i64 x.m.hrd, .slice x.m.hba x.m.hbn x.m.hbc, .slice x.m.hpa x.m.hpn x.m.hpc, .int .i64 x.m.sau, .int .i64 x.m.srd, .slice x.m.sda x.m.sdn x.m.sdc, .int .i64 x.m.cau, .int .i64 x.m.crd, .slice x.m.cba x.m.cbn x.m.cbc, .slice x.m.cpa x.m.cpn x.m.cpc, .slice x.m.cva x.m.cvn x.m.cvc, .int .i64 x.m.ro]) := laid_row w3 #[.int .i64 0, .int .i64 0, .int .i64 0, .int .i64 0, .int .i64 0, .slice none 0 0, .int .i64 0, .int .i64 0, .slice none 0 0, .slice none 0 0, .int .i64 0, .int .i64 0, .slice none 0 0, .int .i64 0, .int .i64 0, .slice none 0 0, .slice none 0 0, .slice none 0 0, .int .i64 0] #[.int .i64 x.m.fr, .int .i64 x.m.tt, .int .i64 x.m.ki, .int .i64 x.m.bau, .int .i64 x.m.bnu, .slice x.m.bta x.m.btn x.m.btc, .int .i64 x.m.hau, .int .i64 x.m.hrd, .slice x.m.hba x.m.hbn x.m.hbc, .slice x.m.hpa x.m.hpn x.m.hpc, .int .i64 x.m.sau, .int .i64 x.m.srd, .slice x.m.sda x.m.sdn x.m.sdc, .int .i64 x.m.cau, .int .i64 x.m.crd, .slice x.m.cba x.m.cbn x.m.cbc, .slice x.m.cpa x.m.cpn x.m.cpc, .slice x.m.cva x.m.cvn x.m.cvc, .int .i64 x.m.ro] 53
        have qM := setRow_heap _ _ _ #[.int .i64 x.m.fr, .int .i64 x.m.tt, .int .i64 x.m.ki, .int .i64 x.m.bau, .int .i64 x.m.bnu, .slice x.m.bta x.m.btn x.m.btc, .int .i64 x.m.hau, .int .i64 x.m.hrd, .slice x.m.hba x.m.hbn x.m.hbc, .slice x.m.hpa x.m.hpn x.m.hpc, .int .i64 x.m.sau, .int .i64 x.m.srd, .slice x.m.sda x.m.sdn x.m.sdc, .int .i64 x.m.cau, .int .i64 x.m.crd, .slice x.m.cba x.m.cbn x.m.cbc, .slice x.m.cpa x.m.cpn x.m.cpc, .slice x.m.cva x.m.cvn x.m.cvc, .int .i64 x.m.ro] _ _ qz
        have zM := (hAM.block _ (by omega)).trans z3
        have rM := (hAM.block _ hlt3).trans hr3
        have HMx : Hid (MAt w3 x ∧ HasM (fun q => W2.heap.size ≤ q) x ∧ x.c = pM (bs, false)) := ⟨hM, hH, hcx⟩
        clear hM hH hcx hR3
        go_upto_region 9 with (refine wpList_store_row rfl 53 _ _ rfl w3.heap.size #[.int .i64 x.m.fr, .int .i64 x.m.tt, .int .i64 x.m.ki, .int .i64 x.m.bau, .int .i64 x.m.bnu, .slice x.m.bta x.m.btn x.m.btc, .int .i64 x.m.hau, .int .i64 x.m.hrd, .slice x.m.hba x.m.hbn x.m.hbc, .slice x.m.hpa x.m.hpn x.m.hpc, .int .i64 x.m.sau, .int .i64 x.m.srd, .slice x.m.sda x.m.sdn x.m.sdc, .int .i64 x.m.cau, .int .i64 x.m.crd, .slice x.m.cba x.m.cbn x.m.cbc, .slice x.m.cpa x.m.cpn x.m.cpc, .slice x.m.cva x.m.cvn x.m.cvc, .int .i64 x.m.ro] rfl rfl 53 _ qz sMsg' rfl (by simp [Value.oneCell']) ?_)
        generalize (w3.alloc (.cells #[.int .i64 0, .int .i64 0, .int .i64 0, .int .i64 0, .int .i64 0, .slice none 0 0, .int .i64 0, .int .i64 0, .slice none 0 0, .slice none 0 0, .int .i64 0, .int .i64 0, .slice none 0 0, .int .i64 0, .int .i64 0, .slice none 0 0, .slice none 0 0, .slice none 0 0, .int .i64 0] 53)).setRow w3.heap.size #[.int .i64 x.m.fr, .int .i64 x.m.tt, .int .i64 x.m.ki, .int .i64 x.m.bau, .int .i64 x.m.bnu, .slice x.m.bta x.m.btn x.m.btc, .int .i64 x.m.hau, .int .i64 x.m.hrd, .slice x.m.hba x.m.hbn x.m.hbc, .slice x.m.hpa x.m.hpn x.m.hpc, .int .i64 x.m.sau, .int .i64 x.m.srd, .slice x.m.sda x.m.sdn x.m.sdc, .int .i64 x.m.cau, .int .i64 x.m.crd, .slice x.m.cba x.m.cbn x.m.cbc, .slice x.m.cpa x.m.cpn x.m.cpc, .slice x.m.cva x.m.cvn x.m.cvc, .int .i64 x.m.ro] = W4 at hAM qM zM rM ⊢
        have hB4 := hB3.trans (hAM.mono hB3.size)
        have hMx4 : Hid (MAt W4 x) := HMx.out.1.below hAM
        have s0 : W4.cell? ⟨w.heap.size + 1, 0, none⟩ = some (.slice la ml.length lc) := cells_at rM 0 _ rfl
        have s1 : W4.cell? ⟨w.heap.size + 1, 1, none⟩ = some (.bool msh) := cells_at rM 1 _ rfl
        clear qz z3 hr3 hAM
        cases msh with
        | true =>
          have hF : Hid (readF bs = 5) := by show _ = _; rw [HR1.out, if_pos rfl]
          go_wp2_with (refine wpList_store_row rfl 53 _ _ rfl w.heap.size #[.int .i64 0, .int .i64 0, .int .i64 0, .int .i64 0, .int .i64 0, .slice none 0 0, .int .i64 0, .int .i64 0, .slice none 0 0, .slice none 0 0, .int .i64 0, .int .i64 0, .slice none 0 0, .int .i64 0, .int .i64 0, .slice none 0 0, .slice none 0 0, .slice none 0 0, .int .i64 0] rfl rfl 53 _ zM sMsg' rfl (by simp [Value.oneCell']) ?_)
          have hFc := hF.out
          refine bodyPost_ret (v := .tuple #[.agg #[.int .i64 0, .int .i64 0, .int .i64 0, .int .i64 0, .int .i64 0, .slice none 0 0, .int .i64 0, .int .i64 0, .slice none 0 0, .slice none 0 0, .int .i64 0, .int .i64 0, .slice none 0 0, .int .i64 0, .int .i64 0, .slice none 0 0, .slice none 0 0, .slice none 0 0, .int .i64 0], .int .i64 5]) (results_cell_slot (fn := Try.f48) (p := 2) (q := 3) (ty := 53) rfl _ _ w.heap.size 53 _ (0, 0) _ (.int .i64 5) ⟨rfl, rfl⟩ (setRow_heap _ _ _ _ _ _ zM) Try.underlying53 rfl sMsg') rfl ⟨.inl ⟨by rw [hFc]; decide, by rw [hFc]⟩, (Upd.setRow zM).below hB4 hB4.size (Nat.le_refl _)⟩
        | false =>
          by_cases hml : ml = []
          · have hF : Hid (readF bs = 0) := by show _ = _; rw [HR1.out, if_neg (by decide), if_neg (fun h => h hml)]
            have hmI : ¬ (0 : Int) < (ml.length : Int) := by rw [hml]; decide
            clear hml HR1
            go_wp2_with (first | refine wpList_load_row rfl 53 _ rfl w3.heap.size rfl 53 #[.int .i64 x.m.fr, .int .i64 x.m.tt, .int .i64 x.m.ki, .int .i64 x.m.bau, .int .i64 x.m.bnu, .slice x.m.bta x.m.btn x.m.btc, .int .i64 x.m.hau, .int .i64 x.m.hrd, .slice x.m.hba x.m.hbn x.m.hbc, .slice x.m.hpa x.m.hpn x.m.hpc, .int .i64 x.m.sau, .int .i64 x.m.srd, .slice x.m.sda x.m.sdn x.m.sdc, .int .i64 x.m.cau, .int .i64 x.m.crd, .slice x.m.cba x.m.cbn x.m.cbc, .slice x.m.cpa x.m.cpn x.m.cpc, .slice x.m.cva x.m.cvn x.m.cvc, .int .i64 x.m.ro] (0, 0) _ qM Try.underlying53 rfl sMsg' ?_ | refine wpList_store_row rfl 53 _ _ rfl w.heap.size #[.int .i64 x.m.fr, .int .i64 x.m.tt, .int .i64 x.m.ki, .int .i64 x.m.bau, .int .i64 x.m.bnu, .slice x.m.bta x.m.btn x.m.btc, .int .i64 x.m.hau, .int .i64 x.m.hrd, .slice x.m.hba x.m.hbn x.m.hbc, .slice x.m.hpa x.m.hpn x.m.hpc, .int .i64 x.m.sau, .int .i64 x.m.srd, .slice x.m.sda x.m.sdn x.m.sdc, .int .i64 x.m.cau, .int .i64 x.m.crd, .slice x.m.cba x.m.cbn x.m.cbc, .slice x.m.cpa x.m.cpn x.m.cpc, .slice x.m.cva x.m.cvn x.m.cvc, .int .i64 x.m.ro] rfl rfl 53 _ zM sMsg' rfl (by simp [Value.oneCell']) ?_)
            refine bodyPost_ret (v := .tuple #[.agg #[.int .i64 x.m.fr, .int .i64 x.m.tt, .int .i64 x.m.ki, .int .i64 x.m.bau, .int .i64 x.m.bnu, .slice x.m.bta x.m.btn x.m.btc, .int .i64 x.m.hau, .int .i64 x.m.hrd, .slice x.m.hba x.m.hbn x.m.hbc, .slice x.m.hpa x.m.hpn x.m.hpc, .int .i64 x.m.sau, .int .i64 x.m.srd, .slice x.m.sda x.m.sdn x.m.sdc, .int .i64 x.m.cau, .int .i64 x.m.crd, .slice x.m.cba x.m.cbn x.m.cbc, .slice x.m.cpa x.m.cpn x.m.cpc, .slice x.m.cva x.m.cvn x.m.cvc, .int .i64 x.m.ro], .int .i64 0]) (results_cell_slot (fn := Try.f48) (p := 2) (q := 3) (ty := 53) rfl _ _ w.heap.size 53 _ (0, 0) _ (.int .i64 0) ⟨rfl, rfl⟩ (setRow_heap _ _ _ _ _ _ zM) Try.underlying53 rfl sMsg') rfl ⟨.inr ⟨hF.out, x, rfl, ?_, HMx.out.2.1.mono (fun q hq => by omega), HMx.out.2.2⟩, (Upd.setRow zM).below hB4 hB4.size (Nat.le_refl _)⟩
            exact hMx4.out.setRow (B := W2.heap.size) HMx.out.2.1 (by omega)
          · have hF : Hid (readF bs = 4) := by show _ = _; rw [HR1.out, if_neg (by decide), if_pos hml]
            have hmI : (0 : Int) < (ml.length : Int) := by have := length_pos_ne hml; omega
            clear hml HR1
            go_wp2_with (refine wpList_store_row rfl 53 _ _ rfl w.heap.size #[.int .i64 0, .int .i64 0, .int .i64 0, .int .i64 0, .int .i64 0, .slice none 0 0, .int .i64 0, .int .i64 0, .slice none 0 0, .slice none 0 0, .int .i64 0, .int .i64 0, .slice none 0 0, .int .i64 0, .int .i64 0, .slice none 0 0, .slice none 0 0, .slice none 0 0, .int .i64 0] rfl rfl 53 _ zM sMsg' rfl (by simp [Value.oneCell']) ?_)
            have hFc := hF.out
            refine bodyPost_ret (v := .tuple #[.agg #[.int .i64 0, .int .i64 0, .int .i64 0, .int .i64 0, .int .i64 0, .slice none 0 0, .int .i64 0, .int .i64 0, .slice none 0 0, .slice none 0 0, .int .i64 0, .int .i64 0, .slice none 0 0, .int .i64 0, .int .i64 0, .slice none 0 0, .slice none 0 0, .slice none 0 0, .int .i64 0], .int .i64 4]) (results_cell_slot (fn := Try.f48) (p := 2) (q := 3) (ty := 53) rfl _ _ w.heap.size 53 _ (0, 0) _ (.int .i64 4) ⟨rfl, rfl⟩ (setRow_heap _ _ _ _ _ _ zM) Try.underlying53 rfl sMsg') rfl ⟨.inl ⟨by rw [hFc]; decide, by rw [hFc]⟩, (Upd.setRow zM).below hB4 hB4.size (Nat.le_refl _)⟩
      · have hkd : decide (1 ≤ X ∧ X ≤ 5) = false := decide_eq_false hk
        have HIK : Hid (∀ W : World, Calls Try.prog 72 #[.int .i64 X] W fun e w' => e = .returned (.bool false) ∧ W = w') := by
          show ∀ _, _
          intro W
          exact isKind_bool X false W hkd.symm
        have hF : Hid (readF bs = 3) := by show _ = _; rw [HR0.out, if_pos hk]
        clear hkd hk
        go_enter Try.func48, Try.ntmps48
        go_upto_region 6 with (go_at_call 72; refine (HIK.out _).mono ?_; rintro e w9 ⟨rfl, rfl⟩)
        generalize w.alloc (.cells #[.int .i64 0, .int .i64 0, .int .i64 0, .int .i64 0, .int .i64 0, .slice none 0 0, .int .i64 0, .int .i64 0, .slice none 0 0, .slice none 0 0, .int .i64 0, .int .i64 0, .slice none 0 0, .int .i64 0, .int .i64 0, .slice none 0 0, .slice none 0 0, .slice none 0 0, .int .i64 0] 53) = W0 at hA q0 hsz c0 ⊢
        go_wp2_with (refine wpList_store_row rfl 53 _ _ rfl w.heap.size #[.int .i64 0, .int .i64 0, .int .i64 0, .int .i64 0, .int .i64 0, .slice none 0 0, .int .i64 0, .int .i64 0, .slice none 0 0, .slice none 0 0, .int .i64 0, .int .i64 0, .slice none 0 0, .int .i64 0, .int .i64 0, .slice none 0 0, .slice none 0 0, .slice none 0 0, .int .i64 0] rfl rfl 53 _ q0 sMsg' rfl (by simp [Value.oneCell']) ?_)
        have hFc := hF.out
        refine bodyPost_ret (v := .tuple #[.agg #[.int .i64 0, .int .i64 0, .int .i64 0, .int .i64 0, .int .i64 0, .slice none 0 0, .int .i64 0, .int .i64 0, .slice none 0 0, .slice none 0 0, .int .i64 0, .int .i64 0, .slice none 0 0, .int .i64 0, .int .i64 0, .slice none 0 0, .slice none 0 0, .slice none 0 0, .int .i64 0], .int .i64 3]) (results_cell_slot (fn := Try.f48) (p := 2) (q := 3) (ty := 53) rfl _ _ w.heap.size 53 _ (0, 0) _ (.int .i64 3) ⟨rfl, rfl⟩ (setRow_heap _ _ _ _ _ _ q0) Try.underlying53 rfl sMsg') rfl ⟨.inl ⟨by rw [hFc]; decide, by rw [hFc]⟩, (Upd.setRow q0).below hA hA.size (Nat.le_refl _)⟩
end Go.Proofs.Ytldlknmpkoebbaa
