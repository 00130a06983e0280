/- The walk of DagFinds. -/
import Derived.Test.YtgbomdikhidkoaaDoorDagFindsM54
import Derived.Test.YtgbomdikhidkoaaDoorCerts
import Derived.Test.YtgbomdikhidkoaaDoorDagFindsM0
import Derived.Test.YtgbomdikhidkoaaDoorDagFindsM30
import Derived.Deep.RegionLaw
import Derived.Test.YtgbomdikhidkoaaDoorApp
import Derived.Test.YtgbomdikhidkoaaDoorSx
namespace Go.Proofs.YtgbomdikhidkoaaDoor
open Go.RowKit

/-- A certificate whose lists are read. -/
structure CtLs (w : World) (c : Ct) : Prop where
  lb : ListAt w c.ba c.bc c.bl
  lp : ListAt w c.pa c.pc c.pl
  ints : IntsAt w c.va c.vl
set_option maxRecDepth 100000 in
theorem CtLs.below {w w' : World} {c : Ct} (h : CtLs w c) (hb : Below w.heap.size w w') : CtLs w' c := ⟨h.lb.below hb, h.lp.below hb, h.ints.below hb⟩
set_option maxRecDepth 100000 in
theorem CtAt.ls {w : World} {c : Ct} (h : CtAt w c) : CtLs w c := ⟨h.hat.lb, h.hat.lp, h.ints⟩
set_option maxRecDepth 100000 in
set_option maxHeartbeats 1000000 in
theorem sameCertL_eq (c d : Ct) (w : World) (hv : c.v = d.v) (hl : d.vl.length ≤ 9000000000000000000) (hc : CtLs w c) (hd : CtLs w d) :
    Calls Tryd.prog 15 #[.agg #[.int .i64 c.au, .int .i64 c.rd, .slice c.ba c.bl.length c.bc, .slice c.pa c.pl.length c.pc, .slice c.va c.vl.length c.vc], .agg #[.int .i64 d.au, .int .i64 d.rd, .slice d.ba d.bl.length d.bc, .slice d.pa d.pl.length d.pc, .slice d.va d.vl.length d.vc]] w fun e w' => e = .returned (.bool true) ∧ Below w.heap.size w w' := by
  obtain ⟨au, rd, xa, xc, xl, ya, yc, yl, za, zc, zl⟩ := c
  obtain ⟨au', rd', ba, bc, bl, pa, pc, pl, va, vc, vl⟩ := d
  simp only [Ct.v, CV.mk.injEq] at hv
  obtain ⟨rfl, rfl, s1, s2, rfl⟩ := hv
  obtain ⟨a1, a2, a3⟩ := hc
  obtain ⟨b1, b2, b3⟩ := hd
  exact sameCertR_eq au rd xa xc xl ya yc yl za zc zl ba bc bl pa pc pl va vc w s1 s2 hl a1 a2 a3 b1 b2 b3
end Go.Proofs.YtgbomdikhidkoaaDoor

namespace Go.Proofs.YtgbomdikhidkoaaDoor
open Go.RowKit

/-- What Find answers. -/
def FndAt (w' : World) (e : Ending) (l : List CV) (k : List Int) : Prop :=
  (∃ ec : Int, e = .returned (.tuple #[.agg #[.int .i64 0, .int .i64 0, .slice none 0 0, .slice none 0 0, .slice none 0 0], .int .i64 ec]) ∧ ((dagF l = 12 ∧ ec = 12) ∨ (dagF l = 0 ∧ pOf l k = -1 ∧ ec = 8))) ∨ (dagF l = 0 ∧ 0 ≤ pOf l k ∧ ∃ c : Ct, e = .returned (.tuple #[.agg #[.int .i64 c.au, .int .i64 c.rd, .slice c.ba c.bl.length c.bc, .slice c.pa c.pl.length c.pc, .slice c.va c.vl.length c.vc], .int .i64 0]) ∧ c.v = cvAt l (pOf l k).toNat ∧ CtLs w' c ∧ c.vl.length ≤ 4)
set_option maxRecDepth 100000 in
theorem dagFind_any (ls : List Ct) (sa : Option Addr) (n cap : Nat) (bs : List Int) (ka : Option Addr) (kn kc : Nat) (w : World) (hn : n = ls.length) (hkn : kn = bs.length) (hd : DagAt w sa cap ls) (hk : SliceAt w ka kc bs) (hT : Tabs w) :
    Calls Tryd.prog 12 #[.agg #[.slice sa n cap], .slice ka kn kc] w fun e w' => FndAt w' e (cvs ls) bs ∧ Below w.heap.size w w' :=
  (dagFind_own ls sa n cap bs ka kn kc w hn hkn hd hk hT).mono (fun _ _ h => ⟨by
    rcases h.out with h1 | ⟨h1, h2, c, h3, h4, h5, _⟩
    · exact .inl h1
    · refine .inr ⟨h1, h2, c, h3, h4, h5.ls, ?_⟩
      have hb := pOf_bounds (cvs ls) bs
      have hf := dagF_f h1 (pOf (cvs ls) bs).toNat (by omega)
      rw [← h4] at hf
      exact (f_small hf).2.2.1, h.below⟩)
end Go.Proofs.YtgbomdikhidkoaaDoor

namespace Go.Proofs.YtgbomdikhidkoaaDoor
open Go.RowKit

set_option maxRecDepth 100000 in
set_option maxHeartbeats 1000000 in
theorem foundIn_any (ls : List Ct) (sa : Option Addr) (n cap : Nat) (bs : List Int) (ka : Option Addr) (kn kc : Nat) (w : World) (hn : n = ls.length) (hkn : kn = bs.length) (hd : DagRd w sa cap ls) (hk : SliceAt w ka kc bs) :
    Calls Tryd.prog 14 #[.agg #[.slice sa n cap], .slice ka kn kc] w fun e w' => FndAt w' e (cvs ls) bs ∧ Below w.heap.size w w' := by
  subst hn hkn
  have hA : Below w.heap.size w ((w.alloc (.cells #[.slice sa ls.length cap] 24)).alloc (.cells #[.int .i64 0, .int .i64 0, .slice none 0 0, .slice none 0 0, .slice none 0 0] 35)) := ((Below.refl _ _).alloc (Nat.le_refl _) _).alloc (by rw [size_alloc]; omega) _
  have q0 := heap_alloc2_old w (.cells #[.slice sa ls.length cap] 24) (.cells #[.int .i64 0, .int .i64 0, .slice none 0 0, .slice none 0 0, .slice none 0 0] 35)
  have q1 : ((w.alloc (.cells #[.slice sa ls.length cap] 24)).alloc (.cells #[.int .i64 0, .int .i64 0, .slice none 0 0, .slice none 0 0, .slice none 0 0] 35)).heap[w.heap.size + 1]? = some (.cells #[.int .i64 0, .int .i64 0, .slice none 0 0, .slice none 0 0, .slice none 0 0] 35 (0, 0)) := by
    have := heap_alloc_new (w.alloc (.cells #[.slice sa ls.length cap] 24)) (.cells #[.int .i64 0, .int .i64 0, .slice none 0 0, .slice none 0 0, .slice none 0 0] 35)
    rw [size_alloc] at this; exact this
  go_enter Tryd.func14, Tryd.ntmps14
  go_wp2_with fail
  generalize (w.alloc (.cells #[.slice sa ls.length cap] 24)).alloc (.cells #[.int .i64 0, .int .i64 0, .slice none 0 0, .slice none 0 0, .slice none 0 0] 35) = W0 at hA q0 q1 ⊢
  refine (dagFault_any ls sa _ cap W0 rfl (hd.below hA)).mono ?_
  rintro e w1 ⟨he, hb1⟩
  subst he
  dsimp only
  have hB1 := hA.trans (hb1.mono hA.size)
  have r0 := (hb1.block _ (lt_of_heap q0)).trans q0
  have r1 := (hb1.block _ (lt_of_heap q1)).trans q1
  rcases dagF_or (cvs ls) with h | h
  · have HF : Hid _ := h
    have hd1 := hd.below hB1
    have HD := digestsOf_any ls sa _ cap w1 rfl (dag_le h) hd1.certs hd1.each (all_f h)
    have hle := dag_le h
    rw [h]
    clear h hd1
    have b0 := cells_at r0 0 _ rfl
    go_wp2_with fail
    refine HD.mono ?_
    rintro e w2 ⟨ra, rc, ds, he, hM, hL, hb2⟩
    subst he
    dsimp only
    clear HD b0
    have hB2 := hB1.trans (hb2.mono hB1.size)
    have hdl : ls.length = ds.length := by rw [digs_length hM, cvs_length]
    have HPL := placeOf_any (cvs ls) ds ra ls.length rc bs ka bs.length kc w2 hdl hM (by omega) hL.parts rfl (hk.below hB2)
    clear hM hdl
    go_wp2_with fail
    refine HPL.mono ?_
    rintro e w2' ⟨he, hw⟩
    subst he hw
    dsimp only
    clear HPL
    have s0 := (hb2.block _ (lt_of_heap r0)).trans r0
    have s1 := (hb2.block _ (lt_of_heap r1)).trans r1
    have hbd := pOf_bounds (cvs ls) bs
    rw [cvs_length] at hbd
    by_cases hr : pOf (cvs ls) bs < 0
    · have HP : Hid (pOf (cvs ls) bs = -1) := by
        show _ = _
        omega
      rw [HP.out]
      have d0 := cells_at s1 0 _ rfl
      have d1 := cells_at s1 1 _ rfl
      have d2 := cells_at s1 2 _ rfl
      have d3 := cells_at s1 3 _ rfl
      have d4 := cells_at s1 4 _ rfl
      have f0 := frozen_at s1 0
      have f1 := frozen_at s1 1
      have f2 := frozen_at s1 2
      have f3 := frozen_at s1 3
      have f4 := frozen_at s1 4
      clear hr hbd
      go_wp2_with fail
      refine bodyPost_ret (v := .tuple #[.agg #[.int .i64 0, .int .i64 0, .slice none 0 0, .slice none 0 0, .slice none 0 0], .int .i64 8]) (by simp [results, Tryd.results14, go_sem, d0, d1, d2, d3, d4]) rfl ⟨.inl ⟨8, rfl, .inr ⟨HF.out, HP.out, rfl⟩⟩, ?_⟩
      exact ((((hB2.setCell (Nat.le_succ _) _).setCell (Nat.le_succ _) _).setCell (Nat.le_succ _) _).setCell (Nat.le_succ _) _).setCell (Nat.le_succ _) _
    · obtain ⟨k, hke⟩ : ∃ k : Nat, pOf (cvs ls) bs = k := ⟨(pOf (cvs ls) bs).toNat, by omega⟩
      have HP : Hid (pOf (cvs ls) bs = k) := hke
      rw [hke] at hbd hr
      rw [hke]
      have hkl : k < ls.length := by omega
      have hkI : (k : Int) < ls.length := by omega
      have h0 : ¬ (k : Int) < 0 := by omega
      clear hke
      obtain ⟨sb, so, rfl, c0, c1, c2, c3, c4⟩ := (hd.certs.below hB2).at k hkl
      have hct := (hd.each (ls[k]) (List.getElem_mem hkl)).below hB2
      obtain ⟨_, _, m3, _, _⟩ := ct_small (all_f HF.out (ls[k]) (List.getElem_mem hkl))
      have HCC := certCopyU_any (ls[k]).au (ls[k]).rd (ls[k]).ba (ls[k]).bc (ls[k]).bl (ls[k]).pa (ls[k]).pc (ls[k]).pl (ls[k]).va (ls[k]).vc (ls[k]).vl w2 hct.rb hct.rp hct.nums.ints (by omega)
      have HV : Hid ((ls[k]).v = cvAt (cvs ls) k) := (cvAt_get ls k hkl).symm
      have HV4 : Hid ((ls[k]).vl.length ≤ 4) := m3
      have b0 := cells_at s0 0 _ rfl
      clear hct m3
      generalize ls[k] = s at *
      go_wp2_with fail
      refine HCC.mono ?_
      rintro e w3 ⟨xa, xc, xs, ya, yc, ys, za, zc, he, hS1, hS2, hL1, hL2, hZ, hb3, hF1, hF2, hF3, _, _⟩
      subst he
      dsimp only
      clear HCC b0 c0 c1 c2 c3 c4
      have r3 := (hb3.block _ (lt_of_heap s1)).trans s1
      have d0 := cells_at r3 0 _ rfl
      have d1 := cells_at r3 1 _ rfl
      have d2 := cells_at r3 2 _ rfl
      have d3 := cells_at r3 3 _ rfl
      have d4 := cells_at r3 4 _ rfl
      have f0 := frozen_at r3 0
      have f1 := frozen_at r3 1
      have f2 := frozen_at r3 2
      have f3 := frozen_at r3 3
      have f4 := frozen_at r3 4
      have hB3 := hB2.trans (hb3.mono hB2.size)
      have hlt : w.heap.size + 1 < w2.heap.size := lt_of_heap s1
      have E1 : Hid (xs.length = s.bl.length) := hS1.length
      have E2 : Hid (ys.length = s.pl.length) := hS2.length
      have HXV : Hid ((⟨s.au, s.rd, xa, xc, xs, ya, yc, ys, za, zc, s.vl⟩ : Ct).v = s.v) := by
        show Ct.v _ = _
        simp only [Ct.v]
        rw [bss_same hS1, bss_same hS2]
      have hzn : ∀ sb so, za = some ⟨sb, so, none⟩ → w.heap.size + 1 ≠ sb := fun sb so e => by have := hF3 sb so e; omega
      clear hS1 hS2
      go_wp2_with fail
      refine bodyPost_ret (v := .tuple #[.agg #[.int .i64 s.au, .int .i64 s.rd, .slice xa s.bl.length xc, .slice ya s.pl.length yc, .slice za s.vl.length zc], .int .i64 0]) (by simp [results, Tryd.results14, go_sem, d0, d1, d2, d3, d4]) rfl ⟨.inr ⟨HF.out, by rw [HP.out]; omega, ⟨s.au, s.rd, xa, xc, xs, ya, yc, ys, za, zc, s.vl⟩, by rw [E1.out, E2.out], ?_, ⟨?_, ?_, ?_⟩, HV4.out⟩, ?_⟩
      · rw [HP.out, HXV.out, HV.out]; rfl
      · exact ((((hL1.setCell hF1 _ _ _ hlt).setCell hF1 _ _ _ hlt).setCell hF1 _ _ _ hlt).setCell hF1 _ _ _ hlt).setCell hF1 _ _ _ hlt
      · exact ((((hL2.setCell hF2 _ _ _ hlt).setCell hF2 _ _ _ hlt).setCell hF2 _ _ _ hlt).setCell hF2 _ _ _ hlt).setCell hF2 _ _ _ hlt
      · exact ((((hZ.setCell _ _ _ hzn).setCell _ _ _ hzn).setCell _ _ _ hzn).setCell _ _ _ hzn).setCell _ _ _ hzn
      · exact ((((hB3.setCell (Nat.le_succ _) _).setCell (Nat.le_succ _) _).setCell (Nat.le_succ _) _).setCell (Nat.le_succ _) _).setCell (Nat.le_succ _) _
  · have HF : Hid _ := h
    rw [h]
    clear h
    have d0 := cells_at r1 0 _ rfl
    have d1 := cells_at r1 1 _ rfl
    have d2 := cells_at r1 2 _ rfl
    have d3 := cells_at r1 3 _ rfl
    have d4 := cells_at r1 4 _ rfl
    have f0 := frozen_at r1 0
    have f1 := frozen_at r1 1
    have f2 := frozen_at r1 2
    have f3 := frozen_at r1 3
    have f4 := frozen_at r1 4
    go_wp2_with fail
    refine bodyPost_ret (v := .tuple #[.agg #[.int .i64 0, .int .i64 0, .slice none 0 0, .slice none 0 0, .slice none 0 0], .int .i64 12]) (by simp [results, Tryd.results14, go_sem, d0, d1, d2, d3, d4]) rfl ⟨.inl ⟨12, rfl, .inl ⟨HF.out, rfl⟩⟩, ?_⟩
    exact ((((hB1.setCell (Nat.le_succ _) _).setCell (Nat.le_succ _) _).setCell (Nat.le_succ _) _).setCell (Nat.le_succ _) _).setCell (Nat.le_succ _) _
end Go.Proofs.YtgbomdikhidkoaaDoor

namespace Go.Proofs.YtgbomdikhidkoaaDoor
open Go.RowKit

set_option maxRecDepth 100000 in
set_option maxHeartbeats 1000000 in
theorem dagCopy_own (ls : List Ct) (sa : Option Addr) (n cap : Nat) (w : World) (hn : n = ls.length) (hd : DagRd w sa cap ls) :
    Calls Tryd.prog 10 #[.agg #[.slice sa n cap]] w fun e w' => ∃ v ks, e = .returned (.agg #[v]) ∧ cvs ks = cvs ls ∧ w'.ownsRow w.heap.size 35 5 v ls.length (ctv ks) ∧ ApartC w' w.heap.size v ks ∧ Below w.heap.size w w' := by
  subst hn
  obtain ⟨i, hi, hz0, hz1, hz2⟩ := info_parts infoCert
  have hreach := hd.reach
  have hA : Below w.heap.size w (((w.alloc (.cells #[.slice sa ls.length cap] 24)).alloc (.cells #[.slice none 0 0] 24)).alloc (.cells #[.slice none 0 0] 24)) := (((Below.refl _ _).alloc (Nat.le_refl _) _).alloc (by rw [size_alloc]; omega) _).alloc (by rw [size_alloc, size_alloc]; omega) _
  have r0 : (((w.alloc (.cells #[.slice sa ls.length cap] 24)).alloc (.cells #[.slice none 0 0] 24)).alloc (.cells #[.slice none 0 0] 24)).heap[w.heap.size]? = some (.cells #[.slice sa ls.length cap] 24 (0, 0)) := heap_keep (heap_keep (heap_alloc_new w _))
  have r1 : (((w.alloc (.cells #[.slice sa ls.length cap] 24)).alloc (.cells #[.slice none 0 0] 24)).alloc (.cells #[.slice none 0 0] 24)).heap[w.heap.size + 1]? = some (.cells #[.slice none 0 0] 24 (0, 0)) := heap_keep (by have := heap_alloc_new (w.alloc (.cells #[.slice sa ls.length cap] 24)) (.cells #[.slice none 0 0] 24); rw [size_alloc] at this; exact this)
  have r2 : (((w.alloc (.cells #[.slice sa ls.length cap] 24)).alloc (.cells #[.slice none 0 0] 24)).alloc (.cells #[.slice none 0 0] 24)).heap[w.heap.size + 1 + 1]? = some (.cells #[.slice none 0 0] 24 (0, 0)) := by
    have := heap_alloc_new ((w.alloc (.cells #[.slice sa ls.length cap] 24)).alloc (.cells #[.slice none 0 0] 24)) (.cells #[.slice none 0 0] 24)
    rw [size_alloc, size_alloc] at this; exact this
  have hz : (((w.alloc (.cells #[.slice sa ls.length cap] 24)).alloc (.cells #[.slice none 0 0] 24)).alloc (.cells #[.slice none 0 0] 24)).heap.size = w.heap.size + 3 := by rw [size_alloc, size_alloc, size_alloc]
  go_enter Tryd.func10, Tryd.ntmps10
  go_wp2_with fail
  generalize ((w.alloc (.cells #[.slice sa ls.length cap] 24)).alloc (.cells #[.slice none 0 0] 24)).alloc (.cells #[.slice none 0 0] 24) = W0 at hA r0 r1 r2 hz ⊢
  have HZ : Hid (W0.heap.size = w.heap.size + 3) := hz
  clear hz
  generalize hO : w.heap.size + 1 + 1 = O at r2 ⊢
  have HO : Hid (w.heap.size + 1 + 1 = O) := hO
  clear hO
  go_loopw [4] (fun j wr => ∃ (k : Nat) (v : Value) (ks : List Ct), k ≤ ls.length ∧ j = .int .i64 k ∧ cvs ks = (cvs ls).take k ∧ wr.heap[w.heap.size]? = some (.cells #[.slice sa ls.length cap] 24 (0, 0)) ∧ wr.heap[w.heap.size + 1]? = some (.cells #[.slice none 0 0] 24 (0, 0)) ∧ wr.heap[O]? = some (.cells #[v] 24 (0, 0)) ∧ wr.ownsRow W0.heap.size 35 5 v k (ctv ks) ∧ ApartC wr W0.heap.size v ks ∧ Below w.heap.size w wr ∧ W0.heap.size ≤ wr.heap.size) (fun j _ => ls.length - (intOf j).toNat)
  case atStart => exact ⟨0, _, [], Nat.zero_le _, rfl, rfl, r0, r1, r2, World.ownsRow_nil _ _ _ _, (fun p hp => by cases hp), hA, Nat.le_refl _⟩
  case round =>
    clear r0 r1 r2 hA
    obtain ⟨k, v, ks, hk, rfl, hS, s0, s1, s2, ho, hap, hb, hsz⟩ := hrel
    obtain ⟨ea, ec, hve⟩ := owns_shape ho
    subst hve
    have b0 : wr.cell? ⟨w.heap.size, 0, none⟩ = some (.slice sa ls.length cap) := cells_at s0 0 _ rfl
    have o0 : wr.cell? ⟨O, 0, none⟩ = some (.slice ea k ec) := cells_at s2 0 _ rfl
    have of0 := frozen_at s2 0
    have HS : Hid (cvs ks = (cvs ls).take k) := hS
    clear hS
    by_cases hlt : k < ls.length
    · obtain ⟨sb, so, rfl, c0, c1, c2, c3, c4⟩ := (hd.certs.below hb).at k hlt
      have hR := (hd.each (ls[k]) (List.getElem_mem hlt)).below hb
      have hst : Hid ((cvs ls).take (k + 1) = (cvs ls).take k ++ [(ls[k]).v]) := by
        show _ = _
        rw [List.take_succ_eq_append_getElem (by rw [cvs_length]; exact hlt)]
        simp [cvs]
      have hltI : (k : Int) < ls.length := by omega
      generalize ls[k] = s at *
      have hvr : s.vl.length * 8 ≤ 140737488355328 := by have := hR.nums.le; have := hR.nums.reach; omega
      have HD := certCopyU_any s.au s.rd s.ba s.bc s.bl s.pa s.pc s.pl s.va s.vc s.vl wr hR.rb hR.rp hR.nums.ints hvr
      have hvl : s.vl.length ≤ 9000000000000000000 := by omega
      clear hR hvr
      go_wp2_with fail
      refine HD.mono ?_
      rintro e w2 ⟨xa, xc, xs, ya, yc, ys, za, zc, he, hS1, hS2, hL1, hL2, hZ, hb2, hF1, hF2, hF3, hU1, hU2⟩
      subst he
      dsimp only
      clear HD
      have E1 := hS1.length
      have E2 := hS2.length
      have hct : CtAt w2 ⟨s.au, s.rd, xa, xc, xs, ya, yc, ys, za, zc, s.vl⟩ := ⟨⟨hL1, hL2, hU1, hU2⟩, hZ, hvl⟩
      have hin : ∀ b, CtIn ⟨s.au, s.rd, xa, xc, xs, ya, yc, ys, za, zc, s.vl⟩ b → wr.heap.size ≤ b := by
        rintro b (⟨so, e⟩ | ⟨so, e⟩ | ⟨p, hp, _, so, e⟩ | ⟨_, so, e⟩)
        · exact hF1.row b so e
        · exact hF2.row b so e
        · rcases List.mem_append.1 hp with hp | hp
          · exact hF1.each p hp b so e
          · exact hF2.each p hp b so e
        · exact hF3 b so e
      have HV : Hid ((⟨s.au, s.rd, xa, xc, xs, ya, yc, ys, za, zc, s.vl⟩ : Ct).v = s.v) := by
        show Ct.v _ = _
        simp only [Ct.v]
        rw [bss_same hS1, bss_same hS2]
      have HC : Hid ((⟨s.au, s.rd, xa, xc, xs, ya, yc, ys, za, zc, s.vl⟩ : Ct).cs = [.int .i64 s.au, .int .i64 s.rd, .slice xa s.bl.length xc, .slice ya s.pl.length yc, .slice za s.vl.length zc]) := by
        show Ct.cs _ = _
        simp only [Ct.cs]
        rw [E1, E2]
      generalize hcte : (⟨s.au, s.rd, xa, xc, xs, ya, yc, ys, za, zc, s.vl⟩ : Ct) = ct at hct hin HV HC
      clear hcte hS1 hS2 hL1 hL2 hZ hF1 hF2 hF3 hU1 hU2 E1 E2
      have hob := owns_keep ho hb2
      have hB2 := hb.trans (hb2.mono hb.size)
      have hlt2 : O < wr.heap.size := lt_of_heap s2
      have t0 := (hb2.block _ (lt_of_heap s0)).trans s0
      have t1 := (hb2.block _ (lt_of_heap s1)).trans s1
      have t2 := (hb2.block _ (lt_of_heap s2)).trans s2
      have q0 : w2.cell? ⟨O, 0, none⟩ = some (.slice ea k ec) := cells_at t2 0 _ rfl
      have qf := frozen_at t2 0
      clear c0 c1 c2 c3 c4 b0 o0 of0
      have hvb : (Value.slice ea k ec).ownBlock ≠ some O := fun e => by have := (ho.lt _ e).1; have := HZ.out; have := HO.out; omega
      have hvb1 : (Value.slice ea k ec).ownBlock ≠ some (w.heap.size + 1) := fun e => by have := (ho.lt _ e).1; have := HZ.out; omega
      have hvb0 : (Value.slice ea k ec).ownBlock ≠ some (w.heap.size) := fun e => by have := (ho.lt _ e).1; have := HZ.out; omega
      have hbase : W0.heap.size ≤ w2.heap.size := Nat.le_trans hsz hb2.size
      have hne2 : O ≠ w2.heap.size := by have := lt_of_heap t2; omega
      have t2A := heap_keep (o := .cells #[.int .i64 s.au, .int .i64 s.rd, .slice xa s.bl.length xc, .slice ya s.pl.length yc, .slice za s.vl.length zc] 35) t2
      have q0A := cells_at t2A 0 _ rfl
      have hA2 : Below w2.heap.size w2 (w2.alloc (.cells #[.int .i64 s.au, .int .i64 s.rd, .slice xa s.bl.length xc, .slice ya s.pl.length yc, .slice za s.vl.length zc] 35)) := (Below.refl _ _).alloc (Nat.le_refl _) _
      have hnew := cells_new (w2.alloc (.cells #[.int .i64 s.au, .int .i64 s.rd, .slice xa s.bl.length xc, .slice ya s.pl.length yc, .slice za s.vl.length zc] 35)) [.int .i64 s.au, .int .i64 s.rd, .slice xa s.bl.length xc, .slice ya s.pl.length yc, .slice za s.vl.length zc] 35
      rw [size_alloc] at hnew
      have hob2 := owns_keep hob hA2
      have hbA : W0.heap.size ≤ (w2.alloc (.cells #[.int .i64 s.au, .int .i64 s.rd, .slice xa s.bl.length xc, .slice ya s.pl.length yc, .slice za s.vl.length zc] 35)).heap.size := Nat.le_trans hbase hA2.size
      go_wp2_with (at_builtin; refine wpList_append_own_at _ rfl _ _ 22 rfl W0.heap.size 35 i (.agg #[.int .i64 0, .int .i64 0, .slice none 0 0, .slice none 0 0, .slice none 0 0]) 5 88 Tryd.underlying22 hi hz0 hz1 hz2 rfl (by decide) _ k _ rfl (World.ownsRow.alloc hob2 _) ⟨w2.heap.size + 1, 0, none⟩ 1 1 [.int .i64 s.au, .int .i64 s.rd, .slice xa s.bl.length xc, .slice ya s.pl.length yc, .slice za s.vl.length zc] rfl rfl hnew (by intro u hu; simp at hu; rcases hu with rfl | rfl | rfl | rfl | rfl <;> rfl) (by unfold maxLen; omega) (by omega) (le_alloc hbA _) ?_; intro v1 w3 ho3 hg3 _ hat; obtain ⟨fa, fc, hvf⟩ := owns_shape ho3; subst hvf; have u2 := Grew.row (Grew.of hg3 hat) (heap_keep t2A) hvb; have q3 := cells_at u2 0 _ rfl; have qf3 := frozen_at u2 0)
      have G := Grew.of hg3 hat
      have u0 := Grew.row G (heap_keep (heap_keep t0)) hvb0
      have u1 := Grew.row G (heap_keep (heap_keep t1)) hvb1
      have hB2A := hB2.trans (hA2.mono hB2.size)
      have hw0 : w.heap.size ≤ W0.heap.size := by have := HZ.out; omega
      have hOlt : O < W0.heap.size := by have := HZ.out; have := HO.out; omega
      have hOge : w.heap.size ≤ O := by have := HO.out; omega
      have hap3 := hap.more (c := ct) hsz ho (hb2.trans (hA2.mono hb2.size)) hin (hct.below hA2) G
      have hB4 := Below.grown (hB2A.alloc hB2A.size _) hg3 (le_alloc hB2A.size _) (fun q e => Nat.le_trans hw0 (hob.lt q e).1)
      go_roundw
      case rel =>
        have hR : ∃ (k' : Nat) (v' : Value) (ks' : List Ct), k' ≤ ls.length ∧ (Value.int .i64 ((k : Int) + 1)) = .int .i64 k' ∧ cvs ks' = (cvs ls).take k' ∧ (w3.setCell ⟨O, 0, none⟩ (.slice fa (k + 1) fc)).heap[w.heap.size]? = some (.cells #[.slice (some ⟨sb, so, none⟩) ls.length cap] 24 (0, 0)) ∧ (w3.setCell ⟨O, 0, none⟩ (.slice fa (k + 1) fc)).heap[w.heap.size + 1]? = some (.cells #[.slice none 0 0] 24 (0, 0)) ∧ (w3.setCell ⟨O, 0, none⟩ (.slice fa (k + 1) fc)).heap[O]? = some (.cells #[v'] 24 (0, 0)) ∧ (w3.setCell ⟨O, 0, none⟩ (.slice fa (k + 1) fc)).ownsRow W0.heap.size 35 5 v' k' (ctv ks') ∧ ApartC (w3.setCell ⟨O, 0, none⟩ (.slice fa (k + 1) fc)) W0.heap.size v' ks' ∧ Below w.heap.size w (w3.setCell ⟨O, 0, none⟩ (.slice fa (k + 1) fc)) ∧ W0.heap.size ≤ (w3.setCell ⟨O, 0, none⟩ (.slice fa (k + 1) fc)).heap.size :=
          ⟨k + 1, .slice fa (k + 1) fc, ks ++ [ct], by omega, by go_num, by rw [hst.out, ← HS.out]; simp [cvs, HV.out], heap_far u0 (by have := HO.out; omega), heap_far u1 (by have := HO.out; omega), by simpa using heap_setCell_same _ _ 0 _ _ (.slice fa (k + 1) fc) u2, owns_far (by rw [ctv_snoc, HC.out]; exact ho3) _ _ _ hOlt, hap3.setCell _ _ _ hOlt, hB4.setCell hOge _, by have := hg3.size; rw [size_alloc, size_alloc] at this; simp; omega⟩
        first | exact hR | ((repeat apply Exists.intro); exact ⟨hR, rfl⟩)
      case measure => simp [intOf]; omega
    · obtain rfl : k = ls.length := by omega
      have hS := HS.out
      rw [List.take_of_length_le (by rw [cvs_length]; exact Nat.le_refl _)] at hS
      clear HS
      have HS : Hid _ := hS
      clear hS
      have y0 := cells_at s1 0 _ rfl
      have yf := frozen_at s1 0
      have hw1 : w.heap.size + 1 < W0.heap.size := by have := HZ.out; omega
      have hoX := owns_far ho (w.heap.size + 1) 0 (.slice ea ls.length ec) hw1
      have hapX := hap.setCell (w.heap.size + 1) 0 (.slice ea ls.length ec) hw1
      have hw0 : w.heap.size ≤ W0.heap.size := by omega
      go_wp2_with fail
      refine bodyPost_ret (v := .agg #[.slice ea ls.length ec]) (by simp [results, Tryd.results10, go_sem, y0]) rfl ⟨.slice ea ls.length ec, ks, rfl, HS.out, ownsRow_base' hoX hw0, fun c hc => ⟨(hapX c hc).1, fun b hb => ⟨Nat.le_trans hw0 ((hapX c hc).2 b hb).1, ((hapX c hc).2 b hb).2⟩⟩, hb.setCell (Nat.le_succ _) _⟩
set_option maxRecDepth 100000 in
theorem dagCopy_any (ls : List Ct) (sa : Option Addr) (n cap : Nat) (w : World) (hn : n = ls.length) (hd : DagRd w sa cap ls) :
    Calls Tryd.prog 10 #[.agg #[.slice sa n cap]] w fun e w' => ∃ ra rc ks, e = .returned (.agg #[.slice ra ls.length rc]) ∧ cvs ks = cvs ls ∧ DagAt w' ra rc ks ∧ Below w.heap.size w w' := by
  have hs := hd.small
  refine (dagCopy_own ls sa n cap w hn hd).mono ?_
  rintro e w' ⟨v, ks, rfl, hS, ho, hap, hb⟩
  obtain ⟨ra, rc, rfl, _, hL, _⟩ := dag_of_owns ho hap
  exact ⟨ra, rc, ks, rfl, hS, hL hs, hb⟩
end Go.Proofs.YtgbomdikhidkoaaDoor

namespace Go.Proofs.YtgbomdikhidkoaaDoor
open Go.RowKit

set_option maxRecDepth 100000 in
set_option maxHeartbeats 400000 in
theorem octets_any2 (bs : List Int) (sa : Option Addr) (n cap : Nat) (w : World) (hn : n = bs.length) (hs : SliceAt w sa cap bs) (hr : cap ≤ 140737488351232) :
    Calls Tryd.prog 13 #[.slice sa n cap] w fun e w' => ∃ ra rc, e = .returned (.slice ra bs.length rc) ∧ SliceAt w' ra rc bs ∧ Below w.heap.size w w' ∧ (∀ sb so, ra = some ⟨sb, so, none⟩ → w.heap.size ≤ sb) := by
  have hle := hs.le
  go_enter Tryd.func13, Tryd.ntmps13
  go_wp2_with (at_builtin; refine wpList_append_part rfl _ _ rfl w.heap.size _ 0 [] rfl (World.ownsRow_nil _ _ _ _) sa n cap bs rfl hn hs (by omega) (Nat.le_refl _) ?_; intro v1 w1 ho1 hg1)
  obtain ⟨ra, rc, hv, hl, hsl⟩ := owns_form ho1
  have hlt := ho1.lt
  subst hv
  go_ret
  refine ⟨ra, rc, ?_, by simpa using hsl, grown_none hg1, fun sb so e => (hlt sb (by rw [e]; rfl)).1⟩
  simp [hn]
end Go.Proofs.YtgbomdikhidkoaaDoor

namespace Go.Proofs.YtgbomdikhidkoaaDoor
open Go.RowKit

def zeroCt : Ct := ⟨0, 0, none, 0, [], none, 0, [], none, 0, []⟩
set_option maxRecDepth 100000 in
theorem zeroCt_ls (w : World) : CtLs w zeroCt := ⟨⟨Nat.le_refl _, by decide, by decide, .inl rfl, ⟨.inl rfl, fun p hp => by cases hp⟩⟩, ⟨Nat.le_refl _, by decide, by decide, .inl rfl, ⟨.inl rfl, fun p hp => by cases hp⟩⟩, ⟨.inl rfl⟩⟩
set_option maxRecDepth 100000 in
set_option maxHeartbeats 1000000 in
theorem dagFinds_walk (sa : Option Addr) (cap : Nat) (ls : List Ct) (bs : List Int) (ka : Option Addr) (kc : Nat) (w : World) (hd : DagRd w sa cap ls) (hk : SliceAt w ka kc bs) (_hu : AllU8 bs) (hkc : kc ≤ 140737488351232) (hT : Tabs w) :
    Calls Tryd.prog 4 #[.agg #[.slice sa ls.length cap], .slice ka bs.length kc] w fun e w' => e = .returned (.bool true) ∧ Below w.heap.size w w' := by
  have hA := (Below.refl w.heap.size w).alloc (Nat.le_refl _) (.cells #[.slice sa ls.length cap] 24)
  have r0 := heap_alloc_new w (.cells #[.slice sa ls.length cap] 24)
  go_enter Tryd.func4, Tryd.ntmps4
  go_wp2_with fail
  generalize w.alloc (.cells #[.slice sa ls.length cap] 24) = W0 at hA r0 ⊢
  refine (dagCopy_any ls sa _ cap W0 rfl (hd.below hA)).mono ?_
  rintro e w1 ⟨ra, rc, ks, he, hS, hD1, hb1⟩
  subst he
  dsimp only
  have hlen : ls.length = ks.length := by have := congrArg List.length hS; rw [cvs_length, cvs_length] at this; exact this.symm
  have HS : Hid (cvs ks = cvs ls) := hS
  have HL : Hid (ls.length = ks.length) := hlen
  clear hS hlen
  have hB1 := hA.trans (hb1.mono hA.size)
  go_wp2_with fail
  refine (octets_any2 bs ka _ kc w1 rfl (hk.below hB1) hkc).mono ?_
  rintro e w2 ⟨oa, oc, he, hs2, hb2, _⟩
  subst he
  dsimp only
  have hB2 := hB1.trans (hb2.mono hB1.size)
  go_wp2_with fail
  refine (dagFind_any ks ra _ rc bs oa _ oc w2 HL.out rfl (hD1.below hb2) hs2 (hT.below hB2)).mono ?_
  rintro e w3 ⟨hX, hb3⟩
  rw [HS.out] at hX
  have hB3 := hB2.trans (hb3.mono hB2.size)
  have r1 := (hb1.block _ (lt_of_heap r0)).trans r0
  have r2 := (hb2.block _ (lt_of_heap r1)).trans r1
  have r3 := (hb3.block _ (lt_of_heap r2)).trans r2
  have HX : ∃ (c : Ct) (ec : Int), e = .returned (.tuple #[.agg #[.int .i64 c.au, .int .i64 c.rd, .slice c.ba c.bl.length c.bc, .slice c.pa c.pl.length c.pc, .slice c.va c.vl.length c.vc], .int .i64 ec]) ∧ CtLs w3 c ∧ c.vl.length ≤ 4 ∧ ((dagF (cvs ls) = 12 ∧ ec = 12 ∧ c.v = zeroCt.v) ∨ (dagF (cvs ls) = 0 ∧ pOf (cvs ls) bs = -1 ∧ ec = 8 ∧ c.v = zeroCt.v) ∨ (dagF (cvs ls) = 0 ∧ 0 ≤ pOf (cvs ls) bs ∧ ec = 0 ∧ c.v = cvAt (cvs ls) (pOf (cvs ls) bs).toNat)) := by
    rcases hX with ⟨ec, he, h | h⟩ | ⟨h1, h2, c, he, h3, h4, h5⟩
    · exact ⟨zeroCt, ec, he, zeroCt_ls _, by decide, .inl ⟨h.1, h.2, rfl⟩⟩
    · exact ⟨zeroCt, ec, he, zeroCt_ls _, by decide, .inr (.inl ⟨h.1, h.2.1, h.2.2, rfl⟩)⟩
    · exact ⟨c, 0, he, h4, h5, .inr (.inr ⟨h1, h2, rfl, h3⟩)⟩
  clear hX
  obtain ⟨c, ec, he, hcl, hc4, hcase⟩ := HX
  have HCASE : Hid _ := hcase
  clear hcase
  subst he
  dsimp only
  have hA3 := (Below.refl w3.heap.size w3).alloc (Nat.le_refl _) (.cells #[.int .i64 c.au, .int .i64 c.rd, .slice c.ba c.bl.length c.bc, .slice c.pa c.pl.length c.pc, .slice c.va c.vl.length c.vc] 35)
  have p3 := heap_alloc_new w3 (.cells #[.int .i64 c.au, .int .i64 c.rd, .slice c.ba c.bl.length c.bc, .slice c.pa c.pl.length c.pc, .slice c.va c.vl.length c.vc] 35)
  have r3A := heap_keep (o := .cells #[.int .i64 c.au, .int .i64 c.rd, .slice c.ba c.bl.length c.bc, .slice c.pa c.pl.length c.pc, .slice c.va c.vl.length c.vc] 35) r3
  have b0 := cells_at r3A 0 _ rfl
  go_wp2_with fail
  generalize w3.alloc (.cells #[.int .i64 c.au, .int .i64 c.rd, .slice c.ba c.bl.length c.bc, .slice c.pa c.pl.length c.pc, .slice c.va c.vl.length c.vc] 35) = W3 at hA3 p3 r3A b0 ⊢
  have hB3A := hB3.trans (hA3.mono hB3.size)
  refine (foundIn_any ls sa _ cap bs ka _ kc W3 rfl rfl (hd.below hB3A) (hk.below hB3A)).mono ?_
  rintro e w4 ⟨hY, hb4⟩
  have hB4 := hB3A.trans (hb4.mono hB3A.size)
  have HY : ∃ d : Ct, e = .returned (.tuple #[.agg #[.int .i64 d.au, .int .i64 d.rd, .slice d.ba d.bl.length d.bc, .slice d.pa d.pl.length d.pc, .slice d.va d.vl.length d.vc], .int .i64 ec]) ∧ CtLs w4 d ∧ d.vl.length ≤ 4 ∧ c.v = d.v := by
    rcases HCASE.out with ⟨h1, h2, h3⟩ | ⟨h1, h2, h3, h4⟩ | ⟨h1, h2, h3, h4⟩ <;> rcases hY with ⟨ed, he, g | g⟩ | ⟨g1, g2, d, he, g3, g4, g5⟩
    · exact ⟨zeroCt, by rw [he, g.2, h2]; rfl, zeroCt_ls _, by decide, h3⟩
    · exact absurd (h1.symm.trans g.1) (by decide)
    · exact absurd (h1.symm.trans g1) (by decide)
    · exact absurd (h1.symm.trans g.1) (by decide)
    · exact ⟨zeroCt, by rw [he, g.2.2, h3]; rfl, zeroCt_ls _, by decide, h4⟩
    · omega
    · exact absurd (h1.symm.trans g.1) (by decide)
    · omega
    · exact ⟨d, by rw [he, h3], g4, g5, h4.trans g3.symm⟩
  clear hY
  obtain ⟨d, he, hdl, hd4, hcd⟩ := HY
  have HCD : Hid _ := hcd
  clear hcd
  subst he
  dsimp only
  have p4 := (hb4.block _ (lt_of_heap p3)).trans p3
  have hA4 := (Below.refl w4.heap.size w4).alloc (Nat.le_refl _) (.cells #[.int .i64 d.au, .int .i64 d.rd, .slice d.ba d.bl.length d.bc, .slice d.pa d.pl.length d.pc, .slice d.va d.vl.length d.vc] 35)
  have p4A := heap_keep (o := .cells #[.int .i64 d.au, .int .i64 d.rd, .slice d.ba d.bl.length d.bc, .slice d.pa d.pl.length d.pc, .slice d.va d.vl.length d.vc] 35) p4
  have y0 := cells_at p4A 0 _ rfl
  have y1 := cells_at p4A 1 _ rfl
  have y2 := cells_at p4A 2 _ rfl
  have y3 := cells_at p4A 3 _ rfl
  have y4 := cells_at p4A 4 _ rfl
  clear b0
  go_wp2_with fail
  generalize w4.alloc (.cells #[.int .i64 d.au, .int .i64 d.rd, .slice d.ba d.bl.length d.bc, .slice d.pa d.pl.length d.pc, .slice d.va d.vl.length d.vc] 35) = W4 at hA4 p4A y0 y1 y2 y3 y4 ⊢
  have hB4A := hB4.trans (hA4.mono hB4.size)
  refine (sameCertL_eq c d W4 HCD.out (by omega) (((hcl.below hA3).below hb4).below hA4) (hdl.below hA4)).mono ?_
  rintro e w5 ⟨he, hb5⟩
  subst he
  dsimp only
  go_wp2_with fail
  go_ret
  exact ⟨rfl, hB4A.trans (hb5.mono hB4A.size)⟩
end Go.Proofs.YtgbomdikhidkoaaDoor
