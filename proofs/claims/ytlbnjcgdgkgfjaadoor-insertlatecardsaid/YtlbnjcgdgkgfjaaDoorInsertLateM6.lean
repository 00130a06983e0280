/- The number that a test takes out of a raw one. -/
import Derived.Test.YtlbnjcgdgkgfjaaDoorInsertLateM0
import Derived.Maps.Own
import Derived.Maps.Views
import Derived.Test.YtlbnjcgdgkgfjaaDoorBase
namespace Go.Proofs.YtlbnjcgdgkgfjaaDoor
open Go.RowKit

set_option maxRecDepth 100000 in
set_option maxHeartbeats 1000000 in
theorem digests_stk (ls : List Ct) (s : Nat) (ca : Option Addr) (cc : Nat) (da : Option Addr) (dc : Nat) (ds : List Part) (rd : Int) (w : World) (hs : StkAt w s ls ca cc da dc ds) (hre : ∀ p ∈ ds, p.bs.length ≤ 140737488355328) :
    Calls Tryd.prog 44 #[.pointer (some ⟨s, 0, none⟩), .int .i64 rd] w fun e w' => ∃ ma mc ms, e = .returned (.slice ma (List.length ms) mc) ∧ bss ms = dgF (cvs ls) rd ∧ ListAt w' ma mc ms ∧ Fresh w.heap.size ma ms ∧ Below w.heap.size w w' := by
  obtain ⟨i, hi, hz0, hz1, hz2⟩ := info_parts infoBs
  have hsm := hs.at'.small
  have HL : Hid (ds.length = ls.length) := hs.at'.len
  have HSM : Hid (bss ds = (cvs ls).map CV.d) := hs.at'.same
  go_enter Tryd.func44, Tryd.ntmps44
  go_wp2_with fail
  go_loopw [8, 5] (fun j v wr => ∃ (m : Nat) (ms : List Part), m ≤ 4 ∧ j = .int .i64 m ∧ bss ms = dgTo (cvs ls) rd m ∧ Apart wr w.heap.size v ms ∧ wr.ownsRow w.heap.size 41 1 v ms.length (pv ms) ∧ Below w.heap.size w wr) (fun j _ _ => 4 - (intOf j).toNat)
  case atStart => exact ⟨0, [], Nat.zero_le _, rfl, rfl, (fun p hp => by cases hp), World.ownsRow_nil _ _ _ _, Below.refl _ _⟩
  case round =>
    obtain ⟨m, ms, hm, rfl, hS, hap, ho, hbr⟩ := hrel
    have hsr := hs.below hbr
    have hml : ms.length ≤ m := by
      have := congrArg List.length hS
      rw [bss_length] at this
      rw [this]; exact dgTo_length _ _ _
    by_cases hlt : m < 4
    · have hltI : (m : Int) < 4 := by omega
      have Hy : Hid (0 ≤ cOf (cvs ls) m rd → dgTo (cvs ls) rd (m + 1) = bss ms ++ [(cvAt (cvs ls) (cOf (cvs ls) m rd).toNat).d]) := by
        show _ → _
        intro h
        rw [dgTo, if_pos h, hS]
      have Hn : Hid (¬ 0 ≤ cOf (cvs ls) m rd → bss ms = dgTo (cvs ls) rd (m + 1)) := by
        show _ → _
        intro h
        rw [dgTo, if_neg h, hS]
      have hB := cOf_bounds (cvs ls) m rd
      rw [cvs_length] at hB
      clear hS
      go_wp2_with fail
      refine (of_any ls s ca cc da dc ds m rd wr hsr).mono ?_
      rintro e w1 ⟨he, hb1⟩
      subst he
      dsimp only
      have hB1 := hbr.trans (hb1.mono hbr.size)
      have hob := owns_keep ho hb1
      have hs1 := hsr.below hb1
      have t1 := cells_at hs1.box 1 _ rfl
      have hap1 : Apart w1 w.heap.size _ ms := hap.same hb1.size (fun p hp b so e => hb1.block b ((hap p hp).2 b so e).2.1)
      generalize cOf (cvs ls) m rd = r at *
      by_cases hr : 0 ≤ r
      · obtain ⟨k, rfl⟩ : ∃ k : Nat, r = k := ⟨r.toNat, by omega⟩
        have hkd : k < ds.length := by rw [HL.out]; omega
        have hkI : (k : Int) < ls.length := by omega
        have HX := Hy.out hr
        rw [Int.toNat_natCast, digs_get HSM.out k hkd] at HX
        have HY : Hid (dgTo (cvs ls) rd (m + 1) = bss ms ++ [(ds[k]).bs]) := HX
        clear Hy Hn HX
        rcases hs1.at'.digs.parts.cells with hcc | ⟨db, dof, rfl, hcc⟩
        · rw [hcc] at hkd; simp at hkd
        have ck := hcc k hkd
        have hx := hs1.at'.digs.parts.each (ds[k]) (List.getElem_mem hkd)
        have hxr := hre (ds[k]) (List.getElem_mem hkd)
        clear hcc hs1 hsr hs hre
        generalize ds[k] = p at *
        go_wp2_with fail
        refine (clone_any p.bs p.sa _ p.cap w1 rfl hx hxr).mono ?_
        rintro e w2 ⟨ra, rc, he, hs2, hrow, hb2⟩
        subst he
        dsimp only
        have hB2 := hB1.trans (hb2.mono hB1.size)
        have hob2 := owns_keep hob hb2
        go_wp2_with (at_builtin; refine wpList_append_own_at _ rfl _ _ 31 rfl w.heap.size 41 i (.slice none 0 0) 1 24 Tryd.underlying31 hi hz0 hz1 hz2 rfl (by decide) _ ms.length _ rfl (World.ownsRow.alloc hob2 _) ⟨w2.heap.size, 0, none⟩ 1 1 [.slice ra p.bs.length rc] rfl rfl (cells_new _ _ _) (by intro u hu; simp at hu; subst hu; rfl) (by unfold maxLen; omega) (by omega) (le_alloc hB2.size _) ?_; intro v1 w3 ho3 hg3 _ hat)
        have G := Grew.of hg3 hat
        have hap3 := hap1.more_at (q := ⟨ra, rc, p.bs⟩) hB1.size hob hb2 hrow hs2 G
        have hB3 := Below.grown (hB2.alloc hB2.size _) hg3 (le_alloc hB2.size _) (fun q e => (hob2.lt q e).1)
        go_roundw
        case rel =>
          have hR : ∃ (m' : Nat) (ms' : List Part), m' ≤ 4 ∧ (Value.int .i64 ((m : Int) + 1)) = .int .i64 m' ∧ bss ms' = dgTo (cvs ls) rd m' ∧ Apart w3 w.heap.size v1 ms' ∧ w3.ownsRow w.heap.size 41 1 v1 ms'.length (pv ms') ∧ Below w.heap.size w w3 :=
            ⟨m + 1, ms ++ [⟨ra, rc, p.bs⟩], by omega, by go_num, by rw [HY.out]; simp [bss], hap3, by simpa [pv, Part.val] using ho3, hB3⟩
          first | exact hR | ((repeat apply Exists.intro); exact ⟨hR, rfl⟩)
        case measure => simp [intOf]; omega
      · have HY : Hid (bss ms = dgTo (cvs ls) rd (m + 1)) := Hn.out (by omega)
        obtain rfl : r = -1 := by omega
        clear Hy Hn
        go_wp2_with fail
        go_roundw
        case rel =>
          have hR : ∃ (m' : Nat) (ms' : List Part), m' ≤ 4 ∧ (Value.int .i64 ((m : Int) + 1)) = .int .i64 m' ∧ bss ms' = dgTo (cvs ls) rd m' ∧ Apart w1 w.heap.size u5 ms' ∧ w1.ownsRow w.heap.size 41 1 u5 ms'.length (pv ms') ∧ Below w.heap.size w w1 :=
            ⟨m + 1, ms, by omega, by go_num, HY.out, hap1, hob, hB1⟩
          first | exact hR | ((repeat apply Exists.intro); exact ⟨hR, rfl⟩)
        case measure => simp [intOf]; omega
    · obtain rfl : m = 4 := by omega
      have HM : Hid (bss ms = dgF (cvs ls) rd) := hS
      clear hS
      obtain ⟨ra, rc, hv, hl, hL, hfr⟩ := listAt_of_owns ho hap
      subst hv
      go_wp2_with fail
      go_ret
      exact ⟨ra, rc, ms, rfl, HM.out, hL (by omega), hfr, hbr⟩
/-- What a stock's Find answers. -/
structure FndS (w w' : World) (e : Ending) (l : List CV) (k : List Int) : Prop where
  below : Below w.heap.size w w'
  out : (pOf l k = -1 ∧ e = .returned (.tuple #[.agg #[.int .i64 0, .int .i64 0, .slice none 0 0, .slice none 0 0, .slice none 0 0], .int .i64 8])) ∨ (0 ≤ pOf l k ∧ ∃ c : Ct, e = .returned (.tuple #[.agg #[.int .i64 c.au, .int .i64 c.rd, .slice c.ba c.bl.length c.bc, .slice c.pa c.pl.length c.pc, .slice c.va c.vl.length c.vc], .int .i64 0]) ∧ c.v = cvAt l (pOf l k).toNat ∧ CtAt w' c ∧ (∀ b, CtIn c b → w.heap.size < b))
set_option maxRecDepth 100000 in
set_option maxHeartbeats 1000000 in
theorem find_stk (ls : List Ct) (s : Nat) (ca : Option Addr) (cc : Nat) (da : Option Addr) (dc : Nat) (ds : List Part) (bs : List Int) (ka : Option Addr) (kn kc : Nat) (w : World) (hs : StkAt w s ls ca cc da dc ds) (hF : ∀ c ∈ ls, c.v.f = 0) (hkn : kn = bs.length) (hk : SliceAt w ka kc bs) :
    Calls Tryd.prog 50 #[.pointer (some ⟨s, 0, none⟩), .slice ka kn kc] w fun e w' => FndS w w' e (cvs ls) bs := by
  subst hkn
  have HF : Hid _ := hF
  clear hF
  have hA := (Below.refl w.heap.size w).alloc (Nat.le_refl _) (.cells #[.int .i64 0, .int .i64 0, .slice none 0 0, .slice none 0 0, .slice none 0 0] 36)
  have q1 := heap_alloc_new w (.cells #[.int .i64 0, .int .i64 0, .slice none 0 0, .slice none 0 0, .slice none 0 0] 36)
  go_enter Tryd.func50, Tryd.ntmps50
  go_wp2_with fail
  generalize w.alloc (.cells #[.int .i64 0, .int .i64 0, .slice none 0 0, .slice none 0 0, .slice none 0 0] 36) = W1 at hA q1 ⊢
  refine (withDigest_any ls s ca cc da dc ds bs ka _ kc W1 (hs.below hA) rfl (hk.below hA)).mono ?_
  rintro e w2 ⟨he, hb2⟩
  subst he
  dsimp only
  have hB2 := hA.trans (hb2.mono hA.size)
  have r2 := (hb2.block _ (lt_of_heap q1)).trans q1
  have hbd := pOf_bounds (cvs ls) bs
  rw [cvs_length] at hbd
  have hs2 := hs.below hB2
  by_cases hr : pOf (cvs ls) bs < 0
  · have HP : Hid (pOf (cvs ls) bs = -1) := by
      show _ = _
      omega
    rw [HP.out]
    have d0 := cells_at r2 0 _ rfl
    have d1 := cells_at r2 1 _ rfl
    have d2 := cells_at r2 2 _ rfl
    have d3 := cells_at r2 3 _ rfl
    have d4 := cells_at r2 4 _ rfl
    have f0 := frozen_at r2 0
    have f1 := frozen_at r2 1
    have f2 := frozen_at r2 2
    have f3 := frozen_at r2 3
    have f4 := frozen_at r2 4
    clear hr hbd
    go_wp2_with fail
    refine bodyPost_ret (v := .tuple #[.agg #[.int .i64 0, .int .i64 0, .slice none 0 0, .slice none 0 0, .slice none 0 0], .int .i64 8]) (by simp [results, Tryd.results50, go_sem, d0, d1, d2, d3, d4]) rfl ⟨?_, .inl ⟨HP.out, rfl⟩⟩
    exact ((((hB2.setCell (Nat.le_refl _) _).setCell (Nat.le_refl _) _).setCell (Nat.le_refl _) _).setCell (Nat.le_refl _) _).setCell (Nat.le_refl _) _
  · obtain ⟨k, hke⟩ : ∃ k : Nat, pOf (cvs ls) bs = k := ⟨(pOf (cvs ls) bs).toNat, by omega⟩
    have HP : Hid (pOf (cvs ls) bs = k) := hke
    rw [hke] at hbd hr
    rw [hke]
    have hkl : k < ls.length := by omega
    have hkI : (k : Int) < ls.length := by omega
    have h0 : ¬ (k : Int) < 0 := by omega
    clear hke
    have b0 := cells_at hs2.box 0 _ rfl
    obtain ⟨sb, so, rfl, c0, c1, c2, c3, c4⟩ := hs2.at'.certs.at k hkl
    have hct := hs2.at'.each (ls[k]) (List.getElem_mem hkl)
    obtain ⟨m1, m2, m3, m4, m5⟩ := ct_small (HF.out (ls[k]) (List.getElem_mem hkl))
    have HCC := cloneCert_any (ls[k]) w2 hct m1 m2 (by omega) m4 m5
    have HV : Hid ((ls[k]).v = cvAt (cvs ls) k) := (cvAt_get ls k hkl).symm
    clear hct m1 m2 m3 m4 m5 hs2
    generalize ls[k] = x0 at *
    go_wp2_with fail
    refine HCC.mono ?_
    rintro e w3 ⟨x, he, hxv, hxa, hxin, hb3⟩
    subst he
    dsimp only
    clear HCC b0 c0 c1 c2 c3 c4
    have r2 := (hb3.block _ (lt_of_heap r2)).trans r2
    have d0 := cells_at r2 0 _ rfl
    have d1 := cells_at r2 1 _ rfl
    have d2 := cells_at r2 2 _ rfl
    have d3 := cells_at r2 3 _ rfl
    have d4 := cells_at r2 4 _ rfl
    have f0 := frozen_at r2 0
    have f1 := frozen_at r2 1
    have f2 := frozen_at r2 2
    have f3 := frozen_at r2 3
    have f4 := frozen_at r2 4
    have hB3 := hB2.trans (hb3.mono hB2.size)
    have hlt : w.heap.size < w2.heap.size := Nat.lt_of_lt_of_le (lt_of_heap q1) hb2.size
    have HXV : Hid (x.v = x0.v) := hxv
    have HIN : Hid (∀ b, CtIn x b → w2.heap.size ≤ b) := hxin
    clear hxv hxin
    go_wp2_with fail
    refine bodyPost_ret (v := .tuple #[.agg #[.int .i64 x.au, .int .i64 x.rd, .slice x.ba x.bl.length x.bc, .slice x.pa x.pl.length x.pc, .slice x.va x.vl.length x.vc], .int .i64 0]) (by simp [results, Tryd.results50, go_sem, d0, d1, d2, d3, d4]) rfl ⟨?_, .inr ⟨by rw [HP.out]; omega, x, rfl, ?_, ?_, ?_⟩⟩
    · exact ((((hB3.setCell (Nat.le_refl _) _).setCell (Nat.le_refl _) _).setCell (Nat.le_refl _) _).setCell (Nat.le_refl _) _).setCell (Nat.le_refl _) _
    · rw [HP.out, HXV.out, HV.out]; rfl
    · refine CtAt.keep hxa (by simp) (fun b hb => ?_)
      have hge := HIN.out b hb
      have hne : b ≠ w.heap.size := by omega
      rw [heap_setCell_other _ _ b _ hne, heap_setCell_other _ _ b _ hne, heap_setCell_other _ _ b _ hne, heap_setCell_other _ _ b _ hne, heap_setCell_other _ _ b _ hne]
    · intro b hb
      have := HIN.out b hb
      omega
end Go.Proofs.YtlbnjcgdgkgfjaaDoor

namespace Go.Proofs.YtlbnjcgdgkgfjaaDoor
open Go.RowKit Go.WideMaps Go.Maps

set_option maxRecDepth 100000 in
theorem keyI : Keyed Tryd.prog 3 := int_keyed Tryd.underlying3
set_option maxRecDepth 100000 in
theorem zeroI (w : World) : (zeroValue 3).run Tryd.prog w = .ok (.int .i64 0) w := by kernel_rfl
set_option maxRecDepth 100000 in
theorem keyR {r : Int} (h : -9223372036854775808 ≤ r ∧ r ≤ 9223372036854775807) : keyOf Tryd.prog 3 (.int .i64 r) = some (.int .i64 r) := keyOf_int_mk Tryd.underlying3 (WalkArith.wf_i64 h)
/-- A map that counts the certificates of each round. -/
structure CntD (D : DataW Unit) (l : List CV) : Prop where
  map : IsMap D
  at' : ∀ r : Int, D.atKey (.int .i64 r) (.lit (.int .i64 0)) = .lit (.int .i64 (cntR l r))
set_option maxRecDepth 100000 in
theorem CntD.none : CntD (.map []) [] := ⟨⟨[], rfl⟩, fun _ => rfl⟩
set_option maxRecDepth 100000 in
theorem CntD.step {D : DataW Unit} {l : List CV} (h : CntD D l) (c : CV) : CntD (D.put (.int .i64 c.rd) (.lit (.int .i64 ((cntR l c.rd : Int) + 1)))) (l ++ [c]) := by
  refine ⟨h.map.put _ _, fun r => ?_⟩
  by_cases hr : r = c.rd
  · subst hr
    rw [atKey_put_same h.map (show WideAt.IsKeyLit (.int .i64 c.rd) from trivial), cntR_snoc, if_pos rfl]
    rfl
  · rw [atKey_put_other (by intro e; injection e with _ e; exact hr e), h.at', cntR_snoc, if_neg (fun e => hr e.symm)]
    rfl
set_option maxRecDepth 100000 in
theorem cntR_le (l : List CV) (r : Int) : cntR l r ≤ l.length := List.length_filter_le _ _
set_option maxRecDepth 100000 in
theorem next_more {l : List CV} (h : dagF l = 0) {r : Int} (h3 : 3 ≤ (dgF l r).length) : cnt l (r + 1) < cnt l r ∧ r ≤ 1048576 := by
  have hs := dgTo_some l r 4 (by have : 3 ≤ (dgTo l r 4).length := h3; omega)
  refine ⟨cnt_lt l r hs, ?_⟩
  obtain ⟨j, hj, e⟩ := hs
  have := f_round (dagF_f h j hj)
  omega
set_option maxRecDepth 100000 in
set_option maxHeartbeats 2000000 in
theorem round_stk (ls : List Ct) (s : Nat) (ca : Option Addr) (cc : Nat) (da : Option Addr) (dc : Nat) (ds : List Part) (w : World) (hs : StkAt w s ls ca cc da dc ds) (hF : dagF (cvs ls) = 0) :
    Calls Tryd.prog 45 #[.pointer (some ⟨s, 0, none⟩)] w fun e w' => ∃ r : Int, e = .returned (.int .i64 r) ∧ NextR (cvs ls) r ∧ Below w.heap.size w w' := by
  have HF : Hid _ := hF
  clear hF
  have hmm := @run_makeMap Tryd.prog
  have hA := (Below.refl w.heap.size w).alloc (Nat.le_refl _) (.map #[] 0)
  have hs1 := hs.below hA
  have b0 := cells_at hs1.box 0 _ rfl
  have hsm := hs.at'.small
  have HRD : Hid (∀ c ∈ ls, 1 ≤ c.rd ∧ c.rd ≤ 1048576) := by
    show ∀ c, _
    exact fun c hc => f_round (all_f HF.out c hc)
  go_enter Tryd.func45, Tryd.ntmps45
  go_wp2_with fail
  go_loopw [13] (fun j wr => ∃ (m : Nat) (D : DataW Unit), m ≤ ls.length ∧ j = .int .i64 m ∧ Hid (CntD D ((cvs ls).take m)) ∧ wr.ownsMap Tryd.prog 3 (plainElem Tryd.prog 3) w.heap.size m D ∧ Below w.heap.size w wr) (fun j _ => ls.length - (intOf j).toNat)
  case atStart => exact ⟨0, .map [], Nat.zero_le _, rfl, CntD.none, World.ownsMap_made _ _ _ _, hA⟩
  case round =>
    clear b0 hs1 hA
    obtain ⟨m, D, hm, rfl, hD, hown, hb⟩ := hrel
    by_cases hlt : m < ls.length
    · obtain ⟨sb, so, rfl, c0, c1, c2, c3, c4⟩ := (hs.below hb).at'.certs.at m hlt
      have hltI : (m : Int) < ls.length := by omega
      have hrd := HRD.out _ (List.getElem_mem hlt)
      have HTK : Hid ((cvs ls).take (m + 1) = (cvs ls).take m ++ [(ls[m]).v]) := by
        show _ = _
        rw [List.take_succ_eq_append_getElem (by simp [cvs]; exact hlt)]
        simp [cvs]
      have HN : Hid (cntR ((cvs ls).take m) (ls[m]).rd ≤ 400) := by
        show _ ≤ _
        have h1 := cntR_le ((cvs ls).take m) (ls[m]).rd
        rw [List.length_take] at h1
        omega
      generalize ls[m] = x at *
      obtain ⟨hr1, hr2⟩ := hrd
      go_upto_region 5 with fail
      have hA2 := (Below.refl wr.heap.size wr).alloc (Nat.le_refl _) (.cells #[.int .i64 x.au, .int .i64 x.rd, .slice x.ba x.bl.length x.bc, .slice x.pa x.pl.length x.pc, .slice x.va x.vl.length x.vc] 36)
      have q0 := heap_alloc_new wr (.cells #[.int .i64 x.au, .int .i64 x.rd, .slice x.ba x.bl.length x.bc, .slice x.pa x.pl.length x.pc, .slice x.va x.vl.length x.vc] 36)
      have hown2 := hown.alloc (.cells #[.int .i64 x.au, .int .i64 x.rd, .slice x.ba x.bl.length x.bc, .slice x.pa x.pl.length x.pc, .slice x.va x.vl.length x.vc] 36)
      generalize wr.alloc (.cells #[.int .i64 x.au, .int .i64 x.rd, .slice x.ba x.bl.length x.bc, .slice x.pa x.pl.length x.pc, .slice x.va x.vl.length x.vc] 36) = W2 at hA2 q0 hown2 ⊢
      have hB2 := hb.trans (hA2.mono hb.size)
      have d1 := cells_at q0 1 _ rfl
      have hkey := keyR (r := x.rd) (by omega)
      obtain ⟨c, hrun, hat, -⟩ := hown2.lookup_int keyI Tryd.underlying92 Tryd.underlying3 (zeroI _) hkey
      rw [hD.out.at'] at hat
      obtain ⟨N, hN⟩ : ∃ N : Nat, cntR ((cvs ls).take m) x.rd = N := ⟨_, rfl⟩
      rw [hN] at hat
      have hN4 : N ≤ 400 := by rw [← hN]; exact HN.out
      obtain rfl : c = (N : Int) := by injection hat with h; injection h with _ h; exact h.symm
      have HD : Hid (CntD (D.put (.int .i64 x.rd) (.lit (.int .i64 ((N : Int) + 1)))) ((cvs ls).take (m + 1))) := by
        show CntD _ _
        rw [HTK.out, ← hN]
        exact hD.out.step x.v
      clear hN hat HN c0 c1 c2 c3 c4
      have hval := plainElem_int (H := Unit) Tryd.underlying3 (WalkArith.wf_i64 (n := (N : Int) + 1) (by omega))
      go_wp2_with (at_mapUpdate; refine wpList_mapUpdate_own _ rfl _ _ _ 92 rfl 3 3 keyI Tryd.underlying92 _ w.heap.size m _ rfl hown2 (by unfold maxLen; omega) _ _ _ rfl rfl hkey _ [] hval ?_; intro w3 hown3 hg3)
      have hB3 := hB2.grown hg3 hB2.size (fun j hj => by cases hj; exact Nat.le_refl _)
      go_roundw
      case rel =>
        have hR : ∃ (m' : Nat) (D' : DataW Unit), m' ≤ ls.length ∧ (Value.int .i64 ((m : Int) + 1)) = .int .i64 m' ∧ Hid (CntD D' ((cvs ls).take m')) ∧ w3.ownsMap Tryd.prog 3 (plainElem Tryd.prog 3) w.heap.size m' D' ∧ Below w.heap.size w w3 :=
          ⟨m + 1, _, by omega, by go_num, HD, hown3, hB3⟩
        first | exact hR | ((repeat apply Exists.intro); exact ⟨hR, rfl⟩)
      case measure => simp [intOf]; omega
    · obtain rfl : m = ls.length := by omega
      have HD : Hid (∀ r, D.atKey (.int .i64 r) (.lit (.int .i64 0)) = .lit (.int .i64 ((dgF (cvs ls) r).length : Int))) := by
        show ∀ r, _
        intro r
        have h := hD.out.at' r
        rw [List.take_of_length_le (by rw [cvs_length]; exact Nat.le_refl _)] at h
        rw [dgF_cnt HF.out]
        exact h
      clear hD
      go_wp2_with fail
      go_loop [6] (fun j => ∃ r : Int, 1 ≤ r ∧ r ≤ 1048577 ∧ j = .int .i64 r ∧ Hid (∀ k : Int, 1 ≤ k → k < r → 3 ≤ (dgF (cvs ls) k).length)) (fun j => cnt (cvs ls) (intOf j))
      case atStart => exact ⟨1, by decide, by decide, rfl, (show ∀ k : Int, _ from fun k h1 h2 => by omega)⟩
      case round =>
        obtain ⟨r, hr1, hr2, rfl, hno⟩ := hrel
        have hkey := keyR (r := r) (by omega)
        obtain ⟨c, hrun, hat, -⟩ := hown.lookup_int keyI Tryd.underlying92 Tryd.underlying3 (zeroI _) hkey
        rw [HD.out r] at hat
        obtain ⟨N, hN⟩ : ∃ N : Nat, (dgF (cvs ls) r).length = N := ⟨_, rfl⟩
        rw [hN] at hat
        obtain rfl : c = (N : Int) := by injection hat with h; injection h with _ h; exact h.symm
        have HNN : Hid _ := hN
        clear hat hN
        by_cases h3 : 3 ≤ N
        · have h3I : (3 : Int) ≤ N := by omega
          have hmore := next_more HF.out (r := r) (by rw [HNN.out]; exact h3)
          have HMO : Hid (cnt (cvs ls) (r + 1) < cnt (cvs ls) r) := hmore.1
          have hr3 := hmore.2
          clear hmore
          have hwr : IntKind.i64.wrap (r + 1) = r + 1 := by rw [IntKind.wrap_i64]; omega
          go_wp2_with fail
          go_round
          case rel =>
            refine ⟨r + 1, by omega, by omega, rfl, (show ∀ k : Int, _ from fun k h1 h2 => ?_)⟩
            rcases Int.lt_or_le k r with g | g
            · exact hno.out k h1 g
            · obtain rfl : k = r := by omega
              rw [HNN.out]; exact h3
          case measure => first | exact HMO.out | (simp only [intOf]; exact HMO.out)
        · have h3I : ¬ (3 : Int) ≤ N := by omega
          have HNX : Hid (NextR (cvs ls) r) := ⟨hr1, hno.out, by rw [HNN.out]; omega⟩
          go_wp2_with fail
          go_ret
          exact ⟨r, rfl, HNX.out, hb⟩
end Go.Proofs.YtlbnjcgdgkgfjaaDoor

namespace Go.Proofs.YtlbnjcgdgkgfjaaDoor
open Go.RowKit

set_option maxRecDepth 100000 in
theorem digs32 {ds : List Part} {l : List CV} (h : bss ds = l.map CV.d) : ∀ p ∈ ds, p.bs.length ≤ 140737488355328 := by
  intro p hp
  have h1 : p.bs ∈ l.map CV.d := by rw [← h]; exact List.mem_map.2 ⟨p, hp, rfl⟩
  obtain ⟨c, _, hc⟩ := List.mem_map.1 h1
  rw [← hc, c.d_length]
  decide
set_option maxRecDepth 100000 in
set_option maxHeartbeats 1000000 in
theorem dagCheck_any (ls : List Ct) (sa : Option Addr) (n cap : Nat) (w : World) (hn : n = ls.length) (hd : DagAt w sa cap ls) (hT : Tabs w) :
    Calls Tryd.prog 36 #[.agg #[.slice sa n cap]] w fun e w' => e = .returned (.int .i64 (dagF (cvs ls))) ∧ Below w.heap.size w w' := by
  subst hn
  have hA := (Below.refl w.heap.size w).alloc (Nat.le_refl _) (.cells #[.slice sa ls.length cap] 27)
  go_enter Tryd.func36, Tryd.ntmps36
  go_wp2_with fail
  generalize w.alloc (.cells #[.slice sa ls.length cap] 27) = W0 at hA ⊢
  refine (open_any ls sa _ cap W0 rfl (hd.below hA) (hT.below hA)).mono ?_
  intro e w1 hO
  have hb1 := hO.below
  have hOo := hO.out
  clear hO
  have hB1 := hA.trans (hb1.mono hA.size)
  rcases hOo with ⟨hF, he⟩ | ⟨hF, s, ks, he, -, -⟩
  · have HF : Hid _ := hF
    clear hF
    subst he
    dsimp only
    go_wp2_with fail
    go_ret
    exact ⟨ret_int HF.out.symm, hB1⟩
  · have HF : Hid _ := hF
    clear hF
    subst he
    dsimp only
    go_wp2_with fail
    go_ret
    exact ⟨ret_int HF.out.symm, hB1⟩
/-- What Digests answers. -/
def DigAt (w' : World) (e : Ending) (l : List CV) (rd : Int) : Prop :=
  (dagF l = 12 ∧ e = .returned (.tuple #[.slice none 0 0, .int .i64 12])) ∨ (dagF l = 0 ∧ ∃ ma mc ms, e = .returned (.tuple #[.slice ma (List.length ms) mc, .int .i64 0]) ∧ bss ms = dgF l rd ∧ ListAt w' ma mc ms)
/-- The same, as memory of its own. -/
structure DigO (w w' : World) (e : Ending) (l : List CV) (rd : Int) : Prop where
  below : Below w.heap.size w w'
  out : (dagF l = 12 ∧ e = .returned (.tuple #[.slice none 0 0, .int .i64 12])) ∨ (dagF l = 0 ∧ ∃ ma mc ms, e = .returned (.tuple #[.slice ma (List.length ms) mc, .int .i64 0]) ∧ bss ms = dgF l rd ∧ ListAt w' ma mc ms ∧ Fresh w.heap.size ma ms)
set_option maxRecDepth 100000 in
set_option maxHeartbeats 1000000 in
theorem dagDigests_own (ls : List Ct) (sa : Option Addr) (n cap : Nat) (rd : Int) (w : World) (hn : n = ls.length) (hd : DagAt w sa cap ls) (hT : Tabs w) :
    Calls Tryd.prog 25 #[.agg #[.slice sa n cap], .int .i64 rd] w fun e w' => DigO w w' e (cvs ls) rd := by
  subst hn
  have hA := (Below.refl w.heap.size w).alloc (Nat.le_refl _) (.cells #[.slice sa ls.length cap] 27)
  go_enter Tryd.func25, Tryd.ntmps25
  go_wp2_with fail
  generalize w.alloc (.cells #[.slice sa ls.length cap] 27) = W0 at hA ⊢
  refine (open_any ls sa _ cap W0 rfl (hd.below hA) (hT.below hA)).mono ?_
  intro e w1 hO
  have hb1 := hO.below
  have hOo := hO.out
  clear hO
  have hB1 := hA.trans (hb1.mono hA.size)
  rcases hOo with ⟨hF, he⟩ | ⟨hF, s, ks, he, hcv, hown⟩
  · have HF : Hid _ := hF
    clear hF
    subst he
    dsimp only
    go_wp2_with fail
    go_ret2
    exact ⟨hB1, .inl ⟨HF.out, rfl⟩⟩
  · have HF : Hid _ := hF
    have HCV : Hid _ := hcv
    clear hF hcv
    subst he
    dsimp only
    obtain ⟨vc, vd, ds, hk, hsame, hsm⟩ := hown.out
    obtain ⟨ca, cc, da, dc, e1, e2, hat⟩ := hk.at hsame hsm
    subst e1 e2
    have hre : ∀ p ∈ ds, p.bs.length ≤ 140737488355328 := digs32 hsame
    have HDG := digests_stk ks s ca cc da dc ds rd w1 hat hre
    clear hre hsame hown hk
    go_wp2_with fail
    refine HDG.mono ?_
    rintro e w2 ⟨ma, mc, ms, he, hM, hL, hfr, hb2⟩
    have HM : Hid _ := hM
    clear hM
    subst he
    dsimp only
    have hB2 := hB1.trans (hb2.mono hB1.size)
    go_wp2_with fail
    go_ret2
    exact ⟨hB2, .inr ⟨HF.out, ma, mc, ms, rfl, by rw [HM.out, HCV.out], hL, ⟨fun sb so e => Nat.le_trans hB1.size (hfr.row sb so e), fun p hp sb so e => Nat.le_trans hB1.size (hfr.each p hp sb so e)⟩⟩⟩
set_option maxRecDepth 100000 in
theorem dagDigests_any (ls : List Ct) (sa : Option Addr) (n cap : Nat) (rd : Int) (w : World) (hn : n = ls.length) (hd : DagAt w sa cap ls) (hT : Tabs w) :
    Calls Tryd.prog 25 #[.agg #[.slice sa n cap], .int .i64 rd] w fun e w' => DigAt w' e (cvs ls) rd ∧ Below w.heap.size w w' :=
  (dagDigests_own ls sa n cap rd w hn hd hT).mono (fun _ _ h => ⟨by
    rcases h.out with h1 | ⟨h1, ma, mc, ms, h2, h3, h4, _⟩
    · exact .inl h1
    · exact .inr ⟨h1, ma, mc, ms, h2, h3, h4⟩, h.below⟩)
/-- What Round answers. -/
def RndAt (e : Ending) (l : List CV) : Prop :=
  (dagF l = 12 ∧ e = .returned (.tuple #[.int .i64 0, .int .i64 12])) ∨ (dagF l = 0 ∧ ∃ r : Int, e = .returned (.tuple #[.int .i64 r, .int .i64 0]) ∧ NextR l r)
set_option maxRecDepth 100000 in
set_option maxHeartbeats 1000000 in
theorem dagRound_any (ls : List Ct) (sa : Option Addr) (n cap : Nat) (w : World) (hn : n = ls.length) (hd : DagAt w sa cap ls) (hT : Tabs w) :
    Calls Tryd.prog 26 #[.agg #[.slice sa n cap]] w fun e w' => RndAt e (cvs ls) ∧ Below w.heap.size w w' := by
  subst hn
  have hA := (Below.refl w.heap.size w).alloc (Nat.le_refl _) (.cells #[.slice sa ls.length cap] 27)
  go_enter Tryd.func26, Tryd.ntmps26
  go_wp2_with fail
  generalize w.alloc (.cells #[.slice sa ls.length cap] 27) = W0 at hA ⊢
  refine (open_any ls sa _ cap W0 rfl (hd.below hA) (hT.below hA)).mono ?_
  intro e w1 hO
  have hb1 := hO.below
  have hOo := hO.out
  clear hO
  have hB1 := hA.trans (hb1.mono hA.size)
  rcases hOo with ⟨hF, he⟩ | ⟨hF, s, ks, he, hcv, hown⟩
  · have HF : Hid _ := hF
    clear hF
    subst he
    dsimp only
    go_wp2_with fail
    go_ret2
    exact ⟨.inl ⟨HF.out, rfl⟩, hB1⟩
  · have HF : Hid _ := hF
    have HCV : Hid _ := hcv
    clear hF hcv
    subst he
    dsimp only
    obtain ⟨vc, vd, ds, hk, hsame, hsm⟩ := hown.out
    obtain ⟨ca, cc, da, dc, e1, e2, hat⟩ := hk.at hsame hsm
    subst e1 e2
    have HDG := round_stk ks s ca cc da dc ds w1 hat (by rw [HCV.out]; exact HF.out)
    clear hsame hown hk
    go_wp2_with fail
    refine HDG.mono ?_
    rintro e w2 ⟨r, he, hN, hb2⟩
    have HN : Hid _ := hN
    clear hN
    subst he
    dsimp only
    have hB2 := hB1.trans (hb2.mono hB1.size)
    go_wp2_with fail
    go_ret2
    exact ⟨.inr ⟨HF.out, r, rfl, by rw [← HCV.out]; exact HN.out⟩, hB2⟩
end Go.Proofs.YtlbnjcgdgkgfjaaDoor

namespace Go.Proofs.YtlbnjcgdgkgfjaaDoor
open Go.RowKit

/-- What Insert answers. -/
def InAt (B : Nat) (w' : World) (e : Ending) (l : List CV) (c : CV) : Prop :=
  (insE l c ≠ 0 ∧ e = .returned (.tuple #[.agg #[.slice none 0 0], .int .i64 (insE l c)])) ∨ (insE l c = 0 ∧ ∃ ra rc ks, e = .returned (.tuple #[.agg #[.slice ra (List.length ks) rc], .int .i64 0]) ∧ cvs ks = l ++ [c] ∧ DagAt w' ra rc ks ∧ (∀ sb so, ra = some ⟨sb, so, none⟩ → B ≤ sb) ∧ ∀ k ∈ ks, ∀ q, CtIn k q → B ≤ q)
set_option maxRecDepth 100000 in
theorem InAt.err {B : Nat} {w' : World} {l : List CV} {c : CV} {x : Int} (h : insE l c = x) (hx : x ≠ 0) : InAt B w' (.returned (.tuple #[.agg #[.slice none 0 0], .int .i64 x])) l c := .inl ⟨by rw [h]; exact hx, by rw [h]⟩
set_option maxRecDepth 100000 in
theorem certs_stk (s n cc : Nat) (ca : Option Addr) (vd : Value) (w : World) (hb : w.heap[s]? = some (.cells #[.slice ca n cc, vd] 89 (0, 0))) :
    Calls Tryd.prog 42 #[.pointer (some ⟨s, 0, none⟩)] w fun e w' => e = .returned (.slice ca n cc) ∧ w = w' := by
  have c0 := cells_at hb 0 _ rfl
  go_enter Tryd.func42, Tryd.ntmps42
  go_wp2_with fail
  go_ret
  exact ⟨rfl, rfl⟩
set_option maxRecDepth 100000 in
set_option maxHeartbeats 2000000 in
theorem dagInsert_any (ls : List Ct) (sa : Option Addr) (n cap : Nat) (c : Ct) (w : World) (hn : n = ls.length) (hd : DagAt w sa cap ls) (hc : CtAt w c) (hT : Tabs w) :
    Calls Tryd.prog 18 #[.agg #[.slice sa n cap], .agg #[.int .i64 c.au, .int .i64 c.rd, .slice c.ba c.bl.length c.bc, .slice c.pa c.pl.length c.pc, .slice c.va c.vl.length c.vc]] w fun e w' => InAt w.heap.size w' e (cvs ls) c.v ∧ Below w.heap.size w w' := by
  subst hn
  have hA : Below w.heap.size w (((w.alloc (.cells #[.slice sa ls.length cap] 27)).alloc (.cells #[.int .i64 c.au, .int .i64 c.rd, .slice c.ba c.bl.length c.bc, .slice c.pa c.pl.length c.pc, .slice c.va c.vl.length c.vc] 36)).alloc (.cells #[.slice none 0 0] 27)) := (((Below.refl _ _).alloc (Nat.le_refl _) _).alloc (by rw [size_alloc]; omega) _).alloc (by rw [size_alloc, size_alloc]; omega) _
  have q0 : (((w.alloc (.cells #[.slice sa ls.length cap] 27)).alloc (.cells #[.int .i64 c.au, .int .i64 c.rd, .slice c.ba c.bl.length c.bc, .slice c.pa c.pl.length c.pc, .slice c.va c.vl.length c.vc] 36)).alloc (.cells #[.slice none 0 0] 27)).heap[w.heap.size]? = some (.cells #[.slice sa ls.length cap] 27 (0, 0)) := heap_keep (heap_keep (heap_alloc_new w _))
  have q1 : (((w.alloc (.cells #[.slice sa ls.length cap] 27)).alloc (.cells #[.int .i64 c.au, .int .i64 c.rd, .slice c.ba c.bl.length c.bc, .slice c.pa c.pl.length c.pc, .slice c.va c.vl.length c.vc] 36)).alloc (.cells #[.slice none 0 0] 27)).heap[w.heap.size + 1]? = some (.cells #[.int .i64 c.au, .int .i64 c.rd, .slice c.ba c.bl.length c.bc, .slice c.pa c.pl.length c.pc, .slice c.va c.vl.length c.vc] 36 (0, 0)) := heap_keep (by have := heap_alloc_new (w.alloc (.cells #[.slice sa ls.length cap] 27)) (.cells #[.int .i64 c.au, .int .i64 c.rd, .slice c.ba c.bl.length c.bc, .slice c.pa c.pl.length c.pc, .slice c.va c.vl.length c.vc] 36); rw [size_alloc] at this; exact this)
  have q2 : (((w.alloc (.cells #[.slice sa ls.length cap] 27)).alloc (.cells #[.int .i64 c.au, .int .i64 c.rd, .slice c.ba c.bl.length c.bc, .slice c.pa c.pl.length c.pc, .slice c.va c.vl.length c.vc] 36)).alloc (.cells #[.slice none 0 0] 27)).heap[w.heap.size + 1 + 1]? = some (.cells #[.slice none 0 0] 27 (0, 0)) := by
    have := heap_alloc_new ((w.alloc (.cells #[.slice sa ls.length cap] 27)).alloc (.cells #[.int .i64 c.au, .int .i64 c.rd, .slice c.ba c.bl.length c.bc, .slice c.pa c.pl.length c.pc, .slice c.va c.vl.length c.vc] 36)) (.cells #[.slice none 0 0] 27)
    rw [size_alloc, size_alloc] at this; exact this
  have hsz : (((w.alloc (.cells #[.slice sa ls.length cap] 27)).alloc (.cells #[.int .i64 c.au, .int .i64 c.rd, .slice c.ba c.bl.length c.bc, .slice c.pa c.pl.length c.pc, .slice c.va c.vl.length c.vc] 36)).alloc (.cells #[.slice none 0 0] 27)).heap.size = w.heap.size + 3 := by simp
  go_enter Tryd.func18, Tryd.ntmps18
  go_wp2_with fail
  generalize ((w.alloc (.cells #[.slice sa ls.length cap] 27)).alloc (.cells #[.int .i64 c.au, .int .i64 c.rd, .slice c.ba c.bl.length c.bc, .slice c.pa c.pl.length c.pc, .slice c.va c.vl.length c.vc] 36)).alloc (.cells #[.slice none 0 0] 27) = W0 at hA q0 q1 q2 hsz ⊢
  generalize hO : w.heap.size + 1 + 1 = O at q2 ⊢
  have HOg : w.heap.size ≤ O := by omega
  have HOn : w.heap.size + 1 < O := by omega
  have hOW : O < W0.heap.size := lt_of_heap q2
  clear hO hsz
  refine (open_any ls sa _ cap W0 rfl (hd.below hA) (hT.below hA)).mono ?_
  intro e w1 hO
  have hb1 := hO.below
  have hOo := hO.out
  clear hO
  have hB1 := hA.trans (hb1.mono hA.size)
  have r1 := (hb1.block _ (lt_of_heap q1)).trans q1
  have r2 := (hb1.block _ (lt_of_heap q2)).trans q2
  rcases hOo with ⟨hF, he⟩ | ⟨hF, s, ks, he, hcv, hown⟩
  · have HM : Hid (insE (cvs ls) c.v = 12) := by
      show _ = _
      rw [insE, hF]; rfl
    clear hF
    subst he
    dsimp only
    have d0 := cells_at r2 0 _ rfl
    have f0 := frozen_at r2 0
    go_wp2_with fail
    refine bodyPost_ret (v := .tuple #[.agg #[.slice none 0 0], .int .i64 12]) (by simp [results, Tryd.results18, go_sem, d0]) rfl ⟨InAt.err HM.out (by decide), hB1.setCell HOg _⟩
  · have HM : Hid (insE (cvs ls) c.v = stkE (cvs ls) c.v) := insE_stk _ hF
    have HCV : Hid _ := hcv
    clear hF hcv
    subst he
    dsimp only
    have e0 := cells_at r1 0 _ rfl
    have e1 := cells_at r1 1 _ rfl
    have e2 := cells_at r1 2 _ rfl
    have e3 := cells_at r1 3 _ rfl
    have e4 := cells_at r1 4 _ rfl
    have HIN := insert_stk ks W0.heap.size s c w1 hown hb1.size (hc.below hB1) (hT.below hB1)
    go_wp2_with fail
    refine HIN.mono ?_
    intro e w2 h2
    have he := h2.told
    have hb2 := h2.below
    have ho2 := h2.own
    rw [HCV.out, ← HM.out] at he ho2
    clear h2 HIN e0 e1 e2 e3 e4 hown
    subst he
    dsimp only
    have hB2 : Below w.heap.size w w2 := hA.trans ((hb1.trans hb2).mono hA.size)
    have r2 := (hb2.block _ hOW).trans r2
    generalize hI : insE (cvs ls) c.v = x at *
    have HI : Hid _ := hI
    clear hI HM
    by_cases hx : x = 0
    · have HO : Hid (∃ y : Ct, y.v = c.v ∧ StkOwn w2 W0.heap.size s (ks ++ [y])) := by
        show ∃ y, _
        rcases ho2 with ⟨h, _⟩ | ⟨_, h⟩
        · exact absurd hx h
        · exact h
      obtain ⟨y, hy, hown2⟩ := HO.out
      obtain ⟨vc, vd, ds, hk, hsame, hsm⟩ := hown2.out
      obtain ⟨ra, rc, hv, hl, hL, hfr⟩ := dag_of_owns hk.rc hk.ac
      subst hv
      have HKS : Hid (cvs (ks ++ [y]) = cvs ls ++ [c.v]) := by
        show _ = _
        rw [← HCV.out, ← hy]
        simp [cvs]
      have hLL := hL (by omega)
      have HAC : Hid (∀ k ∈ ks ++ [y], ∀ b, CtIn k b → W0.heap.size ≤ b) := by
        show ∀ k, _
        exact fun k hk' b hb => ((hk.ac k hk').2 b hb).1
      have HFR : Hid _ := hfr
      have bx := hk.box
      subst hx
      clear ho2 HO hown2 hy hsame hL hfr hl hk
      have d0 := cells_at r2 0 _ rfl
      have f0 := frozen_at r2 0
      go_wp2_with fail
      refine (certs_stk s _ rc ra vd w2 bx).mono ?_
      rintro e w3 ⟨he, rfl⟩
      subst he
      dsimp only
      go_wp2_with fail
      refine bodyPost_ret (v := .tuple #[.agg #[.slice ra (ks ++ [y]).length rc], .int .i64 0]) (by simp [results, Tryd.results18, go_sem, d0]) rfl ⟨.inr ⟨HI.out, ra, rc, ks ++ [y], rfl, HKS.out, ?_, ?_, ?_⟩, hB2.setCell HOg _⟩
      · refine ⟨hLL.le, hLL.max, hLL.small, hLL.some, ⟨?_⟩, fun k hk' => ?_⟩
        · rcases hLL.certs.cells with h | ⟨sb, so, e, h⟩
          · exact .inl h
          · refine .inr ⟨sb, so, e, fun j hj => ?_⟩
            obtain ⟨a0, a1, a2, a3, a4⟩ := h j hj
            have hne : O ≠ sb := by have := (HFR.out sb so e).1; omega
            exact ⟨(World.cell?_setCell_far _ _ _ _ hne).trans a0, (World.cell?_setCell_far _ _ _ _ hne).trans a1, (World.cell?_setCell_far _ _ _ _ hne).trans a2, (World.cell?_setCell_far _ _ _ _ hne).trans a3, (World.cell?_setCell_far _ _ _ _ hne).trans a4⟩
        · exact (hLL.each k hk').keep (by simp) (fun b hb => heap_setCell_other _ ⟨O, 0, none⟩ b _ (by have := HAC.out k hk' b hb; show b ≠ O; omega))
      · intro sb so e
        have := (HFR.out sb so e).1
        have := hA.size
        omega
      · intro k hk' b hb
        have := HAC.out k hk' b hb
        have := hA.size
        omega
    · have HX : Hid _ := hx
      have hxn : (x != 0) = true := by simpa using hx
      have d0 := cells_at r2 0 _ rfl
      have f0 := frozen_at r2 0
      clear ho2
      go_wp2_with fail
      refine bodyPost_ret (v := .tuple #[.agg #[.slice none 0 0], .int .i64 x]) (by simp [results, Tryd.results18, go_sem, d0]) rfl ⟨InAt.err HI.out HX.out, hB2.setCell HOg _⟩
end Go.Proofs.YtlbnjcgdgkgfjaaDoor

namespace Go.Proofs.YtlbnjcgdgkgfjaaDoor
open Go.RowKit

def lateC (a : Nat) : CV := ⟨(a : Int), 1, [], [], [0, 1, 2]⟩
def lateL (k i : Nat) : List CV := ((List.range i).filter (fun a => decide (a ≠ k))).map lateC
set_option maxRecDepth 100000 in
theorem late_skip (k : Nat) : lateL k (k + 1) = lateL k k := by simp [lateL, List.range_succ, List.filter_append]
set_option maxRecDepth 100000 in
theorem late_next {k i : Nat} (h : i ≠ k) : lateL k (i + 1) = lateL k i ++ [lateC i] := by simp [lateL, List.range_succ, List.filter_append, h]
set_option maxRecDepth 100000 in
theorem late_ins : ∀ k, k < 4 → ∀ i, i < 4 → i ≠ k → insE (lateL k i) (lateC i) = 0 := by decide +kernel
set_option maxRecDepth 100000 in
theorem late_dag : ∀ k, k < 4 → dagF (lateL k 4) = 0 := by decide +kernel
set_option maxRecDepth 100000 in
theorem late_last : ∀ k, k < 4 → insE (lateL k 4) ⟨(k : Int), 1, [], [], [1, 2, 3]⟩ = 0 := by decide +kernel
set_option maxRecDepth 100000 in
theorem late_all : ∀ k, k < 4 → dagF (lateL k 4 ++ [⟨(k : Int), 1, [], [], [1, 2, 3]⟩]) = 0 := by decide +kernel
set_option maxRecDepth 100000 in
theorem late_one {l : List CV} (h1 : 3 ≤ (dgF l 1).length) (h2 : (dgF l 2).length < 3) : NextR l 2 := ⟨by decide, fun k a b => by
  obtain rfl : k = 1 := by omega
  exact h1, h2⟩
set_option maxRecDepth 100000 in
theorem late_d1 : ∀ k, k < 4 → (dgF (lateL k 4) 1).length = 3 ∧ (dgF (lateL k 4) 2).length = 0 := by
  intro k hk
  rw [dgF_len, dgF_len]
  revert k
  decide +kernel
set_option maxRecDepth 100000 in
theorem late_d2 : ∀ k, k < 4 → (dgF (lateL k 4 ++ [⟨(k : Int), 1, [], [], [1, 2, 3]⟩]) 1).length = 4 ∧ (dgF (lateL k 4 ++ [⟨(k : Int), 1, [], [], [1, 2, 3]⟩]) 2).length = 0 := by
  intro k hk
  rw [dgF_len, dgF_len]
  revert k
  decide +kernel
set_option maxRecDepth 100000 in
/-- A dag stays where a block of another one is rewritten. -/
theorem dag_setCell {w : World} {sa : Option Addr} {cap : Nat} {ls : List Ct} (h : DagAt w sa cap ls) (b j : Nat) (v : Value) (h1 : ∀ sb so, sa = some ⟨sb, so, none⟩ → b ≠ sb) (h2 : ∀ c ∈ ls, ∀ q, CtIn c q → q ≠ b) : DagAt (w.setCell ⟨b, j, none⟩ v) sa cap ls := by
  refine ⟨h.le, h.max, h.small, h.some, ⟨?_⟩, fun c hc => (h.each c hc).keep (by simp) (fun q hq => heap_setCell_other _ ⟨b, j, none⟩ q _ (h2 c hc q hq))⟩
  rcases h.certs.cells with g | ⟨sb, so, e, g⟩
  · exact .inl g
  · refine .inr ⟨sb, so, e, fun i hi => ?_⟩
    obtain ⟨a0, a1, a2, a3, a4⟩ := g i hi
    have hne := h1 sb so e
    exact ⟨(World.cell?_setCell_far _ _ _ _ hne).trans a0, (World.cell?_setCell_far _ _ _ _ hne).trans a1, (World.cell?_setCell_far _ _ _ _ hne).trans a2, (World.cell?_setCell_far _ _ _ _ hne).trans a3, (World.cell?_setCell_far _ _ _ _ hne).trans a4⟩
set_option maxRecDepth 100000 in
theorem dag_none (w : World) : DagAt w none 0 [] := ⟨Nat.le_refl _, by decide, by decide, .inl rfl, ⟨.inl rfl⟩, fun c hc => by cases hc⟩
/-- A certificate of no lists, and three voters. -/
def bareC (au rd : Int) (b : Nat) (x y z : Int) : Ct := ⟨au, rd, none, 0, [], none, 0, [], some ⟨b, 0, none⟩, 3, [x, y, z]⟩
set_option maxRecDepth 100000 in
theorem list_none (w : World) : ListAt w none 0 [] := ⟨Nat.le_refl _, by decide, by decide, .inl rfl, ⟨.inl rfl, fun p hp => by cases hp⟩⟩
set_option maxRecDepth 100000 in
theorem bare_at {w : World} {b : Nat} {x y z : Int} (au rd : Int) (h : w.heap[b]? = some (.cells #[.int .i64 x, .int .i64 y, .int .i64 z] 3 (0, 0))) : CtAt w (bareC au rd b x y z) := by
  refine ⟨⟨list_none w, list_none w, fun sb so e => (by cases e), fun sb so e => (by cases e)⟩, ⟨.inr ⟨b, 0, rfl, fun j hj => ?_⟩⟩, by show (3 : Nat) ≤ _; decide⟩
  have hj3 : j < 3 := hj
  have h0 := cells_at h 0 _ rfl
  have h1 := cells_at h 1 _ rfl
  have h2 := cells_at h 2 _ rfl
  match j, hj3 with
  | 0, _ => simpa [bareC] using h0
  | 1, _ => simpa [bareC] using h1
  | 2, _ => simpa [bareC] using h2
end Go.Proofs.YtlbnjcgdgkgfjaaDoor

namespace Go.Proofs.YtlbnjcgdgkgfjaaDoor
open Go.RowKit

/-- The number that a test takes out of a raw one. -/
def pk (n m : Int) : Int := if n < 0 then -(n + 1) % m else n % m
set_option maxRecDepth 100000 in
theorem pk_bounds (n m : Int) (hm : 0 < m) : 0 ≤ pk n m ∧ pk n m < m := by
  unfold pk; split
  · exact ⟨Int.emod_nonneg _ (by omega), Int.emod_lt_of_pos _ hm⟩
  · exact ⟨Int.emod_nonneg _ (by omega), Int.emod_lt_of_pos _ hm⟩
set_option maxRecDepth 100000 in
set_option maxHeartbeats 400000 in
theorem picked_any (n m : Int) (w : World) (h0 : -9223372036854775808 ≤ n) (h1 : n ≤ 9223372036854775807) (hm : 0 < m) (hm2 : m ≤ 9223372036854775807) :
    Calls Tryd.prog 17 #[.int .i64 n, .int .i64 m] w fun e w' => e = .returned (.int .i64 (pk n m)) ∧ w = w' := by
  have hm0 : (m == 0) = false := beq_eq_false_iff_ne.2 (by omega)
  by_cases h : n < 0
  · have hx : Hid (pk n m = -((n + 1).tmod m)) := by
      show _ = _
      rw [pk, if_pos h, ← Int.neg_tmod, Int.tmod_eq_emod_of_nonneg (by omega)]
    go_enter Tryd.func17, Tryd.ntmps17
    go_wp2
    go_ret
    exact ⟨ret_int hx.out.symm, rfl⟩
  · have hx : Hid (pk n m = n % m) := if_neg h
    go_enter Tryd.func17, Tryd.ntmps17
    go_wp2
    go_ret
    exact ⟨ret_int hx.out.symm, rfl⟩
end Go.Proofs.YtlbnjcgdgkgfjaaDoor
