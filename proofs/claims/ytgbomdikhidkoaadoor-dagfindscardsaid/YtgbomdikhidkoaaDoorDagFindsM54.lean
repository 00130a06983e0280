/- sheaveslaw.sameInts, sameCert: of equal ones. -/
import Derived.Test.YtgbomdikhidkoaaDoorDagFindsM12
import Derived.Test.YtgbomdikhidkoaaDoorDagFindsM48
import Derived.Test.YtgbomdikhidkoaaDoorDagFindsM24
import Derived.Test.YtgbomdikhidkoaaDoorDagFindsM6
import Derived.Test.YtgbomdikhidkoaaDoorDagFindsM0
import Derived.Deep.CutRange
import Derived.Deep.DeepCutAuto
import Derived.Deep.RegionLaw
import Derived.Test.YtgbomdikhidkoaaDoorOwnL
import Derived.Test.YtgbomdikhidkoaaDoorSx
import Derived.RegionTactic
import Derived.Test.YtgbomdikhidkoaaDoorIntsL
namespace Go.Proofs.YtgbomdikhidkoaaDoor
open Go.RowKit

set_option maxRecDepth 100000 in
set_option maxHeartbeats 1000000 in
theorem rDigestsAt_any (ls : List Ct) (sa : Option Addr) (n cap : Nat) (rd : Int) (w : World) (hn : n = ls.length) (hd : DagRd w sa cap ls) :
    Calls Tryd.prog 27 #[.agg #[.slice sa n cap], .int .i64 rd] w fun e w' => DigAt w' e (cvs ls) rd ∧ Below w.heap.size w w' := by
  subst hn
  have hA := (Below.refl w.heap.size w).alloc (Nat.le_refl _) (.cells #[.slice sa ls.length cap] 24)
  have r0 := heap_alloc_new w (.cells #[.slice sa ls.length cap] 24)
  go_enter Tryd.func27, Tryd.ntmps27
  go_wp2_with fail
  generalize w.alloc (.cells #[.slice sa ls.length cap] 24) = W0 at hA r0 ⊢
  refine (dagFault_any ls sa _ cap W0 rfl (hd.below hA)).mono ?_
  rintro e w1 ⟨he, hb1⟩
  subst he
  dsimp only
  have hB1 := hA.trans (hb1.mono hA.size)
  have r1 := (hb1.block _ (lt_of_heap r0)).trans r0
  have c0 := cells_at r1 0 _ rfl
  rcases dagF_or (cvs ls) with h | h
  · have HF : Hid _ := h
    have hd1 := hd.below hB1
    have HD := digestsAt_any ls sa cap rd w1 (dag_le h) hd1.certs hd1.each (all_f h)
    rw [h]
    clear h
    go_wp2_with fail
    refine HD.mono ?_
    rintro e w2 ⟨ma, mc, ms, he, hM, hL, hb2⟩
    have HM : Hid _ := hM
    clear hM
    subst he
    dsimp only
    go_wp2_with fail
    go_ret2
    exact ⟨.inr ⟨HF.out, ma, mc, ms, rfl, HM.out, hL⟩, hB1.trans (hb2.mono hB1.size)⟩
  · have HF : Hid _ := h
    rw [h]
    clear h
    go_wp2_with fail
    go_ret2
    exact ⟨.inl ⟨HF.out, rfl⟩, hB1⟩
end Go.Proofs.YtgbomdikhidkoaaDoor

namespace Go.Proofs.YtgbomdikhidkoaaDoor
open Go.RowKit

/-- What Find answers, as memory of its own. -/
structure FndO (w w' : World) (e : Ending) (l : List CV) (k : List Int) : Prop where
  below : Below w.heap.size w w'
  out : (∃ ec : Int, e = .returned (.tuple #[.agg #[.int .i64 0, .int .i64 0, .slice none 0 0, .slice none 0 0, .slice none 0 0], .int .i64 ec]) ∧ ((dagF l = 12 ∧ ec = 12) ∨ (dagF l = 0 ∧ pOf l k = -1 ∧ ec = 8))) ∨ (dagF l = 0 ∧ 0 ≤ pOf l k ∧ ∃ c : Ct, e = .returned (.tuple #[.agg #[.int .i64 c.au, .int .i64 c.rd, .slice c.ba c.bl.length c.bc, .slice c.pa c.pl.length c.pc, .slice c.va c.vl.length c.vc], .int .i64 0]) ∧ c.v = cvAt l (pOf l k).toNat ∧ CtAt w' c ∧ (∀ b, CtIn c b → w.heap.size < b))
set_option maxRecDepth 100000 in
set_option maxHeartbeats 1000000 in
theorem dagFind_own (ls : List Ct) (sa : Option Addr) (n cap : Nat) (bs : List Int) (ka : Option Addr) (kn kc : Nat) (w : World) (hn : n = ls.length) (hkn : kn = bs.length) (hd : DagAt w sa cap ls) (hk : SliceAt w ka kc bs) (hT : Tabs w) :
    Calls Tryd.prog 12 #[.agg #[.slice sa n cap], .slice ka kn kc] w fun e w' => FndO w w' e (cvs ls) bs := by
  subst hn hkn
  have hA : Below w.heap.size w ((w.alloc (.cells #[.slice sa ls.length cap] 24)).alloc (.cells #[.int .i64 0, .int .i64 0, .slice none 0 0, .slice none 0 0, .slice none 0 0] 35)) := ((Below.refl _ _).alloc (Nat.le_refl _) _).alloc (by rw [size_alloc]; omega) _
  have q1 : ((w.alloc (.cells #[.slice sa ls.length cap] 24)).alloc (.cells #[.int .i64 0, .int .i64 0, .slice none 0 0, .slice none 0 0, .slice none 0 0] 35)).heap[w.heap.size + 1]? = some (.cells #[.int .i64 0, .int .i64 0, .slice none 0 0, .slice none 0 0, .slice none 0 0] 35 (0, 0)) := by
    have := heap_alloc_new (w.alloc (.cells #[.slice sa ls.length cap] 24)) (.cells #[.int .i64 0, .int .i64 0, .slice none 0 0, .slice none 0 0, .slice none 0 0] 35)
    rw [size_alloc] at this; exact this
  go_enter Tryd.func12, Tryd.ntmps12
  go_wp2_with fail
  generalize (w.alloc (.cells #[.slice sa ls.length cap] 24)).alloc (.cells #[.int .i64 0, .int .i64 0, .slice none 0 0, .slice none 0 0, .slice none 0 0] 35) = W0 at hA q1 ⊢
  refine (open_any ls sa _ cap W0 rfl (hd.below hA) (hT.below hA)).mono ?_
  intro e w1 hO
  have hb1 := hO.below
  have hOo := hO.out
  clear hO
  have hB1 := hA.trans (hb1.mono hA.size)
  have r2 := (hb1.block _ (lt_of_heap q1)).trans q1
  rcases hOo with ⟨hF, he⟩ | ⟨hF, s, ks, he, hcv, hown⟩
  · have HF : Hid _ := hF
    clear hF
    subst he
    dsimp only
    have d0 := cells_at r2 0 _ rfl
    have d1 := cells_at r2 1 _ rfl
    have d2 := cells_at r2 2 _ rfl
    have d3 := cells_at r2 3 _ rfl
    have d4 := cells_at r2 4 _ rfl
    have f0 := frozen_at r2 0
    have f1 := frozen_at r2 1
    have f2 := frozen_at r2 2
    have f3 := frozen_at r2 3
    have f4 := frozen_at r2 4
    go_wp2_with fail
    refine bodyPost_ret (v := .tuple #[.agg #[.int .i64 0, .int .i64 0, .slice none 0 0, .slice none 0 0, .slice none 0 0], .int .i64 12]) (by simp [results, Tryd.results12, go_sem, d0, d1, d2, d3, d4]) rfl ⟨?_, .inl ⟨12, rfl, .inl ⟨HF.out, rfl⟩⟩⟩
    exact ((((hB1.setCell (Nat.le_succ _) _).setCell (Nat.le_succ _) _).setCell (Nat.le_succ _) _).setCell (Nat.le_succ _) _).setCell (Nat.le_succ _) _
  · have HF : Hid _ := hF
    have HCV : Hid _ := hcv
    clear hF hcv
    subst he
    dsimp only
    obtain ⟨vc, vd, ds, hkk, hsame, hsm⟩ := hown.out
    obtain ⟨ca, cc, da, dc, e1, e2, hat⟩ := hkk.at hsame hsm
    subst e1 e2
    have HFD := find_stk ks s ca cc da dc ds bs ka _ kc w1 hat (all_f (by rw [HCV.out]; exact HF.out)) rfl (hk.below hB1)
    clear hsame hown hkk
    go_wp2_with fail
    refine HFD.mono ?_
    intro e w2 h2
    have hb2 := h2.below
    have h2o := h2.out
    rw [HCV.out] at h2o
    clear h2 HFD
    have hB2 := hB1.trans (hb2.mono hB1.size)
    have r2 := (hb2.block _ (lt_of_heap r2)).trans r2
    rcases h2o with ⟨hp, he⟩ | ⟨hp, x, he, hxv, hxa, hxin⟩
    · have HP : Hid _ := hp
      clear hp
      subst he
      dsimp only
      have d0 := cells_at r2 0 _ rfl
      have d1 := cells_at r2 1 _ rfl
      have d2 := cells_at r2 2 _ rfl
      have d3 := cells_at r2 3 _ rfl
      have d4 := cells_at r2 4 _ rfl
      have f0 := frozen_at r2 0
      have f1 := frozen_at r2 1
      have f2 := frozen_at r2 2
      have f3 := frozen_at r2 3
      have f4 := frozen_at r2 4
      go_wp2_with fail
      refine bodyPost_ret (v := .tuple #[.agg #[.int .i64 0, .int .i64 0, .slice none 0 0, .slice none 0 0, .slice none 0 0], .int .i64 8]) (by simp [results, Tryd.results12, go_sem, d0, d1, d2, d3, d4]) rfl ⟨?_, .inl ⟨8, rfl, .inr ⟨HF.out, HP.out, rfl⟩⟩⟩
      exact ((((hB2.setCell (Nat.le_succ _) _).setCell (Nat.le_succ _) _).setCell (Nat.le_succ _) _).setCell (Nat.le_succ _) _).setCell (Nat.le_succ _) _
    · have HP : Hid _ := hp
      have HXV : Hid _ := hxv
      have HIN : Hid (∀ b, CtIn x b → w1.heap.size < b) := hxin
      have hlt : w.heap.size + 1 < w1.heap.size := Nat.lt_of_lt_of_le (lt_of_heap q1) hb1.size
      clear hp hxv hxin
      subst he
      dsimp only
      have d0 := cells_at r2 0 _ rfl
      have d1 := cells_at r2 1 _ rfl
      have d2 := cells_at r2 2 _ rfl
      have d3 := cells_at r2 3 _ rfl
      have d4 := cells_at r2 4 _ rfl
      have f0 := frozen_at r2 0
      have f1 := frozen_at r2 1
      have f2 := frozen_at r2 2
      have f3 := frozen_at r2 3
      have f4 := frozen_at r2 4
      go_wp2_with fail
      refine bodyPost_ret (v := .tuple #[.agg #[.int .i64 x.au, .int .i64 x.rd, .slice x.ba x.bl.length x.bc, .slice x.pa x.pl.length x.pc, .slice x.va x.vl.length x.vc], .int .i64 0]) (by simp [results, Tryd.results12, go_sem, d0, d1, d2, d3, d4]) rfl ⟨?_, .inr ⟨HF.out, HP.out, x, rfl, HXV.out, ?_, ?_⟩⟩
      · exact ((((hB2.setCell (Nat.le_succ _) _).setCell (Nat.le_succ _) _).setCell (Nat.le_succ _) _).setCell (Nat.le_succ _) _).setCell (Nat.le_succ _) _
      · refine CtAt.keep hxa (by simp) (fun b hb => ?_)
        have hge := HIN.out b hb
        have hne : b ≠ w.heap.size + 1 := by omega
        rw [heap_setCell_other _ _ b _ hne, heap_setCell_other _ _ b _ hne, heap_setCell_other _ _ b _ hne, heap_setCell_other _ _ b _ hne, heap_setCell_other _ _ b _ hne]
      · intro b hb
        have := HIN.out b hb
        omega
end Go.Proofs.YtgbomdikhidkoaaDoor

namespace Go.Proofs.YtgbomdikhidkoaaDoor
open Go.RowKit

set_option maxRecDepth 100000 in
set_option maxHeartbeats 1000000 in
theorem bytesCopiesU_any (ps : List Part) (sa : Option Addr) (n cap : Nat) (w : World) (hn : n = ps.length) (hr : ps.length * 24 ≤ 140737488355328) (hre : ∀ p ∈ ps, p.bs.length ≤ 140737488355328) (hp : PartsAt w sa ps) :
    Calls Tryd.prog 39 #[.slice sa n cap] w fun e w' => ∃ ra rc qs, e = .returned (.slice ra ps.length rc) ∧ Same qs ps ∧ ListAt w' ra rc qs ∧ Below w.heap.size w w' ∧ Fresh w.heap.size ra qs ∧ (∀ sb so, ra = some ⟨sb, so, none⟩ → sb < w'.heap.size) := by
  subst hn
  obtain ⟨i, hi, hz0, hz1, hz2⟩ := info_parts infoBs
  go_enter Tryd.func39, Tryd.ntmps39
  go_wp2_with fail
  go_loopw [4, 3] (fun j v wr => ∃ (k : Nat) (qs : List Part), k ≤ ps.length ∧ j = .int .i64 k ∧ Same qs (ps.take k) ∧ wr.ownsRow w.heap.size 29 1 v k (pv qs) ∧ Apart wr w.heap.size v qs ∧ Below w.heap.size w wr) (fun j _ _ => ps.length - (intOf j).toNat)
  case atStart => exact ⟨0, [], Nat.zero_le _, rfl, by simp [Same], World.ownsRow_nil _ _ _ _, (fun p hp => by cases hp), Below.refl _ _⟩
  case round =>
    obtain ⟨k, qs, hk, rfl, hS, ho, hap, hb⟩ := hrel
    by_cases hlt : k < ps.length
    · have hpw := hp.below hb
      obtain ⟨sb, so, rfl, hc⟩ : ∃ sb so, sa = some ⟨sb, so, none⟩ ∧ ∀ j (h : j < ps.length), wr.cell? ⟨sb, so + j, none⟩ = some (.slice (ps[j]).sa (ps[j]).bs.length (ps[j]).cap) := by
        rcases hpw.cells with h | h
        · rw [h] at hlt; simp at hlt
        · exact h
      have ck := hc k hlt
      have hx := hpw.each (ps[k]) (List.getElem_mem hlt)
      have hxr := hre (ps[k]) (List.getElem_mem hlt)
      have hst : Hid (ps.take (k + 1) = ps.take k ++ [ps[k]]) := List.take_succ_eq_append_getElem hlt
      have hltI : (k : Int) < ps.length := by omega
      clear hc
      generalize ps[k] = p at *
      go_wp2_with fail
      refine (joined_any p.bs [] p.sa none _ _ p.cap 0 wr rfl rfl hx (nilSlice _) (by simpa using hxr)).mono ?_
      rintro e w2 ⟨v2, he, ho2, hb2⟩
      subst he
      dsimp only
      simp only [List.append_nil, List.length_nil, Nat.add_zero] at ho2
      obtain ⟨ra, rc, hv, _, hs2⟩ := owns_form ho2
      subst hv
      have hob := owns_keep ho hb2
      have hB2 := hb.trans (hb2.mono hb.size)
      go_wp2_with (at_builtin; refine wpList_append_own_at _ rfl _ _ 30 rfl w.heap.size 29 i (.slice none 0 0) 1 24 Tryd.underlying30 hi hz0 hz1 hz2 rfl (by decide) _ k _ rfl (World.ownsRow.alloc hob _) ⟨w2.heap.size, 0, none⟩ 1 1 [.slice ra p.bs.length rc] rfl rfl (cells_new _ _ _) (by intro u hu; simp at hu; subst hu; rfl) (by unfold maxLen; omega) (by omega) (le_alloc hB2.size _) ?_; intro v1 w3 ho3 hg3 _ hat)
      have G := Grew.of hg3 hat
      have hap3 := hap.more (q := ⟨ra, rc, p.bs⟩) hb.size ho hb2 ho2 hs2 G
      have hB3 := Below.grown (hB2.alloc hB2.size _) hg3 (le_alloc hB2.size _) (fun q e => (hob.lt q e).1)
      go_roundw
      case rel =>
        have hR : ∃ (k' : Nat) (qs' : List Part), k' ≤ ps.length ∧ (Value.int .i64 ((k : Int) + 1)) = .int .i64 k' ∧ Same qs' (ps.take k') ∧ w3.ownsRow w.heap.size 29 1 v1 k' (pv qs') ∧ Apart w3 w.heap.size v1 qs' ∧ Below w.heap.size w w3 :=
          ⟨k + 1, qs ++ [⟨ra, rc, p.bs⟩], by omega, by go_num, by rw [hst.out]; simp only [Same, List.map_append] at hS ⊢; rw [hS]; rfl, by simpa [pv, Part.val] using ho3, hap3, hB3⟩
        first | exact hR | ((repeat apply Exists.intro); exact ⟨hR, rfl⟩)
      case measure => simp [intOf]; omega
    · obtain rfl : k = ps.length := by omega
      rw [List.take_of_length_le (Nat.le_refl _)] at hS
      obtain ⟨ra, rc, hv, hl, hL, hfr⟩ := listAt_of_owns ho hap
      subst hv
      go_wp2_with fail
      go_ret
      exact ⟨ra, rc, qs, rfl, hS, hL (by omega), hb, hfr, fun sb so e => by subst e; exact (ho.lt sb rfl).2⟩
set_option maxRecDepth 100000 in
set_option maxHeartbeats 1000000 in
theorem headerCopyU_any (au rd : Int) (ba : Option Addr) (bc : Nat) (bl : List Part) (pa : Option Addr) (pc : Nat) (pl : List Part) (w : World) (hb : ReadAt w ba bc bl) (hp : ReadAt w pa pc pl) :
    Calls Tryd.prog 17 #[.agg #[.int .i64 au, .int .i64 rd, .slice ba bl.length bc, .slice pa pl.length pc]] w fun e w' => ∃ xa xc xs ya yc ys, e = .returned (.agg #[.int .i64 au, .int .i64 rd, .slice xa bl.length xc, .slice ya pl.length yc]) ∧ Same xs bl ∧ Same ys pl ∧ ListAt w' xa xc xs ∧ ListAt w' ya yc ys ∧ Below w.heap.size w w' ∧ Fresh w.heap.size xa xs ∧ Fresh w.heap.size ya ys ∧ (∀ sb so, xa = some ⟨sb, so, none⟩ → sb < w'.heap.size) ∧ (∀ sb so, ya = some ⟨sb, so, none⟩ → sb < w'.heap.size) := by
  have hR : Below w.heap.size w ((w.alloc (.cells #[.int .i64 au, .int .i64 rd, .slice ba bl.length bc, .slice pa pl.length pc] 32)).alloc (.cells #[.int .i64 0, .int .i64 0, .slice none 0 0, .slice none 0 0] 32)) := ((Below.refl _ _).alloc (Nat.le_refl _) _).alloc (by simp) _
  have q0 := heap_alloc2_old w (.cells #[.int .i64 au, .int .i64 rd, .slice ba bl.length bc, .slice pa pl.length pc] 32) (.cells #[.int .i64 0, .int .i64 0, .slice none 0 0, .slice none 0 0] 32)
  have k0 : ((w.alloc (.cells #[.int .i64 au, .int .i64 rd, .slice ba bl.length bc, .slice pa pl.length pc] 32)).alloc (.cells #[.int .i64 0, .int .i64 0, .slice none 0 0, .slice none 0 0] 32)).cell? ⟨w.heap.size, 0, none⟩ = some (.int .i64 au) := cells_at q0 0 _ rfl
  have k1 : ((w.alloc (.cells #[.int .i64 au, .int .i64 rd, .slice ba bl.length bc, .slice pa pl.length pc] 32)).alloc (.cells #[.int .i64 0, .int .i64 0, .slice none 0 0, .slice none 0 0] 32)).cell? ⟨w.heap.size, 1, none⟩ = some (.int .i64 rd) := cells_at q0 1 _ rfl
  have k2 : ((w.alloc (.cells #[.int .i64 au, .int .i64 rd, .slice ba bl.length bc, .slice pa pl.length pc] 32)).alloc (.cells #[.int .i64 0, .int .i64 0, .slice none 0 0, .slice none 0 0] 32)).cell? ⟨w.heap.size, 2, none⟩ = some (.slice ba bl.length bc) := cells_at q0 2 _ rfl
  have k3 : ((w.alloc (.cells #[.int .i64 au, .int .i64 rd, .slice ba bl.length bc, .slice pa pl.length pc] 32)).alloc (.cells #[.int .i64 0, .int .i64 0, .slice none 0 0, .slice none 0 0] 32)).cell? ⟨w.heap.size, 3, none⟩ = some (.slice pa pl.length pc) := cells_at q0 3 _ rfl
  go_enter Tryd.func17, Tryd.ntmps17
  go_wp2_with fail
  go_region_held2 (fun w' => w'.cell? ⟨w.heap.size, 0, none⟩ = some (.int .i64 au) ∧ w'.cell? ⟨w.heap.size, 1, none⟩ = some (.int .i64 rd) ∧ w'.cell? ⟨w.heap.size, 2, none⟩ = some (.slice ba bl.length bc) ∧ w'.cell? ⟨w.heap.size, 3, none⟩ = some (.slice pa pl.length pc)) (go_keep) (first | (go_at_call 39; refine (bytesCopiesU_any pl pa _ pc w1 rfl hp.reach hp.each (hp.list.below (below_alloc (below_alloc hb1))).parts).mono ?_; rintro e w2 ⟨ya, yc, ys, rfl, hS2, hL2, hb2, hF2, hU2⟩; have s0 := (hb2.block _ (lt_of_heap r0)).trans r0; have s1 := (hb2.block _ (lt_of_heap r1)).trans r1; have e0 : w2.cell? ⟨w.heap.size, 0, none⟩ = some (.int .i64 au) := cells_at s0 0 _ rfl; have e1 : w2.cell? ⟨w.heap.size, 1, none⟩ = some (.int .i64 rd) := cells_at s0 1 _ rfl; have e2 : w2.cell? ⟨w.heap.size, 2, none⟩ = some (.slice ba bl.length bc) := cells_at s0 2 _ rfl; have e3 : w2.cell? ⟨w.heap.size, 3, none⟩ = some (.slice pa pl.length pc) := cells_at s0 3 _ rfl; have d0 := cells_at s1 0 _ rfl; have d1 := cells_at s1 1 _ rfl; have d2 := cells_at s1 2 _ rfl; have d3 := cells_at s1 3 _ rfl; have f0 := frozen_at s1 0; have f1 := frozen_at s1 1; have f2 := frozen_at s1 2; have f3 := frozen_at s1 3) | (go_at_call 39; refine (bytesCopiesU_any bl ba _ bc ((w.alloc (.cells #[.int .i64 au, .int .i64 rd, .slice ba bl.length bc, .slice pa pl.length pc] 32)).alloc (.cells #[.int .i64 0, .int .i64 0, .slice none 0 0, .slice none 0 0] 32)).drew rfl hb.reach hb.each (hb.list.below hR.drew).parts).mono ?_; rintro e w1 ⟨xa, xc, xs, rfl, hS1, hL1, hb1, hF1, hU1⟩; replace hb1 := below_drew hb1; rw [heap_drew, size_alloc, size_alloc] at hF1; have r1 := row_new hb1; have r0 := row_new (below_alloc hb1); rw [size_alloc] at r1; have c0 : w1.cell? ⟨w.heap.size, 0, none⟩ = some (.int .i64 au) := cells_at r0 0 _ rfl; have c1 : w1.cell? ⟨w.heap.size, 1, none⟩ = some (.int .i64 rd) := cells_at r0 1 _ rfl; have c2 : w1.cell? ⟨w.heap.size, 2, none⟩ = some (.slice ba bl.length bc) := cells_at r0 2 _ rfl; have c3 : w1.cell? ⟨w.heap.size, 3, none⟩ = some (.slice pa pl.length pc) := cells_at r0 3 _ rfl))
  all_goals
    go_wp2_with fail
    have hsz : w.heap.size + 1 + 1 ≤ w1.heap.size := by have := hb1.size; rw [size_alloc, size_alloc] at this; exact this
    have g1 : w.heap.size + 1 < w.heap.size + 1 + 1 := Nat.lt_succ_self _
    have g2 : w.heap.size + 1 < w1.heap.size := by omega
    have hW1 := below_alloc (below_alloc hb1)
    have hW2 := hW1.trans (hb2.mono hW1.size)
    refine bodyPost_ret (v := .agg #[.int .i64 au, .int .i64 rd, .slice xa bl.length xc, .slice ya pl.length yc]) (by simp [results, Tryd.results17, go_sem, d0, d1, d2, d3]) rfl ⟨xa, xc, xs, ya, yc, ys, rfl, hS1, hS2, ?_, ?_, ?_, hF1.mono (by omega), hF2.mono hW1.size, fun sb so e => by simpa using Nat.lt_of_lt_of_le (hU1 sb so e) hb2.size, fun sb so e => by simpa using hU2 sb so e⟩
    · exact ((((hL1.below hb2).setCell hF1 _ _ _ g1).setCell hF1 _ _ _ g1).setCell hF1 _ _ _ g1).setCell hF1 _ _ _ g1
    · exact (((hL2.setCell hF2 _ _ _ g2).setCell hF2 _ _ _ g2).setCell hF2 _ _ _ g2).setCell hF2 _ _ _ g2
    · exact (((hW2.setCell (Nat.le_succ _) _).setCell (Nat.le_succ _) _).setCell (Nat.le_succ _) _).setCell (Nat.le_succ _) _
end Go.Proofs.YtgbomdikhidkoaaDoor

namespace Go.Proofs.YtgbomdikhidkoaaDoor
open Go.RowKit

set_option maxRecDepth 100000 in
set_option maxHeartbeats 1000000 in
theorem certCopyU_any (au rd : Int) (ba : Option Addr) (bc : Nat) (bl : List Part) (pa : Option Addr) (pc : Nat) (pl : List Part) (va : Option Addr) (vc : Nat) (vl : List Int) (w : World) (hb : ReadAt w ba bc bl) (hp : ReadAt w pa pc pl) (hv : IntsAt w va vl) (hvr : vl.length * 8 ≤ 140737488355328) :
    Calls Tryd.prog 21 #[.agg #[.int .i64 au, .int .i64 rd, .slice ba bl.length bc, .slice pa pl.length pc, .slice va vl.length vc]] w fun e w' => ∃ xa xc xs ya yc ys za zc, e = .returned (.agg #[.int .i64 au, .int .i64 rd, .slice xa bl.length xc, .slice ya pl.length yc, .slice za vl.length zc]) ∧ Same xs bl ∧ Same ys pl ∧ ListAt w' xa xc xs ∧ ListAt w' ya yc ys ∧ IntsAt w' za vl ∧ Below w.heap.size w w' ∧ Fresh w.heap.size xa xs ∧ Fresh w.heap.size ya ys ∧ (∀ sb so, za = some ⟨sb, so, none⟩ → w.heap.size ≤ sb) ∧ (∀ sb so, xa = some ⟨sb, so, none⟩ → sb < w'.heap.size) ∧ (∀ sb so, ya = some ⟨sb, so, none⟩ → sb < w'.heap.size) := by
  go_enter Tryd.func21, Tryd.ntmps21
  go_wp2_with fail
  have hR : Below w.heap.size w ((w.alloc (.cells #[.int .i64 au, .int .i64 rd, .slice ba bl.length bc, .slice pa pl.length pc, .slice va vl.length vc] 35)).alloc (.cells #[.int .i64 0, .int .i64 0, .slice none 0 0, .slice none 0 0, .slice none 0 0] 35)) := ((Below.refl _ _).alloc (Nat.le_refl _) _).alloc (by simp) _
  refine (headerCopyU_any au rd ba bc bl pa pc pl _ (hb.below hR) (hp.below hR)).mono ?_
  rintro e w1 ⟨xa, xc, xs, ya, yc, ys, he, hS1, hS2, hL1, hL2, hb1, hF1, hF2, hU1, hU2⟩
  subst he
  dsimp only
  have r1 := row_new hb1
  have r0 := row_new (below_alloc hb1)
  rw [size_alloc] at r1
  rw [size_alloc, size_alloc] at hF1 hF2
  have hW1 := below_alloc (below_alloc hb1)
  have hlt1 : w.heap.size + 1 < w1.heap.size := lt_of_heap r1
  have hv1 := hv.below hW1
  clear hb1 hR
  obtain ⟨i, hi, hz0, hz1, hz2⟩ := info_parts infoInt2
  go_wp2_with fail
  go_loopw [4] (fun j wr => ∃ (k : Nat) (v : Value), k ≤ vl.length ∧ j = .int .i64 k ∧ Below w1.heap.size w1 wr ∧ wr.heap[w1.heap.size]? = some (.cells #[.int .i64 au, .int .i64 rd, .slice xa bl.length xc, .slice ya pl.length yc, v] 35 (0, 0)) ∧ wr.ownsRow (w1.heap.size + 1) 3 1 v k (iv (vl.take k))) (fun j _ => vl.length - (intOf j).toNat)
  case atStart => exact ⟨0, _, Nat.zero_le _, rfl, (Below.refl _ _).alloc (Nat.le_refl _) _, heap_alloc_new _ _, World.ownsRow_nil _ _ _ _⟩
  case round =>
    obtain ⟨k, v, hk, rfl, hbw, hro, ho⟩ := hrel
    have hrc := (hbw.block _ (lt_of_heap r0)).trans r0
    have c4 : wr.cell? ⟨w.heap.size, 4, none⟩ = some (.slice va vl.length vc) := cells_at hrc 4 _ rfl
    have o4 : wr.cell? ⟨w1.heap.size, 4, none⟩ = some v := cells_at hro 4 _ rfl
    have of4 := frozen_at hro 4
    have hsz : w1.heap.size < wr.heap.size := lt_of_heap hro
    by_cases hlt : k < vl.length
    · obtain ⟨sb, so, rfl, hc⟩ : ∃ sb so, va = some ⟨sb, so, none⟩ ∧ ∀ j, j < vl.length → wr.cell? ⟨sb, so + j, none⟩ = some (.int .i64 (vl.getD j 0)) := by
        rcases (hv1.below hbw).cells with h | h
        · rw [h] at hlt; simp at hlt
        · exact h
      have ck := hc k hlt
      have hltI : (k : Int) < vl.length := by omega
      have hst : Hid (vl.take (k + 1) = vl.take k ++ [vl.getD k 0]) := by
        show _ = _
        rw [List.take_succ_eq_append_getElem hlt]
        simp [List.getD, hlt]
      have hvb : v.ownBlock ≠ some w1.heap.size := fun e => by have := (ho.lt _ e).1; omega
      clear hc
      generalize vl.getD k 0 = x at ck hst
      have hroA : (wr.alloc (.cells #[.int .i64 x] 3)).drew.heap[w1.heap.size]? = some (.cells #[.int .i64 au, .int .i64 rd, .slice xa bl.length xc, .slice ya pl.length yc, v] 35 (0, 0)) := row_old (w1 := wr.alloc (.cells #[.int .i64 x] 3)) hro (Below.refl _ _)
      have hszA : w1.heap.size < (wr.alloc (.cells #[.int .i64 x] 3)).drew.heap.size := lt_of_heap hroA
      go_wp2_with fail
      go_region_law (refine step_append_own rfl _ _ 33 rfl (w1.heap.size + 1) 3 i (.int .i64 0) 1 8 Tryd.underlying33 hi hz0 hz1 hz2 rfl (by decide) _ k _ rfl (World.ownsRow.alloc ho.drew _) ⟨wr.heap.size, 0, none⟩ 1 1 [.int .i64 x] rfl rfl (cells_new _ _ _) (iv_one [_]) (by unfold maxLen; omega) (by omega) (le_alloc hsz _) ?_; intro v1 w2 ho1 hg1; have hr2 := (hg1.block w1.heap.size hszA (fun e => hvb e.symm)).trans hroA; have p4 : w2.cell? ⟨w1.heap.size, 4, none⟩ = some v := cells_at hr2 4 _ rfl; have pf4 := frozen_at hr2 4; obtain ⟨qa, qc, hq⟩ := owns_shape ho1; subst hq)
      all_goals
        go_wp2_with fail
        go_roundw
        case rel =>
          have hb2 : Below w1.heap.size w1 w2 := Below.grown (hbw.drew.alloc hbw.size _) hg1 (le_alloc hbw.size _) (fun q e => Nat.le_trans (Nat.le_succ _) (ho.lt q e).1)
          have hR : ∃ (k' : Nat) (v' : Value), k' ≤ vl.length ∧ (Value.int .i64 ((k : Int) + 1)) = .int .i64 k' ∧ Below w1.heap.size w1 (w2.setCell ⟨w1.heap.size, 4, none⟩ (.slice qa (k + 1) qc)) ∧ (w2.setCell ⟨w1.heap.size, 4, none⟩ (.slice qa (k + 1) qc)).heap[w1.heap.size]? = some (.cells #[.int .i64 au, .int .i64 rd, .slice xa bl.length xc, .slice ya pl.length yc, v'] 35 (0, 0)) ∧ (w2.setCell ⟨w1.heap.size, 4, none⟩ (.slice qa (k + 1) qc)).ownsRow (w1.heap.size + 1) 3 1 v' k' (iv (vl.take k')) :=
            ⟨k + 1, .slice qa (k + 1) qc, by omega, by go_num, hb2.setCell (Nat.le_refl _) _, by simpa using heap_setCell_same _ _ 4 _ _ (.slice qa (k + 1) qc) hr2, by rw [hst.out]; exact owns_far (by simpa [iv] using ho1) _ _ _ (by omega)⟩
          first | exact hR | ((repeat apply Exists.intro); exact ⟨hR, rfl⟩)
        case measure => simp [intOf]; omega
    · obtain rfl : k = vl.length := by omega
      rw [List.take_of_length_le (Nat.le_refl _)] at ho
      obtain ⟨za, zc, hz, _, hZ, hzf⟩ := intsAt_of_owns ho
      subst hz
      have s1 := (hbw.block _ (lt_of_heap r1)).trans r1
      have d0 := cells_at s1 0 _ rfl
      have d1 := cells_at s1 1 _ rfl
      have d2 := cells_at s1 2 _ rfl
      have d3 := cells_at s1 3 _ rfl
      have d4 := cells_at s1 4 _ rfl
      have f0 := frozen_at s1 0
      have f1 := frozen_at s1 1
      have f2 := frozen_at s1 2
      have f3 := frozen_at s1 3
      have f4 := frozen_at s1 4
      have o0 : wr.cell? ⟨w1.heap.size, 0, none⟩ = some (.int .i64 au) := cells_at hro 0 _ rfl
      have o1 : wr.cell? ⟨w1.heap.size, 1, none⟩ = some (.int .i64 rd) := cells_at hro 1 _ rfl
      have o2 : wr.cell? ⟨w1.heap.size, 2, none⟩ = some (.slice xa bl.length xc) := cells_at hro 2 _ rfl
      have o3 : wr.cell? ⟨w1.heap.size, 3, none⟩ = some (.slice ya pl.length yc) := cells_at hro 3 _ rfl
      have g1 : w.heap.size + 1 < w.heap.size + 1 + 1 := Nat.lt_succ_self _
      have hne : ∀ sb so, za = some ⟨sb, so, none⟩ → w.heap.size + 1 ≠ sb := fun sb so e => by have := hzf sb so e; omega
      have hWr := hW1.trans (hbw.mono hW1.size)
      have hL1r := hL1.below hbw
      have hL2r := hL2.below hbw
      go_wp2_with fail
      refine bodyPost_ret (v := .agg #[.int .i64 au, .int .i64 rd, .slice xa bl.length xc, .slice ya pl.length yc, .slice za vl.length zc]) (by simp [results, Tryd.results21, go_sem, d0, d1, d2, d3, d4]) rfl ?_
      refine ⟨xa, xc, xs, ya, yc, ys, za, ⟨zc, rfl⟩, hS1, hS2, ?_, ?_, ?_, ?_, hF1.mono (by omega), hF2.mono (by omega), fun sb so e => by have := hzf sb so e; omega, fun sb so e => by simpa using Nat.lt_of_lt_of_le (hU1 sb so e) hbw.size, fun sb so e => by simpa using Nat.lt_of_lt_of_le (hU2 sb so e) hbw.size⟩
      · exact ((((hL1r.setCell hF1 _ _ _ g1).setCell hF1 _ _ _ g1).setCell hF1 _ _ _ g1).setCell hF1 _ _ _ g1).setCell hF1 _ _ _ g1
      · exact ((((hL2r.setCell hF2 _ _ _ g1).setCell hF2 _ _ _ g1).setCell hF2 _ _ _ g1).setCell hF2 _ _ _ g1).setCell hF2 _ _ _ g1
      · exact ((((hZ.setCell _ _ _ hne).setCell _ _ _ hne).setCell _ _ _ hne).setCell _ _ _ hne).setCell _ _ _ hne
      · exact ((((hWr.setCell (Nat.le_succ _) _).setCell (Nat.le_succ _) _).setCell (Nat.le_succ _) _).setCell (Nat.le_succ _) _).setCell (Nat.le_succ _) _
end Go.Proofs.YtgbomdikhidkoaaDoor

namespace Go.Proofs.YtgbomdikhidkoaaDoor
open Go.RowKit

set_option maxRecDepth 100000 in
set_option maxHeartbeats 1000000 in
theorem sameListsL_eq (ps qs : List Part) (sa sb : Option Addr) (c d : Nat) (w : World) (hS : Same ps qs) (ha : ListAt w sa c ps) (hb : ListAt w sb d qs) :
    Calls Tryd.prog 19 #[.slice sa qs.length c, .slice sb qs.length d] w fun e w' => e = .returned (.bool true) ∧ Below w.heap.size w w' := by
  have hl := hS.length
  have hF : Hid (ps.length = qs.length) := hl
  have HS : Hid _ := hS
  have hsm := hb.small
  clear hl hS
  go_enter Tryd.func19, Tryd.ntmps19
  go_wp2_with fail
  go_loopw [5] (fun j wr => ∃ k : Nat, k ≤ qs.length ∧ j = .int .i64 k ∧ Below w.heap.size w wr) (fun j _ => qs.length - (intOf j).toNat)
  case atStart => exact ⟨0, Nat.zero_le _, rfl, Below.refl _ _⟩
  case round =>
    obtain ⟨k, hk, rfl, hbw⟩ := hrel
    by_cases hlt2 : k < qs.length
    · have hlt : k < ps.length := by have := hF.out; omega
      obtain ⟨ab, ao, rfl, hca⟩ : ∃ ab ao, sa = some ⟨ab, ao, none⟩ ∧ ∀ j (h : j < ps.length), w.cell? ⟨ab, ao + j, none⟩ = some (.slice (ps[j]).sa (ps[j]).bs.length (ps[j]).cap) := by
        rcases ha.parts.cells with h | h
        · subst h; simp at hlt
        · exact h
      obtain ⟨bb, bo, rfl, hcb⟩ : ∃ bb bo, sb = some ⟨bb, bo, none⟩ ∧ ∀ j (h : j < qs.length), w.cell? ⟨bb, bo + j, none⟩ = some (.slice (qs[j]).sa (qs[j]).bs.length (qs[j]).cap) := by
        rcases hb.parts.cells with h | h
        · subst h; simp at hlt2
        · exact h
      have ka := (hbw.cell (p := ⟨ab, ao + k, none⟩) (block_lt_of_cell (hca k hlt))).trans (hca k hlt)
      have kb := (hbw.cell (p := ⟨bb, bo + k, none⟩) (block_lt_of_cell (hcb k hlt2))).trans (hcb k hlt2)
      have hpa := ((ha.parts.each ps[k] (List.getElem_mem hlt)).below hbw).below (Below.refl _ _).drew
      have hpb := ((hb.parts.each qs[k] (List.getElem_mem hlt2)).below hbw).below (Below.refl _ _).drew
      have hpq : (ps[k]).bs = (qs[k]).bs := by
        have h1 : (ps.map (·.bs))[k]? = (qs.map (·.bs))[k]? := by rw [show ps.map (·.bs) = qs.map (·.bs) from HS.out]
        simpa [hlt, hlt2] using h1
      have hltI : (k : Int) < qs.length := by omega
      have h0 : (0 : Int) ≤ k := by omega
      clear hca hcb
      generalize ps[k] = p at *
      generalize qs[k] = q at *
      obtain ⟨pa, pc, pb⟩ := p
      obtain ⟨qa, qc, qb⟩ := q
      simp only at hpq ka kb hpa hpb
      subst hpq
      have t1 := run_text wr.drew pa pb.length pc pb rfl hpa
      have t2 := run_text wr.drew qa pb.length qc pb rfl hpb
      generalize bstr pb = S at *
      go_wp2_with fail
      go_region
      all_goals
        go_wp2_with fail
        go_roundw
        case rel =>
          have hR : ∃ k' : Nat, k' ≤ qs.length ∧ (Value.int .i64 ((k : Int) + 1)) = .int .i64 k' ∧ Below w.heap.size w wr.drew := ⟨k + 1, by omega, by go_num, hbw.drew⟩
          first | exact hR | ((repeat apply Exists.intro); exact ⟨hR, rfl⟩)
        case measure => simp [intOf]; omega
    · obtain rfl : k = qs.length := by omega
      have hltI : ¬ (qs.length : Int) < qs.length := by omega
      go_wp2_with fail
      go_ret
      exact ⟨rfl, hbw⟩
set_option maxRecDepth 100000 in
set_option maxHeartbeats 1000000 in
theorem sameHeaderL_eq (au rd : Int) (xa : Option Addr) (xc : Nat) (xl : List Part) (ya : Option Addr) (yc : Nat) (yl : List Part) (ba : Option Addr) (bc : Nat) (bl : List Part) (pa : Option Addr) (pc : Nat) (pl : List Part) (w : World) (s1 : Same xl bl) (s2 : Same yl pl) (h1 : ListAt w xa xc xl) (h2 : ListAt w ya yc yl) (h3 : ListAt w ba bc bl) (h4 : ListAt w pa pc pl) :
    Calls Tryd.prog 35 #[.agg #[.int .i64 au, .int .i64 rd, .slice xa bl.length xc, .slice ya pl.length yc], .agg #[.int .i64 au, .int .i64 rd, .slice ba bl.length bc, .slice pa pl.length pc]] w fun e w' => e = .returned (.bool true) ∧ Below w.heap.size w w' := by
  have hA : Below w.heap.size w ((w.alloc (.cells #[.int .i64 au, .int .i64 rd, .slice xa bl.length xc, .slice ya pl.length yc] 32)).alloc (.cells #[.int .i64 au, .int .i64 rd, .slice ba bl.length bc, .slice pa pl.length pc] 32)) := ((Below.refl _ _).alloc (Nat.le_refl _) _).alloc (by simp) _
  have hB : ∀ wx, Below w.heap.size w wx → _ := fun wx h => sameListsL_eq xl bl xa ba xc bc wx s1 (h1.below h) (h3.below h)
  have hP : ∀ wx, Below w.heap.size w wx → _ := fun wx h => sameListsL_eq yl pl ya pa yc pc wx s2 (h2.below h) (h4.below h)
  have HB : Hid _ := hB
  have HP : Hid _ := hP
  clear hB hP h1 h2 h3 h4 s1 s2
  go_enter Tryd.func35, Tryd.ntmps35
  go_wp2_with fail
  refine (HB.out _ hA).mono ?_
  rintro e w1 ⟨rfl, hb1⟩
  have r1 := row_new hb1
  have r0 := row_new (below_alloc hb1)
  rw [size_alloc] at r1
  replace hb1 := below_alloc (below_alloc hb1)
  have c3 : w1.cell? ⟨w.heap.size, 3, none⟩ = some (.slice ya pl.length yc) := cells_at r0 3 _ rfl
  have d3 : w1.cell? ⟨w.heap.size + 1, 3, none⟩ = some (.slice pa pl.length pc) := cells_at r1 3 _ rfl
  go_wp2_with fail
  refine (HP.out _ hb1).mono ?_
  rintro e w2 ⟨rfl, hb2⟩
  go_wp2_with fail
  go_ret
  exact ⟨rfl, hb1.trans (hb2.mono hb1.size)⟩
end Go.Proofs.YtgbomdikhidkoaaDoor

namespace Go.Proofs.YtgbomdikhidkoaaDoor
open Go.RowKit

set_option maxRecDepth 100000 in
set_option maxHeartbeats 1000000 in
theorem sameIntsL_eq (vl : List Int) (sa sb : Option Addr) (c d : Nat) (w : World) (hl : vl.length ≤ 9000000000000000000) (ha : IntsAt w sa vl) (hb : IntsAt w sb vl) :
    Calls Tryd.prog 36 #[.slice sa vl.length c, .slice sb vl.length d] w fun e w' => e = .returned (.bool true) ∧ Below w.heap.size w w' := by
  go_enter Tryd.func36, Tryd.ntmps36
  go_wp2_with fail
  go_loopw [5] (fun j wr => ∃ k : Nat, k ≤ vl.length ∧ j = .int .i64 k ∧ Below w.heap.size w wr) (fun j _ => vl.length - (intOf j).toNat)
  case atStart => exact ⟨0, Nat.zero_le _, rfl, Below.refl _ _⟩
  case round =>
    obtain ⟨k, hk, rfl, hbw⟩ := hrel
    by_cases hlt2 : k < vl.length
    · obtain ⟨ab, ao, rfl, hca⟩ : ∃ ab ao, sa = some ⟨ab, ao, none⟩ ∧ ∀ j, j < vl.length → wr.cell? ⟨ab, ao + j, none⟩ = some (.int .i64 (vl.getD j 0)) := by
        rcases (ha.below hbw).cells with h | h
        · subst h; simp at hlt2
        · exact h
      obtain ⟨bb, bo, rfl, hcb⟩ : ∃ bb bo, sb = some ⟨bb, bo, none⟩ ∧ ∀ j, j < vl.length → wr.cell? ⟨bb, bo + j, none⟩ = some (.int .i64 (vl.getD j 0)) := by
        rcases (hb.below hbw).cells with h | h
        · subst h; simp at hlt2
        · exact h
      have ka := hca k hlt2
      have kb := hcb k hlt2
      have hltI : (k : Int) < vl.length := by omega
      have h0 : (0 : Int) ≤ k := by omega
      clear hca hcb
      generalize vl.getD k 0 = x at *
      go_wp2_with fail
      go_region
      all_goals
        go_wp2_with fail
        go_roundw
        case rel =>
          have hR : ∃ k' : Nat, k' ≤ vl.length ∧ (Value.int .i64 ((k : Int) + 1)) = .int .i64 k' ∧ Below w.heap.size w wr.drew := ⟨k + 1, by omega, by go_num, hbw.drew⟩
          first | exact hR | ((repeat apply Exists.intro); exact ⟨hR, rfl⟩)
        case measure => simp [intOf]; omega
    · obtain rfl : k = vl.length := by omega
      have hltI : ¬ (vl.length : Int) < vl.length := by omega
      go_wp2_with fail
      go_ret
      exact ⟨rfl, hbw⟩
set_option maxRecDepth 100000 in
set_option maxHeartbeats 1000000 in
theorem sameCertR_eq (au rd : Int) (xa : Option Addr) (xc : Nat) (xl : List Part) (ya : Option Addr) (yc : Nat) (yl : List Part) (za : Option Addr) (zc : Nat) (zl : List Int) (ba : Option Addr) (bc : Nat) (bl : List Part) (pa : Option Addr) (pc : Nat) (pl : List Part) (va : Option Addr) (vc : Nat) (w : World) (S1 : Same xl bl) (S2 : Same yl pl) (hl : zl.length ≤ 9000000000000000000) (a1 : ListAt w xa xc xl) (a2 : ListAt w ya yc yl) (a3 : IntsAt w za zl) (b1 : ListAt w ba bc bl) (b2 : ListAt w pa pc pl) (b3 : IntsAt w va zl) :
    Calls Tryd.prog 15 #[.agg #[.int .i64 au, .int .i64 rd, .slice xa xl.length xc, .slice ya yl.length yc, .slice za zl.length zc], .agg #[.int .i64 au, .int .i64 rd, .slice ba bl.length bc, .slice pa pl.length pc, .slice va zl.length vc]] w fun e w' => e = .returned (.bool true) ∧ Below w.heap.size w w' := by
  rw [S1.length, S2.length]
  have hA : Below w.heap.size w ((w.alloc (.cells #[.int .i64 au, .int .i64 rd, .slice xa bl.length xc, .slice ya pl.length yc, .slice za zl.length zc] 35)).alloc (.cells #[.int .i64 au, .int .i64 rd, .slice ba bl.length bc, .slice pa pl.length pc, .slice va zl.length vc] 35)) := ((Below.refl _ _).alloc (Nat.le_refl _) _).alloc (by rw [size_alloc]; omega) _
  have q0 := heap_alloc2_old w (.cells #[.int .i64 au, .int .i64 rd, .slice xa bl.length xc, .slice ya pl.length yc, .slice za zl.length zc] 35) (.cells #[.int .i64 au, .int .i64 rd, .slice ba bl.length bc, .slice pa pl.length pc, .slice va zl.length vc] 35)
  have q1 : ((w.alloc (.cells #[.int .i64 au, .int .i64 rd, .slice xa bl.length xc, .slice ya pl.length yc, .slice za zl.length zc] 35)).alloc (.cells #[.int .i64 au, .int .i64 rd, .slice ba bl.length bc, .slice pa pl.length pc, .slice va zl.length vc] 35)).heap[w.heap.size + 1]? = some (.cells #[.int .i64 au, .int .i64 rd, .slice ba bl.length bc, .slice pa pl.length pc, .slice va zl.length vc] 35 (0, 0)) := by
    have := heap_alloc_new (w.alloc (.cells #[.int .i64 au, .int .i64 rd, .slice xa bl.length xc, .slice ya pl.length yc, .slice za zl.length zc] 35)) (.cells #[.int .i64 au, .int .i64 rd, .slice ba bl.length bc, .slice pa pl.length pc, .slice va zl.length vc] 35)
    rw [size_alloc] at this; exact this
  have HS1 : Hid _ := S1
  have HS2 : Hid _ := S2
  clear S1 S2
  go_enter Tryd.func15, Tryd.ntmps15
  go_wp2_with fail
  generalize (w.alloc (.cells #[.int .i64 au, .int .i64 rd, .slice xa bl.length xc, .slice ya pl.length yc, .slice za zl.length zc] 35)).alloc (.cells #[.int .i64 au, .int .i64 rd, .slice ba bl.length bc, .slice pa pl.length pc, .slice va zl.length vc] 35) = W0 at hA q0 q1 ⊢
  refine (sameHeaderL_eq au rd xa xc xl ya yc yl ba bc bl pa pc pl W0 HS1.out HS2.out (a1.below hA) (a2.below hA) (b1.below hA) (b2.below hA)).mono ?_
  rintro e w1 ⟨he, hb1⟩
  subst he
  dsimp only
  have r0 := (hb1.block _ (lt_of_heap q0)).trans q0
  have r1 := (hb1.block _ (lt_of_heap q1)).trans q1
  have k4 := cells_at r0 4 _ rfl
  have m4 := cells_at r1 4 _ rfl
  have hB1 := hA.trans (hb1.mono hA.size)
  go_wp2_with fail
  refine (sameIntsL_eq zl za va zc vc w1 hl (a3.below hB1) (b3.below hB1)).mono ?_
  rintro e w2 ⟨he, hb2⟩
  subst he
  dsimp only
  go_wp2_with fail
  go_ret
  exact ⟨rfl, hB1.trans (hb2.mono hB1.size)⟩
end Go.Proofs.YtgbomdikhidkoaaDoor
