/- The walk of DagInserts. -/
import Derived.Test.YtbehmcflllleaaaDoorDagInsertsM0
import Derived.Test.YtbehmcflllleaaaDoorDagInsertsM42
import Derived.Deep.RegionLaw
import Derived.Test.YtbehmcflllleaaaDoorCtFar
import Derived.Test.YtbehmcflllleaaaDoorDagInsertsM12
import Derived.Deep.RegionHeld3
namespace Go.Proofs.YtbehmcflllleaaaDoor
open Go.RowKit

set_option maxRecDepth 100000 in
set_option maxHeartbeats 1000000 in
theorem cloneCerts_own (ls : List Ct) (sa : Option Addr) (n cap : Nat) (w : World) (hn : n = ls.length) (hl4 : ls.length ≤ 400) (hc : CertsAt w sa ls) (he : ∀ c ∈ ls, CtAt w c) (hf : ∀ c ∈ ls, c.v.f = 0) :
    Calls Tryd.prog 46 #[.slice sa n cap] w fun e w' => ∃ v ks, e = .returned v ∧ cvs ks = cvs ls ∧ w'.ownsRow w.heap.size 35 5 v ls.length (ctv ks) ∧ ApartC w' w.heap.size v ks ∧ Below w.heap.size w w' := by
  subst hn
  obtain ⟨i, hi, hz0, hz1, hz2⟩ := info_parts infoCert
  have HE : Hid (∀ c ∈ ls, CtAt w c) := he
  have HF : Hid (∀ c ∈ ls, c.v.f = 0) := hf
  clear he hf
  go_enter Tryd.func46, Tryd.ntmps46
  go_wp2_with (at_make; refine wpList_make_own _ rfl _ _ 22 rfl w.heap.size 35 i (.agg #[.int .i64 0, .int .i64 0, .slice none 0 0, .slice none 0 0, .slice none 0 0]) 5 Tryd.underlying22 hi hz0 hz1 .i64 .i64 _ (ls.length + 1) rfl rfl (by go_num) (by rw [hz2]; omega) (by unfold maxLen; omega) (Nat.le_refl _) ?_; intro w1 ho1 hg1)
  go_wp2_with fail
  go_loopw [12, 3] (fun j v wr => ∃ (k : Nat) (ks : List Ct), k ≤ ls.length ∧ j = .int .i64 k ∧ cvs ks = (cvs ls).take k ∧ wr.ownsRow w.heap.size 35 5 v k (ctv ks) ∧ ApartC wr w.heap.size v ks ∧ Below w.heap.size w wr) (fun j _ _ => ls.length - (intOf j).toNat)
  case atStart => exact ⟨0, [], Nat.zero_le _, rfl, rfl, ho1, (fun p hp => by cases hp), grown_none hg1⟩
  case round =>
    obtain ⟨k, ks, hk, rfl, hS, ho, hap, hb⟩ := hrel
    have HS : Hid (cvs ks = (cvs ls).take k) := hS
    clear hS
    by_cases hlt : k < ls.length
    · obtain ⟨sb, so, rfl, c0, c1, c2, c3, c4⟩ := (hc.below hb).at k hlt
      have hx := (HE.out (ls[k]) (List.getElem_mem hlt)).below hb
      obtain ⟨m1, m2, m3, m4, m5⟩ := ct_small (HF.out (ls[k]) (List.getElem_mem hlt))
      have hst : Hid ((cvs ls).take (k + 1) = (cvs ls).take k ++ [(ls[k]).v]) := by
        show _ = _
        rw [List.take_succ_eq_append_getElem (by rw [cvs_length]; exact hlt)]
        simp [cvs]
      have hltI : (k : Int) < ls.length := by omega
      have HCC : Hid (∀ W : World, Below wr.heap.size wr W → _) := fun W hW => cloneCert_any (ls[k]) W (hx.below hW) m1 m2 (by omega) m4 m5
      clear hx m1 m2 m3 m4 m5
      generalize ls[k] = s at *
      have hA0 : Below wr.heap.size wr (wr.alloc (.cells #[.int .i64 s.au, .int .i64 s.rd, .slice s.ba s.bl.length s.bc, .slice s.pa s.pl.length s.pc, .slice s.va s.vl.length s.vc] 35)) := (Below.refl _ _).alloc (Nat.le_refl _) _
      go_wp2_with fail
      refine (HCC.out _ hA0).mono ?_
      rintro e w2 ⟨x, he, hxv, hxa, hxin, hb2⟩
      subst he
      dsimp only
      rw [size_alloc] at hxin
      replace hb2 := below_alloc hb2
      have hB2 := hb.trans (hb2.mono hb.size)
      have hob := owns_keep ho hb2
      have hnew := cells_new w2 [.int .i64 x.au, .int .i64 x.rd, .slice x.ba x.bl.length x.bc, .slice x.pa x.pl.length x.pc, .slice x.va x.vl.length x.vc] 35
      have HXV : Hid (x.v = s.v) := hxv
      have HIN : Hid (∀ b, CtIn x b → wr.heap.size + 1 ≤ b) := hxin
      clear hxv hxin HCC
      go_wp2_with (at_builtin; refine wpList_append_own_at _ rfl _ _ 22 rfl w.heap.size 35 i (.agg #[.int .i64 0, .int .i64 0, .slice none 0 0, .slice none 0 0, .slice none 0 0]) 5 88 Tryd.underlying22 hi hz0 hz1 hz2 rfl (by decide) _ k _ rfl (World.ownsRow.alloc hob _) ⟨w2.heap.size, 0, none⟩ 1 1 [.int .i64 x.au, .int .i64 x.rd, .slice x.ba x.bl.length x.bc, .slice x.pa x.pl.length x.pc, .slice x.va x.vl.length x.vc] rfl rfl hnew (by intro u hu; simp at hu; rcases hu with rfl | rfl | rfl | rfl | rfl <;> rfl) (by unfold maxLen; omega) (by omega) (le_alloc hB2.size _) ?_; intro v1 w3 ho3 hg3 _ hat)
      have G := Grew.of hg3 hat
      have hap3 := hap.more (c := x) hb.size ho hb2 (fun b hb9 => by have := HIN.out b hb9; omega) hxa G
      have hB4 := Below.grown (hB2.alloc hB2.size _) hg3 (le_alloc hB2.size _) (fun q e => (hob.lt q e).1)
      go_wp2_with fail
      go_roundw
      case rel =>
        have hR : ∃ (k' : Nat) (ks' : List Ct), k' ≤ ls.length ∧ (Value.int .i64 ((k : Int) + 1)) = .int .i64 k' ∧ cvs ks' = (cvs ls).take k' ∧ w3.ownsRow w.heap.size 35 5 v1 k' (ctv ks') ∧ ApartC w3 w.heap.size v1 ks' ∧ Below w.heap.size w w3 :=
          ⟨k + 1, ks ++ [x], by omega, by go_num, by rw [hst.out, ← HS.out]; simp [cvs, HXV.out], by rw [ctv_snoc]; exact ho3, hap3, hB4⟩
        first | exact hR | ((repeat apply Exists.intro); exact ⟨hR, rfl⟩)
      case measure => simp [intOf]; omega
    · obtain rfl : k = ls.length := by omega
      have hS := HS.out
      rw [List.take_of_length_le (by rw [cvs_length]; exact Nat.le_refl _)] at hS
      clear HS
      go_wp2_with fail
      go_ret
      exact ⟨_, ks, rfl, hS, ho, hap, hb⟩
end Go.Proofs.YtbehmcflllleaaaDoor

namespace Go.Proofs.YtbehmcflllleaaaDoor
open Go.RowKit

/-- P5.4: what is told. -/
def insE (l : List CV) (c : CV) : Int := if dagF l ≠ 0 then dagF l else if c.f ≠ 0 then c.f else if takF l c.au c.rd c.pl ≠ 0 then takF l c.au c.rd c.pl else if 400 ≤ l.length then 6 else 0
/-- What Insert answers. -/
def InAt (B : Nat) (w' : World) (e : Ending) (l : List CV) (c : CV) : Prop :=
  (insE l c ≠ 0 ∧ e = .returned (.tuple #[.agg #[.slice none 0 0], .int .i64 (insE l c)])) ∨ (insE l c = 0 ∧ ∃ ra rc ks, e = .returned (.tuple #[.agg #[.slice ra (List.length ks) rc], .int .i64 0]) ∧ cvs ks = l ++ [c] ∧ DagAt w' ra rc ks ∧ (∀ sb so, ra = some ⟨sb, so, none⟩ → B ≤ sb) ∧ ∀ k ∈ ks, ∀ q, CtIn k q → B ≤ q)
set_option maxRecDepth 100000 in
theorem InAt.err {B : Nat} {w' : World} {l : List CV} {c : CV} {x : Int} (h : insE l c = x) (hx : x ≠ 0) : InAt B w' (.returned (.tuple #[.agg #[.slice none 0 0], .int .i64 x])) l c := .inl ⟨by rw [h]; exact hx, by rw [h]⟩
set_option maxRecDepth 100000 in
set_option maxHeartbeats 2000000 in
theorem dagInsert_any (ls : List Ct) (sa : Option Addr) (n cap : Nat) (c : Ct) (w : World) (hn : n = ls.length) (hd : DagAt w sa cap ls) (hc : CtAt w c) (hT : Tabs w) :
    Calls Tryd.prog 20 #[.agg #[.slice sa n cap], .agg #[.int .i64 c.au, .int .i64 c.rd, .slice c.ba c.bl.length c.bc, .slice c.pa c.pl.length c.pc, .slice c.va c.vl.length c.vc]] w fun e w' => InAt w.heap.size w' e (cvs ls) c.v ∧ Below w.heap.size w w' := by
  subst hn
  obtain ⟨i, hi, hz0, hz1, hz2⟩ := info_parts infoCert
  have hA : Below w.heap.size w (((w.alloc (.cells #[.slice sa ls.length cap] 24)).alloc (.cells #[.int .i64 c.au, .int .i64 c.rd, .slice c.ba c.bl.length c.bc, .slice c.pa c.pl.length c.pc, .slice c.va c.vl.length c.vc] 35)).alloc (.cells #[.slice none 0 0] 24)) := (((Below.refl _ _).alloc (Nat.le_refl _) _).alloc (by rw [size_alloc]; omega) _).alloc (by rw [size_alloc, size_alloc]; omega) _
  have q0 : (((w.alloc (.cells #[.slice sa ls.length cap] 24)).alloc (.cells #[.int .i64 c.au, .int .i64 c.rd, .slice c.ba c.bl.length c.bc, .slice c.pa c.pl.length c.pc, .slice c.va c.vl.length c.vc] 35)).alloc (.cells #[.slice none 0 0] 24)).heap[w.heap.size]? = some (.cells #[.slice sa ls.length cap] 24 (0, 0)) := heap_keep (heap_keep (heap_alloc_new w _))
  have q1 : (((w.alloc (.cells #[.slice sa ls.length cap] 24)).alloc (.cells #[.int .i64 c.au, .int .i64 c.rd, .slice c.ba c.bl.length c.bc, .slice c.pa c.pl.length c.pc, .slice c.va c.vl.length c.vc] 35)).alloc (.cells #[.slice none 0 0] 24)).heap[w.heap.size + 1]? = some (.cells #[.int .i64 c.au, .int .i64 c.rd, .slice c.ba c.bl.length c.bc, .slice c.pa c.pl.length c.pc, .slice c.va c.vl.length c.vc] 35 (0, 0)) := heap_keep (by have := heap_alloc_new (w.alloc (.cells #[.slice sa ls.length cap] 24)) (.cells #[.int .i64 c.au, .int .i64 c.rd, .slice c.ba c.bl.length c.bc, .slice c.pa c.pl.length c.pc, .slice c.va c.vl.length c.vc] 35); rw [size_alloc] at this; exact this)
  have q2 : (((w.alloc (.cells #[.slice sa ls.length cap] 24)).alloc (.cells #[.int .i64 c.au, .int .i64 c.rd, .slice c.ba c.bl.length c.bc, .slice c.pa c.pl.length c.pc, .slice c.va c.vl.length c.vc] 35)).alloc (.cells #[.slice none 0 0] 24)).heap[w.heap.size + 1 + 1]? = some (.cells #[.slice none 0 0] 24 (0, 0)) := by
    have := heap_alloc_new ((w.alloc (.cells #[.slice sa ls.length cap] 24)).alloc (.cells #[.int .i64 c.au, .int .i64 c.rd, .slice c.ba c.bl.length c.bc, .slice c.pa c.pl.length c.pc, .slice c.va c.vl.length c.vc] 35)) (.cells #[.slice none 0 0] 24)
    rw [size_alloc, size_alloc] at this; exact this
  go_enter Tryd.func20, Tryd.ntmps20
  go_wp2_with fail
  generalize ((w.alloc (.cells #[.slice sa ls.length cap] 24)).alloc (.cells #[.int .i64 c.au, .int .i64 c.rd, .slice c.ba c.bl.length c.bc, .slice c.pa c.pl.length c.pc, .slice c.va c.vl.length c.vc] 35)).alloc (.cells #[.slice none 0 0] 24) = W0 at hA q0 q1 q2 ⊢
  generalize hO : w.heap.size + 1 + 1 = O at q2 ⊢
  have HOg : w.heap.size ≤ O := by omega
  have HOn : w.heap.size + 1 < O := by omega
  clear hO
  refine (open_any ls sa _ cap W0 rfl (hd.below hA) (hT.below hA)).mono ?_
  rintro e w1 ⟨hOp, hb1⟩
  have hB1 := hA.trans (hb1.mono hA.size)
  have r0 := (hb1.block _ (lt_of_heap q0)).trans q0
  have r1 := (hb1.block _ (lt_of_heap q1)).trans q1
  have r2 := (hb1.block _ (lt_of_heap q2)).trans q2
  rcases hOp with ⟨hF, he⟩ | ⟨hF, ca, cc, da, dc, ds, he, hs⟩
  · have HM : Hid (insE (cvs ls) c.v = 12) := by
      show _ = _
      rw [insE, hF]; rfl
    clear hF
    subst he
    dsimp only
    have rA := heap_keep (o := .cells #[.slice none 0 0, .slice none 0 0] 56) r2
    have d0 := cells_at rA 0 _ rfl
    have f0 := frozen_at rA 0
    have hB1A := hB1.alloc hB1.size (.cells #[.slice none 0 0, .slice none 0 0] 56)
    go_wp2_with fail
    refine bodyPost_ret (v := .tuple #[.agg #[.slice none 0 0], .int .i64 12]) (by simp [results, Tryd.results20, go_sem, d0]) rfl ⟨InAt.err HM.out (by decide), hB1A.setCell HOg _⟩
  · have HM : Hid (insE (cvs ls) c.v = if c.v.f ≠ 0 then c.v.f else if takF (cvs ls) c.v.au c.v.rd c.v.pl ≠ 0 then takF (cvs ls) c.v.au c.v.rd c.v.pl else if 400 ≤ (cvs ls).length then 6 else 0) := by
      show _ = _
      rw [insE, hF]; rfl
    have HAF : Hid (∀ c ∈ ls, c.v.f = 0) := all_f hF
    have hle := dag_le hF
    clear hF
    subst he
    dsimp only
    have hA1 := (Below.refl w1.heap.size w1).alloc (Nat.le_refl _) (.cells #[.slice ca ls.length cc, .slice da ls.length dc] 56)
    have p1 := heap_alloc_new w1 (.cells #[.slice ca ls.length cc, .slice da ls.length dc] 56)
    have rA0 := heap_keep (o := .cells #[.slice ca ls.length cc, .slice da ls.length dc] 56) r0
    have rA1 := heap_keep (o := .cells #[.slice ca ls.length cc, .slice da ls.length dc] 56) r1
    have rA2 := heap_keep (o := .cells #[.slice ca ls.length cc, .slice da ls.length dc] 56) r2
    have e0 := cells_at rA1 0 _ rfl
    have e1 := cells_at rA1 1 _ rfl
    have e2 := cells_at rA1 2 _ rfl
    have e3 := cells_at rA1 3 _ rfl
    have e4 := cells_at rA1 4 _ rfl
    go_wp2_with fail
    generalize w1.alloc (.cells #[.slice ca ls.length cc, .slice da ls.length dc] 56) = W1 at hA1 p1 rA0 rA1 rA2 e0 e1 e2 e3 e4 ⊢
    have hB1A := hB1.trans (hA1.mono hB1.size)
    have c1 := hc.below hB1A
    have HCK := checkCert_any c.au c.rd c.ba c.bc c.bl c.pa c.pc c.pl c.va c.vc c.vl W1 c1.hat.lb c1.hat.lp c1.ints c1.vle
    rw [Ct.f_v] at HCK
    refine HCK.mono ?_
    rintro e w2 ⟨he, hb2⟩
    subst he
    dsimp only
    clear HCK e0 e1 e2 e3 e4 c1
    have hB2 := hB1A.trans (hb2.mono hB1A.size)
    have s0 := (hb2.block _ (lt_of_heap rA0)).trans rA0
    have s1 := (hb2.block _ (lt_of_heap rA1)).trans rA1
    have s2 := (hb2.block _ (lt_of_heap rA2)).trans rA2
    have p2 := (hb2.block _ (lt_of_heap p1)).trans p1
    have hs2 := (hs.below hA1).below hb2
    by_cases hx : c.v.f = 0
    · have HM2 : Hid (insE (cvs ls) c.v = if takF (cvs ls) c.v.au c.v.rd c.v.pl ≠ 0 then takF (cvs ls) c.v.au c.v.rd c.v.pl else if 400 ≤ (cvs ls).length then 6 else 0) := by
        show _ = _
        rw [HM.out, if_neg (fun h => h hx)]
      obtain ⟨y1, y2, y3, y4, y5, y6⟩ := headerF_ok (certF_head (vl := c.vl) (by rw [Ct.f_v]; exact hx))
      have HTK := takes_any ls ca cc da dc ds c.au c.rd c.ba c.bl.length c.bc c.pl c.pa c.pc w2 hs2 y4 y2 (hc.below hB2).hat.lp.parts
      obtain ⟨m1, m2, m3, m4, m5⟩ := ct_small hx
      have HCC : Hid (∀ W : World, Below w.heap.size w W → _) := fun W hW => cloneCert_any c W (hc.below hW) m1 m2 (by omega) m4 m5
      have HCS : Hid (∀ W : World, Below w.heap.size w W → _) := fun W hW => cloneCerts_own ls sa ls.length cap W rfl hle (hd.certs.below hW) (fun x hx => (hd.each x hx).below hW) HAF.out
      rw [hx]
      clear hx y1 y2 y3 y4 y5 y6 m1 m2 m3 m4 m5 HM
      have e0 := cells_at s1 0 _ rfl
      have e1 := cells_at s1 1 _ rfl
      have e2 := cells_at s1 2 _ rfl
      have e3 := cells_at s1 3 _ rfl
      have g0 := cells_at p2 0 _ rfl
      have g1 := cells_at p2 1 _ rfl
      go_wp2_with fail
      refine HTK.mono ?_
      rintro e w3 ⟨he, hb3⟩
      subst he
      dsimp only
      clear HTK e0 e1 e2 e3 g0 g1
      have hB3 := hB2.trans (hb3.mono hB2.size)
      have t0 := (hb3.block _ (lt_of_heap s0)).trans s0
      have t1 := (hb3.block _ (lt_of_heap s1)).trans s1
      have t2 := (hb3.block _ (lt_of_heap s2)).trans s2
      have d0 := cells_at t2 0 _ rfl
      have f0 := frozen_at t2 0
      have HM3 : Hid (insE (cvs ls) c.v = if takF (cvs ls) c.au c.rd (bss c.pl) ≠ 0 then takF (cvs ls) c.au c.rd (bss c.pl) else if 400 ≤ (cvs ls).length then 6 else 0) := HM2.out
      clear HM2
      generalize takF (cvs ls) c.au c.rd (bss c.pl) = T at *
      by_cases hy : T = 0
      · have HM4 : Hid (insE (cvs ls) c.v = if 400 ≤ (cvs ls).length then 6 else 0) := by
          show _ = _
          rw [HM3.out, if_neg (fun h => h hy)]
        subst hy
        clear HM3
        have k0 := cells_at t0 0 _ rfl
        by_cases hz : 400 ≤ ls.length
        · have HM5 : Hid (insE (cvs ls) c.v = 6) := by
            show _ = _
            rw [HM4.out, cvs_length, if_pos hz]
          have hzI : (400 : Int) ≤ ls.length := by omega
          clear HM4
          go_wp2_with fail
          refine bodyPost_ret (v := .tuple #[.agg #[.slice none 0 0], .int .i64 6]) (by simp [results, Tryd.results20, go_sem, d0]) rfl ⟨InAt.err HM5.out (by decide), hB3.setCell HOg _⟩
        · have HM5 : Hid (insE (cvs ls) c.v = 0) := by
            show _ = _
            rw [HM4.out, cvs_length, if_neg hz]
          have hzI : ¬ (400 : Int) ≤ ls.length := by omega
          clear HM4
          have l0 := cells_at t1 0 _ rfl
          have l1 := cells_at t1 1 _ rfl
          have l2 := cells_at t1 2 _ rfl
          have l3 := cells_at t1 3 _ rfl
          have l4 := cells_at t1 4 _ rfl
          have Hent1 : Hid _ := enters_of Tryd.func46 (by kernel_rfl) rfl
          have Hent2 : Hid _ := enters_of Tryd.func34 (by kernel_rfl) rfl
          have hOlt : O < w3.heap.size := lt_of_heap t2
          go_wp2_with fail
          go_region_law (first
            | (refine step_calls rfl 34 _ _ rfl [.agg #[.int .i64 c.au, .int .i64 c.rd, .slice c.ba c.bl.length c.bc, .slice c.pa c.pl.length c.pc, .slice c.va c.vl.length c.vc]] rfl Hent2.out (fun u w9 => ∃ x : Ct, u = .agg #[.int .i64 x.au, .int .i64 x.rd, .slice x.ba x.bl.length x.bc, .slice x.pa x.pl.length x.pc, .slice x.va x.vl.length x.vc] ∧ x.v = c.v ∧ CtAt w9 x ∧ (∀ b, CtIn x b → w4.heap.size ≤ b) ∧ Below w4.heap.size w4 w9) ((HCC.out w4 hB4).mono (fun e w9 ⟨x, he, h1, h2, h3, h4⟩ => ⟨_, he, x, rfl, h1, h2, h3, h4⟩)) ?_; rintro u w5 ⟨x, rfl, hxv, hxa, hxin, hb5⟩; have v2 := (hb5.block _ (lt_of_heap u2)).trans u2; have vd0 := cells_at v2 0 _ rfl; have vf0 := frozen_at v2 0; have ho5 := owns_keep ho4 hb5; have hw5 : w3.heap.size ≤ w5.heap.size := Nat.le_trans hb4.size hb5.size)
            | (refine step_calls rfl 46 _ _ rfl [.slice sa ls.length cap] rfl Hent1.out (fun u w9 => ∃ ks, cvs ks = cvs ls ∧ w9.ownsRow w3.heap.size 35 5 u ls.length (ctv ks) ∧ ApartC w9 w3.heap.size u ks ∧ Below w3.heap.size w3 w9) ((HCS.out w3.drew hB3.drew).mono (fun e w9 ⟨v, ks, he, h1, h2, h3, h4⟩ => ⟨v, he, ks, h1, h2, h3, below_drew h4⟩)) ?_; rintro v4 w4 ⟨ks, hS4, ho4, hap4, hb4⟩; have hB4 := hB3.trans (hb4.mono hB3.size); have u1 := (hb4.block _ (lt_of_heap t1)).trans t1; have u2 := (hb4.block _ (lt_of_heap t2)).trans t2; have n0 := cells_at u1 0 _ rfl; have n1 := cells_at u1 1 _ rfl; have n2 := cells_at u1 2 _ rfl; have n3 := cells_at u1 3 _ rfl; have n4 := cells_at u1 4 _ rfl)
            | (refine step_append_at rfl _ _ 22 rfl w3.heap.size 35 i (.agg #[.int .i64 0, .int .i64 0, .slice none 0 0, .slice none 0 0, .slice none 0 0]) 5 88 Tryd.underlying22 hi hz0 hz1 hz2 rfl (by decide) v4 ls.length (ctv ks) rfl (World.ownsRow.alloc ho5 _) ⟨w5.heap.size, 0, none⟩ 1 1 [.int .i64 x.au, .int .i64 x.rd, .slice x.ba x.bl.length x.bc, .slice x.pa x.pl.length x.pc, .slice x.va x.vl.length x.vc] rfl rfl (cells_new _ _ _) (by intro u hu; simp at hu; rcases hu with rfl | rfl | rfl | rfl | rfl <;> rfl) (by unfold maxLen; omega) (by omega) (le_alloc hw5 _) ?_; intro v6 w6 ho6 G6; have hvO : v4.ownBlock ≠ some O := (fun e => by have := (ho4.lt _ e).1; omega); have x2 := G6.row (heap_keep v2) hvO; have xd0 := cells_at x2 0 _ rfl; have xf0 := frozen_at x2 0; obtain ⟨fa, fc, hvf⟩ := owns_shape ho6; subst hvf))
          all_goals
            have hap6 := hap4.more (c := x) hb4.size ho4 hb5 hxin hxa G6
            have hB6 : Below w.heap.size w w6 := hB3.trans ((Below.grown ((hb4.trans (hb5.mono hb4.size)).alloc hw5 _) G6.grown (le_alloc hw5 _) (fun q e => (ho4.lt q e).1)).mono hB3.size)
            obtain ⟨ra, rc, hv, hl, hL, hfr⟩ := dag_of_owns (ls := ks ++ [x]) (owns_far (by rw [ctv_snoc]; exact ho6) O 0 (.slice fa (ls.length + 1) fc) hOlt) (hap6.setCell O 0 (.slice fa (ls.length + 1) fc) hOlt)
            cases hv
            have HL : Hid (ls.length + 1 = (ks ++ [x]).length) := hl
            have hLL := hL (by omega)
            have HKS : Hid (cvs (ks ++ [x]) = cvs ls ++ [c.v]) := by
              show _ = _
              rw [← hS4, ← hxv]
              simp [cvs]
            have hw3 : w.heap.size ≤ w3.heap.size := hB3.size
            have HR1 : Hid (∀ sb so, fa = some ⟨sb, so, none⟩ → w.heap.size ≤ sb) := by
              show ∀ sb, _
              exact fun sb so e => Nat.le_trans hw3 (hfr sb so e).1
            have HR2 : Hid (∀ k ∈ ks ++ [x], ∀ q, CtIn k q → w.heap.size ≤ q) := by
              show ∀ k, _
              exact fun k hk q hq => Nat.le_trans hw3 ((hap6 k hk).2 q hq).1
            clear hl hS4 hxv hxin hfr
            go_wp2_with fail
            refine bodyPost_ret (v := .tuple #[.agg #[.slice fa (ls.length + 1) fc], .int .i64 0]) (by simp [results, Tryd.results20, go_sem, xd0]) rfl ⟨.inr ⟨HM5.out, fa, fc, ks ++ [x], by rw [HL.out], HKS.out, hLL, HR1.out, HR2.out⟩, hB6.setCell HOg _⟩
      · have HM4 : Hid (insE (cvs ls) c.v = T) := by
          show _ = _
          rw [HM3.out, if_pos hy]
        have HTN : Hid (T ≠ 0) := hy
        have hyn : (T != 0) = true := by simpa using hy
        clear HM3
        go_wp2_with fail
        refine bodyPost_ret (v := .tuple #[.agg #[.slice none 0 0], .int .i64 T]) (by simp [results, Tryd.results20, go_sem, d0]) rfl ⟨InAt.err HM4.out HTN.out, hB3.setCell HOg _⟩
    · have HM2 : Hid (insE (cvs ls) c.v = c.v.f) := by
        show _ = _
        rw [HM.out, if_pos hx]
      have HTN : Hid (c.v.f ≠ 0) := hx
      have hxn : (c.v.f != 0) = true := by simpa using hx
      have d0 := cells_at s2 0 _ rfl
      have f0 := frozen_at s2 0
      clear HM
      generalize c.v.f = x at *
      go_wp2_with fail
      refine bodyPost_ret (v := .tuple #[.agg #[.slice none 0 0], .int .i64 x]) (by simp [results, Tryd.results20, go_sem, d0]) rfl ⟨InAt.err HM2.out HTN.out, hB2.setCell HOg _⟩
end Go.Proofs.YtbehmcflllleaaaDoor

namespace Go.Proofs.YtbehmcflllleaaaDoor
open Go.RowKit

set_option maxRecDepth 100000 in
set_option maxHeartbeats 1000000 in
theorem dagCopy_own (ls : List Ct) (sa : Option Addr) (n cap : Nat) (w : World) (hn : n = ls.length) (hd : DagRd w sa cap ls) :
    Calls Tryd.prog 10 #[.agg #[.slice sa n cap]] w fun e w' => ∃ v ks, e = .returned (.agg #[v]) ∧ cvs ks = cvs ls ∧ w'.ownsRow w.heap.size 35 5 v ls.length (ctv ks) ∧ ApartC w' w.heap.size v ks ∧ Below w.heap.size w w' := by
  subst hn
  obtain ⟨i, hi, hz0, hz1, hz2⟩ := info_parts infoCert
  have hreach := hd.reach
  have hA : Below w.heap.size w (((w.alloc (.cells #[.slice sa ls.length cap] 24)).alloc (.cells #[.slice none 0 0] 24)).alloc (.cells #[.slice none 0 0] 24)) := (((Below.refl _ _).alloc (Nat.le_refl _) _).alloc (by rw [size_alloc]; omega) _).alloc (by rw [size_alloc, size_alloc]; omega) _
  have r0 : (((w.alloc (.cells #[.slice sa ls.length cap] 24)).alloc (.cells #[.slice none 0 0] 24)).alloc (.cells #[.slice none 0 0] 24)).heap[w.heap.size]? = some (.cells #[.slice sa ls.length cap] 24 (0, 0)) := heap_keep (heap_keep (heap_alloc_new w _))
  have r1 : (((w.alloc (.cells #[.slice sa ls.length cap] 24)).alloc (.cells #[.slice none 0 0] 24)).alloc (.cells #[.slice none 0 0] 24)).heap[w.heap.size + 1]? = some (.cells #[.slice none 0 0] 24 (0, 0)) := heap_keep (by have := heap_alloc_new (w.alloc (.cells #[.slice sa ls.length cap] 24)) (.cells #[.slice none 0 0] 24); rw [size_alloc] at this; exact this)
  have r2 : (((w.alloc (.cells #[.slice sa ls.length cap] 24)).alloc (.cells #[.slice none 0 0] 24)).alloc (.cells #[.slice none 0 0] 24)).heap[w.heap.size + 1 + 1]? = some (.cells #[.slice none 0 0] 24 (0, 0)) := by
    have := heap_alloc_new ((w.alloc (.cells #[.slice sa ls.length cap] 24)).alloc (.cells #[.slice none 0 0] 24)) (.cells #[.slice none 0 0] 24)
    rw [size_alloc, size_alloc] at this; exact this
  have hz : (((w.alloc (.cells #[.slice sa ls.length cap] 24)).alloc (.cells #[.slice none 0 0] 24)).alloc (.cells #[.slice none 0 0] 24)).heap.size = w.heap.size + 3 := by rw [size_alloc, size_alloc, size_alloc]
  go_enter Tryd.func10, Tryd.ntmps10
  go_wp2_with fail
  generalize ((w.alloc (.cells #[.slice sa ls.length cap] 24)).alloc (.cells #[.slice none 0 0] 24)).alloc (.cells #[.slice none 0 0] 24) = W0 at hA r0 r1 r2 hz ⊢
  have HZ : Hid (W0.heap.size = w.heap.size + 3) := hz
  clear hz
  generalize hO : w.heap.size + 1 + 1 = O at r2 ⊢
  have HO : Hid (w.heap.size + 1 + 1 = O) := hO
  clear hO
  go_loopw [4] (fun j wr => ∃ (k : Nat) (v : Value) (ks : List Ct), k ≤ ls.length ∧ j = .int .i64 k ∧ cvs ks = (cvs ls).take k ∧ wr.heap[w.heap.size]? = some (.cells #[.slice sa ls.length cap] 24 (0, 0)) ∧ wr.heap[w.heap.size + 1]? = some (.cells #[.slice none 0 0] 24 (0, 0)) ∧ wr.heap[O]? = some (.cells #[v] 24 (0, 0)) ∧ wr.ownsRow W0.heap.size 35 5 v k (ctv ks) ∧ ApartC wr W0.heap.size v ks ∧ Below w.heap.size w wr ∧ W0.heap.size ≤ wr.heap.size) (fun j _ => ls.length - (intOf j).toNat)
  case atStart => exact ⟨0, _, [], Nat.zero_le _, rfl, rfl, r0, r1, r2, World.ownsRow_nil _ _ _ _, (fun p hp => by cases hp), hA, Nat.le_refl _⟩
  case round =>
    clear r0 r1 r2 hA
    obtain ⟨k, v, ks, hk, rfl, hS, s0, s1, s2, ho, hap, hb, hsz⟩ := hrel
    obtain ⟨ea, ec, hve⟩ := owns_shape ho
    subst hve
    have b0 : wr.cell? ⟨w.heap.size, 0, none⟩ = some (.slice sa ls.length cap) := cells_at s0 0 _ rfl
    have o0 : wr.cell? ⟨O, 0, none⟩ = some (.slice ea k ec) := cells_at s2 0 _ rfl
    have of0 := frozen_at s2 0
    have HS : Hid (cvs ks = (cvs ls).take k) := hS
    clear hS
    by_cases hlt : k < ls.length
    · obtain ⟨sb, so, rfl, c0, c1, c2, c3, c4⟩ := (hd.certs.below hb).at k hlt
      have hR := (hd.each (ls[k]) (List.getElem_mem hlt)).below hb
      have hst : Hid ((cvs ls).take (k + 1) = (cvs ls).take k ++ [(ls[k]).v]) := by
        show _ = _
        rw [List.take_succ_eq_append_getElem (by rw [cvs_length]; exact hlt)]
        simp [cvs]
      have hltI : (k : Int) < ls.length := by omega
      generalize ls[k] = s at *
      have hvr : s.vl.length * 8 ≤ 140737488355328 := by have := hR.nums.le; have := hR.nums.reach; omega
      have HD := certCopyU_any s.au s.rd s.ba s.bc s.bl s.pa s.pc s.pl s.va s.vc s.vl wr hR.rb hR.rp hR.nums.ints hvr
      have hvl : s.vl.length ≤ 9000000000000000000 := by omega
      clear hR hvr
      go_wp2_with fail
      refine HD.mono ?_
      rintro e w2 ⟨xa, xc, xs, ya, yc, ys, za, zc, he, hS1, hS2, hL1, hL2, hZ, hb2, hF1, hF2, hF3, hU1, hU2⟩
      subst he
      dsimp only
      clear HD
      have E1 := hS1.length
      have E2 := hS2.length
      have hct : CtAt w2 ⟨s.au, s.rd, xa, xc, xs, ya, yc, ys, za, zc, s.vl⟩ := ⟨⟨hL1, hL2, hU1, hU2⟩, hZ, hvl⟩
      have hin : ∀ b, CtIn ⟨s.au, s.rd, xa, xc, xs, ya, yc, ys, za, zc, s.vl⟩ b → wr.heap.size ≤ b := by
        rintro b (⟨so, e⟩ | ⟨so, e⟩ | ⟨p, hp, _, so, e⟩ | ⟨_, so, e⟩)
        · exact hF1.row b so e
        · exact hF2.row b so e
        · rcases List.mem_append.1 hp with hp | hp
          · exact hF1.each p hp b so e
          · exact hF2.each p hp b so e
        · exact hF3 b so e
      have HV : Hid ((⟨s.au, s.rd, xa, xc, xs, ya, yc, ys, za, zc, s.vl⟩ : Ct).v = s.v) := by
        show Ct.v _ = _
        simp only [Ct.v]
        rw [bss_same hS1, bss_same hS2]
      have HC : Hid ((⟨s.au, s.rd, xa, xc, xs, ya, yc, ys, za, zc, s.vl⟩ : Ct).cs = [.int .i64 s.au, .int .i64 s.rd, .slice xa s.bl.length xc, .slice ya s.pl.length yc, .slice za s.vl.length zc]) := by
        show Ct.cs _ = _
        simp only [Ct.cs]
        rw [E1, E2]
      generalize hcte : (⟨s.au, s.rd, xa, xc, xs, ya, yc, ys, za, zc, s.vl⟩ : Ct) = ct at hct hin HV HC
      clear hcte hS1 hS2 hL1 hL2 hZ hF1 hF2 hF3 hU1 hU2 E1 E2
      have hob := owns_keep ho hb2
      have hB2 := hb.trans (hb2.mono hb.size)
      have hlt2 : O < wr.heap.size := lt_of_heap s2
      have t0 := (hb2.block _ (lt_of_heap s0)).trans s0
      have t1 := (hb2.block _ (lt_of_heap s1)).trans s1
      have t2 := (hb2.block _ (lt_of_heap s2)).trans s2
      have q0 : w2.cell? ⟨O, 0, none⟩ = some (.slice ea k ec) := cells_at t2 0 _ rfl
      have qf := frozen_at t2 0
      clear c0 c1 c2 c3 c4 b0 o0 of0
      have hvb : (Value.slice ea k ec).ownBlock ≠ some O := fun e => by have := (ho.lt _ e).1; have := HZ.out; have := HO.out; omega
      have hvb1 : (Value.slice ea k ec).ownBlock ≠ some (w.heap.size + 1) := fun e => by have := (ho.lt _ e).1; have := HZ.out; omega
      have hvb0 : (Value.slice ea k ec).ownBlock ≠ some (w.heap.size) := fun e => by have := (ho.lt _ e).1; have := HZ.out; omega
      have hbase : W0.heap.size ≤ w2.heap.size := Nat.le_trans hsz hb2.size
      have hne2 : O ≠ w2.heap.size := by have := lt_of_heap t2; omega
      have t2A := heap_keep (o := .cells #[.int .i64 s.au, .int .i64 s.rd, .slice xa s.bl.length xc, .slice ya s.pl.length yc, .slice za s.vl.length zc] 35) t2
      have q0A := cells_at t2A 0 _ rfl
      have hA2 : Below w2.heap.size w2 (w2.alloc (.cells #[.int .i64 s.au, .int .i64 s.rd, .slice xa s.bl.length xc, .slice ya s.pl.length yc, .slice za s.vl.length zc] 35)) := (Below.refl _ _).alloc (Nat.le_refl _) _
      have hnew := cells_new (w2.alloc (.cells #[.int .i64 s.au, .int .i64 s.rd, .slice xa s.bl.length xc, .slice ya s.pl.length yc, .slice za s.vl.length zc] 35)) [.int .i64 s.au, .int .i64 s.rd, .slice xa s.bl.length xc, .slice ya s.pl.length yc, .slice za s.vl.length zc] 35
      rw [size_alloc] at hnew
      have hob2 := owns_keep hob hA2
      have hbA : W0.heap.size ≤ (w2.alloc (.cells #[.int .i64 s.au, .int .i64 s.rd, .slice xa s.bl.length xc, .slice ya s.pl.length yc, .slice za s.vl.length zc] 35)).heap.size := Nat.le_trans hbase hA2.size
      go_wp2_with (at_builtin; refine wpList_append_own_at _ rfl _ _ 22 rfl W0.heap.size 35 i (.agg #[.int .i64 0, .int .i64 0, .slice none 0 0, .slice none 0 0, .slice none 0 0]) 5 88 Tryd.underlying22 hi hz0 hz1 hz2 rfl (by decide) _ k _ rfl (World.ownsRow.alloc hob2 _) ⟨w2.heap.size + 1, 0, none⟩ 1 1 [.int .i64 s.au, .int .i64 s.rd, .slice xa s.bl.length xc, .slice ya s.pl.length yc, .slice za s.vl.length zc] rfl rfl hnew (by intro u hu; simp at hu; rcases hu with rfl | rfl | rfl | rfl | rfl <;> rfl) (by unfold maxLen; omega) (by omega) (le_alloc hbA _) ?_; intro v1 w3 ho3 hg3 _ hat; obtain ⟨fa, fc, hvf⟩ := owns_shape ho3; subst hvf; have u2 := Grew.row (Grew.of hg3 hat) (heap_keep t2A) hvb; have q3 := cells_at u2 0 _ rfl; have qf3 := frozen_at u2 0)
      have G := Grew.of hg3 hat
      have u0 := Grew.row G (heap_keep (heap_keep t0)) hvb0
      have u1 := Grew.row G (heap_keep (heap_keep t1)) hvb1
      have hB2A := hB2.trans (hA2.mono hB2.size)
      have hw0 : w.heap.size ≤ W0.heap.size := by have := HZ.out; omega
      have hOlt : O < W0.heap.size := by have := HZ.out; have := HO.out; omega
      have hOge : w.heap.size ≤ O := by have := HO.out; omega
      have hap3 := hap.more (c := ct) hsz ho (hb2.trans (hA2.mono hb2.size)) hin (hct.below hA2) G
      have hB4 := Below.grown (hB2A.alloc hB2A.size _) hg3 (le_alloc hB2A.size _) (fun q e => Nat.le_trans hw0 (hob.lt q e).1)
      go_roundw
      case rel =>
        have hR : ∃ (k' : Nat) (v' : Value) (ks' : List Ct), k' ≤ ls.length ∧ (Value.int .i64 ((k : Int) + 1)) = .int .i64 k' ∧ cvs ks' = (cvs ls).take k' ∧ (w3.setCell ⟨O, 0, none⟩ (.slice fa (k + 1) fc)).heap[w.heap.size]? = some (.cells #[.slice (some ⟨sb, so, none⟩) ls.length cap] 24 (0, 0)) ∧ (w3.setCell ⟨O, 0, none⟩ (.slice fa (k + 1) fc)).heap[w.heap.size + 1]? = some (.cells #[.slice none 0 0] 24 (0, 0)) ∧ (w3.setCell ⟨O, 0, none⟩ (.slice fa (k + 1) fc)).heap[O]? = some (.cells #[v'] 24 (0, 0)) ∧ (w3.setCell ⟨O, 0, none⟩ (.slice fa (k + 1) fc)).ownsRow W0.heap.size 35 5 v' k' (ctv ks') ∧ ApartC (w3.setCell ⟨O, 0, none⟩ (.slice fa (k + 1) fc)) W0.heap.size v' ks' ∧ Below w.heap.size w (w3.setCell ⟨O, 0, none⟩ (.slice fa (k + 1) fc)) ∧ W0.heap.size ≤ (w3.setCell ⟨O, 0, none⟩ (.slice fa (k + 1) fc)).heap.size :=
          ⟨k + 1, .slice fa (k + 1) fc, ks ++ [ct], by omega, by go_num, by rw [hst.out, ← HS.out]; simp [cvs, HV.out], heap_far u0 (by have := HO.out; omega), heap_far u1 (by have := HO.out; omega), by simpa using heap_setCell_same _ _ 0 _ _ (.slice fa (k + 1) fc) u2, owns_far (by rw [ctv_snoc, HC.out]; exact ho3) _ _ _ hOlt, hap3.setCell _ _ _ hOlt, hB4.setCell hOge _, by have := hg3.size; rw [size_alloc, size_alloc] at this; simp; omega⟩
        first | exact hR | ((repeat apply Exists.intro); exact ⟨hR, rfl⟩)
      case measure => simp [intOf]; omega
    · obtain rfl : k = ls.length := by omega
      have hS := HS.out
      rw [List.take_of_length_le (by rw [cvs_length]; exact Nat.le_refl _)] at hS
      clear HS
      have HS : Hid _ := hS
      clear hS
      have y0 := cells_at s1 0 _ rfl
      have yf := frozen_at s1 0
      have hw1 : w.heap.size + 1 < W0.heap.size := by have := HZ.out; omega
      have hoX := owns_far ho (w.heap.size + 1) 0 (.slice ea ls.length ec) hw1
      have hapX := hap.setCell (w.heap.size + 1) 0 (.slice ea ls.length ec) hw1
      have hw0 : w.heap.size ≤ W0.heap.size := by omega
      go_wp2_with fail
      refine bodyPost_ret (v := .agg #[.slice ea ls.length ec]) (by simp [results, Tryd.results10, go_sem, y0]) rfl ⟨.slice ea ls.length ec, ks, rfl, HS.out, ownsRow_base' hoX hw0, fun c hc => ⟨(hapX c hc).1, fun b hb => ⟨Nat.le_trans hw0 ((hapX c hc).2 b hb).1, ((hapX c hc).2 b hb).2⟩⟩, hb.setCell (Nat.le_succ _) _⟩
set_option maxRecDepth 100000 in
theorem dagCopy_any (ls : List Ct) (sa : Option Addr) (n cap : Nat) (w : World) (hn : n = ls.length) (hd : DagRd w sa cap ls) :
    Calls Tryd.prog 10 #[.agg #[.slice sa n cap]] w fun e w' => ∃ ra rc ks, e = .returned (.agg #[.slice ra ls.length rc]) ∧ cvs ks = cvs ls ∧ DagAt w' ra rc ks ∧ Below w.heap.size w w' := by
  have hs := hd.small
  refine (dagCopy_own ls sa n cap w hn hd).mono ?_
  rintro e w' ⟨v, ks, rfl, hS, ho, hap, hb⟩
  obtain ⟨ra, rc, rfl, _, hL, _⟩ := dag_of_owns ho hap
  exact ⟨ra, rc, ks, rfl, hS, hL hs, hb⟩
end Go.Proofs.YtbehmcflllleaaaDoor

namespace Go.Proofs.YtbehmcflllleaaaDoor
open Go.RowKit

set_option maxRecDepth 100000 in
theorem certCopy_ct (c : Ct) (w : World) (h : CtRd w c) :
    Calls Tryd.prog 21 #[.agg #[.int .i64 c.au, .int .i64 c.rd, .slice c.ba c.bl.length c.bc, .slice c.pa c.pl.length c.pc, .slice c.va c.vl.length c.vc]] w fun e w' => ∃ x : Ct, e = .returned (.agg #[.int .i64 x.au, .int .i64 x.rd, .slice x.ba x.bl.length x.bc, .slice x.pa x.pl.length x.pc, .slice x.va x.vl.length x.vc]) ∧ x.v = c.v ∧ CtAt w' x ∧ (∀ b, CtIn x b → w.heap.size ≤ b) ∧ Below w.heap.size w w' := by
  have hv1 := h.nums.le
  have hv2 := h.nums.reach
  refine (certCopyU_any c.au c.rd c.ba c.bc c.bl c.pa c.pc c.pl c.va c.vc c.vl w h.rb h.rp h.nums.ints (by omega)).mono ?_
  rintro e w' ⟨xa, xc, xs, ya, yc, ys, za, zc, rfl, hS1, hS2, hL1, hL2, hZ, hb, hF1, hF2, hF3, hU1, hU2⟩
  refine ⟨⟨c.au, c.rd, xa, xc, xs, ya, yc, ys, za, zc, c.vl⟩, by rw [hS1.length, hS2.length], ?_, ⟨⟨hL1, hL2, hU1, hU2⟩, hZ, ?_⟩, ?_, hb⟩
  · simp only [Ct.v]
    rw [bss_same hS1, bss_same hS2]
  · show c.vl.length ≤ 9000000000000000000
    omega
  · rintro b (⟨so, e⟩ | ⟨so, e⟩ | ⟨p, hp, _, so, e⟩ | ⟨_, so, e⟩)
    · exact hF1.row b so e
    · exact hF2.row b so e
    · rcases List.mem_append.1 hp with hp | hp
      · exact hF1.each p hp b so e
      · exact hF2.each p hp b so e
    · exact hF3 b so e
set_option maxRecDepth 100000 in
theorem DagAt.far {w : World} {ra : Option Addr} {rc : Nat} {ls : List Ct} (h : DagAt w ra rc ls) (b j : Nat) (x : Value) (hr : ∀ sb so, ra = Option.some (Addr.mk sb so Option.none) → sb ≠ b) (hc : ∀ c ∈ ls, ∀ q, CtIn c q → q ≠ b) : DagAt (w.setCell (Addr.mk b j Option.none) x) ra rc ls := by
  refine ⟨h.le, h.max, h.small, h.some, ⟨?_⟩, fun c hm => (h.each c hm).keep (by simp) (fun q hq => heap_setCell_other w _ q x (hc c hm q hq))⟩
  rcases h.certs.cells with h1 | ⟨sb, so, e, hcs⟩
  · exact .inl h1
  · have hne : b ≠ sb := fun h9 => hr sb so e h9.symm
    refine .inr ⟨sb, so, e, fun k hk => ?_⟩
    obtain ⟨a0, a1, a2, a3, a4⟩ := hcs k hk
    exact ⟨(World.cell?_setCell_far _ _ _ _ hne).trans a0, (World.cell?_setCell_far _ _ _ _ hne).trans a1, (World.cell?_setCell_far _ _ _ _ hne).trans a2, (World.cell?_setCell_far _ _ _ _ hne).trans a3, (World.cell?_setCell_far _ _ _ _ hne).trans a4⟩
set_option maxRecDepth 100000 in
set_option maxHeartbeats 2000000 in
theorem insertedIn_any (ls : List Ct) (sa : Option Addr) (cap : Nat) (c : Ct) (w : World) (hd : DagRd w sa cap ls) (hc : CtRd w c) :
    Calls Tryd.prog 22 #[.agg #[.slice sa ls.length cap], .agg #[.int .i64 c.au, .int .i64 c.rd, .slice c.ba c.bl.length c.bc, .slice c.pa c.pl.length c.pc, .slice c.va c.vl.length c.vc]] w fun e w' => InAt w.heap.size w' e (cvs ls) c.v ∧ Below w.heap.size w w' := by
  obtain ⟨i, hi, hz0, hz1, hz2⟩ := info_parts infoCert
  have hA : Below w.heap.size w (((w.alloc (.cells #[.slice sa ls.length cap] 24)).alloc (.cells #[.int .i64 c.au, .int .i64 c.rd, .slice c.ba c.bl.length c.bc, .slice c.pa c.pl.length c.pc, .slice c.va c.vl.length c.vc] 35)).alloc (.cells #[.slice none 0 0] 24)) := (((Below.refl _ _).alloc (Nat.le_refl _) _).alloc (by rw [size_alloc]; omega) _).alloc (by rw [size_alloc, size_alloc]; omega) _
  have q0 : (((w.alloc (.cells #[.slice sa ls.length cap] 24)).alloc (.cells #[.int .i64 c.au, .int .i64 c.rd, .slice c.ba c.bl.length c.bc, .slice c.pa c.pl.length c.pc, .slice c.va c.vl.length c.vc] 35)).alloc (.cells #[.slice none 0 0] 24)).heap[w.heap.size]? = some (.cells #[.slice sa ls.length cap] 24 (0, 0)) := heap_keep (heap_keep (heap_alloc_new w _))
  have q1 : (((w.alloc (.cells #[.slice sa ls.length cap] 24)).alloc (.cells #[.int .i64 c.au, .int .i64 c.rd, .slice c.ba c.bl.length c.bc, .slice c.pa c.pl.length c.pc, .slice c.va c.vl.length c.vc] 35)).alloc (.cells #[.slice none 0 0] 24)).heap[w.heap.size + 1]? = some (.cells #[.int .i64 c.au, .int .i64 c.rd, .slice c.ba c.bl.length c.bc, .slice c.pa c.pl.length c.pc, .slice c.va c.vl.length c.vc] 35 (0, 0)) := heap_keep (by have := heap_alloc_new (w.alloc (.cells #[.slice sa ls.length cap] 24)) (.cells #[.int .i64 c.au, .int .i64 c.rd, .slice c.ba c.bl.length c.bc, .slice c.pa c.pl.length c.pc, .slice c.va c.vl.length c.vc] 35); rw [size_alloc] at this; exact this)
  have q2 : (((w.alloc (.cells #[.slice sa ls.length cap] 24)).alloc (.cells #[.int .i64 c.au, .int .i64 c.rd, .slice c.ba c.bl.length c.bc, .slice c.pa c.pl.length c.pc, .slice c.va c.vl.length c.vc] 35)).alloc (.cells #[.slice none 0 0] 24)).heap[w.heap.size + 1 + 1]? = some (.cells #[.slice none 0 0] 24 (0, 0)) := by
    have := heap_alloc_new ((w.alloc (.cells #[.slice sa ls.length cap] 24)).alloc (.cells #[.int .i64 c.au, .int .i64 c.rd, .slice c.ba c.bl.length c.bc, .slice c.pa c.pl.length c.pc, .slice c.va c.vl.length c.vc] 35)) (.cells #[.slice none 0 0] 24)
    rw [size_alloc, size_alloc] at this; exact this
  go_enter Tryd.func22, Tryd.ntmps22
  go_wp2_with fail
  generalize ((w.alloc (.cells #[.slice sa ls.length cap] 24)).alloc (.cells #[.int .i64 c.au, .int .i64 c.rd, .slice c.ba c.bl.length c.bc, .slice c.pa c.pl.length c.pc, .slice c.va c.vl.length c.vc] 35)).alloc (.cells #[.slice none 0 0] 24) = W0 at hA q0 q1 q2 ⊢
  generalize hO : w.heap.size + 1 + 1 = O at q2 ⊢
  have HOg : w.heap.size ≤ O := by omega
  clear hO
  refine (dagFault_any ls sa _ cap W0 rfl (hd.below hA)).mono ?_
  rintro e w1 ⟨he, hb1⟩
  subst he
  dsimp only
  have hB1 := hA.trans (hb1.mono hA.size)
  have r0 := (hb1.block _ (lt_of_heap q0)).trans q0
  have r1 := (hb1.block _ (lt_of_heap q1)).trans q1
  have r2 := (hb1.block _ (lt_of_heap q2)).trans q2
  rcases dagF_or (cvs ls) with hF | hF
  · have HM : Hid (insE (cvs ls) c.v = if c.v.f ≠ 0 then c.v.f else if takF (cvs ls) c.v.au c.v.rd c.v.pl ≠ 0 then takF (cvs ls) c.v.au c.v.rd c.v.pl else if 400 ≤ (cvs ls).length then 6 else 0) := by
      show _ = _
      rw [insE, hF]; rfl
    have HAF : Hid (∀ c ∈ ls, c.v.f = 0) := all_f hF
    have hle := dag_le hF
    rw [hF]
    clear hF
    have e0 := cells_at r1 0 _ rfl
    have e1 := cells_at r1 1 _ rfl
    have e2 := cells_at r1 2 _ rfl
    have e3 := cells_at r1 3 _ rfl
    have e4 := cells_at r1 4 _ rfl
    have c1 := hc.below hB1
    have HCK := certFault_any c.au c.rd c.ba c.bc c.bl c.pa c.pc c.pl c.va c.vc c.vl w1 c1.rb.list c1.rp.list c1.nums.ints (by have := c1.nums.le; have := c1.nums.reach; omega)
    rw [Ct.f_v] at HCK
    go_wp2_with fail
    refine HCK.mono ?_
    rintro e w2 ⟨he, hb2⟩
    subst he
    dsimp only
    clear HCK e0 e1 e2 e3 e4 c1
    have hB2 := hB1.trans (hb2.mono hB1.size)
    have s0 := (hb2.block _ (lt_of_heap r0)).trans r0
    have s1 := (hb2.block _ (lt_of_heap r1)).trans r1
    have s2 := (hb2.block _ (lt_of_heap r2)).trans r2
    by_cases hx : c.v.f = 0
    · have HM2 : Hid (insE (cvs ls) c.v = if takF (cvs ls) c.au c.rd (bss c.pl) ≠ 0 then takF (cvs ls) c.au c.rd (bss c.pl) else if 400 ≤ (cvs ls).length then 6 else 0) := by
        show _ = _
        rw [HM.out, if_neg (fun h => h hx)]; rfl
      obtain ⟨y1, y2, y3, y4, y5, y6⟩ := headerF_ok (certF_head (vl := c.vl) (by rw [Ct.f_v]; exact hx))
      have HCO := certOf_any ls sa ls.length cap c.au c.rd w2 rfl (by omega) (hd.certs.below hB2)
      have HT : Hid (takF (cvs ls) c.au c.rd (bss c.pl) = if 0 ≤ cOf (cvs ls) c.au c.rd then 7 else parF (cvs ls) c.rd (bss c.pl)) := rfl
      have hcb := cOf_bounds (cvs ls) c.au c.rd
      rw [hx]
      clear hx y1 y3 y5 y6 HM
      have e0 := cells_at s1 0 _ rfl
      have e1 := cells_at s1 1 _ rfl
      have k0 := cells_at s0 0 _ rfl
      go_wp2_with fail
      refine HCO.mono ?_
      rintro e w2' ⟨he, hw⟩
      subst he hw
      dsimp only
      clear HCO
      have d0 := cells_at s2 0 _ rfl
      have f0 := frozen_at s2 0
      generalize takF (cvs ls) c.au c.rd (bss c.pl) = T at *
      generalize cOf (cvs ls) c.au c.rd = C at *
      by_cases hC : 0 ≤ C
      · have HM3 : Hid (insE (cvs ls) c.v = 7) := by
          show _ = _
          rw [HM2.out, HT.out, if_pos hC]; rfl
        clear HM2 HT
        go_wp2_with fail
        refine bodyPost_ret (v := .tuple #[.agg #[.slice none 0 0], .int .i64 7]) (by simp [results, Tryd.results22, go_sem, d0]) rfl ⟨InAt.err HM3.out (by decide), hB2.setCell HOg _⟩
      · have HM3 : Hid (insE (cvs ls) c.v = if parF (cvs ls) c.rd (bss c.pl) ≠ 0 then parF (cvs ls) c.rd (bss c.pl) else if 400 ≤ (cvs ls).length then 6 else 0) := by
          show _ = _
          rw [HM2.out, HT.out, if_neg hC]
        obtain rfl : C = -1 := by omega
        clear HM2 HT hcb
        have e2 := cells_at s1 2 _ rfl
        have e3 := cells_at s1 3 _ rfl
        have lk : w.heap.size < w2.heap.size := lt_of_heap s0
        have lc : w.heap.size + 1 < w2.heap.size := lt_of_heap s1
        have HDO := digestsOf_any ls sa ls.length cap w2.drew rfl hle (hd.certs.below hB2.drew) (fun x hx => (hd.each x hx).below hB2.drew) HAF.out
        have HPF : Hid (∀ (W : World) (ds : List Part) (ra : Option Addr) (rc : Nat), Below w.heap.size w W → bss ds = (cvs ls).map CV.d → ListAt W ra rc ds → Calls Tryd.prog 32 #[.slice sa ls.length cap, .slice ra ls.length rc, .agg #[.int .i64 c.au, .int .i64 c.rd, .slice c.ba c.bl.length c.bc, .slice c.pa c.pl.length c.pc]] W fun e w' => e = .returned (.int .i64 (parF (cvs ls) c.rd (bss c.pl))) ∧ Below W.heap.size W w') := by
          show ∀ W, _
          intro W ds ra rc hW hS hL
          exact parentsFault_any ls sa ls.length cap ds ra ls.length rc c.au c.rd c.ba _ c.bc c.pl c.pa _ c.pc W rfl rfl rfl hS (by omega) y4 y2 hL.parts (hd.certs.below hW) (hc.below hW).rp.list.parts
        generalize parF (cvs ls) c.rd (bss c.pl) = P at *
        go_wp2_with fail
        go_region_held3 (fun w' => w'.cell? ⟨w.heap.size, 0, none⟩ = some (.slice sa ls.length cap) ∧ w'.cell? ⟨w.heap.size + 1, 0, none⟩ = some (.int .i64 c.au) ∧ w'.cell? ⟨w.heap.size + 1, 1, none⟩ = some (.int .i64 c.rd) ∧ w'.cell? ⟨w.heap.size + 1, 2, none⟩ = some (.slice c.ba c.bl.length c.bc) ∧ w'.cell? ⟨w.heap.size + 1, 3, none⟩ = some (.slice c.pa c.pl.length c.pc)) (go_keep) (first | (go_at_call 32; refine (HPF.out w3 ds ra rc hB3 hDS hDL).mono ?_; rintro e w4 ⟨rfl, hb4⟩; have hC4 := hC3.trans (hb4.mono hC3.size); have z0 := (hC4.cell (p := ⟨w.heap.size, 0, none⟩) lk).trans k0; have z1 := (hC4.cell (p := ⟨w.heap.size + 1, 0, none⟩) lc).trans e0; have z2 := (hC4.cell (p := ⟨w.heap.size + 1, 1, none⟩) lc).trans e1; have z3 := (hC4.cell (p := ⟨w.heap.size + 1, 2, none⟩) lc).trans e2; have z4 := (hC4.cell (p := ⟨w.heap.size + 1, 3, none⟩) lc).trans e3) | (go_at_call 30; refine HDO.mono ?_; rintro e w3 ⟨ra, rc, ds, rfl, hDS, hDL, hb3⟩; have hC3 : Below w2.heap.size w2 w3 := below_drew hb3; have hB3 := hB2.trans (hC3.mono hB2.size); have x0 := (hC3.cell (p := ⟨w.heap.size, 0, none⟩) lk).trans k0; have x1 := (hC3.cell (p := ⟨w.heap.size + 1, 0, none⟩) lc).trans e0; have x2 := (hC3.cell (p := ⟨w.heap.size + 1, 1, none⟩) lc).trans e1; have x3 := (hC3.cell (p := ⟨w.heap.size + 1, 2, none⟩) lc).trans e2; have x4 := (hC3.cell (p := ⟨w.heap.size + 1, 3, none⟩) lc).trans e3))
        all_goals
          have hB4 := hB2.trans (hC4.mono hB2.size)
          clear hDS hDL HDO HPF
          have t0 := (hC4.block _ (lt_of_heap s0)).trans s0
          have t1 := (hC4.block _ (lt_of_heap s1)).trans s1
          have t2 := (hC4.block _ (lt_of_heap s2)).trans s2
          have td0 := cells_at t2 0 _ rfl
          have tf0 := frozen_at t2 0
          by_cases hP : P = 0
          · have HM4 : Hid (insE (cvs ls) c.v = if 400 ≤ (cvs ls).length then 6 else 0) := by
              show _ = _
              rw [HM3.out, if_neg (fun h => h hP)]
            subst hP
            clear HM3
            by_cases hz : 400 ≤ ls.length
            · have HM5 : Hid (insE (cvs ls) c.v = 6) := by
                show _ = _
                rw [HM4.out, cvs_length, if_pos hz]
              have hzI : (400 : Int) ≤ ls.length := by omega
              clear HM4
              go_wp2_with fail
              refine bodyPost_ret (v := .tuple #[.agg #[.slice none 0 0], .int .i64 6]) (by simp [results, Tryd.results22, go_sem, td0]) rfl ⟨InAt.err HM5.out (by decide), hB4.setCell HOg _⟩
            · have HM5 : Hid (insE (cvs ls) c.v = 0) := by
                show _ = _
                rw [HM4.out, cvs_length, if_neg hz]
              have hzI : ¬ (400 : Int) ≤ ls.length := by omega
              clear HM4
              have HDC := dagCopy_own ls sa _ cap w4 rfl (hd.below hB4)
              go_wp2_with fail
              refine HDC.mono ?_
              rintro e w5 ⟨v5, ks, he, hS5, ho5, hap5, hb5⟩
              obtain ⟨ea, ec, hve⟩ := owns_shape ho5
              subst hve
              subst he
              dsimp only
              clear HDC
              have hB5 := hB4.trans (hb5.mono hB4.size)
              have hA5 := (Below.refl w5.heap.size w5).alloc (Nat.le_refl _) (.cells #[.slice ea ls.length ec] 24)
              have b5 := heap_alloc_new w5 (.cells #[.slice ea ls.length ec] 24)
              have u1 := heap_keep (o := (.cells #[.slice ea ls.length ec] 24)) ((hb5.block _ (lt_of_heap t1)).trans t1)
              have u2 := heap_keep (o := (.cells #[.slice ea ls.length ec] 24)) ((hb5.block _ (lt_of_heap t2)).trans t2)
              have Hent2 : Hid _ := enters_of Tryd.func21 (by kernel_rfl) rfl
              have hvB : (Value.slice ea ls.length ec).ownBlock ≠ some w5.heap.size := fun e => by have := (ho5.lt _ e).2; omega
              have hOlt : O < w4.heap.size := lt_of_heap t2
              have hvO : (Value.slice ea ls.length ec).ownBlock ≠ some O := fun e => by have := (ho5.lt _ e).1; omega
              have n0 := cells_at u1 0 _ rfl
              have n1 := cells_at u1 1 _ rfl
              have n2 := cells_at u1 2 _ rfl
              have n3 := cells_at u1 3 _ rfl
              have n4 := cells_at u1 4 _ rfl
              have bc0 := cells_at b5 0 _ rfl
              have bf0 := frozen_at b5 0
              go_wp2_with fail
              generalize w5.alloc (.cells #[.slice ea ls.length ec] 24) = W5 at hA5 b5 u1 u2 n0 n1 n2 n3 n4 bc0 bf0 ⊢
              have hB5A := hB5.trans (hA5.mono hB5.size)
              have hBlt : w5.heap.size < W5.heap.size := lt_of_heap b5
              have ho5A := owns_keep ho5 hA5
              go_region_law (first
                | (refine step_calls rfl 21 _ _ rfl [.agg #[.int .i64 c.au, .int .i64 c.rd, .slice c.ba c.bl.length c.bc, .slice c.pa c.pl.length c.pc, .slice c.va c.vl.length c.vc]] rfl Hent2.out (fun u w9 => ∃ x : Ct, u = .agg #[.int .i64 x.au, .int .i64 x.rd, .slice x.ba x.bl.length x.bc, .slice x.pa x.pl.length x.pc, .slice x.va x.vl.length x.vc] ∧ x.v = c.v ∧ CtAt w9 x ∧ (∀ b, CtIn x b → W5.heap.size ≤ b) ∧ Below W5.heap.size W5 w9) ((certCopy_ct c W5.drew (hc.below hB5A.drew)).mono (fun e w9 ⟨x, he, h1, h2, h3, h4⟩ => ⟨_, he, x, rfl, h1, h2, h3, below_drew h4⟩)) ?_; rintro u w6 ⟨x, rfl, hxv, hxa, hxin, hb6⟩; have v2 := (hb6.block _ (lt_of_heap u2)).trans u2; have vb := (hb6.block _ (lt_of_heap b5)).trans b5; have vbc0 := cells_at vb 0 _ rfl; have vbf0 := frozen_at vb 0; have vbA := cells_at (heap_keep (o := .cells #[.int .i64 x.au, .int .i64 x.rd, .slice x.ba x.bl.length x.bc, .slice x.pa x.pl.length x.pc, .slice x.va x.vl.length x.vc] 35) vb) 0 _ rfl; have ho6 := owns_keep ho5A hb6; have hw6 : w4.heap.size ≤ w6.heap.size := Nat.le_trans (Nat.le_trans hb5.size hA5.size) hb6.size)
                | (refine step_append_at rfl _ _ 22 rfl w4.heap.size 35 i (.agg #[.int .i64 0, .int .i64 0, .slice none 0 0, .slice none 0 0, .slice none 0 0]) 5 88 Tryd.underlying22 hi hz0 hz1 hz2 rfl (by decide) (.slice ea ls.length ec) ls.length (ctv ks) rfl (World.ownsRow.alloc ho6 _) ⟨w6.heap.size, 0, none⟩ 1 1 [.int .i64 x.au, .int .i64 x.rd, .slice x.ba x.bl.length x.bc, .slice x.pa x.pl.length x.pc, .slice x.va x.vl.length x.vc] rfl rfl (cells_new _ _ _) (by intro u hu; simp at hu; rcases hu with rfl | rfl | rfl | rfl | rfl <;> rfl) (by unfold maxLen; omega) (by omega) (le_alloc hw6 _) ?_; intro v7 w7 ho7 G7; have x2 := G7.row (heap_keep v2) hvO; have xd0 := cells_at x2 0 _ rfl; have xf0 := frozen_at x2 0; have xb := G7.row (heap_keep vb) hvB; have xbc0 := cells_at xb 0 _ rfl; have xbf0 := frozen_at xb 0; obtain ⟨fa, fc, hvf⟩ := owns_shape ho7; subst hvf))
              all_goals
                have hapW : ApartC W5 w4.heap.size (.slice ea ls.length ec) ks := fun y hy => ⟨(hap5 y hy).1.below hA5, (hap5 y hy).2⟩
                have hap7 := hapW.more (c := x) (Nat.le_trans hb5.size hA5.size) ho5A hb6 hxin hxa G7
                have hB6 := hB5A.trans (hb6.mono hB5A.size)
                have hw4 : w.heap.size ≤ w4.heap.size := hB4.size
                have hB7 : Below w.heap.size w w7 := Below.grown (hB6.alloc hB6.size _) G7.grown (le_alloc hB6.size _) (fun q e => Nat.le_trans hw4 (ho5.lt q e).1)
                obtain ⟨ra', rc', hv, hl, hL, hfr⟩ := dag_of_owns (ls := ks ++ [x]) (by rw [ctv_snoc]; exact ho7) hap7
                cases hv
                have hLL := hL (by omega)
                have hrB : ∀ sb so, fa = some ⟨sb, so, none⟩ → sb ≠ w5.heap.size := fun sb so e h9 => by
                  rcases G7.fresh sb (by rw [e]; rfl) with g | g
                  · exact hvB (by rw [g, h9])
                  · rw [size_alloc] at g
                    have := hb6.size
                    omega
                have hrO : ∀ sb so, fa = some ⟨sb, so, none⟩ → sb ≠ O := fun sb so e h9 => by have := (hfr sb so e).1; omega
                have hcB : ∀ y ∈ ks ++ [x], ∀ q, CtIn y q → q ≠ w5.heap.size := fun y hy q hq h9 => by
                  rcases List.mem_append.1 hy with hy | hy
                  · have := (hap5 y hy).1.block_lt q hq; omega
                  · obtain rfl : y = x := by simpa using hy
                    have := hxin q hq; omega
                have hcO : ∀ y ∈ ks ++ [x], ∀ q, CtIn y q → q ≠ O := fun y hy q hq h9 => by have := ((hap7 y hy).2 q hq).1; omega
                have hLF := (hLL.far w5.heap.size 0 (.slice fa (ls.length + 1) fc) hrB hcB).far O 0 (.slice fa (ls.length + 1) fc) hrO hcO
                have HL : Hid (ls.length + 1 = (ks ++ [x]).length) := hl
                have HKS : Hid (cvs (ks ++ [x]) = cvs ls ++ [c.v]) := by
                  show _ = _
                  rw [← hS5, ← hxv]
                  simp [cvs]
                have hwb : w.heap.size ≤ w5.heap.size := hB5.size
                have hOB : O ≠ w5.heap.size := by have := hb5.size; omega
                have HR1 : Hid (∀ sb so, fa = some ⟨sb, so, none⟩ → w.heap.size ≤ sb) := by
                  show ∀ sb, _
                  exact fun sb so e => Nat.le_trans hw4 (hfr sb so e).1
                have HR2 : Hid (∀ k ∈ ks ++ [x], ∀ q, CtIn k q → w.heap.size ≤ q) := by
                  show ∀ k, _
                  exact fun k hk q hq => Nat.le_trans hw4 ((hap7 k hk).2 q hq).1
                clear hl hS5 hxv hxin hrB hrO hcB hcO hL hfr
                go_wp2_with fail
                refine bodyPost_ret (v := .tuple #[.agg #[.slice fa (ls.length + 1) fc], .int .i64 0]) (by simp [results, Tryd.results22, go_sem, xd0]) rfl ⟨.inr ⟨HM5.out, fa, fc, ks ++ [x], by rw [HL.out], HKS.out, hLF, HR1.out, HR2.out⟩, (hB7.setCell hwb _).setCell HOg _⟩
          · have HM4 : Hid (insE (cvs ls) c.v = P) := by
              show _ = _
              rw [HM3.out, if_pos hP]
            have HTN : Hid (P ≠ 0) := hP
            have hPn : (P == 0) = false := by simpa using hP
            have hPm : (P != 0) = true := by simpa using hP
            clear HM3
            go_wp2_with fail
            refine bodyPost_ret (v := .tuple #[.agg #[.slice none 0 0], .int .i64 P]) (by simp [results, Tryd.results22, go_sem, td0]) rfl ⟨InAt.err HM4.out HTN.out, hB4.setCell HOg _⟩
    · have HM2 : Hid (insE (cvs ls) c.v = c.v.f) := by
        show _ = _
        rw [HM.out, if_pos hx]
      have HTN : Hid (c.v.f ≠ 0) := hx
      have hxe : (c.v.f == 0) = false := by simpa using hx
      have hxn : (c.v.f != 0) = true := by simpa using hx
      have d0 := cells_at s2 0 _ rfl
      have f0 := frozen_at s2 0
      clear HM
      generalize c.v.f = x at *
      go_wp2_with fail
      refine bodyPost_ret (v := .tuple #[.agg #[.slice none 0 0], .int .i64 x]) (by simp [results, Tryd.results22, go_sem, d0]) rfl ⟨InAt.err HM2.out HTN.out, hB2.setCell HOg _⟩
  · have HM : Hid (insE (cvs ls) c.v = 12) := by
      show _ = _
      rw [insE, hF]; rfl
    rw [hF]
    clear hF
    have d0 := cells_at r2 0 _ rfl
    have f0 := frozen_at r2 0
    go_wp2_with fail
    refine bodyPost_ret (v := .tuple #[.agg #[.slice none 0 0], .int .i64 12]) (by simp [results, Tryd.results22, go_sem, d0]) rfl ⟨InAt.err HM.out (by decide), hB1.setCell HOg _⟩
end Go.Proofs.YtbehmcflllleaaaDoor

namespace Go.Proofs.YtbehmcflllleaaaDoor
open Go.RowKit

set_option maxRecDepth 100000 in
set_option maxHeartbeats 1000000 in
theorem sameCertsL_eq (xs ys : List Ct) (sa sb : Option Addr) (c d : Nat) (w : World) (hS : cvs xs = cvs ys) (hl : ys.length ≤ 3000000000000000000) (hvl : ∀ c ∈ ys, c.vl.length ≤ 9000000000000000000) (ha : CertsAt w sa xs) (hb : CertsAt w sb ys) (hax : ∀ c ∈ xs, CtLs w c) (hby : ∀ c ∈ ys, CtLs w c) :
    Calls Tryd.prog 23 #[.slice sa ys.length c, .slice sb ys.length d] w fun e w' => e = .returned (.bool true) ∧ Below w.heap.size w w' := by
  have hlen : xs.length = ys.length := by have := congrArg List.length hS; rw [cvs_length, cvs_length] at this; exact this
  have HL : Hid (xs.length = ys.length) := hlen
  have HS : Hid (cvs xs = cvs ys) := hS
  clear hlen hS
  go_enter Tryd.func23, Tryd.ntmps23
  go_wp2_with fail
  go_loopw [5] (fun j wr => ∃ k : Nat, k ≤ ys.length ∧ j = .int .i64 k ∧ Below w.heap.size w wr) (fun j _ => ys.length - (intOf j).toNat)
  case atStart => exact ⟨0, Nat.zero_le _, rfl, Below.refl _ _⟩
  case round =>
    obtain ⟨k, hk, rfl, hbw⟩ := hrel
    by_cases hlt2 : k < ys.length
    · have hlt : k < xs.length := by have := HL.out; omega
      obtain ⟨ab, ao, rfl, a0, a1, a2, a3, a4⟩ := (ha.below hbw).at k hlt
      obtain ⟨bb, bo, rfl, b0, b1, b2, b3, b4⟩ := (hb.below hbw).at k hlt2
      have hx := (hax (xs[k]) (List.getElem_mem hlt)).below hbw
      have hy := (hby (ys[k]) (List.getElem_mem hlt2)).below hbw
      have hyv := hvl (ys[k]) (List.getElem_mem hlt2)
      have hv : (xs[k]).v = (ys[k]).v := by
        rw [← cvAt_get xs k hlt, ← cvAt_get ys k hlt2, HS.out]
      have hltI : (k : Int) < ys.length := by omega
      have h0 : (0 : Int) ≤ k := by omega
      have lab : ab < wr.heap.size := block_lt_of_cell a0
      have lbb : bb < wr.heap.size := block_lt_of_cell b0
      have HC := sameCertL_eq (xs[k]) (ys[k]) wr.drew hv hyv (hx.below (Below.refl _ _).drew) (hy.below (Below.refl _ _).drew)
      clear hv hx hy hyv
      generalize xs[k] = p at *
      generalize ys[k] = q at *
      go_wp2_with fail
      go_region_held3 (fun w' => w'.cell? ⟨ab, ao + k * 5, none⟩ = some (.int .i64 p.au) ∧ w'.cell? ⟨ab, ao + k * 5 + 1, none⟩ = some (.int .i64 p.rd) ∧ w'.cell? ⟨ab, ao + k * 5 + 2, none⟩ = some (.slice p.ba p.bl.length p.bc) ∧ w'.cell? ⟨ab, ao + k * 5 + 3, none⟩ = some (.slice p.pa p.pl.length p.pc) ∧ w'.cell? ⟨ab, ao + k * 5 + 4, none⟩ = some (.slice p.va p.vl.length p.vc) ∧ w'.cell? ⟨bb, bo + k * 5, none⟩ = some (.int .i64 q.au) ∧ w'.cell? ⟨bb, bo + k * 5 + 1, none⟩ = some (.int .i64 q.rd) ∧ w'.cell? ⟨bb, bo + k * 5 + 2, none⟩ = some (.slice q.ba q.bl.length q.bc) ∧ w'.cell? ⟨bb, bo + k * 5 + 3, none⟩ = some (.slice q.pa q.pl.length q.pc) ∧ w'.cell? ⟨bb, bo + k * 5 + 4, none⟩ = some (.slice q.va q.vl.length q.vc)) (go_keep) ((go_at_call 15; refine HC.mono ?_; rintro e w2 ⟨rfl, hb2⟩; replace hb2 := below_drew hb2; have c0 := (hb2.cell (p := ⟨ab, ao + k * 5, none⟩) lab).trans a0; have c1 := (hb2.cell (p := ⟨ab, ao + k * 5 + 1, none⟩) lab).trans a1; have c2 := (hb2.cell (p := ⟨ab, ao + k * 5 + 2, none⟩) lab).trans a2; have c3 := (hb2.cell (p := ⟨ab, ao + k * 5 + 3, none⟩) lab).trans a3; have c4 := (hb2.cell (p := ⟨ab, ao + k * 5 + 4, none⟩) lab).trans a4; have d0 := (hb2.cell (p := ⟨bb, bo + k * 5, none⟩) lbb).trans b0; have d1 := (hb2.cell (p := ⟨bb, bo + k * 5 + 1, none⟩) lbb).trans b1; have d2 := (hb2.cell (p := ⟨bb, bo + k * 5 + 2, none⟩) lbb).trans b2; have d3 := (hb2.cell (p := ⟨bb, bo + k * 5 + 3, none⟩) lbb).trans b3; have d4 := (hb2.cell (p := ⟨bb, bo + k * 5 + 4, none⟩) lbb).trans b4))
      all_goals
        go_wp2_with fail
        go_roundw
        case rel =>
          have hR : ∃ k' : Nat, k' ≤ ys.length ∧ (Value.int .i64 ((k : Int) + 1)) = .int .i64 k' ∧ Below w.heap.size w w2 := ⟨k + 1, by omega, by go_num, hbw.trans (hb2.mono hbw.size)⟩
          first | exact hR | ((repeat apply Exists.intro); exact ⟨hR, rfl⟩)
        case measure => simp [intOf]; omega
    · obtain rfl : k = ys.length := by omega
      have hltI : ¬ (ys.length : Int) < ys.length := by omega
      go_wp2_with fail
      go_ret
      exact ⟨rfl, hbw⟩
end Go.Proofs.YtbehmcflllleaaaDoor

namespace Go.Proofs.YtbehmcflllleaaaDoor
open Go.RowKit

/-- What Insert answers, its parts apart. -/
def InQ (B : Nat) (w' : World) (ra : Option Addr) (rn rc : Nat) (ec : Int) (l : List CV) (c : CV) : Prop :=
  (insE l c ≠ 0 ∧ ec = insE l c ∧ ra = none ∧ rn = 0 ∧ rc = 0) ∨ (insE l c = 0 ∧ ec = 0 ∧ ∃ ks, rn = List.length ks ∧ cvs ks = l ++ [c] ∧ DagAt w' ra rc ks ∧ (∀ sb so, ra = some ⟨sb, so, none⟩ → B ≤ sb) ∧ ∀ k ∈ ks, ∀ q, CtIn k q → B ≤ q)
set_option maxRecDepth 100000 in
theorem InAt.q {B : Nat} {w' : World} {e : Ending} {l : List CV} {c : CV} (h : InAt B w' e l c) : ∃ ra rn rc ec, e = .returned (.tuple #[.agg #[.slice ra rn rc], .int .i64 ec]) ∧ InQ B w' ra rn rc ec l c := by
  rcases h with ⟨h1, h2⟩ | ⟨h1, a, b, ks, h2, h3⟩
  · exact ⟨none, 0, 0, _, h2, .inl ⟨h1, rfl, rfl, rfl, rfl⟩⟩
  · exact ⟨a, _, b, 0, h2, .inr ⟨h1, rfl, ks, rfl, h3⟩⟩
set_option maxRecDepth 100000 in
theorem InQ.far {B : Nat} {w : World} {ra : Option Addr} {rn rc : Nat} {ec : Int} {l : List CV} {c : CV} (h : InQ B w ra rn rc ec l c) (b j : Nat) (x : Value) (hb : b < B) : InQ B (w.setCell ⟨b, j, none⟩ x) ra rn rc ec l c := by
  rcases h with h | ⟨h1, h2, ks, h3, h4, h5, h6, h7⟩
  · exact .inl h
  · exact .inr ⟨h1, h2, ks, h3, h4, h5.far b j x (fun sb so e => by have := h6 sb so e; omega) (fun k hk q hq => by have := h7 k hk q hq; omega), h6, h7⟩
set_option maxRecDepth 100000 in
theorem InQ.below {B : Nat} {w w' : World} {ra : Option Addr} {rn rc : Nat} {ec : Int} {l : List CV} {c : CV} (h : InQ B w ra rn rc ec l c) (hb : Below w.heap.size w w') : InQ B w' ra rn rc ec l c := by
  rcases h with h | ⟨h1, h2, ks, h3, h4, h5, h6, h7⟩
  · exact .inl h
  · exact .inr ⟨h1, h2, ks, h3, h4, h5.below hb, h6, h7⟩
set_option maxRecDepth 100000 in
theorem InQ.mono {B B' : Nat} {w : World} {ra : Option Addr} {rn rc : Nat} {ec : Int} {l : List CV} {c : CV} (h : InQ B w ra rn rc ec l c) (hb : B' ≤ B) : InQ B' w ra rn rc ec l c := by
  rcases h with h | ⟨h1, h2, ks, h3, h4, h5, h6, h7⟩
  · exact .inl h
  · exact .inr ⟨h1, h2, ks, h3, h4, h5, fun sb so e => Nat.le_trans hb (h6 sb so e), fun k hk q hq => Nat.le_trans hb (h7 k hk q hq)⟩
set_option maxRecDepth 100000 in
theorem nilDag (w : World) : DagAt w none 0 [] := ⟨Nat.le_refl _, by decide, by decide, .inl rfl, ⟨.inl rfl⟩, fun p hp => by cases hp⟩
set_option maxRecDepth 100000 in
theorem InQ.same {B B' : Nat} {w w' : World} {ra na : Option Addr} {rn rc nn nc : Nat} {ec fc : Int} {l : List CV} {c : CV} (h : InQ B w ra rn rc ec l c) (g : InQ B' w' na nn nc fc l c) (hb : Below w.heap.size w w') : ec = fc ∧ rn = nn ∧ ∃ ks ms, nn = List.length ms ∧ cvs ks = cvs ms ∧ DagAt w' ra rc ks ∧ DagAt w' na nc ms := by
  rcases h with ⟨h1, h2, h3, h4, h5⟩ | ⟨h1, h2, ks, h3, h4, h5, _⟩ <;> rcases g with ⟨g1, g2, g3, g4, g5⟩ | ⟨g1, g2, ms, g3, g4, g5, _⟩
  · subst h3 h4 h5 g3 g4 g5
    exact ⟨h2.trans g2.symm, rfl, [], [], rfl, rfl, nilDag _, nilDag _⟩
  · exact absurd g1 h1
  · exact absurd h1 g1
  · have hs : cvs ks = cvs ms := h4.trans g4.symm
    have hl := congrArg List.length hs
    rw [cvs_length, cvs_length] at hl
    exact ⟨h2.trans g2.symm, by rw [h3, g3, hl], ks, ms, g3, hs, h5.below hb, g5⟩
set_option maxRecDepth 100000 in
theorem CtRd.ls {w : World} {c : Ct} (h : CtRd w c) : CtLs w c := ⟨h.rb.list, h.rp.list, h.nums.ints⟩
set_option maxRecDepth 100000 in
set_option maxHeartbeats 2000000 in
theorem dagInserts_walk (sa : Option Addr) (cap : Nat) (ls : List Ct) (c : Ct) (w : World) (hd : DagRd w sa cap ls) (hc : CtRd w c) (hT : Tabs w) :
    Calls Tryd.prog 6 #[.agg #[.slice sa ls.length cap], .agg #[.int .i64 c.au, .int .i64 c.rd, .slice c.ba c.bl.length c.bc, .slice c.pa c.pl.length c.pc, .slice c.va c.vl.length c.vc]] w fun e w' => e = .returned (.bool true) ∧ Below w.heap.size w w' := by
  have hA : Below w.heap.size w ((w.alloc (.cells #[.slice sa ls.length cap] 24)).alloc (.cells #[.int .i64 c.au, .int .i64 c.rd, .slice c.ba c.bl.length c.bc, .slice c.pa c.pl.length c.pc, .slice c.va c.vl.length c.vc] 35)) := ((Below.refl _ _).alloc (Nat.le_refl _) _).alloc (by rw [size_alloc]; omega) _
  have q0 := heap_alloc2_old w (.cells #[.slice sa ls.length cap] 24) (.cells #[.int .i64 c.au, .int .i64 c.rd, .slice c.ba c.bl.length c.bc, .slice c.pa c.pl.length c.pc, .slice c.va c.vl.length c.vc] 35)
  have q1 : ((w.alloc (.cells #[.slice sa ls.length cap] 24)).alloc (.cells #[.int .i64 c.au, .int .i64 c.rd, .slice c.ba c.bl.length c.bc, .slice c.pa c.pl.length c.pc, .slice c.va c.vl.length c.vc] 35)).heap[w.heap.size + 1]? = some (.cells #[.int .i64 c.au, .int .i64 c.rd, .slice c.ba c.bl.length c.bc, .slice c.pa c.pl.length c.pc, .slice c.va c.vl.length c.vc] 35 (0, 0)) := by
    have := heap_alloc_new (w.alloc (.cells #[.slice sa ls.length cap] 24)) (.cells #[.int .i64 c.au, .int .i64 c.rd, .slice c.ba c.bl.length c.bc, .slice c.pa c.pl.length c.pc, .slice c.va c.vl.length c.vc] 35)
    rw [size_alloc] at this; exact this
  go_enter Tryd.func6, Tryd.ntmps6
  go_wp2_with fail
  generalize (w.alloc (.cells #[.slice sa ls.length cap] 24)).alloc (.cells #[.int .i64 c.au, .int .i64 c.rd, .slice c.ba c.bl.length c.bc, .slice c.pa c.pl.length c.pc, .slice c.va c.vl.length c.vc] 35) = W0 at hA q0 q1 ⊢
  refine (dagCopy_any ls sa _ cap W0 rfl (hd.below hA)).mono ?_
  rintro e w1 ⟨ra, rc, ks, he, hS, hD1, hb1⟩
  subst he
  dsimp only
  have HS : Hid (cvs ks = cvs ls) := hS
  have HL : Hid (ls.length = ks.length) := by
    show _ = _
    have := congrArg List.length hS; rw [cvs_length, cvs_length] at this; exact this.symm
  clear hS
  have hB1 := hA.trans (hb1.mono hA.size)
  have hA1 := (Below.refl w1.heap.size w1).alloc (Nat.le_refl _) (.cells #[.slice ra ls.length rc] 24)
  have z1 := heap_alloc_new w1 (.cells #[.slice ra ls.length rc] 24)
  have r0 := heap_keep (o := .cells #[.slice ra ls.length rc] 24) ((hb1.block _ (lt_of_heap q0)).trans q0)
  have r1 := heap_keep (o := .cells #[.slice ra ls.length rc] 24) ((hb1.block _ (lt_of_heap q1)).trans q1)
  have HentC : Hid _ := enters_of Tryd.func21 (by kernel_rfl) rfl
  have HentI : Hid _ := enters_of Tryd.func20 (by kernel_rfl) rfl
  go_wp2_with fail
  generalize w1.alloc (.cells #[.slice ra ls.length rc] 24) = W1 at hA1 z1 r0 r1 ⊢
  have hB1A := hB1.trans (hA1.mono hB1.size)
  have zc := cells_at z1 0 _ rfl
  have n0 := cells_at r1 0 _ rfl
  have n1 := cells_at r1 1 _ rfl
  have n2 := cells_at r1 2 _ rfl
  have n3 := cells_at r1 3 _ rfl
  have n4 := cells_at r1 4 _ rfl
  have HIN : Hid (∀ (W : World) (x : Ct), Below W1.heap.size W1 W → x.v = c.v → CtAt W x → Calls Tryd.prog 20 #[.agg #[.slice ra ls.length rc], .agg #[.int .i64 x.au, .int .i64 x.rd, .slice x.ba x.bl.length x.bc, .slice x.pa x.pl.length x.pc, .slice x.va x.vl.length x.vc]] W fun e w' => ∃ u, e = .returned u ∧ ∃ pa pn pc ec, u = .tuple #[.agg #[.slice pa pn pc], .int .i64 ec] ∧ InQ W.heap.size w' pa pn pc ec (cvs ls) c.v ∧ Below W.heap.size W w') := by
    show ∀ W, _
    intro W x hW hxv hxa
    refine (dagInsert_any ks ra _ rc x W HL.out ((hD1.below hA1).below hW) hxa (hT.below (hB1A.trans (hW.mono hB1A.size)))).mono ?_
    rintro e w' ⟨hI, hb'⟩
    rw [HS.out, hxv] at hI
    obtain ⟨pa, pn, pc, ec, he, hQ⟩ := hI.q
    exact ⟨_, he, pa, pn, pc, ec, rfl, hQ, hb'⟩
  have HCC : Hid (∀ W : World, Below W1.heap.size W1 W → Calls Tryd.prog 21 #[.agg #[.int .i64 c.au, .int .i64 c.rd, .slice c.ba c.bl.length c.bc, .slice c.pa c.pl.length c.pc, .slice c.va c.vl.length c.vc]] W fun e w' => ∃ u, e = .returned u ∧ ∃ x : Ct, u = .agg #[.int .i64 x.au, .int .i64 x.rd, .slice x.ba x.bl.length x.bc, .slice x.pa x.pl.length x.pc, .slice x.va x.vl.length x.vc] ∧ x.v = c.v ∧ CtAt w' x ∧ Below W.heap.size W w') := by
    show ∀ W, _
    intro W hW
    refine (certCopy_ct c W (hc.below (hB1A.trans (hW.mono hB1A.size)))).mono ?_
    rintro e w' ⟨x, he, h1, h2, _, h4⟩
    exact ⟨_, he, x, rfl, h1, h2, h4⟩
  have hAZ := (Below.refl W1.heap.size W1).alloc (Nat.le_refl _) (.cells #[.slice none 0 0] 24)
  have zZ := heap_keep (o := .cells #[.slice none 0 0] 24) z1
  have zcZ := cells_at zZ 0 _ rfl
  have rZ := heap_keep (o := .cells #[.slice none 0 0] 24) r1
  have nZ0 := cells_at rZ 0 _ rfl
  have nZ1 := cells_at rZ 1 _ rfl
  have nZ2 := cells_at rZ 2 _ rfl
  have nZ3 := cells_at rZ 3 _ rfl
  have nZ4 := cells_at rZ 4 _ rfl
  have oZ := heap_alloc_new W1 (.cells #[.slice none 0 0] 24)
  go_region_law (first
    | (refine step_calls rfl 20 _ _ rfl [.agg #[.slice ra ls.length rc], .agg #[.int .i64 x.au, .int .i64 x.rd, .slice x.ba x.bl.length x.bc, .slice x.pa x.pl.length x.pc, .slice x.va x.vl.length x.vc]] rfl HentI.out (fun u w9 => ∃ pa pn pc ec, u = .tuple #[.agg #[.slice pa pn pc], .int .i64 ec] ∧ InQ w2.heap.size w9 pa pn pc ec (cvs ls) c.v ∧ Below w2.heap.size w2 w9) (HIN.out w2 x hb2 hxv hxa) ?_; rintro u w3 ⟨pa, pn, pc, ec, rfl, hQ, hb3⟩; first | (have o3 := (hb3.block _ (lt_of_heap o2)).trans o2; have oc3 := cells_at o3 0 _ rfl; have of3 := frozen_at o3 0) | skip)
    | (refine step_calls rfl 20 _ _ rfl [.agg #[.slice ra ls.length rc], .agg #[.int .i64 x.au, .int .i64 x.rd, .slice x.ba x.bl.length x.bc, .slice x.pa x.pl.length x.pc, .slice x.va x.vl.length x.vc]] rfl HentI.out (fun u w9 => ∃ pa pn pc ec, u = .tuple #[.agg #[.slice pa pn pc], .int .i64 ec] ∧ InQ (w2.alloc (.cells #[.slice none 0 0] 24)).heap.size w9 pa pn pc ec (cvs ls) c.v ∧ Below (w2.alloc (.cells #[.slice none 0 0] 24)).heap.size (w2.alloc (.cells #[.slice none 0 0] 24)) w9) (HIN.out (w2.alloc (.cells #[.slice none 0 0] 24)) x (hb2.alloc hb2.size _) hxv (hxa.below ((Below.refl _ _).alloc (Nat.le_refl _) _))) ?_; rintro u w3 ⟨pa, pn, pc, ec, rfl, hQ, hb3⟩; have o3 := (hb3.block _ (lt_of_heap (heap_alloc_new w2 (.cells #[.slice none 0 0] 24)))).trans (heap_alloc_new w2 (.cells #[.slice none 0 0] 24)); have oc3 := cells_at o3 0 _ rfl; have of3 := frozen_at o3 0)
    | (refine step_calls rfl 21 _ _ rfl [.agg #[.int .i64 c.au, .int .i64 c.rd, .slice c.ba c.bl.length c.bc, .slice c.pa c.pl.length c.pc, .slice c.va c.vl.length c.vc]] rfl HentC.out (fun u w9 => ∃ x : Ct, u = .agg #[.int .i64 x.au, .int .i64 x.rd, .slice x.ba x.bl.length x.bc, .slice x.pa x.pl.length x.pc, .slice x.va x.vl.length x.vc] ∧ x.v = c.v ∧ CtAt w9 x ∧ Below W1.heap.size W1 w9) ((HCC.out W1.drew (Below.refl _ _).drew).mono (fun e w9 ⟨u, he, x, h0, h1, h2, h4⟩ => ⟨u, he, x, h0, h1, h2, below_drew h4⟩)) ?_; rintro u w2 ⟨x, rfl, hxv, hxa, hb2⟩; have zc2 := cells_at ((hb2.block _ (lt_of_heap z1)).trans z1) 0 _ rfl; have zc2Z := cells_at (heap_keep (o := .cells #[.slice none 0 0] 24) ((hb2.block _ (lt_of_heap z1)).trans z1)) 0 _ rfl)
    | (refine step_calls rfl 21 _ _ rfl [.agg #[.int .i64 c.au, .int .i64 c.rd, .slice c.ba c.bl.length c.bc, .slice c.pa c.pl.length c.pc, .slice c.va c.vl.length c.vc]] rfl HentC.out (fun u w9 => ∃ x : Ct, u = .agg #[.int .i64 x.au, .int .i64 x.rd, .slice x.ba x.bl.length x.bc, .slice x.pa x.pl.length x.pc, .slice x.va x.vl.length x.vc] ∧ x.v = c.v ∧ CtAt w9 x ∧ Below (W1.alloc (.cells #[.slice none 0 0] 24)).heap.size (W1.alloc (.cells #[.slice none 0 0] 24)) w9) ((HCC.out (W1.alloc (.cells #[.slice none 0 0] 24)).drew hAZ.drew).mono (fun e w9 ⟨u, he, x, h0, h1, h2, h4⟩ => ⟨u, he, x, h0, h1, h2, below_drew h4⟩)) ?_; rintro u w2 ⟨x, rfl, hxv, hxa, hb2Z⟩; have hb2 := hAZ.trans (hb2Z.mono hAZ.size); have o2 := (hb2Z.block _ (lt_of_heap oZ)).trans oZ; have zc2 := cells_at ((hb2Z.block _ (lt_of_heap zZ)).trans zZ) 0 _ rfl))
  all_goals
    have hb13 : Below W1.heap.size W1 w3 := by
      first
        | exact hb2.trans (hb3.mono hb2.size)
        | exact hb2.trans ((below_alloc hb3).mono hb2.size)
    first
      | (have oX := heap_setCell_same _ _ 0 _ _ (.slice pa pn pc) o3
         have hX := hb13.setCell (p := ⟨w2.heap.size, 0, none⟩) hb2.size (.slice pa pn pc)
         have hQX := hQ.far w2.heap.size 0 (.slice pa pn pc) (by rw [size_alloc]; omega)
         generalize w3.setCell ⟨w2.heap.size, 0, none⟩ (.slice pa pn pc) = X at oX hX hQX ⊢
         generalize w2.heap.size = B at oX ⊢
         have hOK : X = X := rfl)
      | (have oX := heap_setCell_same _ _ 0 _ _ (.slice pa pn pc) o3
         have hX := hb13.setCell (p := ⟨W1.heap.size, 0, none⟩) (Nat.le_refl _) (.slice pa pn pc)
         have hQX := hQ.far W1.heap.size 0 (.slice pa pn pc) (lt_of_heap o2)
         generalize w3.setCell ⟨W1.heap.size, 0, none⟩ (.slice pa pn pc) = X at oX hX hQX ⊢
         generalize hBe : W1.heap.size = B at oX ⊢
         have hOK : X = X := rfl)
      | (have oX := heap_alloc_new w3 (.cells #[.slice pa pn pc] 24)
         have hX := hb13.alloc hb13.size (.cells #[.slice pa pn pc] 24)
         have hQX := hQ.below ((Below.refl w3.heap.size w3).alloc (Nat.le_refl _) (.cells #[.slice pa pn pc] 24))
         generalize w3.alloc (.cells #[.slice pa pn pc] 24) = X at oX hX hQX ⊢
         generalize w3.heap.size = B at oX ⊢
         have hOK : X = X := rfl)
    clear hOK
    have x0 := (hX.block _ (lt_of_heap r0)).trans r0
    have x1 := (hX.block _ (lt_of_heap r1)).trans r1
    have xz := (hX.block _ (lt_of_heap z1)).trans z1
    have g0 := cells_at x0 0 _ rfl
    have m0 := cells_at x1 0 _ rfl
    have m1 := cells_at x1 1 _ rfl
    have m2 := cells_at x1 2 _ rfl
    have m3 := cells_at x1 3 _ rfl
    have m4 := cells_at x1 4 _ rfl
    have hBX := hB1A.trans (hX.mono hB1A.size)
    have HQX : Hid _ := hQX
    clear hQX hQ
    go_wp2_with fail
    refine (insertedIn_any ls sa cap c X (hd.below hBX) (hc.below hBX)).mono ?_
    rintro e w4 ⟨hI, hb4⟩
    obtain ⟨na, nn, nc, fc, he, hQ4⟩ := hI.q
    obtain ⟨h1, h2, us, ms, h3, hSU, hDU, hDM⟩ := InQ.same HQX.out hQ4 hb4
    have H3 : Hid (pn = ms.length) := h2.trans h3
    have he' : e = .returned (.tuple #[.agg #[.slice na pn nc], .int .i64 ec]) := by rw [he, h1, h2]
    clear hI he hQ4 HQX h1 h2 h3
    subst he'
    dsimp only
    clear g0 m0 m1 m2 m3 m4
    have hB4 := hBX.trans (hb4.mono hBX.size)
    have hA4 := (Below.refl w4.heap.size w4).alloc (Nat.le_refl _) (.cells #[.slice na pn nc] 24)
    have y4 := heap_alloc_new w4 (.cells #[.slice na pn nc] 24)
    have o4 := heap_keep (o := .cells #[.slice na pn nc] 24) ((hb4.block _ (lt_of_heap oX)).trans oX)
    have z4 := heap_keep (o := .cells #[.slice na pn nc] 24) ((hb4.block _ (lt_of_heap xz)).trans xz)
    have d4 := heap_keep (o := .cells #[.slice na pn nc] 24) ((hb4.block _ (lt_of_heap x0)).trans x0)
    have yc := cells_at y4 0 _ rfl
    have oc := cells_at o4 0 _ rfl
    go_wp2_with fail
    generalize w4.alloc (.cells #[.slice na pn nc] 24) = W4 at hA4 y4 o4 z4 d4 yc oc ⊢
    have hB4A := hB4.trans (hA4.mono hB4.size)
    have hDU4 := hDU.below hA4
    have hDM4 := hDM.below hA4
    have HC1 := sameCertsL_eq us ms pa na pc nc W4 hSU hDM4.small (fun y hy => (hDM4.each y hy).vle) hDU4.certs hDM4.certs (fun y hy => (hDU4.each y hy).ls) (fun y hy => (hDM4.each y hy).ls)
    rw [← H3.out] at HC1
    refine HC1.mono ?_
    rintro e w5 ⟨he, hb5⟩
    subst he
    dsimp only
    clear HC1 yc oc hSU
    have hB5 := hB4A.trans (hb5.mono hB4A.size)
    have z5 := (hb5.block _ (lt_of_heap z4)).trans z4
    have d5 := (hb5.block _ (lt_of_heap d4)).trans d4
    have zc5 := cells_at z5 0 _ rfl
    have dc5 := cells_at d5 0 _ rfl
    have hW15 : Below w1.heap.size w1 w5 := hA1.trans ((hX.trans ((hb4.trans ((hA4.trans (hb5.mono hA4.size)).mono hb4.size)).mono hX.size)).mono hA1.size)
    have hDK := hD1.below hW15
    have hdw := hd.below hB5
    have HC2 := sameCertsL_eq ks ls ra sa rc cap w5 HS.out hd.small (fun y hy => by have h8 := (hd.each y hy).nums.le; have h9 := (hd.each y hy).nums.reach; omega) hDK.certs hdw.certs (fun y hy => (hDK.each y hy).ls) (fun y hy => (hdw.each y hy).ls)
    go_wp2_with fail
    refine HC2.mono ?_
    rintro e w6 ⟨he, hb6⟩
    subst he
    dsimp only
    go_wp2_with fail
    go_ret
    exact ⟨rfl, hB5.trans (hb6.mono hB5.size)⟩
end Go.Proofs.YtbehmcflllleaaaDoor
