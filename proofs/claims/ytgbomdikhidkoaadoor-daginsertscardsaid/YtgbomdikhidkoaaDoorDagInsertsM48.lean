/- The document's CertFault, for every certificate. -/
import Derived.Test.YtgbomdikhidkoaaDoorAppH
import Derived.Test.YtgbomdikhidkoaaDoorDagInsertsM36
import Derived.Test.YtgbomdikhidkoaaDoorDagInsertsM42
import Derived.Test.YtgbomdikhidkoaaDoorDigH
import Derived.Test.YtgbomdikhidkoaaDoorHeadK
import Derived.Test.YtgbomdikhidkoaaDoorDagInsertsM18
import Derived.Test.YtgbomdikhidkoaaDoorDagInsertsM30
import Derived.Test.YtgbomdikhidkoaaDoorDagInsertsM0
import Derived.Test.YtgbomdikhidkoaaDoorPK
import Derived.Test.YtgbomdikhidkoaaDoorHeadF
import Derived.Test.YtgbomdikhidkoaaDoorCertF
import Derived.Deep.RegionHeld2
namespace Go.Proofs.YtgbomdikhidkoaaDoor
open Go.RowKit

set_option maxRecDepth 100000 in
theorem headB_le (au rd : Int) (bl pl : List Part) (hbl : bl.length ≤ 4) (hpl : pl.length ≤ 4) (hb32 : ∀ p ∈ bl, p.bs.length = 32) (hp32 : ∀ p ∈ pl, p.bs.length = 32) : (headB au rd bl pl).length ≤ 300 := by
  have h1 := flatB_length bl hb32
  have h2 := flatB_length pl hp32
  simp [headB, rd3, digsB]; omega
end Go.Proofs.YtgbomdikhidkoaaDoor

namespace Go.Proofs.YtgbomdikhidkoaaDoor
open Go.RowKit

set_option maxRecDepth 100000 in
theorem flatB_all (l : List Part) (h : ∀ p ∈ l, AllU8 p.bs) : AllU8 (flatB l) := by
  induction l with
  | nil => intro x hx; cases hx
  | cons p l ih =>
    intro x hx
    simp only [flatB, List.mem_append] at hx
    rcases hx with hx | hx
    · exact h p (by simp) x hx
    · exact ih (fun q hq => h q (by simp [hq])) x hx
set_option maxRecDepth 100000 in
theorem headB_all {au rd : Int} {bl pl : List Part} (ha : 0 ≤ au ∧ au < 4) (hr : 0 ≤ rd ∧ rd ≤ 1048576) (hbl : bl.length ≤ 4) (hpl : pl.length ≤ 4) (hb : ∀ p ∈ bl, AllU8 p.bs) (hp : ∀ p ∈ pl, AllU8 p.bs) : AllU8 (headB au rd bl pl) := by
  intro x hx
  simp only [headB, rd3, digsB, List.mem_append, List.mem_cons, List.not_mem_nil, or_false] at hx
  rcases hx with ((hx | hx | hx | hx) | hx | hx) | hx | hx
  · omega
  · omega
  · omega
  · omega
  · omega
  · exact flatB_all bl hb x hx
  · omega
  · exact flatB_all pl hp x hx
set_option maxRecDepth 100000 in
set_option maxHeartbeats 1000000 in
theorem rHeaderDigest_new (au nu : Int) (ba : Option Addr) (bn bc : Nat) (bl : List Part) (pa : Option Addr) (pn pc : Nat) (pl : List Part) (w : World) (hbn : bn = bl.length) (hpn : pn = pl.length) (hLb : ListAt w ba bc bl) (hLp : ListAt w pa pc pl) (hub : ∀ p ∈ bl, AllU8 p.bs) (hup : ∀ p ∈ pl, AllU8 p.bs) (hF : headerF au nu bl pl = 0) :
    Calls Tryd.prog 49 #[.agg #[.int .i64 au, .int .i64 nu, .slice ba bn bc, .slice pa pn pc]] w fun e w' => ∃ g c, e = .returned (.slice (some ⟨g, 0, none⟩) 32 c) ∧ SliceAt w' (some ⟨g, 0, none⟩) c (tagD 2 (headB au nu bl pl)) ∧ Below w.heap.size w w' ∧ w.heap.size ≤ g := by
  have hA : Below w.heap.size w (w.alloc (.cells #[.int .i64 au, .int .i64 nu, .slice ba bn bc, .slice pa pn pc] 32)) := (Below.refl _ _).alloc (Nat.le_refl _) _
  obtain ⟨y1, y2, y3, y4, y5, y6⟩ := headerF_ok hF
  have hB := headerBytes_any au nu ba bn bc bl pa pn pc pl _ y1 ⟨by omega, y2.2⟩ hbn hpn (by omega) y4 y5 y6 (hLb.below hA) (hLp.below hA)
  have hu : AllU8 (headB au nu bl pl) := headB_all y1 ⟨by omega, y2.2⟩ (by omega) y4 hub hup
  have hbl : (headB au nu bl pl).length ≤ 300 := headB_le au nu bl pl (by omega) y4 y5 y6
  clear hbn hpn
  have HU : Hid _ := hu
  clear hu
  generalize headB au nu bl pl = B at *
  go_enter Tryd.func49, Tryd.ntmps49
  go_wp2_with fail
  refine hB.mono ?_
  rintro e w1 ⟨v1, rfl, ho1, hb1⟩
  replace hb1 := below_alloc hb1
  obtain ⟨xa, xc, hv, hxl, hx⟩ := owns_form ho1
  subst hv
  clear hxl ho1 hB
  have hP : ∀ p ∈ [(⟨xa, xc, B⟩ : Part)], AllU8 p.bs := by
    intro p hp
    obtain rfl : p = ⟨xa, xc, B⟩ := by simpa using hp
    exact HU.out
  have HP : Hid _ := hP
  clear hP
  go_wp2_with fail
  refine (taggedOf_new 2 [⟨xa, xc, B⟩] _ _ _ _ (by decide) rfl (by simp) (one_part w1 xa _ xc B rfl hx) HP.out).mono ?_
  rintro e w2 ⟨hb2, h9⟩
  rcases h9 with ⟨h9, _⟩ | ⟨_, g, c, rfl, hr, hge⟩
  · simp [psz] at h9; omega
  go_wp2_with fail
  go_ret
  refine ⟨g, c, rfl, ?_, hb1.trans ((below_alloc hb2).mono hb1.size), by rw [size_alloc] at hge; have := hb1.size; omega⟩
  rw [tagD, ← tagTo_part 2 xa xc B]
  exact hr
set_option maxRecDepth 100000 in
theorem rHeaderDigest_in (au nu : Int) (ba : Option Addr) (bn bc : Nat) (bl : List Part) (pa : Option Addr) (pn pc : Nat) (pl : List Part) (w : World) (hbn : bn = bl.length) (hpn : pn = pl.length) (hLb : ListAt w ba bc bl) (hLp : ListAt w pa pc pl) (hub : ∀ p ∈ bl, AllU8 p.bs) (hup : ∀ p ∈ pl, AllU8 p.bs) (hF : headerF au nu bl pl = 0) :
    Calls Tryd.prog 49 #[.agg #[.int .i64 au, .int .i64 nu, .slice ba bn bc, .slice pa pn pc]] w fun e w' => ∃ g c, e = .returned (.slice (some ⟨g, 0, none⟩) 32 c) ∧ SliceAt w' (some ⟨g, 0, none⟩) c (tagD 2 (headB au nu bl pl)) ∧ Below w.heap.size w w' := by
  refine (rHeaderDigest_new au nu ba bn bc bl pa pn pc pl w hbn hpn hLb hLp hub hup hF).mono ?_
  rintro e w' ⟨g, c, h1, h2, h3, _⟩
  exact ⟨g, c, h1, h2, h3⟩
end Go.Proofs.YtgbomdikhidkoaaDoor

namespace Go.Proofs.YtgbomdikhidkoaaDoor
open Go.RowKit

set_option maxRecDepth 100000 in
set_option maxHeartbeats 1000000 in
theorem digestsOf_any (ls : List Ct) (sa : Option Addr) (n cap : Nat) (w : World) (hn : n = ls.length) (hl4 : ls.length ≤ 400) (hc : CertsAt w sa ls) (he : ∀ c ∈ ls, CtRd w c) (hf : ∀ c ∈ ls, c.v.f = 0) :
    Calls Tryd.prog 30 #[.slice sa n cap] w fun e w' => ∃ ra rc ds, e = .returned (.slice ra ls.length rc) ∧ bss ds = (cvs ls).map CV.d ∧ ListAt w' ra rc ds ∧ Below w.heap.size w w' := by
  subst hn
  obtain ⟨i, hi, hz0, hz1, hz2⟩ := info_parts infoBs
  have HE : Hid (∀ c ∈ ls, CtRd w c) := he
  have HF : Hid (∀ c ∈ ls, c.v.f = 0) := hf
  clear he hf
  go_enter Tryd.func30, Tryd.ntmps30
  go_wp2_with fail
  go_loopw [4, 3] (fun j v wr => ∃ (k : Nat) (qs : List Part), k ≤ ls.length ∧ j = .int .i64 k ∧ bss qs = ((cvs ls).map CV.d).take k ∧ wr.ownsRow w.heap.size 29 1 v k (pv qs) ∧ Apart wr w.heap.size v qs ∧ Below w.heap.size w wr) (fun j _ _ => ls.length - (intOf j).toNat)
  case atStart => exact ⟨0, [], Nat.zero_le _, rfl, rfl, World.ownsRow_nil _ _ _ _, (fun p hp => by cases hp), Below.refl _ _⟩
  case round =>
    obtain ⟨k, qs, hk, rfl, hS, ho, hap, hb⟩ := hrel
    by_cases hlt : k < ls.length
    · obtain ⟨sb, so, rfl, c0, c1, c2, c3, _⟩ := (hc.below hb).at k hlt
      have hR := (HE.out (ls[k]) (List.getElem_mem hlt)).below hb
      have hF0 := HF.out (ls[k]) (List.getElem_mem hlt)
      have hH : headerF (ls[k]).au (ls[k]).rd (ls[k]).bl (ls[k]).pl = 0 := certF_head (vl := (ls[k]).vl) (by rw [Ct.f_v]; exact hF0)
      have hst : Hid (((cvs ls).map CV.d).take (k + 1) = ((cvs ls).map CV.d).take k ++ [hDig (ls[k]).au (ls[k]).rd (ls[k]).bl (ls[k]).pl]) := by
        show _ = _
        rw [List.take_succ_eq_append_getElem (by simp [cvs]; exact hlt)]
        simp [cvs, Ct.d_v]
      have hltI : (k : Int) < ls.length := by omega
      clear hF0
      generalize ls[k] = s at *
      have HD := rHeaderDigest_new s.au s.rd s.ba _ s.bc s.bl s.pa _ s.pc s.pl wr rfl rfl hR.rb.list hR.rp.list hR.ub hR.up hH
      clear hR hH
      go_wp2_with fail
      refine HD.mono ?_
      rintro e w2 ⟨g, gc, he, hs2, hb2, hge⟩
      subst he
      dsimp only
      have h32 : (tagD 2 (headB s.au s.rd s.bl s.pl)).length = 32 := tagD_length _ _
      have hob := owns_keep ho hb2
      have hB2 := hb.trans (hb2.mono hb.size)
      have hlt2 : g < w2.heap.size := slice_block_lt hs2 (by intro h; rw [h] at h32; simp at h32) g 0 rfl
      have hst' : Hid (((cvs ls).map CV.d).take (k + 1) = ((cvs ls).map CV.d).take k ++ [tagD 2 (headB s.au s.rd s.bl s.pl)]) := hst
      clear HD hst
      generalize tagD 2 (headB s.au s.rd s.bl s.pl) = D at *
      have H32 : Hid (D.length = 32) := h32
      clear h32
      go_wp2_with (at_builtin; refine wpList_append_own_at _ rfl _ _ 30 rfl w.heap.size 29 i (.slice none 0 0) 1 24 Tryd.underlying30 hi hz0 hz1 hz2 rfl (by decide) _ k _ rfl (World.ownsRow.alloc hob _) ⟨w2.heap.size, 0, none⟩ 1 1 [.slice (some ⟨g, 0, none⟩) 32 gc] rfl rfl (cells_new _ _ _) (by intro u hu; simp at hu; subst hu; rfl) (by unfold maxLen; omega) (by omega) (le_alloc hB2.size _) ?_; intro v1 w3 ho3 hg3 _ hat)
      have G := Grew.of hg3 hat
      have hap3 := hap.more_at (q := ⟨some ⟨g, 0, none⟩, gc, D⟩) hb.size ho hb2 (fun sb so e => by cases e; exact ⟨hge, hlt2⟩) hs2 G
      have hB3 := Below.grown (hB2.alloc hB2.size _) hg3 (le_alloc hB2.size _) (fun q e => (hob.lt q e).1)
      go_roundw
      case rel =>
        have hR : ∃ (k' : Nat) (qs' : List Part), k' ≤ ls.length ∧ (Value.int .i64 ((k : Int) + 1)) = .int .i64 k' ∧ bss qs' = ((cvs ls).map CV.d).take k' ∧ w3.ownsRow w.heap.size 29 1 v1 k' (pv qs') ∧ Apart w3 w.heap.size v1 qs' ∧ Below w.heap.size w w3 :=
          ⟨k + 1, qs ++ [⟨some ⟨g, 0, none⟩, gc, D⟩], by omega, by go_num, by rw [hst'.out, ← hS]; simp [bss], by simpa [pv, Part.val, H32.out] using ho3, hap3, hB3⟩
        first | exact hR | ((repeat apply Exists.intro); exact ⟨hR, rfl⟩)
      case measure => simp [intOf]; omega
    · obtain rfl : k = ls.length := by omega
      rw [List.take_of_length_le (by simp [cvs])] at hS
      obtain ⟨ra, rc, hv, hl, hL, hfr⟩ := listAt_of_owns ho hap
      subst hv
      have HS : Hid _ := hS
      clear hS
      go_wp2_with fail
      go_ret
      exact ⟨ra, rc, qs, rfl, HS.out, hL (by omega), hb⟩
end Go.Proofs.YtgbomdikhidkoaaDoor

namespace Go.Proofs.YtgbomdikhidkoaaDoor
open Go.RowKit

set_option maxRecDepth 100000 in
theorem in_bool (n a b : Int) (r : Bool) (w : World) (h : r = decide (a ≤ n ∧ n ≤ b)) : Calls Tryd.prog 48 #[.int .i64 n, .int .i64 a, .int .i64 b] w fun e w' => e = .returned (.bool r) ∧ w = w' := by
  by_cases h1 : a ≤ n
  · by_cases h2 : n ≤ b
    · obtain rfl : r = true := by simp [h, h1, h2]
      clear h
      go_enter Tryd.func48, Tryd.ntmps48
      go_wp2
      go_ret
      exact ⟨rfl, rfl⟩
    · obtain rfl : r = false := by simp [h, h2]
      clear h
      go_enter Tryd.func48, Tryd.ntmps48
      go_wp2
      go_ret
      exact ⟨rfl, rfl⟩
  · obtain rfl : r = false := by simp [h, h1]
    clear h
    go_enter Tryd.func48, Tryd.ntmps48
    go_wp2
    go_ret
    exact ⟨rfl, rfl⟩
set_option maxRecDepth 100000 in
theorem in_true (n a b : Int) (w : World) (h : a ≤ n ∧ n ≤ b) : Calls Tryd.prog 48 #[.int .i64 n, .int .i64 a, .int .i64 b] w fun e w' => e = .returned (.bool true) ∧ w = w' := in_bool n a b true w (by simp [h])
set_option maxRecDepth 100000 in
theorem in_false (n a b : Int) (w : World) (h : ¬ (a ≤ n ∧ n ≤ b)) : Calls Tryd.prog 48 #[.int .i64 n, .int .i64 a, .int .i64 b] w fun e w' => e = .returned (.bool false) ∧ w = w' := in_bool n a b false w (by rw [decide_eq_false h])
end Go.Proofs.YtgbomdikhidkoaaDoor

namespace Go.Proofs.YtgbomdikhidkoaaDoor
open Go.RowKit

set_option maxRecDepth 100000 in
set_option maxHeartbeats 2000000 in
theorem headerFault_any (au rd : Int) (ba : Option Addr) (bc : Nat) (bl : List Part) (pa : Option Addr) (pc : Nat) (pl : List Part) (w : World) (hb : ListAt w ba bc bl) (hp : ListAt w pa pc pl) :
    Calls Tryd.prog 40 #[.agg #[.int .i64 au, .int .i64 rd, .slice ba bl.length bc, .slice pa pl.length pc]] w fun e w' => e = .returned (.int .i64 (headerF au rd bl pl)) ∧ Below w.heap.size w w' := by
  have hbl := hb.le
  have hbm := hb.max
  have hbs := hb.small
  have hpl := hp.le
  have hpm := hp.max
  have hps := hp.small
  have hA : Below w.heap.size w (w.alloc (.cells #[.int .i64 au, .int .i64 rd, .slice ba bl.length bc, .slice pa pl.length pc] 32)) := (Below.refl _ _).alloc (Nat.le_refl _) _
  by_cases ha : 0 ≤ au ∧ au < 4
  · by_cases hr : 1 ≤ rd ∧ rd ≤ 1048576
    · by_cases hz : 3 < bl.length ∨ 4 < pl.length
      · have hF : Hid (headerF au rd bl pl = 1) := by show _ = _; rw [headerF, if_neg (by simp [ha, hr]), if_pos hz]
        by_cases hz1 : 3 < bl.length
        · have hzI : (3 : Int) < bl.length := by omega
          go_enter Tryd.func40, Tryd.ntmps40
          go_wp2_with (go_at_call 48; first | (refine (in_true _ _ _ _ (by omega)).mono ?_; rintro e w' ⟨rfl, rfl⟩) | (refine (in_false _ _ _ _ (by omega)).mono ?_; rintro e w' ⟨rfl, rfl⟩))
          go_ret
          exact ⟨ret_int hF.out.symm, hA⟩
        · have hzI : ¬ (3 : Int) < bl.length := by omega
          have hzJ : (4 : Int) < pl.length := by omega
          go_enter Tryd.func40, Tryd.ntmps40
          go_wp2_with (go_at_call 48; first | (refine (in_true _ _ _ _ (by omega)).mono ?_; rintro e w' ⟨rfl, rfl⟩) | (refine (in_false _ _ _ _ (by omega)).mono ?_; rintro e w' ⟨rfl, rfl⟩))
          go_ret
          exact ⟨ret_int hF.out.symm, hA⟩
      · have hF : Hid (headerF au rd bl pl = if digF bl ≠ 0 then digF bl else if digF pl ≠ 0 then digF pl else parentsF rd pl.length) := by show _ = _; rw [headerF, if_neg (by simp [ha, hr]), if_neg hz]
        have hzI : ¬ (3 : Int) < bl.length := by omega
        have hzJ : ¬ (4 : Int) < pl.length := by omega
        go_enter Tryd.func40, Tryd.ntmps40
        go_wp2_with (go_at_call 48; first | (refine (in_true _ _ _ _ (by omega)).mono ?_; rintro e w' ⟨rfl, rfl⟩) | (refine (in_false _ _ _ _ (by omega)).mono ?_; rintro e w' ⟨rfl, rfl⟩))
        refine (digestsFault_any bl ba _ bc _ rfl (by omega) (hb.parts.below hA)).mono ?_
        rintro e w1 ⟨he, hb1⟩
        subst he
        dsimp only
        have r1 := row_new hb1
        replace hb1 := below_alloc hb1
        have c1 : w1.cell? ⟨w.heap.size, 1, none⟩ = some (.int .i64 rd) := cells_at r1 1 _ rfl
        have c3 : w1.cell? ⟨w.heap.size, 3, none⟩ = some (.slice pa pl.length pc) := cells_at r1 3 _ rfl
        by_cases h1 : digF bl = 0
        · rw [h1] at hF ⊢
          go_wp2_with fail
          refine (digestsFault_any pl pa _ pc _ rfl (by omega) (hp.parts.below hb1)).mono ?_
          rintro e w2 ⟨he, hb2⟩
          subst he
          dsimp only
          have r2 := (hb2.block _ (lt_of_heap r1)).trans r1
          have hb12 := hb1.trans (hb2.mono hb1.size)
          have c1' : w2.cell? ⟨w.heap.size, 1, none⟩ = some (.int .i64 rd) := cells_at r2 1 _ rfl
          have c3' : w2.cell? ⟨w.heap.size, 3, none⟩ = some (.slice pa pl.length pc) := cells_at r2 3 _ rfl
          clear c3 c1 r1 r2
          by_cases h2 : digF pl = 0
          · rw [h2] at hF ⊢
            by_cases k1 : rd = 1
            · subst k1
              by_cases k2 : pl.length = 0
              · have hG : Hid (headerF au 1 bl pl = 0) := by show _ = _; rw [hF.out, if_neg (by simp), if_neg (by simp), parentsF, if_neg (by omega)]
                clear hF
                rw [k2] at c3' ⊢
                go_wp2_with fail
                go_ret
                exact ⟨ret_int hG.out.symm, hb12⟩
              · have hG : Hid (headerF au 1 bl pl = 10) := by show _ = _; rw [hF.out, if_neg (by simp), if_neg (by simp), parentsF, if_pos (by omega)]
                clear hF
                have k2I : ¬ (pl.length : Int) = 0 := by omega
                go_wp2_with fail
                go_ret
                exact ⟨ret_int hG.out.symm, hb12⟩
            · have k1J : (1 : Int) < rd := by omega
              by_cases k2 : pl.length < 3
              · have hG : Hid (headerF au rd bl pl = 10) := by show _ = _; rw [hF.out, if_neg (by simp), if_neg (by simp), parentsF, if_pos (by omega)]
                clear hF
                have k2I : (pl.length : Int) < 3 := by omega
                go_wp2_with fail
                go_ret
                exact ⟨ret_int hG.out.symm, hb12⟩
              · have hG : Hid (headerF au rd bl pl = 0) := by show _ = _; rw [hF.out, if_neg (by simp), if_neg (by simp), parentsF, if_neg (by omega)]
                clear hF
                have k2I : ¬ (pl.length : Int) < 3 := by omega
                go_wp2_with fail
                go_ret
                exact ⟨ret_int hG.out.symm, hb12⟩
          · rw [if_neg (by simp), if_pos h2] at hF
            generalize digF pl = z at *
            go_wp2_with fail
            go_ret
            exact ⟨ret_int hF.out.symm, hb12⟩
        · rw [if_pos h1] at hF
          generalize digF bl = z at *
          go_wp2_with fail
          go_ret
          exact ⟨ret_int hF.out.symm, hb1⟩
    · have hF : Hid (headerF au rd bl pl = 2) := by show _ = _; simp [headerF, hr]
      go_enter Tryd.func40, Tryd.ntmps40
      go_wp2_with (go_at_call 48; first | (refine (in_true _ _ _ _ (by omega)).mono ?_; rintro e w' ⟨rfl, rfl⟩) | (refine (in_false _ _ _ _ (by omega)).mono ?_; rintro e w' ⟨rfl, rfl⟩))
      go_ret
      exact ⟨ret_int hF.out.symm, hA⟩
  · have hF : Hid (headerF au rd bl pl = 2) := by show _ = _; simp [headerF, ha]
    go_enter Tryd.func40, Tryd.ntmps40
    go_wp2_with (go_at_call 48; first | (refine (in_true _ _ _ _ (by omega)).mono ?_; rintro e w' ⟨rfl, rfl⟩) | (refine (in_false _ _ _ _ (by omega)).mono ?_; rintro e w' ⟨rfl, rfl⟩))
    go_ret
    exact ⟨ret_int hF.out.symm, hA⟩
end Go.Proofs.YtgbomdikhidkoaaDoor

namespace Go.Proofs.YtgbomdikhidkoaaDoor
open Go.RowKit

set_option maxRecDepth 100000 in
set_option maxHeartbeats 1000000 in
theorem certFault_any (au rd : Int) (ba : Option Addr) (bc : Nat) (bl : List Part) (pa : Option Addr) (pc : Nat) (pl : List Part) (va : Option Addr) (vc : Nat) (vl : List Int) (w : World) (hb : ListAt w ba bc bl) (hp : ListAt w pa pc pl) (hv : IntsAt w va vl) (hvm : vl.length ≤ 9000000000000000000) :
    Calls Tryd.prog 29 #[.agg #[.int .i64 au, .int .i64 rd, .slice ba bl.length bc, .slice pa pl.length pc, .slice va vl.length vc]] w fun e w' => e = .returned (.int .i64 (certF au rd bl pl vl)) ∧ Below w.heap.size w w' := by
  have hA : Below w.heap.size w (w.alloc (.cells #[.int .i64 au, .int .i64 rd, .slice ba bl.length bc, .slice pa pl.length pc, .slice va vl.length vc] 35)) := (Below.refl _ _).alloc (Nat.le_refl _) _
  go_enter Tryd.func29, Tryd.ntmps29
  go_wp2_with fail
  refine (headerFault_any au rd ba bc bl pa pc pl _ (hb.below hA) (hp.below hA)).mono ?_
  rintro e w1 ⟨he, hb1⟩
  subst he
  dsimp only
  have r1 := row_new hb1
  replace hb1 := below_alloc hb1
  have c4 : w1.cell? ⟨w.heap.size, 4, none⟩ = some (.slice va vl.length vc) := cells_at r1 4 _ rfl
  by_cases h1 : headerF au rd bl pl = 0
  · rw [h1]
    by_cases h2 : 4 < vl.length
    · have hF : Hid (certF au rd bl pl vl = 1) := by show _ = _; rw [certF, if_neg (by simp [h1]), if_pos h2]
      have h2I : (4 : Int) < vl.length := by omega
      go_wp2_with fail
      go_loop [4, 3] (fun i e => i = .int .i64 0 ∧ e = .int .i64 (1)) (fun _ _ => 0)
      case atStart => exact ⟨rfl, rfl⟩
      case round =>
        obtain ⟨rfl, rfl⟩ := hrel
        have hlI : (0 : Int) < vl.length := by omega
        go_wp2_with fail
        go_ret
        exact ⟨ret_int hF.out.symm, hb1⟩
    · have hF : Hid (certF au rd bl pl vl = votersF vl) := by show _ = _; rw [certF, if_neg (by simp [h1]), if_neg h2]
      have h2I : ¬ (4 : Int) < vl.length := by omega
      clear h1
      go_wp2_with fail
      go_loopw [4, 3] (fun i e wr => ∃ k : Nat, k ≤ vl.length ∧ i = .int .i64 k ∧ e = .int .i64 (vTo vl k) ∧ Below w.heap.size w wr ∧ wr.cell? ⟨w.heap.size, 4, none⟩ = some (.slice va vl.length vc)) (fun i _ _ => vl.length - (intOf i).toNat)
      case atStart => exact ⟨0, Nat.zero_le _, rfl, rfl, hb1, c4⟩
      case round =>
        clear c4 r1 hb1
        obtain ⟨k, hk, rfl, rfl, hb1, c4⟩ := hrel
        by_cases hlt : k < vl.length
        · have hltI : (k : Int) < vl.length := by omega
          by_cases h0 : vTo vl k = 0
          · obtain ⟨sb, so, rfl, hc⟩ : ∃ sb so, va = some ⟨sb, so, none⟩ ∧ ∀ j, j < vl.length → wr.cell? ⟨sb, so + j, none⟩ = some (.int .i64 (vl.getD j 0)) := by
              rcases (hv.below hb1).cells with h | h
              · rw [h] at hlt; simp at hlt
              · exact h
            have ck := hc k hlt
            have hVs : Hid (vTo vl (k + 1) = vAt vl k) := by
              show _ = _
              rw [vTo, h0]; simp
            have hVa : Hid (vAt vl k = if ¬ (0 ≤ vl.getD k 0 ∧ vl.getD k 0 < 4) then 2 else if 0 < k ∧ vl.getD k 0 ≤ vl.getD (k - 1) 0 then 9 else 0) := rfl
            rw [h0]
            by_cases hkz : k = 0
            · subst hkz
              clear hc
              rw [Nat.add_zero] at ck
              generalize vl.getD 0 0 = x at *
              by_cases hn : 0 ≤ x ∧ x < 4
              · have hst : Hid (vTo vl 1 = 0) := by show _ = _; exact hVs.out.trans (by rw [hVa.out, if_neg (by simp [hn]), if_neg (by omega)])
                clear hVs hVa
                go_wp2_with (go_at_call 48; first | (refine (in_true _ _ _ _ (by omega)).mono ?_; rintro e w' ⟨rfl, rfl⟩) | (refine (in_false _ _ _ _ (by omega)).mono ?_; rintro e w' ⟨rfl, rfl⟩))
                go_region
                go_wp2_with fail
                go_roundw
                case rel =>
                  have hR : ∃ k' : Nat, k' ≤ vl.length ∧ (Value.int .i64 (1)) = .int .i64 k' ∧ (Value.int .i64 0) = .int .i64 (vTo vl k') ∧ Below w.heap.size w wr.drew ∧ wr.drew.cell? ⟨w.heap.size, 4, none⟩ = some (.slice (some ⟨sb, so, none⟩) vl.length vc) := ⟨1, by omega, by go_num, by rw [hst.out], hb1.drew, c4⟩
                  first | exact hR | ((repeat apply Exists.intro); exact ⟨hR, rfl⟩)
                case measure => simp [intOf]; omega
              · have hst : Hid (vTo vl 1 = 2) := by show _ = _; exact hVs.out.trans (by rw [hVa.out, if_pos hn])
                clear hVs hVa
                go_wp2_with (go_at_call 48; first | (refine (in_true _ _ _ _ (by omega)).mono ?_; rintro e w' ⟨rfl, rfl⟩) | (refine (in_false _ _ _ _ (by omega)).mono ?_; rintro e w' ⟨rfl, rfl⟩))
                go_roundw
                case rel =>
                  have hR : ∃ k' : Nat, k' ≤ vl.length ∧ (Value.int .i64 (1)) = .int .i64 k' ∧ (Value.int .i64 2) = .int .i64 (vTo vl k') ∧ Below w.heap.size w wr ∧ wr.cell? ⟨w.heap.size, 4, none⟩ = some (.slice (some ⟨sb, so, none⟩) vl.length vc) := ⟨1, by omega, by go_num, by rw [hst.out], hb1, c4⟩
                  first | exact hR | ((repeat apply Exists.intro); exact ⟨hR, rfl⟩)
                case measure => simp [intOf]; omega
            · have cp := hc (k - 1) (by omega)
              have hkI : (0 : Int) < k := by omega
              have hkD : decide ((0 : Int) < (k : Int)) = true := decide_eq_true hkI
              have hkN : 0 < k := by omega
              have t0 : ((k : Int) - 1).toNat = k - 1 := by omega
              have u0_ : IntKind.i64.wrap ((k : Int) - 1) = (k : Int) - 1 := by rw [IntKind.wrap_i64]; omega
              have z0 : (0 : Int) ≤ (k : Int) - 1 := by omega
              have z1 : (k : Int) - 1 < vl.length := by omega
              clear hc
              generalize vl.getD k 0 = x at *
              generalize vl.getD (k - 1) 0 = y at *
              by_cases hn : 0 ≤ x ∧ x < 4
              · by_cases hxy : x ≤ y
                · have hst : Hid (vTo vl (k + 1) = 9) := by show _ = _; exact hVs.out.trans (by rw [hVa.out, if_neg (by simp [hn]), if_pos (by omega)])
                  clear hVs hVa
                  go_wp2_with (go_at_call 48; first | (refine (in_true _ _ _ _ (by omega)).mono ?_; rintro e w' ⟨rfl, rfl⟩) | (refine (in_false _ _ _ _ (by omega)).mono ?_; rintro e w' ⟨rfl, rfl⟩))
                  go_region
                  go_wp2_with fail
                  go_roundw
                  case rel =>
                    have hR : ∃ k' : Nat, k' ≤ vl.length ∧ (Value.int .i64 ((k : Int) + 1)) = .int .i64 k' ∧ (Value.int .i64 9) = .int .i64 (vTo vl k') ∧ Below w.heap.size w wr.drew ∧ wr.drew.cell? ⟨w.heap.size, 4, none⟩ = some (.slice (some ⟨sb, so, none⟩) vl.length vc) := ⟨k + 1, by omega, by go_num, by rw [hst.out], hb1.drew, c4⟩
                    first | exact hR | ((repeat apply Exists.intro); exact ⟨hR, rfl⟩)
                  case measure => simp [intOf]; omega
                · have hst : Hid (vTo vl (k + 1) = 0) := by show _ = _; exact hVs.out.trans (by rw [hVa.out, if_neg (by simp [hn]), if_neg (by omega)])
                  clear hVs hVa
                  go_wp2_with (go_at_call 48; first | (refine (in_true _ _ _ _ (by omega)).mono ?_; rintro e w' ⟨rfl, rfl⟩) | (refine (in_false _ _ _ _ (by omega)).mono ?_; rintro e w' ⟨rfl, rfl⟩))
                  go_region
                  go_wp2_with fail
                  go_roundw
                  case rel =>
                    have hR : ∃ k' : Nat, k' ≤ vl.length ∧ (Value.int .i64 ((k : Int) + 1)) = .int .i64 k' ∧ (Value.int .i64 0) = .int .i64 (vTo vl k') ∧ Below w.heap.size w wr.drew ∧ wr.drew.cell? ⟨w.heap.size, 4, none⟩ = some (.slice (some ⟨sb, so, none⟩) vl.length vc) := ⟨k + 1, by omega, by go_num, by rw [hst.out], hb1.drew, c4⟩
                    first | exact hR | ((repeat apply Exists.intro); exact ⟨hR, rfl⟩)
                  case measure => simp [intOf]; omega
              · have hst : Hid (vTo vl (k + 1) = 2) := by show _ = _; exact hVs.out.trans (by rw [hVa.out, if_pos hn])
                clear hVs hVa
                go_wp2_with (go_at_call 48; first | (refine (in_true _ _ _ _ (by omega)).mono ?_; rintro e w' ⟨rfl, rfl⟩) | (refine (in_false _ _ _ _ (by omega)).mono ?_; rintro e w' ⟨rfl, rfl⟩))
                go_roundw
                case rel =>
                  have hR : ∃ k' : Nat, k' ≤ vl.length ∧ (Value.int .i64 ((k : Int) + 1)) = .int .i64 k' ∧ (Value.int .i64 2) = .int .i64 (vTo vl k') ∧ Below w.heap.size w wr ∧ wr.cell? ⟨w.heap.size, 4, none⟩ = some (.slice (some ⟨sb, so, none⟩) vl.length vc) := ⟨k + 1, by omega, by go_num, by rw [hst.out], hb1, c4⟩
                  first | exact hR | ((repeat apply Exists.intro); exact ⟨hR, rfl⟩)
                case measure => simp [intOf]; omega
          · have hG : Hid (certF au rd bl pl vl = vTo vl k) := by
              show _ = _
              have e := vTo_stays vl k vl.length h0 hk
              rw [hF.out, votersF, e, if_pos h0]
            clear hF
            generalize vTo vl k = z at *
            go_wp2_with fail
            go_ret
            exact ⟨ret_int hG.out.symm, hb1⟩
        · obtain rfl : k = vl.length := by omega
          by_cases h0 : vTo vl vl.length = 0
          · by_cases h3 : vl.length < 3
            · have e10 : Hid (certF au rd bl pl vl = 10) := by show _ = _; rw [hF.out, votersF, if_neg (by simp [h0]), if_pos h3]
              have h3I : (vl.length : Int) < 3 := by omega
              clear hF
              rw [h0]
              go_wp2_with fail
              go_ret
              exact ⟨ret_int e10.out.symm, hb1⟩
            · have e0 : Hid (certF au rd bl pl vl = 0) := by show _ = _; rw [hF.out, votersF, if_neg (by simp [h0]), if_neg h3]
              have h3I : ¬ (vl.length : Int) < 3 := by omega
              clear hF
              rw [h0]
              go_wp2_with fail
              go_ret
              exact ⟨ret_int e0.out.symm, hb1⟩
          · have hG : Hid (certF au rd bl pl vl = vTo vl vl.length) := by show _ = _; rw [hF.out, votersF, if_pos h0]
            clear hF
            generalize vTo vl vl.length = z at *
            go_wp2_with fail
            go_ret
            exact ⟨ret_int hG.out.symm, hb1⟩
  · have hF : Hid (certF au rd bl pl vl = headerF au rd bl pl) := by show _ = _; rw [certF, if_pos h1]
    generalize headerF au rd bl pl = z at *
    go_wp2_with fail
    go_loop [4, 3] (fun i e => i = .int .i64 0 ∧ e = .int .i64 (z)) (fun _ _ => 0)
    case atStart => exact ⟨rfl, rfl⟩
    case round =>
      obtain ⟨rfl, rfl⟩ := hrel
      by_cases hl0 : vl.length = 0
      · rw [hl0] at c4 ⊢
        go_wp2_with fail
        go_ret
        exact ⟨ret_int hF.out.symm, hb1⟩
      · have hlI : (0 : Int) < vl.length := by omega
        go_wp2_with fail
        go_ret
        exact ⟨ret_int hF.out.symm, hb1⟩
end Go.Proofs.YtgbomdikhidkoaaDoor
