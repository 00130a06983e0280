/- The document's HeaderFault, for every header. -/
import Derived.Test.YtbehmcflllleaaaDoorTagged
import Derived.Test.YtbehmcflllleaaaDoorDagInsertsM24
import Derived.Test.YtbehmcflllleaaaDoorJoined
import Derived.Test.YtbehmcflllleaaaDoorOwnL
import Derived.Test.YtbehmcflllleaaaDoorAppH
import Derived.Test.YtbehmcflllleaaaDoorDagInsertsM18
import Derived.Test.YtbehmcflllleaaaDoorDigH
import Derived.Test.YtbehmcflllleaaaDoorHeadK
import Derived.Test.YtbehmcflllleaaaDoorDagInsertsM6
import Derived.Test.YtbehmcflllleaaaDoorDagInsertsM12
import Derived.Test.YtbehmcflllleaaaDoorCtFar
import Derived.Test.YtbehmcflllleaaaDoorPK
import Derived.Test.YtbehmcflllleaaaDoorHeadF
import Derived.Test.YtbehmcflllleaaaDoorDagInsertsM0
namespace Go.Proofs.YtbehmcflllleaaaDoor
open Go.RowKit

set_option maxRecDepth 100000 in
theorem psz_le (ps : List Part) (k : Nat) (hk : k ≤ ps.length) : psz ps k ≤ psz ps ps.length := psz_mono ps k ps.length hk
set_option maxRecDepth 100000 in
theorem psz_two (ps : List Part) (k : Nat) : 2 * k ≤ psz ps k := by
  induction k with
  | zero => exact Nat.le_refl _
  | succ k ih => simp [psz]; omega
set_option maxRecDepth 100000 in
theorem getD_bs {ps qs : List Part} (h : Same ps qs) (k : Nat) : (ps.getD k ⟨none, 0, []⟩).bs = (qs.getD k ⟨none, 0, []⟩).bs := by
  have hk : (ps.map (·.bs))[k]? = (qs.map (·.bs))[k]? := by rw [h]
  simp only [List.getElem?_map] at hk
  simp only [List.getD]
  cases h1 : ps[k]? <;> cases h2 : qs[k]? <;> simp_all
set_option maxRecDepth 100000 in
theorem psz_same {ps qs : List Part} (h : Same ps qs) (k : Nat) : psz ps k = psz qs k := by
  induction k with
  | zero => rfl
  | succ k ih => rw [psz, psz, ih, getD_bs h]
set_option maxRecDepth 100000 in
theorem tagTo_same (tag : Int) {ps qs : List Part} (h : Same ps qs) (k : Nat) : tagTo tag ps k = tagTo tag qs k := by
  induction k with
  | zero => rfl
  | succ k ih => rw [tagTo, tagTo, ih, getD_bs h]
set_option maxRecDepth 100000 in
theorem tagTo_u8 (tag : Int) (ps : List Part) (ht : 0 ≤ tag ∧ tag ≤ 255) (hu : ∀ p ∈ ps, AllU8 p.bs) (k : Nat) (hk : k ≤ ps.length) : AllU8 (tagTo tag ps k) := by
  induction k with
  | zero => intro x hx; simp [tagTo] at hx; subst hx; exact ht
  | succ k ih =>
    have hlt : k < ps.length := by omega
    have hp : ps.getD k ⟨none, 0, []⟩ = ps[k] := by simp [hlt]
    intro x hx
    rw [tagTo, hp] at hx
    rcases List.mem_append.1 hx with hx | hx
    · rcases List.mem_append.1 hx with hx | hx
      · exact ih (by omega) x hx
      · simp at hx
        omega
    · exact hu _ (List.getElem_mem hlt) x hx

set_option maxRecDepth 100000 in
set_option maxHeartbeats 2000000 in
theorem taggedOf_new (tag : Int) (ps : List Part) (sa : Option Addr) (n cap : Nat) (w : World) (ht : 0 ≤ tag ∧ tag ≤ 255) (hn : n = ps.length) (hm : n ≤ 9000000000000000000) (hp : PartsAt w sa ps) (hu : ∀ p ∈ ps, AllU8 p.bs) :
    Calls Tryd.prog 68 #[.int .u8 tag, .slice sa n cap] w fun e w' => Below w.heap.size w w' ∧ ((4000 < 1 + psz ps ps.length ∧ e = .returned (.tuple #[.slice none 0 0, .int .i64 1])) ∨ (1 + psz ps ps.length ≤ 4000 ∧ ∃ g c, e = .returned (.tuple #[.slice (some ⟨g, 0, none⟩) 32 c, .int .i64 0]) ∧ SliceAt w' (some ⟨g, 0, none⟩) c (sumL (tagTo tag ps ps.length)) ∧ w.heap.size ≤ g)) := by
  subst hn
  obtain ⟨i, hi, hz0, hz1, hz2⟩ := info_parts infoU8
  have hlit := World.ownsRow_lit (base := w.heap.size) (e := 5) (size := 1) w (ub [tag]).toArray 1 (Nat.le_refl _) (by decide) rfl
  go_enter Tryd.func68, Tryd.ntmps68
  go_wp2_with fail
  go_loopw [7, 6] (fun j v wr => ∃ k : Nat, k ≤ ps.length ∧ j = .int .i64 k ∧ 1 + psz ps k ≤ 4000 ∧ Below w.heap.size w wr ∧ wr.ownsRow w.heap.size 5 1 v (1 + psz ps k) (ub (tagTo tag ps k))) (fun j _ _ => ps.length - (intOf j).toNat)
  case atStart => exact ⟨0, Nat.zero_le _, rfl, by simp [psz], (Below.refl _ _).alloc (Nat.le_refl _) _, hlit⟩
  case round =>
    clear hlit
    obtain ⟨k, hk, rfl, hz, hb, ho⟩ := hrel
    obtain ⟨xa, xc, hv, hxl, hxs⟩ := owns_form ho
    subst hv
    by_cases hlt : k < ps.length
    · have hpw := hp.below hb
      obtain ⟨sb, so, rfl, hc⟩ : ∃ sb so, sa = some ⟨sb, so, none⟩ ∧ ∀ j (h : j < ps.length), wr.cell? ⟨sb, so + j, none⟩ = some (.slice (ps[j]).sa (ps[j]).bs.length (ps[j]).cap) := by
        rcases hpw.cells with h | h
        · rw [h] at hlt; simp at hlt
        · exact h
      have ck := hc k hlt
      have hx := hpw.each (ps[k]) (List.getElem_mem hlt)
      have hxw := hp.each (ps[k]) (List.getElem_mem hlt)
      have hsb : sb < w.heap.size := by
        rcases hp.cells with h | ⟨sb', so', e, h⟩
        · rw [h] at hlt; simp at hlt
        · cases e; exact block_lt_of_cell (h k hlt)
      have hg : ps.getD k ⟨none, 0, []⟩ = ps[k] := by simp [hlt]
      have h2 : Hid (psz ps (k + 1) = psz ps k + (2 + (ps[k]).bs.length)) := by show _ = _; rw [psz, hg]
      have h3 : Hid (tagTo tag ps (k + 1) = tagTo tag ps k ++ [((ps[k]).bs.length : Int) / 256 % 256, ((ps[k]).bs.length : Int) % 256] ++ (ps[k]).bs) := by show _ = _; rw [tagTo, hg]
      have h4 := psz_le ps (k + 1) hlt
      rw [h2.out] at h4
      have hltI : (k : Int) < ps.length := by omega
      have hxm : (ps[k]).bs.length ≤ 9223372036854775807 := Nat.le_trans hx.le hx.max
      clear hc hg hxl
      generalize ps[k] = p at *
      have Hs : Hid (SliceAt wr xa xc (tagTo tag ps k)) := hxs
      clear hxs
      generalize hZ : psz ps ps.length = Z at *
      have hlT := tagTo_length tag ps k
      generalize tagTo tag ps k = T at *
      generalize psz ps k = z at *
      by_cases hA : 4000 < p.bs.length
      · have hAI : (4000 : Int) < p.bs.length := by omega
        have hbig : Hid (4000 < 1 + Z) := by show _ < _; omega
        clear h2 h3
        go_wp2_with fail
        go_ret2
        exact ⟨hb, .inl ⟨by first | exact hbig.out | (rw [hZ]; exact hbig.out), rfl⟩⟩
      · have hAI : ¬ (4000 : Int) < p.bs.length := by omega
        by_cases hB : 4000 < 1 + z + 2 + p.bs.length
        · have hBI : (4000 : Int) < (1 + z : Nat) + 2 + (p.bs.length : Int) := by omega
          have hbig : Hid (4000 < 1 + Z) := by show _ < _; omega
          clear h2 h3
          go_wp2_with fail
          go_ret2
          exact ⟨hb, .inl ⟨by first | exact hbig.out | (rw [hZ]; exact hbig.out), rfl⟩⟩
        · have hBI : ¬ (4000 : Int) < (1 + z : Nat) + 2 + (p.bs.length : Int) := by omega
          go_wp2_with (at_builtin; refine wpList_append_own _ rfl _ _ 29 rfl w.heap.size 5 i (.int .u8 0) 1 1 Tryd.underlying29 hi hz0 hz1 hz2 rfl (by decide) _ (1 + z) _ rfl (World.ownsRow.alloc ho _) ⟨wr.heap.size, 0, none⟩ 2 2 [.int .u8 ((p.bs.length : Int) / 256), .int .u8 ((p.bs.length : Int) % 256)] rfl rfl (cells_new _ _ _) (u8_one [_, _]) (by unfold maxLen; omega) (by omega) (le_alloc hb.size _) ?_; intro v1 w2 ho1 hg1 _; have hbr := Below.grown ((Below.refl w.heap.size wr).alloc hb.size _) hg1 (le_alloc hb.size _) (fun q e => (ho.lt q e).1); have ck2 := (hbr.cell (p := ⟨sb, so + k, none⟩) hsb).trans ck)
          have hb2 := hb.trans hbr
          have ho1' : w2.ownsRow w.heap.size 5 1 v1 (1 + z + 2) (ub (T ++ [(p.bs.length : Int) / 256, (p.bs.length : Int) % 256])) := by simpa [ub] using ho1
          obtain ⟨ya, yc, hv, hyl, hy⟩ := owns_form ho1'
          subst hv
          have e1 : (p.bs.length : Int) / 256 % 256 = (p.bs.length : Int) / 256 := by omega
          refine (joined_any (T ++ [(p.bs.length : Int) / 256, (p.bs.length : Int) % 256]) p.bs ya p.sa _ _ yc p.cap w2 hyl rfl hy (hxw.below hb2) (by simp; omega)).mono ?_
          rintro e w3 ⟨v3, he, ho3, hb3⟩
          subst he
          dsimp only
          have hlen : (T ++ [(p.bs.length : Int) / 256, (p.bs.length : Int) % 256]).length + p.bs.length = 1 + psz ps (k + 1) := by rw [h2.out]; simp; omega
          rw [hlen] at ho3
          go_wp2_with fail
          go_roundw
          case rel =>
            have hR : ∃ k' : Nat, k' ≤ ps.length ∧ (Value.int .i64 ((k : Int) + 1)) = .int .i64 k' ∧ 1 + psz ps k' ≤ 4000 ∧ Below w.heap.size w w3 ∧ w3.ownsRow w.heap.size 5 1 v3 (1 + psz ps k') (ub (tagTo tag ps k')) :=
              ⟨k + 1, by omega, by go_num, by rw [h2.out]; omega, hb2.trans (hb3.mono hb2.size), by rw [h3.out, e1]; exact ownsRow_base' ho3 hb2.size⟩
            first | exact hR | ((repeat apply Exists.intro); exact ⟨hR, rfl⟩)
          case measure => simp [intOf]; omega
    · obtain rfl : k = ps.length := by omega
      have hu8 := tagTo_u8 tag ps ht hu ps.length (Nat.le_refl _)
      have hl4 : (tagTo tag ps ps.length).length ≤ 4000 := by omega
      go_wp2_with fail
      refine (digested_any (tagTo tag ps ps.length) xa _ xc wr (by first | rfl | exact hxl) hl4 hxs hu8).mono ?_
      rintro e w3 ⟨g, c, he, hb3, ho3⟩
      subst he
      dsimp only
      go_wp2_with fail
      go_ret2
      exact ⟨hb.trans (hb3.mono hb.size), .inr ⟨hz, g, c, rfl, (sliceAt_of_owns ho3).2, Nat.le_trans hb.size (ho3.lt g rfl).1⟩⟩
set_option maxRecDepth 100000 in
theorem taggedOf_any (tag : Int) (ps : List Part) (sa : Option Addr) (n cap : Nat) (w : World) (ht : 0 ≤ tag ∧ tag ≤ 255) (hn : n = ps.length) (hm : n ≤ 9000000000000000000) (hp : PartsAt w sa ps) (hu : ∀ p ∈ ps, AllU8 p.bs) :
    Calls Tryd.prog 68 #[.int .u8 tag, .slice sa n cap] w fun e w' => Below w.heap.size w w' ∧ ((4000 < 1 + psz ps ps.length ∧ e = .returned (.tuple #[.slice none 0 0, .int .i64 1])) ∨ (1 + psz ps ps.length ≤ 4000 ∧ ∃ g c, e = .returned (.tuple #[.slice (some ⟨g, 0, none⟩) 32 c, .int .i64 0]) ∧ SliceAt w' (some ⟨g, 0, none⟩) c (sumL (tagTo tag ps ps.length)))) := by
  refine (taggedOf_new tag ps sa n cap w ht hn hm hp hu).mono ?_
  rintro e w' ⟨h1, h2 | ⟨h3, g, c, h4, h5, _⟩⟩
  · exact ⟨h1, .inl h2⟩
  · exact ⟨h1, .inr ⟨h3, g, c, h4, h5⟩⟩
end Go.Proofs.YtbehmcflllleaaaDoor

namespace Go.Proofs.YtbehmcflllleaaaDoor
open Go.RowKit

set_option maxRecDepth 100000 in
theorem headB_le (au rd : Int) (bl pl : List Part) (hbl : bl.length ≤ 4) (hpl : pl.length ≤ 4) (hb32 : ∀ p ∈ bl, p.bs.length = 32) (hp32 : ∀ p ∈ pl, p.bs.length = 32) : (headB au rd bl pl).length ≤ 300 := by
  have h1 := flatB_length bl hb32
  have h2 := flatB_length pl hp32
  simp [headB, rd3, digsB]; omega
end Go.Proofs.YtbehmcflllleaaaDoor

namespace Go.Proofs.YtbehmcflllleaaaDoor
open Go.RowKit

set_option maxRecDepth 100000 in
theorem flatB_all (l : List Part) (h : ∀ p ∈ l, AllU8 p.bs) : AllU8 (flatB l) := by
  induction l with
  | nil => intro x hx; cases hx
  | cons p l ih =>
    intro x hx
    simp only [flatB, List.mem_append] at hx
    rcases hx with hx | hx
    · exact h p (by simp) x hx
    · exact ih (fun q hq => h q (by simp [hq])) x hx
set_option maxRecDepth 100000 in
theorem headB_all {au rd : Int} {bl pl : List Part} (ha : 0 ≤ au ∧ au < 4) (hr : 0 ≤ rd ∧ rd ≤ 1048576) (hbl : bl.length ≤ 4) (hpl : pl.length ≤ 4) (hb : ∀ p ∈ bl, AllU8 p.bs) (hp : ∀ p ∈ pl, AllU8 p.bs) : AllU8 (headB au rd bl pl) := by
  intro x hx
  simp only [headB, rd3, digsB, List.mem_append, List.mem_cons, List.not_mem_nil, or_false] at hx
  rcases hx with ((hx | hx | hx | hx) | hx | hx) | hx | hx
  · omega
  · omega
  · omega
  · omega
  · omega
  · exact flatB_all bl hb x hx
  · omega
  · exact flatB_all pl hp x hx
set_option maxRecDepth 100000 in
set_option maxHeartbeats 1000000 in
theorem rHeaderDigest_new (au nu : Int) (ba : Option Addr) (bn bc : Nat) (bl : List Part) (pa : Option Addr) (pn pc : Nat) (pl : List Part) (w : World) (hbn : bn = bl.length) (hpn : pn = pl.length) (hLb : ListAt w ba bc bl) (hLp : ListAt w pa pc pl) (hub : ∀ p ∈ bl, AllU8 p.bs) (hup : ∀ p ∈ pl, AllU8 p.bs) (hF : headerF au nu bl pl = 0) :
    Calls Tryd.prog 52 #[.agg #[.int .i64 au, .int .i64 nu, .slice ba bn bc, .slice pa pn pc]] w fun e w' => ∃ g c, e = .returned (.slice (some ⟨g, 0, none⟩) 32 c) ∧ SliceAt w' (some ⟨g, 0, none⟩) c (tagD 2 (headB au nu bl pl)) ∧ Below w.heap.size w w' ∧ w.heap.size ≤ g := by
  have hA : Below w.heap.size w (w.alloc (.cells #[.int .i64 au, .int .i64 nu, .slice ba bn bc, .slice pa pn pc] 32)) := (Below.refl _ _).alloc (Nat.le_refl _) _
  obtain ⟨y1, y2, y3, y4, y5, y6⟩ := headerF_ok hF
  have hB := headerBytes_any au nu ba bn bc bl pa pn pc pl _ y1 ⟨by omega, y2.2⟩ hbn hpn (by omega) y4 y5 y6 (hLb.below hA) (hLp.below hA)
  have hu : AllU8 (headB au nu bl pl) := headB_all y1 ⟨by omega, y2.2⟩ (by omega) y4 hub hup
  have hbl : (headB au nu bl pl).length ≤ 300 := headB_le au nu bl pl (by omega) y4 y5 y6
  clear hbn hpn
  have HU : Hid _ := hu
  clear hu
  generalize headB au nu bl pl = B at *
  go_enter Tryd.func52, Tryd.ntmps52
  go_wp2_with fail
  refine hB.mono ?_
  rintro e w1 ⟨v1, rfl, ho1, hb1⟩
  replace hb1 := below_alloc hb1
  obtain ⟨xa, xc, hv, hxl, hx⟩ := owns_form ho1
  subst hv
  clear hxl ho1 hB
  have hP : ∀ p ∈ [(⟨xa, xc, B⟩ : Part)], AllU8 p.bs := by
    intro p hp
    obtain rfl : p = ⟨xa, xc, B⟩ := by simpa using hp
    exact HU.out
  have HP : Hid _ := hP
  clear hP
  go_wp2_with fail
  refine (taggedOf_new 2 [⟨xa, xc, B⟩] _ _ _ _ (by decide) rfl (by simp) (one_part w1 xa _ xc B rfl hx) HP.out).mono ?_
  rintro e w2 ⟨hb2, h9⟩
  rcases h9 with ⟨h9, _⟩ | ⟨_, g, c, rfl, hr, hge⟩
  · simp [psz] at h9; omega
  go_wp2_with fail
  go_ret
  refine ⟨g, c, rfl, ?_, hb1.trans ((below_alloc hb2).mono hb1.size), by rw [size_alloc] at hge; have := hb1.size; omega⟩
  rw [tagD, ← tagTo_part 2 xa xc B]
  exact hr
set_option maxRecDepth 100000 in
theorem rHeaderDigest_in (au nu : Int) (ba : Option Addr) (bn bc : Nat) (bl : List Part) (pa : Option Addr) (pn pc : Nat) (pl : List Part) (w : World) (hbn : bn = bl.length) (hpn : pn = pl.length) (hLb : ListAt w ba bc bl) (hLp : ListAt w pa pc pl) (hub : ∀ p ∈ bl, AllU8 p.bs) (hup : ∀ p ∈ pl, AllU8 p.bs) (hF : headerF au nu bl pl = 0) :
    Calls Tryd.prog 52 #[.agg #[.int .i64 au, .int .i64 nu, .slice ba bn bc, .slice pa pn pc]] w fun e w' => ∃ g c, e = .returned (.slice (some ⟨g, 0, none⟩) 32 c) ∧ SliceAt w' (some ⟨g, 0, none⟩) c (tagD 2 (headB au nu bl pl)) ∧ Below w.heap.size w w' := by
  refine (rHeaderDigest_new au nu ba bn bc bl pa pn pc pl w hbn hpn hLb hLp hub hup hF).mono ?_
  rintro e w' ⟨g, c, h1, h2, h3, _⟩
  exact ⟨g, c, h1, h2, h3⟩
end Go.Proofs.YtbehmcflllleaaaDoor

namespace Go.Proofs.YtbehmcflllleaaaDoor
open Go.RowKit

set_option maxRecDepth 100000 in
set_option maxHeartbeats 1000000 in
theorem digestsOf_any (ls : List Ct) (sa : Option Addr) (n cap : Nat) (w : World) (hn : n = ls.length) (hl4 : ls.length ≤ 400) (hc : CertsAt w sa ls) (he : ∀ c ∈ ls, CtRd w c) (hf : ∀ c ∈ ls, c.v.f = 0) :
    Calls Tryd.prog 30 #[.slice sa n cap] w fun e w' => ∃ ra rc ds, e = .returned (.slice ra ls.length rc) ∧ bss ds = (cvs ls).map CV.d ∧ ListAt w' ra rc ds ∧ Below w.heap.size w w' := by
  subst hn
  obtain ⟨i, hi, hz0, hz1, hz2⟩ := info_parts infoBs
  have HE : Hid (∀ c ∈ ls, CtRd w c) := he
  have HF : Hid (∀ c ∈ ls, c.v.f = 0) := hf
  clear he hf
  go_enter Tryd.func30, Tryd.ntmps30
  go_wp2_with fail
  go_loopw [4, 3] (fun j v wr => ∃ (k : Nat) (qs : List Part), k ≤ ls.length ∧ j = .int .i64 k ∧ bss qs = ((cvs ls).map CV.d).take k ∧ wr.ownsRow w.heap.size 29 1 v k (pv qs) ∧ Apart wr w.heap.size v qs ∧ Below w.heap.size w wr) (fun j _ _ => ls.length - (intOf j).toNat)
  case atStart => exact ⟨0, [], Nat.zero_le _, rfl, rfl, World.ownsRow_nil _ _ _ _, (fun p hp => by cases hp), Below.refl _ _⟩
  case round =>
    obtain ⟨k, qs, hk, rfl, hS, ho, hap, hb⟩ := hrel
    by_cases hlt : k < ls.length
    · obtain ⟨sb, so, rfl, c0, c1, c2, c3, _⟩ := (hc.below hb).at k hlt
      have hR := (HE.out (ls[k]) (List.getElem_mem hlt)).below hb
      have hF0 := HF.out (ls[k]) (List.getElem_mem hlt)
      have hH : headerF (ls[k]).au (ls[k]).rd (ls[k]).bl (ls[k]).pl = 0 := certF_head (vl := (ls[k]).vl) (by rw [Ct.f_v]; exact hF0)
      have hst : Hid (((cvs ls).map CV.d).take (k + 1) = ((cvs ls).map CV.d).take k ++ [hDig (ls[k]).au (ls[k]).rd (ls[k]).bl (ls[k]).pl]) := by
        show _ = _
        rw [List.take_succ_eq_append_getElem (by simp [cvs]; exact hlt)]
        simp [cvs, Ct.d_v]
      have hltI : (k : Int) < ls.length := by omega
      clear hF0
      generalize ls[k] = s at *
      have HD := rHeaderDigest_new s.au s.rd s.ba _ s.bc s.bl s.pa _ s.pc s.pl wr rfl rfl hR.rb.list hR.rp.list hR.ub hR.up hH
      clear hR hH
      go_wp2_with fail
      refine HD.mono ?_
      rintro e w2 ⟨g, gc, he, hs2, hb2, hge⟩
      subst he
      dsimp only
      have h32 : (tagD 2 (headB s.au s.rd s.bl s.pl)).length = 32 := tagD_length _ _
      have hob := owns_keep ho hb2
      have hB2 := hb.trans (hb2.mono hb.size)
      have hlt2 : g < w2.heap.size := slice_block_lt hs2 (by intro h; rw [h] at h32; simp at h32) g 0 rfl
      have hst' : Hid (((cvs ls).map CV.d).take (k + 1) = ((cvs ls).map CV.d).take k ++ [tagD 2 (headB s.au s.rd s.bl s.pl)]) := hst
      clear HD hst
      generalize tagD 2 (headB s.au s.rd s.bl s.pl) = D at *
      have H32 : Hid (D.length = 32) := h32
      clear h32
      go_wp2_with (at_builtin; refine wpList_append_own_at _ rfl _ _ 30 rfl w.heap.size 29 i (.slice none 0 0) 1 24 Tryd.underlying30 hi hz0 hz1 hz2 rfl (by decide) _ k _ rfl (World.ownsRow.alloc hob _) ⟨w2.heap.size, 0, none⟩ 1 1 [.slice (some ⟨g, 0, none⟩) 32 gc] rfl rfl (cells_new _ _ _) (by intro u hu; simp at hu; subst hu; rfl) (by unfold maxLen; omega) (by omega) (le_alloc hB2.size _) ?_; intro v1 w3 ho3 hg3 _ hat)
      have G := Grew.of hg3 hat
      have hap3 := hap.more_at (q := ⟨some ⟨g, 0, none⟩, gc, D⟩) hb.size ho hb2 (fun sb so e => by cases e; exact ⟨hge, hlt2⟩) hs2 G
      have hB3 := Below.grown (hB2.alloc hB2.size _) hg3 (le_alloc hB2.size _) (fun q e => (hob.lt q e).1)
      go_roundw
      case rel =>
        have hR : ∃ (k' : Nat) (qs' : List Part), k' ≤ ls.length ∧ (Value.int .i64 ((k : Int) + 1)) = .int .i64 k' ∧ bss qs' = ((cvs ls).map CV.d).take k' ∧ w3.ownsRow w.heap.size 29 1 v1 k' (pv qs') ∧ Apart w3 w.heap.size v1 qs' ∧ Below w.heap.size w w3 :=
          ⟨k + 1, qs ++ [⟨some ⟨g, 0, none⟩, gc, D⟩], by omega, by go_num, by rw [hst'.out, ← hS]; simp [bss], by simpa [pv, Part.val, H32.out] using ho3, hap3, hB3⟩
        first | exact hR | ((repeat apply Exists.intro); exact ⟨hR, rfl⟩)
      case measure => simp [intOf]; omega
    · obtain rfl : k = ls.length := by omega
      rw [List.take_of_length_le (by simp [cvs])] at hS
      obtain ⟨ra, rc, hv, hl, hL, hfr⟩ := listAt_of_owns ho hap
      subst hv
      have HS : Hid _ := hS
      clear hS
      go_wp2_with fail
      go_ret
      exact ⟨ra, rc, qs, rfl, HS.out, hL (by omega), hb⟩
end Go.Proofs.YtbehmcflllleaaaDoor

namespace Go.Proofs.YtbehmcflllleaaaDoor
open Go.RowKit

set_option maxRecDepth 100000 in
theorem in_bool (n a b : Int) (r : Bool) (w : World) (h : r = decide (a ≤ n ∧ n ≤ b)) : Calls Tryd.prog 51 #[.int .i64 n, .int .i64 a, .int .i64 b] w fun e w' => e = .returned (.bool r) ∧ w = w' := by
  by_cases h1 : a ≤ n
  · by_cases h2 : n ≤ b
    · obtain rfl : r = true := by simp [h, h1, h2]
      clear h
      go_enter Tryd.func51, Tryd.ntmps51
      go_wp2
      go_ret
      exact ⟨rfl, rfl⟩
    · obtain rfl : r = false := by simp [h, h2]
      clear h
      go_enter Tryd.func51, Tryd.ntmps51
      go_wp2
      go_ret
      exact ⟨rfl, rfl⟩
  · obtain rfl : r = false := by simp [h, h1]
    clear h
    go_enter Tryd.func51, Tryd.ntmps51
    go_wp2
    go_ret
    exact ⟨rfl, rfl⟩
set_option maxRecDepth 100000 in
theorem in_true (n a b : Int) (w : World) (h : a ≤ n ∧ n ≤ b) : Calls Tryd.prog 51 #[.int .i64 n, .int .i64 a, .int .i64 b] w fun e w' => e = .returned (.bool true) ∧ w = w' := in_bool n a b true w (by simp [h])
set_option maxRecDepth 100000 in
theorem in_false (n a b : Int) (w : World) (h : ¬ (a ≤ n ∧ n ≤ b)) : Calls Tryd.prog 51 #[.int .i64 n, .int .i64 a, .int .i64 b] w fun e w' => e = .returned (.bool false) ∧ w = w' := in_bool n a b false w (by rw [decide_eq_false h])
end Go.Proofs.YtbehmcflllleaaaDoor

namespace Go.Proofs.YtbehmcflllleaaaDoor
open Go.RowKit

set_option maxRecDepth 100000 in
set_option maxHeartbeats 2000000 in
theorem headerFault_any (au rd : Int) (ba : Option Addr) (bc : Nat) (bl : List Part) (pa : Option Addr) (pc : Nat) (pl : List Part) (w : World) (hb : ListAt w ba bc bl) (hp : ListAt w pa pc pl) :
    Calls Tryd.prog 42 #[.agg #[.int .i64 au, .int .i64 rd, .slice ba bl.length bc, .slice pa pl.length pc]] w fun e w' => e = .returned (.int .i64 (headerF au rd bl pl)) ∧ Below w.heap.size w w' := by
  have hbl := hb.le
  have hbm := hb.max
  have hbs := hb.small
  have hpl := hp.le
  have hpm := hp.max
  have hps := hp.small
  have hA : Below w.heap.size w (w.alloc (.cells #[.int .i64 au, .int .i64 rd, .slice ba bl.length bc, .slice pa pl.length pc] 32)) := (Below.refl _ _).alloc (Nat.le_refl _) _
  by_cases ha : 0 ≤ au ∧ au < 4
  · by_cases hr : 1 ≤ rd ∧ rd ≤ 1048576
    · by_cases hz : 3 < bl.length ∨ 4 < pl.length
      · have hF : Hid (headerF au rd bl pl = 1) := by show _ = _; rw [headerF, if_neg (by simp [ha, hr]), if_pos hz]
        by_cases hz1 : 3 < bl.length
        · have hzI : (3 : Int) < bl.length := by omega
          go_enter Tryd.func42, Tryd.ntmps42
          go_wp2_with (go_at_call 51; first | (refine (in_true _ _ _ _ (by omega)).mono ?_; rintro e w' ⟨rfl, rfl⟩) | (refine (in_false _ _ _ _ (by omega)).mono ?_; rintro e w' ⟨rfl, rfl⟩))
          go_ret
          exact ⟨ret_int hF.out.symm, hA⟩
        · have hzI : ¬ (3 : Int) < bl.length := by omega
          have hzJ : (4 : Int) < pl.length := by omega
          go_enter Tryd.func42, Tryd.ntmps42
          go_wp2_with (go_at_call 51; first | (refine (in_true _ _ _ _ (by omega)).mono ?_; rintro e w' ⟨rfl, rfl⟩) | (refine (in_false _ _ _ _ (by omega)).mono ?_; rintro e w' ⟨rfl, rfl⟩))
          go_ret
          exact ⟨ret_int hF.out.symm, hA⟩
      · have hF : Hid (headerF au rd bl pl = if digF bl ≠ 0 then digF bl else if digF pl ≠ 0 then digF pl else parentsF rd pl.length) := by show _ = _; rw [headerF, if_neg (by simp [ha, hr]), if_neg hz]
        have hzI : ¬ (3 : Int) < bl.length := by omega
        have hzJ : ¬ (4 : Int) < pl.length := by omega
        go_enter Tryd.func42, Tryd.ntmps42
        go_wp2_with (go_at_call 51; first | (refine (in_true _ _ _ _ (by omega)).mono ?_; rintro e w' ⟨rfl, rfl⟩) | (refine (in_false _ _ _ _ (by omega)).mono ?_; rintro e w' ⟨rfl, rfl⟩))
        refine (digestsFault_any bl ba _ bc _ rfl (by omega) (hb.parts.below hA)).mono ?_
        rintro e w1 ⟨he, hb1⟩
        subst he
        dsimp only
        have r1 := row_new hb1
        replace hb1 := below_alloc hb1
        have c1 : w1.cell? ⟨w.heap.size, 1, none⟩ = some (.int .i64 rd) := cells_at r1 1 _ rfl
        have c3 : w1.cell? ⟨w.heap.size, 3, none⟩ = some (.slice pa pl.length pc) := cells_at r1 3 _ rfl
        by_cases h1 : digF bl = 0
        · rw [h1] at hF ⊢
          go_wp2_with fail
          refine (digestsFault_any pl pa _ pc _ rfl (by omega) (hp.parts.below hb1)).mono ?_
          rintro e w2 ⟨he, hb2⟩
          subst he
          dsimp only
          have r2 := (hb2.block _ (lt_of_heap r1)).trans r1
          have hb12 := hb1.trans (hb2.mono hb1.size)
          have c1' : w2.cell? ⟨w.heap.size, 1, none⟩ = some (.int .i64 rd) := cells_at r2 1 _ rfl
          have c3' : w2.cell? ⟨w.heap.size, 3, none⟩ = some (.slice pa pl.length pc) := cells_at r2 3 _ rfl
          clear c3 c1 r1 r2
          by_cases h2 : digF pl = 0
          · rw [h2] at hF ⊢
            by_cases k1 : rd = 1
            · subst k1
              by_cases k2 : pl.length = 0
              · have hG : Hid (headerF au 1 bl pl = 0) := by show _ = _; rw [hF.out, if_neg (by simp), if_neg (by simp), parentsF, if_neg (by omega)]
                clear hF
                rw [k2] at c3' ⊢
                go_wp2_with fail
                go_ret
                exact ⟨ret_int hG.out.symm, hb12⟩
              · have hG : Hid (headerF au 1 bl pl = 10) := by show _ = _; rw [hF.out, if_neg (by simp), if_neg (by simp), parentsF, if_pos (by omega)]
                clear hF
                have k2I : ¬ (pl.length : Int) = 0 := by omega
                go_wp2_with fail
                go_ret
                exact ⟨ret_int hG.out.symm, hb12⟩
            · have k1J : (1 : Int) < rd := by omega
              by_cases k2 : pl.length < 3
              · have hG : Hid (headerF au rd bl pl = 10) := by show _ = _; rw [hF.out, if_neg (by simp), if_neg (by simp), parentsF, if_pos (by omega)]
                clear hF
                have k2I : (pl.length : Int) < 3 := by omega
                go_wp2_with fail
                go_ret
                exact ⟨ret_int hG.out.symm, hb12⟩
              · have hG : Hid (headerF au rd bl pl = 0) := by show _ = _; rw [hF.out, if_neg (by simp), if_neg (by simp), parentsF, if_neg (by omega)]
                clear hF
                have k2I : ¬ (pl.length : Int) < 3 := by omega
                go_wp2_with fail
                go_ret
                exact ⟨ret_int hG.out.symm, hb12⟩
          · rw [if_neg (by simp), if_pos h2] at hF
            generalize digF pl = z at *
            go_wp2_with fail
            go_ret
            exact ⟨ret_int hF.out.symm, hb12⟩
        · rw [if_pos h1] at hF
          generalize digF bl = z at *
          go_wp2_with fail
          go_ret
          exact ⟨ret_int hF.out.symm, hb1⟩
    · have hF : Hid (headerF au rd bl pl = 2) := by show _ = _; simp [headerF, hr]
      go_enter Tryd.func42, Tryd.ntmps42
      go_wp2_with (go_at_call 51; first | (refine (in_true _ _ _ _ (by omega)).mono ?_; rintro e w' ⟨rfl, rfl⟩) | (refine (in_false _ _ _ _ (by omega)).mono ?_; rintro e w' ⟨rfl, rfl⟩))
      go_ret
      exact ⟨ret_int hF.out.symm, hA⟩
  · have hF : Hid (headerF au rd bl pl = 2) := by show _ = _; simp [headerF, ha]
    go_enter Tryd.func42, Tryd.ntmps42
    go_wp2_with (go_at_call 51; first | (refine (in_true _ _ _ _ (by omega)).mono ?_; rintro e w' ⟨rfl, rfl⟩) | (refine (in_false _ _ _ _ (by omega)).mono ?_; rintro e w' ⟨rfl, rfl⟩))
    go_ret
    exact ⟨ret_int hF.out.symm, hA⟩
end Go.Proofs.YtbehmcflllleaaaDoor
