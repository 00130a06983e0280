/- Find of a digest of the dag; sheaveskeep.sameCert of a certificate and one whose header is another. -/
import Derived.Test.YtnpjhpmgelaonaaDoorQDagP
import Derived.Test.YtnpjhpmgelaonaaDoorQDFndC
import Derived.Test.YtnpjhpmgelaonaaDoorQKSameI
import Derived.Test.YtnpjhpmgelaonaaDoorQKSameLL
import Derived.Test.YtnpjhpmgelaonaaDoorQSameL
namespace Go.Proofs.YtnpjhpmgelaonaaDoor
open Go.RowKit

set_option maxRecDepth 100000 in
theorem find_at (ks : List Ct) (ka : Option Addr) (kc i : Nat) (p : Part) (w : World) (hF : dagF (cvs ks) = 0) (hV : ∀ x ∈ cvs ks, x.vl = [0, 1, 2]) (hi : i < ks.length) (hd : DagAt w ka kc ks) (hp : SliceAt w p.sa p.cap p.bs) (hpd : p.bs = (cvAt (cvs ks) i).d) (h32 : p.bs.length = 32) (hT : Tabs w) :
    Calls Tryd.prog 21 #[.agg #[.slice ka ks.length kc], .slice p.sa 32 p.cap] w fun e w' => (∃ c : Ct, e = .returned (.tuple #[.agg #[.int .i64 c.au, .int .i64 c.rd, .slice c.ba c.bl.length c.bc, .slice c.pa c.pl.length c.pc, .slice c.va c.vl.length c.vc], .int .i64 0]) ∧ CtAt w' c ∧ Hid ((c.v = cvAt (cvs ks) i ∨ (unlikeC (cvAt (cvs ks) i) c.v ∧ Coll (cvs ks))) ∧ c.v ∈ cvs ks) ∧ ∀ b, CtIn c b → w.heap.size ≤ b) ∧ Below w.heap.size w w' := by
  refine (dagFind_own ks ka _ kc p.bs p.sa 32 p.cap w rfl h32.symm hd hp hT).mono ?_
  intro e w' hO
  refine ⟨?_, hO.below⟩
  have hi' : i < (cvs ks).length := by rw [cvs_length]; exact hi
  rcases hO.out with ⟨ec, _, ⟨hz, _⟩ | ⟨_, hz, _⟩⟩ | ⟨_, _, c, he, hcv, hC, hfr⟩
  · rw [hF] at hz; cases hz
  · have := (pOf_self hi').1
    rw [← hpd] at this; omega
  · refine ⟨c, he, hC, ?_, fun b hb => Nat.le_of_lt (hfr b hb)⟩
    have h := pOf_or hV hi'
    rw [← hpd, ← hcv] at h
    refine ⟨h, ?_⟩
    rw [hcv, hpd]
    obtain ⟨g1, g2, _⟩ := pOf_self hi'
    exact cvAt_mem (by omega)
set_option maxRecDepth 100000 in
theorem sameU_of {ps qs : List Part} {m : Nat} (h : Same ps qs) (hl : qs.length ≤ m) (hu : ∀ d ∈ bss qs, ∀ x ∈ d, 0 ≤ x ∧ x ≤ 255) (hm : m ≤ 1000 := by decide) : SameU ps qs := ⟨h, fun p hp => hu p.bs (List.mem_map.2 ⟨p, hp, rfl⟩), by omega⟩
set_option maxRecDepth 100000 in
theorem head_of {w : World} {c : Ct} (h : CtAt w c) (hf : c.v.f = 0) (hu : U8C c.v) : HeadAt w c.ba c.bl.length c.bc c.bl c.pa c.pl.length c.pc c.pl := (hd_at h hf hu).head
set_option maxRecDepth 100000 in
set_option maxHeartbeats 1000000 in
theorem sameCert_or (c d : Ct) (w : World) (hC : CtAt w c) (hD : CtAt w d) (fc : c.v.f = 0) (fd : d.v.f = 0) (uc : U8C c.v) (ud : U8C d.v) (hvl : d.vl.length ≤ 1000) (h : c.v = d.v ∨ unlikeC d.v c.v) :
    Calls Tryd.prog 22 #[.agg #[.int .i64 c.au, .int .i64 c.rd, .slice c.ba c.bl.length c.bc, .slice c.pa c.pl.length c.pc, .slice c.va c.vl.length c.vc], .agg #[.int .i64 d.au, .int .i64 d.rd, .slice d.ba d.bl.length d.bc, .slice d.pa d.pl.length d.pc, .slice d.va d.vl.length d.vc]] w fun e w' => ((c.v = d.v ∧ e = .returned (.bool true)) ∨ (unlikeC d.v c.v ∧ e = .returned (.bool false))) ∧ Below w.heap.size w w' := by
  by_cases he : c.v = d.v
  · have h1 : c.au = d.au := congrArg CV.au he
    have h2 : c.rd = d.rd := congrArg CV.rd he
    have h3 : Same c.bl d.bl := congrArg CV.bl he
    have h4 : Same c.pl d.pl := congrArg CV.pl he
    have h5 : c.vl = d.vl := congrArg CV.vl he
    have hH := sameCertK_eq d.au d.rd c.ba c.bc c.bl c.pa c.pc c.pl c.va c.vc c.vl d.ba d.bc d.bl d.pa d.pc d.pl d.va d.vc w (sameU_of h3 ((headerF_ok (certF_head (vl := d.vl) (by rw [Ct.f_v]; exact fd))).2.2.1) ud.1) (sameU_of h4 ((headerF_ok (certF_head (vl := d.vl) (by rw [Ct.f_v]; exact fd))).2.2.2.1) ud.2) (by rw [h5]; omega) hC.hat.lb hC.hat.lp hC.ints hD.hat.lb hD.hat.lp (by rw [h5]; exact hD.ints)
    rw [h1, h2]
    rw [show c.vl.length = d.vl.length by rw [h5]] at hH ⊢
    exact hH.mono (fun e w' g => ⟨.inl ⟨he, g.1⟩, g.2⟩)
  · have hu : unlikeC d.v c.v := by
      rcases h with h | h
      · exact absurd h he
      · exact h
    have hA : Below w.heap.size w ((w.alloc (.cells #[.int .i64 c.au, .int .i64 c.rd, .slice c.ba c.bl.length c.bc, .slice c.pa c.pl.length c.pc, .slice c.va c.vl.length c.vc] 36)).alloc (.cells #[.int .i64 d.au, .int .i64 d.rd, .slice d.ba d.bl.length d.bc, .slice d.pa d.pl.length d.pc, .slice d.va d.vl.length d.vc] 36)) := ((Below.refl _ _).alloc (Nat.le_refl _) _).alloc (by rw [size_alloc]; omega) _
    have HN : Hid (decide (c.au = d.au ∧ c.rd = d.rd ∧ bsOf c.bl = bsOf d.bl ∧ bsOf c.pl = bsOf d.pl) = false) := by
      show _ = _
      exact decide_eq_false (fun ⟨a1, a2, a3, a4⟩ => hu ⟨a1.symm, a2.symm, a3.symm, a4.symm⟩)
    have HSH := sameHeader_any c.au c.rd d.au d.rd c.ba _ c.bc c.bl c.pa _ c.pc c.pl d.ba _ d.bc d.bl d.pa _ d.pc d.pl _ ((head_of hC fc uc).below hA) ((head_of hD fd ud).below hA)
    rw [HN.out] at HSH
    have HU : Hid _ := hu
    clear h he hu
    go_enter Tryd.func22, Tryd.ntmps22
    go_wp2_with fail
    refine HSH.mono ?_
    rintro e w1 ⟨he, hb1⟩
    subst he
    dsimp only
    have hB1 := hA.trans (hb1.mono hA.size)
    clear HSH
    go_wp2_with fail
    go_ret
    exact ⟨.inr ⟨HU.out, rfl⟩, hB1⟩
set_option maxRecDepth 100000 in
theorem pOf_short {l : List CV} {d : List Int} (hu : ∀ x ∈ d, 0 ≤ x ∧ x ≤ 255) (hd : d.length ≠ 32) : pOf l d = -1 := by
  refine fidx_none _ _ (fun j hj => ?_)
  rw [dHit]
  refine decide_eq_false (fun h => hd ?_)
  rw [← txL_inj (CV.d_u8 _) hu h, CV.d_length]
end Go.Proofs.YtnpjhpmgelaonaaDoor
