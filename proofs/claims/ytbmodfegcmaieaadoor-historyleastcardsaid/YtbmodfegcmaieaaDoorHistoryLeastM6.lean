/- What the reading of an argument that is a slice of bytes gives the walks. -/
import Derived.Test.YtbmodfegcmaieaaDoorHistoryLeastM0
import Derived.Test.YtbmodfegcmaieaaDoorQDFndC
import Derived.Test.YtbmodfegcmaieaaDoorQKFind
import Derived.Test.YtbmodfegcmaieaaDoorGKGrown
import Derived.Test.YtbmodfegcmaieaaDoorRows
import Derived.Test.YtbmodfegcmaieaaDoorGK
import Derived.Test.YtbmodfegcmaieaaDoorGSteps
import Derived.Lib.LaidTab
import Derived.OpenShut
import Derived.Stop.LaidErr
import Derived.Test.YtbmodfegcmaieaaDoorGTagged
import Derived.ProofKit
namespace Go.Proofs.YtbmodfegcmaieaaDoor
open Go.RowKit

/-- What Find refuses. -/
def FndE (l : List CV) (k : List Int) (ec : Int) : Prop := (dagF l = 12 ∧ ec = 12) ∨ (dagF l = 0 ∧ pOf l k = -1 ∧ ec = 8)
/-- What historyOf answers. -/
structure HofO (w w' : World) (e : Ending) (ls : List Ct) (k : List Int) : Prop where
  below : Below w.heap.size w w'
  out : (∃ ec : Int, e = .returned (.tuple #[.slice none 0 0, .int .i64 ec]) ∧ FndE (cvs ls) k ec) ∨ (dagF (cvs ls) = 0 ∧ 0 ≤ pOf (cvs ls) k ∧ ∃ (sa : Option Addr) (cap : Nat) (sts : List HSt), e = .returned (.tuple #[.slice sa sts.length cap, .int .i64 0]) ∧ HistIs (cvs ls) k (sts.map (·.c.v)) ∧ (∀ s ∈ sts, s.c ∈ ls ∧ s.p.bs = s.c.v.d) ∧ StsAt w' sa sts ∧ (∀ s ∈ sts, ∀ b so, s.p.sa = some ⟨b, so, none⟩ → w.heap.size ≤ b))
set_option maxRecDepth 100000 in
theorem pOf_sel {l : List CV} {k : List Int} (h : 0 ≤ pOf l k) : ∃ j, j < l.length ∧ sel l k j ∧ (j : Int) = pOf l k ∧ bstr (cvAt l j).d = bstr k := by
  have hb := pOf_bounds l k
  have hy := of_decide_eq_true (fidx_yes (dHit l k) l.length h)
  have hj : (pOf l k).toNat < l.length := by omega
  exact ⟨(pOf l k).toNat, hj, (sel_iff hj).2 (.inl (txL_bstr.1 hy)), by omega, txL_bstr.1 hy⟩
set_option maxRecDepth 100000 in
set_option maxHeartbeats 2000000 in
theorem historyOf_any (ls : List Ct) (sa : Option Addr) (n cap : Nat) (bs : List Int) (ka : Option Addr) (kn kc : Nat) (w : World) (hn : n = ls.length) (hkn : kn = bs.length) (hd : DagAt w sa cap ls) (hk : SliceAt w ka kc bs) (hT : Tabs w) :
    Calls Tryd.prog 55 #[.agg #[.slice sa n cap], .slice ka kn kc] w fun e w' => HofO w w' e ls bs := by
  subst hn hkn
  have hA : Below w.heap.size w (w.alloc (.cells #[.slice sa ls.length cap] 51)) := (Below.refl _ _).alloc (Nat.le_refl _) _
  have r0 := heap_alloc_new w (.cells #[.slice sa ls.length cap] 51)
  go_enter Tryd.func55, Tryd.ntmps55
  go_wp2_with fail
  generalize w.alloc (.cells #[.slice sa ls.length cap] 51) = W0 at hA r0 ⊢
  refine (dagFind_own ls sa _ cap bs ka _ kc W0 rfl rfl (hd.below hA) (hk.below hA) (hT.below hA)).mono ?_
  intro e w1 hO
  have hb1 := hO.below
  have hB1 := hA.trans (hb1.mono hA.size)
  rcases hO.out with ⟨ec, he, hec⟩ | ⟨h1, h2, c, he, hcv, hct, hcb⟩
  · subst he
    dsimp only
    have hne : (ec != 0) = true := by
      rcases hec with h | h
      · rw [h.2]; rfl
      · rw [h.2.2]; rfl
    have HE : Hid _ := hec
    clear hec hO
    go_wp2_with fail
    go_ret2
    exact ⟨hB1.alloc hB1.size _, .inl ⟨ec, rfl, HE.out⟩⟩
  · subst he
    dsimp only
    have HF : Hid (dagF (cvs ls) = 0) := h1
    have HP : Hid (0 ≤ pOf (cvs ls) bs) := h2
    have r1 := (hb1.block _ (lt_of_heap r0)).trans r0
    clear hO hcv h1 h2
    have hA2 := (Below.refl w1.heap.size w1).alloc (Nat.le_refl _) (.cells #[.int .i64 c.au, .int .i64 c.rd, .slice c.ba c.bl.length c.bc, .slice c.pa c.pl.length c.pc, .slice c.va c.vl.length c.vc] 63)
    have hB2 := hB1.trans (hA2.mono hB1.size)
    have r2 := (hA2.block _ (lt_of_heap r1)).trans r1
    have d0 := cells_at r2 0 _ rfl
    go_wp2_with fail
    generalize w1.alloc (.cells #[.int .i64 c.au, .int .i64 c.rd, .slice c.ba c.bl.length c.bc, .slice c.pa c.pl.length c.pc, .slice c.va c.vl.length c.vc] 63) = W2 at hA2 hB2 r2 d0 ⊢
    refine (reached_any ls sa _ cap bs ka _ kc W2 rfl rfl (hd.below hB2) HF.out (hk.below hB2) (hT.below hB2)).mono ?_
    intro e w3 hO
    have hb3 := hO.below
    have hB3 := hB2.trans (hb3.mono hB2.size)
    obtain ⟨v, sts, he, hsts, hmem, ho, hap⟩ := hO.out
    subst he
    dsimp only
    have hne : sts ≠ [] := by
      intro h
      obtain ⟨j, hj, hsel, _⟩ := pOf_sel HP.out
      have : cvAt (cvs ls) j ∈ (rchTo (cvs ls) bs 0).2 := (rch_snd_mem _ _ (cvs ls).length 0 (by omega) _).2 ⟨j, Nat.zero_le _, hj, hsel, rfl⟩
      rw [← hsts, h] at this; cases this
    have hlen : sts.length ≤ 400 := by
      have h1 : (sts.map (·.c.v)).length ≤ (cvs ls).length := by
        have : ∀ n m, m + n = (cvs ls).length → (rchTo (cvs ls) bs m).2.length ≤ n := by
          intro n
          induction n with
          | zero => intro m hm; obtain rfl : m = (cvs ls).length := by omega
                    rw [rchTo_end]; simp
          | succ n ih =>
            intro m hm
            have := ih (m + 1) (by omega)
            rw [rchTo_step _ _ m (by omega), rchS]
            cases inO (bstr (cvAt (cvs ls) m).d) (rchTo (cvs ls) bs (m + 1)).1
            · show (rchTo (cvs ls) bs (m + 1)).2.length ≤ n + 1
              omega
            · show ((rchTo (cvs ls) bs (m + 1)).2 ++ [cvAt (cvs ls) m]).length ≤ n + 1
              rw [List.length_append]; simp; omega
        rw [hsts]; exact this _ 0 (by omega)
      have h2 := (dagF_zero HF.out).1
      rw [List.length_map] at h1; omega
    obtain ⟨g, gc, rfl⟩ : ∃ g gc, v = .slice (some ⟨g, 0, none⟩) sts.length gc := by
      rcases ho.2 with ⟨_, h0⟩ | ⟨g, gc, cur, rfl, _⟩
      · exact absurd (List.eq_nil_of_length_eq_zero h0) hne
      · exact ⟨g, gc, rfl⟩
    have HS : Hid _ := hsts
    have HM : Hid _ := hmem
    have HNW : Hid (∀ s ∈ sts, ∀ b so, s.p.sa = some ⟨b, so, none⟩ → w.heap.size ≤ b) := by
      show ∀ s ∈ sts, _
      intro s hs b so e
      have := ((hap s.p (List.mem_map.2 ⟨s, hs, rfl⟩)).2 b so e).1
      have := hB2.size
      omega
    have hSR := sortSteps_any sts g gc (W2.heap.size + 2) W2 w3 hb3 (by omega) (by omega) hne ho hap
    have HLN : Hid (sts.length ≤ 400) := hlen
    clear hO hsts hmem ho hap hne hlen d0
    go_wp2_with fail
    refine hSR.mono ?_
    intro e w4 hO
    have hb4 := hO.below
    obtain ⟨he, ks, hpm, hup, hat⟩ := hO.out
    subst he
    dsimp only
    have hB4 := hB2.trans (hb4.mono hB2.size)
    have HKL : Hid (ks.length = sts.length) := hpm.length_eq
    have HH : Hid (HistIs (cvs ls) bs (ks.map (·.c.v))) := by
      have h1 : (ks.map (·.c.v)).Perm (rchTo (cvs ls) bs 0).2 := by rw [← HS.out]; exact hpm.map _
      refine ⟨h1, up_of_not (perm_apart h1 (rch_apart _ HF.out _ (cvs ls).length 0 (by omega))) ?_⟩
      intro i j hi hj
      have hj2 : j < ks.length := by simpa using hj
      have := hup i j hi hj2
      simpa [kSt, kRA, Ct.v] using this
    have HK2 : Hid ((∀ s ∈ ks, s.c ∈ ls ∧ s.p.bs = s.c.v.d) ∧ ∀ s ∈ ks, ∀ b so, s.p.sa = some ⟨b, so, none⟩ → w.heap.size ≤ b) := ⟨fun s hs => HM.out s (hpm.mem_iff.1 hs), fun s hs => HNW.out s (hpm.mem_iff.1 hs)⟩
    clear hO hup hpm hSR
    go_wp2_with fail
    go_ret2
    exact ⟨hB4, .inr ⟨HF.out, HP.out, some ⟨g, 0, none⟩, gc, ks, by rw [HKL.out]; rfl, HH.out, HK2.out.1, hat, HK2.out.2⟩⟩
/-- What History answers. -/
structure HisO (w w' : World) (e : Ending) (l : List CV) (k : List Int) : Prop where
  below : Below w.heap.size w w'
  out : (∃ ec : Int, e = .returned (.tuple #[.slice none 0 0, .int .i64 ec]) ∧ FndE l k ec) ∨ (dagF l = 0 ∧ 0 ≤ pOf l k ∧ ∃ (ra : Option Addr) (rc : Nat) (ds : List Part) (hs : List CV), e = .returned (.tuple #[.slice ra ds.length rc, .int .i64 0]) ∧ HistIs l k hs ∧ bss ds = hs.map CV.d ∧ ListAt w' ra rc ds ∧ Fresh w.heap.size ra ds)
set_option maxRecDepth 100000 in
theorem own_wideO {w : World} {B B' n : Nat} {e : TypeId} {sz : Nat} {v : Value} {xs : List Value} (h : w.ownsRow B e sz v n xs) (hB : B' ≤ B) : w.ownsRow B' e sz v n xs := ⟨h.1, h.2.imp id (fun ⟨g, c, cur, e1, e2, r⟩ => ⟨g, c, cur, e1, Nat.le_trans hB e2, r⟩)⟩
set_option maxRecDepth 100000 in
theorem hist_small {l : List CV} {k : List Int} {hs : List CV} (h : HistIs l k hs) (hF : dagF l = 0) : hs.length ≤ 400 := Nat.le_trans (hist_len h) (dagF_zero hF).1
set_option maxRecDepth 100000 in
set_option maxHeartbeats 2000000 in
theorem history_any (ls : List Ct) (sa : Option Addr) (n cap : Nat) (bs : List Int) (ka : Option Addr) (kn kc : Nat) (w : World) (hn : n = ls.length) (hkn : kn = bs.length) (hd : DagAt w sa cap ls) (hk : SliceAt w ka kc bs) (hT : Tabs w) :
    Calls Tryd.prog 36 #[.agg #[.slice sa n cap], .slice ka kn kc] w fun e w' => HisO w w' e (cvs ls) bs := by
  subst hn hkn
  have hA : Below w.heap.size w (w.alloc (.cells #[.slice sa ls.length cap] 51)) := (Below.refl _ _).alloc (Nat.le_refl _) _
  obtain ⟨i, hi, hz0, hz1, hz2⟩ := info_parts infoBs
  go_enter Tryd.func36, Tryd.ntmps36
  go_wp2_with fail
  generalize w.alloc (.cells #[.slice sa ls.length cap] 51) = W0 at hA ⊢
  refine (historyOf_any ls sa _ cap bs ka _ kc W0 rfl rfl (hd.below hA) (hk.below hA) (hT.below hA)).mono ?_
  intro e w1 hO
  have hb1 := hO.below
  have hB1 := hA.trans (hb1.mono hA.size)
  rcases hO.out with ⟨ec, he, hec⟩ | ⟨h1, h2, ra, rc, sts, he, hH, hM, hat, hnw⟩
  · subst he
    dsimp only
    have hne : (ec != 0) = true := by
      rcases hec with h | h
      · rw [h.2]; rfl
      · rw [h.2.2]; rfl
    have HE : Hid _ := hec
    clear hec hO
    go_wp2_with fail
    go_ret2
    exact ⟨hB1, .inl ⟨ec, rfl, HE.out⟩⟩
  · subst he
    dsimp only
    have hlen : sts.length ≤ 400 := by have := hist_small hH h1; rwa [List.length_map] at this
    have HX : Hid (dagF (cvs ls) = 0 ∧ 0 ≤ pOf (cvs ls) bs ∧ HistIs (cvs ls) bs (sts.map (·.c.v)) ∧ (∀ s ∈ sts, s.c ∈ ls ∧ s.p.bs = s.c.v.d) ∧ ∀ s ∈ sts, ∀ b so, s.p.sa = some ⟨b, so, none⟩ → w.heap.size ≤ b) := ⟨h1, h2, hH, hM, fun s hs b so e => Nat.le_trans hA.size (hnw s hs b so e)⟩
    clear h1 h2 hH hM hnw hO hd hk hT
    go_wp2_with (at_make; refine wpList_make_own _ rfl _ _ 44 rfl w1.heap.size 46 i (.slice none 0 0) 1 Tryd.underlying44 hi hz0 hz1 .i64 .i64 _ sts.length rfl rfl (by go_num) (by rw [hz2]; omega) (by unfold maxLen; omega) (Nat.le_refl _) ?_; intro w2 ho2 hg2)
    have hb2 : Below w1.heap.size w1 w2 := grown_none hg2
    go_wp2_with fail
    go_loopw [25, 8] (fun j v wr => ∃ m : Nat, m ≤ sts.length ∧ j = .int .i64 m ∧ wr.ownsRow w1.heap.size 46 1 v m (pv ((sts.take m).map HSt.p)) ∧ Below w1.heap.size w1 wr) (fun j _ _ => sts.length - (intOf j).toNat)
    case atStart => exact ⟨0, Nat.zero_le _, rfl, ho2, hb2⟩
    case round =>
      clear ho2 hg2 hb2
      obtain ⟨m, hm, rfl, ho, hb⟩ := hrel
      by_cases hlt : m < sts.length
      · have hltI : (m : Int) < sts.length := by omega
        obtain ⟨sb, so, rfl, hc⟩ : ∃ sb so, ra = some ⟨sb, so, none⟩ ∧ _ := by
          rcases (hat.below hb).cells with h | h
          · rw [h] at hlt; simp at hlt
          · exact h
        obtain ⟨c0, c1, c2, c3, c4⟩ := hc m hlt
        have HST : Hid (pv ((sts.take (m + 1)).map HSt.p) = pv ((sts.take m).map HSt.p) ++ [.slice (sts[m]).p.sa (sts[m]).p.bs.length (sts[m]).p.cap]) := by
          show _ = _
          rw [List.take_succ_eq_append_getElem hlt, List.map_append]
          simp [pv, Part.val]
        clear hc
        generalize sts[m] = s at c0 c1 c2 c3 c4 HST
        generalize pv ((sts.take m).map HSt.p) = PS at ho HST
        have hA2 := (Below.refl wr.heap.size wr).alloc (Nat.le_refl _) (.cells #[.int .i64 s.c.au, .int .i64 s.c.rd, .slice s.c.ba s.c.bl.length s.c.bc, .slice s.c.pa s.c.pl.length s.c.pc, .slice s.p.sa s.p.bs.length s.p.cap] 91)
        have q0 := heap_alloc_new wr (.cells #[.int .i64 s.c.au, .int .i64 s.c.rd, .slice s.c.ba s.c.bl.length s.c.bc, .slice s.c.pa s.c.pl.length s.c.pc, .slice s.p.sa s.p.bs.length s.p.cap] 91)
        have ho2 := World.ownsRow.alloc ho (.cells #[.int .i64 s.c.au, .int .i64 s.c.rd, .slice s.c.ba s.c.bl.length s.c.bc, .slice s.c.pa s.c.pl.length s.c.pc, .slice s.p.sa s.p.bs.length s.p.cap] 91)
        go_upto_region 8 with fail
        generalize wr.alloc (.cells #[.int .i64 s.c.au, .int .i64 s.c.rd, .slice s.c.ba s.c.bl.length s.c.bc, .slice s.c.pa s.c.pl.length s.c.pc, .slice s.p.sa s.p.bs.length s.p.cap] 91) = W3 at hA2 q0 ho2 ⊢
        have k4 := cells_at q0 4 _ rfl
        have hB3 := hb.trans (hA2.mono hb.size)
        clear c0 c1 c2 c3 c4
        go_wp2_with (at_builtin; refine wpList_append_own_at _ rfl _ _ 44 rfl w1.heap.size 46 i (.slice none 0 0) 1 24 Tryd.underlying44 hi hz0 hz1 hz2 rfl (by decide) _ m _ rfl (World.ownsRow.alloc ho2 _) ⟨W3.heap.size, 0, none⟩ 1 1 [.slice s.p.sa s.p.bs.length s.p.cap] rfl rfl (cells_new _ _ _) (by intro u hu; simp at hu; subst hu; rfl) (by unfold maxLen; omega) (by omega) (le_alloc hB3.size _) ?_; intro v5 w5 ho5 hg5 _ hat5)
        have hB5 := Below.grown (hB3.alloc hB3.size _) hg5 (le_alloc hB3.size _) (fun q e => (ho2.lt q e).1)
        go_roundw
        case rel => exact ⟨m + 1, by omega, by go_num, by rw [HST.out]; exact ho5, hB5⟩
        case measure => simp [intOf]; omega
      · obtain rfl : m = sts.length := by omega
        rw [List.take_length] at ho
        have hBr := hB1.trans (hb.mono hB1.size)
        go_wp2_with fail
        go_ret2
        obtain ⟨g1, g2, g3, g4, g5⟩ := HX.out
        have hap : Apart wr w.heap.size _ (sts.map HSt.p) := fun p hp => by
          obtain ⟨s, hs, rfl⟩ := List.mem_map.1 hp
          have hsl := hat.each s hs
          have h32 : s.p.bs.length = 32 := by rw [(g4 s hs).2, CV.d_length]
          refine ⟨hsl.below hb, fun sb so e => ?_⟩
          have hlt : sb < w1.heap.size := by
            rcases hsl.bytes with h | ⟨sb', so', e', h⟩
            · rw [h] at h32; simp at h32
            · rw [e] at e'; cases e'
              exact block_lt_of_cell (h 0 (by omega))
          have := hb.size
          exact ⟨g5 s hs sb so e, by omega, fun h => by have := (ho.lt sb h).1; omega⟩
        obtain ⟨xa, xc, hv, hl, hL, hFr⟩ := listAt_of_owns (own_wideO ho hB1.size) hap
        subst hv
        refine ⟨hBr, .inr ⟨g1, g2, xa, xc, sts.map HSt.p, sts.map (·.c.v), by rw [List.length_map]; rfl, g3, ?_, hL (by omega), hFr⟩⟩
        rw [bss, List.map_map, List.map_map]
        exact List.map_congr_left (fun s hs => (g4 s hs).2)
end Go.Proofs.YtbmodfegcmaieaaDoor

namespace Go.Proofs.YtbmodfegcmaieaaDoor
open Go.RowKit

set_option maxRecDepth 100000 in
theorem coll_or {l : List CV} (h : dagF l = 0) : OneD l ∨ Coll l := by
  rcases oneD_or h with h1 | ⟨K, I, h1, h2, h3, h4⟩
  · exact .inl h1
  · exact .inr ⟨K, I, h1, h2, h3, fun g => h4 ⟨g.1, g.2.1⟩⟩
/-- What the list of a history has. -/
structure HisG (l : List CV) (k : List Int) (qs : List Part) (hs : List CV) : Prop where
  hist : HistIs l k hs
  digs : bss qs = hs.map CV.d
set_option maxRecDepth 100000 in
theorem HisG.len {l : List CV} {k : List Int} {qs : List Part} {hs : List CV} (h : HisG l k qs hs) : qs.length = hs.length := by
  have := congrArg List.length h.digs
  simpa [bss] using this
set_option maxRecDepth 100000 in
theorem HisG.bs {l : List CV} {k : List Int} {qs : List Part} {hs : List CV} (h : HisG l k qs hs) {m : Nat} (hm : m < qs.length) : (qs[m]).bs = (cvAt hs m).d := by
  have hm2 : m < hs.length := by rw [← h.len]; exact hm
  have h1 : (bss qs).getD m [] = (hs.map CV.d).getD m [] := by rw [h.digs]
  rw [bss_get qs m hm] at h1
  rw [h1]
  simp [cvAt, hm2]
set_option maxRecDepth 100000 in
theorem HisG.at {l : List CV} {k : List Int} {qs : List Part} {hs : List CV} (h : HisG l k qs hs) {m : Nat} (hm : m < qs.length) : ∃ j, j < l.length ∧ sel l k j ∧ cvAt hs m = cvAt l j ∧ (qs[m]).bs = (cvAt l j).d := by
  have hm2 : m < hs.length := by rw [← h.len]; exact hm
  obtain ⟨j, h1, h2, h3⟩ := (h.hist.mem _).1 (cvAt_mem hm2)
  exact ⟨j, h1, h2, h3, by rw [h.bs hm, h3]⟩
set_option maxRecDepth 100000 in
theorem hist_up {hs : List CV} {l : List CV} {k : List Int} (h : HistIs l k hs) {a b : Nat} (hab : a < b) (hb : b < hs.length) : (cvAt hs a).rd < (cvAt hs b).rd ∨ ((cvAt hs a).rd = (cvAt hs b).rd ∧ (cvAt hs a).au < (cvAt hs b).au) := by
  have := (List.pairwise_iff_getElem.1 h.up) a b (by omega) hb hab
  have e1 : cvAt hs a = hs[a] := by simp [cvAt, show a < hs.length by omega]
  have e2 : cvAt hs b = hs[b] := by simp [cvAt, hb]
  rw [e1, e2]
  exact cmpRA_kRA.1 this
set_option maxRecDepth 100000 in
/-- The parents of what a history has stand ahead in it. -/
theorem hist_parent {l : List CV} (h : dagF l = 0) (ho : OneD l) {k : List Int} {hs : List CV} (H : HistIs l k hs) {m : Nat} (hm : m < hs.length) {p : List Int} (hp : p ∈ (cvAt hs m).pl) : ∃ j, j < m ∧ bstr (cvAt hs j).d = bstr p := by
  obtain ⟨i, h1, h2, h3⟩ := (H.mem _).1 (cvAt_mem hm)
  rw [h3] at hp
  obtain ⟨q, q1, q2, q3⟩ := parent_at h h1 hp
  have hq : q < l.length := by omega
  obtain ⟨_, hs2, _⟩ := sel_parent h ho h1 hq h2 hp q2
  have hin : cvAt l q ∈ hs := (H.mem _).2 ⟨q, hq, hs2, rfl⟩
  obtain ⟨j, hj, e⟩ := List.getElem_of_mem hin
  have e1 : cvAt hs j = cvAt l q := by rw [← e]; simp [cvAt, hj]
  refine ⟨j, ?_, by rw [e1]; exact q2⟩
  rcases Nat.lt_or_ge j m with g | g
  · exact g
  · rcases Nat.lt_or_ge m j with g2 | g2
    · have := hist_up H g2 hj
      rw [e1, h3] at this
      omega
    · obtain rfl : j = m := by omega
      rw [e1] at h3
      rw [h3] at q3; omega
set_option maxRecDepth 100000 in
theorem atF_some {hs : List CV} {p : List Int} {j : Nat} (hj : j < hs.length) (h : bstr (cvAt hs j).d = bstr p) : 0 ≤ atF (hs.map CV.d) p := by
  rw [atF_pOf]
  rcases Int.lt_or_le (pOf hs p) 0 with g | g
  · have := fidx_no _ _ g j hj
    rw [dHit, txL_bstr.2 h] at this
    simp at this
  · exact g
set_option maxRecDepth 100000 in
theorem bss_take (ds : List Part) (i : Nat) : bss (ds.take i) = (bss ds).take i := by simp [bss, List.map_take]
set_option maxRecDepth 100000 in
theorem atF_take {hs : List CV} {p : List Int} {m j : Nat} (hm : m ≤ hs.length) (hj : j < m) (h : bstr (cvAt hs j).d = bstr p) : 0 ≤ atF ((hs.map CV.d).take m) p := by
  rw [← List.map_take]
  refine atF_some (j := j) (by rw [List.length_take]; omega) ?_
  rw [cvAt_take hs m j hj]; exact h
set_option maxRecDepth 100000 in
/-- What History gives for a digest of the dag. -/
theorem his_at (ks : List Ct) (ka : Option Addr) (kc i : Nat) (p : Part) (w : World) (hF : dagF (cvs ks) = 0) (hi : i < ks.length) (hd : DagAt w ka kc ks) (hp : SliceAt w p.sa p.cap p.bs) (hpd : p.bs = (cvAt (cvs ks) i).d) (h32 : p.bs.length = 32) (hT : Tabs w) :
    Calls Tryd.prog 36 #[.agg #[.slice ka ks.length kc], .slice p.sa 32 p.cap] w fun e w' => (∃ (ra : Option Addr) (rc : Nat) (qs : List Part), e = .returned (.tuple #[.slice ra qs.length rc, .int .i64 0]) ∧ ListAt w' ra rc qs ∧ (∃ hs, HisG (cvs ks) (cvAt (cvs ks) i).d qs hs) ∧ Fresh w.heap.size ra qs ∧ 0 < qs.length ∧ qs.length ≤ ks.length) ∧ Below w.heap.size w w' := by
  refine (history_any ks ka _ kc p.bs p.sa 32 p.cap w rfl h32.symm hd hp hT).mono ?_
  intro e w' hO
  have hps := (pOf_self (l := cvs ks) (i := i) (by rw [cvs_length]; exact hi)).1
  rw [hpd] at hO
  refine ⟨?_, hO.below⟩
  rcases hO.out with ⟨ec, _, h | h⟩ | ⟨_, _, ra, rc, ds, hs, he, hH, hb, hL, hf⟩
  · rw [hF] at h; cases h.1
  · omega
  · have hG : HisG (cvs ks) (cvAt (cvs ks) i).d ds hs := ⟨hH, hb⟩
    refine ⟨ra, rc, ds, he, hL, ⟨hs, hG⟩, hf, ?_, ?_⟩
    · rw [hG.len]
      have hin : cvAt (cvs ks) i ∈ hs := (hH.mem _).2 ⟨i, by rw [cvs_length]; exact hi, sel_self (by rw [cvs_length]; exact hi), rfl⟩
      exact List.length_pos_of_mem hin
    · rw [hG.len, ← cvs_length ks]; exact hist_len hH
set_option maxRecDepth 100000 in
/-- What History refuses: what is no digest. -/
theorem his_none (ks : List Ct) (ka : Option Addr) (kc n : Nat) (bs : List Int) (sa : Option Addr) (cap : Nat) (w : World) (hF : dagF (cvs ks) = 0) (hd : DagAt w ka kc ks) (hn : n = bs.length) (hs : SliceAt w sa cap bs) (hu : ∀ x ∈ bs, 0 ≤ x ∧ x ≤ 255) (hl : bs.length ≠ 32) (hT : Tabs w) :
    Calls Tryd.prog 36 #[.agg #[.slice ka ks.length kc], .slice sa n cap] w fun e w' => e = .returned (.tuple #[.slice none 0 0, .int .i64 8]) ∧ Below w.heap.size w w' := by
  refine (history_any ks ka _ kc bs sa n cap w rfl hn hd hs hT).mono ?_
  intro e w' hO
  have hps := pOf_short (l := cvs ks) hu hl
  refine ⟨?_, hO.below⟩
  rcases hO.out with ⟨ec, he, h | h⟩ | ⟨_, h2, _⟩
  · rw [hF] at h; cases h.1
  · rw [he, h.2.2]
  · omega
end Go.Proofs.YtbmodfegcmaieaaDoor

namespace Go.Proofs.YtbmodfegcmaieaaDoor
open Go.RowKit

/-- The place of the last of the first m of a that b has. -/
def lastAt (a b : List CV) : Nat → Int
  | 0 => -1
  | m + 1 => if pOf b (cvAt a m).d < 0 then lastAt a b m else pOf b (cvAt a m).d
set_option maxRecDepth 100000 in
theorem hist_one {l : List CV} (ho : OneD l) {k : List Int} {hs : List CV} (H : HistIs l k hs) {a b : Nat} (ha : a < hs.length) (hb : b < hs.length) (h : (cvAt hs a).d = (cvAt hs b).d) : a = b := by
  obtain ⟨i, h1, _, h3⟩ := (H.mem _).1 (cvAt_mem ha)
  obtain ⟨j, g1, _, g3⟩ := (H.mem _).1 (cvAt_mem hb)
  rw [h3, g3] at h
  obtain rfl := ho i j h1 g1 h
  rcases Nat.lt_trichotomy a b with q | q | q
  · have := hist_up H q hb; rw [h3, g3] at this; omega
  · exact q
  · have := hist_up H q ha; rw [h3, g3] at this; omega
set_option maxRecDepth 100000 in
theorem pOf_hit {hs : List CV} {d : List Int} (h : 0 ≤ pOf hs d) : (pOf hs d).toNat < hs.length ∧ bstr (cvAt hs (pOf hs d).toNat).d = bstr d := by
  have hb := pOf_bounds hs d
  exact ⟨by omega, txL_bstr.1 (of_decide_eq_true (fidx_yes (dHit hs d) hs.length h))⟩
set_option maxRecDepth 100000 in
theorem last_lt {l : List CV} (_h : dagF l = 0) (ho : OneD l) {k k' : List Int} {a b : List CV} (ha : HistIs l k a) (hb : HistIs l k' b) {m : Nat} (hm : m < a.length) (hp : 0 ≤ pOf b (cvAt a m).d) : lastAt a b m < pOf b (cvAt a m).d := by
  have key : ∀ q, q ≤ m → lastAt a b q < pOf b (cvAt a m).d := by
    intro q
    induction q with
    | zero => intro _; show (-1 : Int) < _; omega
    | succ q ih =>
      intro hq
      rw [lastAt]
      split
      · exact ih (by omega)
      · rename_i g
        have hqm : q < m := by omega
        obtain ⟨x1, x2⟩ := pOf_hit (hs := b) (d := (cvAt a q).d) (by omega)
        obtain ⟨y1, y2⟩ := pOf_hit (hs := b) (d := (cvAt a m).d) hp
        have x3 := d_bstr x2
        have y3 := d_bstr y2
        rcases Nat.lt_or_ge (pOf b (cvAt a q).d).toNat (pOf b (cvAt a m).d).toNat with z | z
        · omega
        · exfalso
          obtain ⟨i, i1, _, i3⟩ := (ha.mem _).1 (cvAt_mem (show q < a.length by omega))
          obtain ⟨j, j1, _, j3⟩ := (ha.mem _).1 (cvAt_mem hm)
          obtain ⟨i', i1', _, i3'⟩ := (hb.mem _).1 (cvAt_mem x1)
          obtain ⟨j', j1', _, j3'⟩ := (hb.mem _).1 (cvAt_mem y1)
          rw [i3', i3] at x3
          rw [j3', j3] at y3
          obtain rfl := ho i' i i1' i1 x3
          obtain rfl := ho j' j j1' j1 y3
          have hu := hist_up ha hqm hm
          rcases Nat.lt_or_ge (pOf b (cvAt a m).d).toNat (pOf b (cvAt a q).d).toNat with z2 | z2
          · have hv := hist_up hb z2 x1
            rw [i3', j3'] at hv
            rw [i3, j3] at hu
            omega
          · have e : (pOf b (cvAt a m).d).toNat = (pOf b (cvAt a q).d).toNat := by omega
            rw [e] at j3'
            rw [i3'] at j3'
            rw [i3, j3, j3'] at hu
            omega
  exact key m (Nat.le_refl _)
set_option maxRecDepth 100000 in
/-- What a history has, but for its own, stands among the parents of one behind it. -/
theorem hist_child {l : List CV} (h : dagF l = 0) (ho : OneD l) {n : Nat} (hn : n < l.length) {hs : List CV} (H : HistIs l (cvAt l n).d hs) {m : Nat} (hm : m + 1 < hs.length) : ∃ j, m < j ∧ j < hs.length ∧ ∃ p ∈ (cvAt hs j).pl, bstr p = bstr (cvAt hs m).d := by
  obtain ⟨i, h1, h2, h3⟩ := (H.mem _).1 (cvAt_mem (show m < hs.length by omega))
  rcases (sel_iff h1).1 h2 with g | ⟨i', g1, g2, g3, g4⟩
  · have hin := ho i n h1 hn (d_bstr g)
    subst hin
    obtain ⟨r, hr⟩ := hist_last h ho hn H
    have hl : hs.length = r.length + 1 := by rw [hr]; simp
    have hu := hist_up H (a := m) (b := r.length) (by omega) (by omega)
    have e : cvAt hs r.length = cvAt l i := by rw [hr]; simp [cvAt]
    rw [e, h3] at hu
    omega
  · obtain ⟨p, hp, e⟩ := List.mem_map.1 g4
    have hin : cvAt l i' ∈ hs := (H.mem _).2 ⟨i', g2, g3, rfl⟩
    obtain ⟨j, hj, e2⟩ := List.getElem_of_mem hin
    have e1 : cvAt hs j = cvAt l i' := by rw [← e2]; simp [cvAt, hj]
    refine ⟨j, ?_, hj, p, by rw [e1]; exact hp, by rw [h3]; exact e⟩
    obtain ⟨_, _, hr⟩ := sel_parent h ho g2 h1 g3 hp e.symm
    rcases Nat.lt_or_ge m j with z | z
    · exact z
    · rcases Nat.lt_or_ge j m with z2 | z2
      · have hu := hist_up H z2 (by omega)
        rw [e1, h3] at hu
        omega
      · obtain rfl : j = m := by omega
        rw [e1] at h3
        rw [h3] at hr; omega
set_option maxRecDepth 100000 in
theorem atF_mem {ls : List (List Int)} {p d : List Int} (hp : p ∈ ls) (h : bstr p = bstr d) : 0 ≤ atF ls d := by
  obtain ⟨j, hj, rfl⟩ := List.getElem_of_mem hp
  rcases Int.lt_or_le (atF ls d) 0 with g | g
  · have := fidx_no _ _ g j hj
    have e : ls.getD j [] = ls[j] := by simp [hj]
    rw [e, txL_bstr.2 h] at this
    simp at this
  · exact g
set_option maxRecDepth 100000 in
/-- The history of what a history has is a part of it. -/
theorem hist_part {l : List CV} (h : dagF l = 0) (ho : OneD l) {k : List Int} {hs : List CV} (H : HistIs l k hs) {n : Nat} (hn : n < l.length) (hs2 : sel l k n) {ps : List CV} (P : HistIs l (cvAt l n).d ps) {m : Nat} (hm : m < ps.length) : 0 ≤ atF (hs.map CV.d) (cvAt ps m).d := by
  obtain ⟨i, h1, h2, h3⟩ := (P.mem _).1 (cvAt_mem hm)
  have h4 := sel_trans h ho hn hs2 (l.length - i) i (by omega) h1 h2
  have hin : cvAt l i ∈ hs := (H.mem _).2 ⟨i, h1, h4, rfl⟩
  refine atF_mem (p := (cvAt l i).d) (List.mem_map.2 ⟨_, hin, rfl⟩) (by rw [h3])
end Go.Proofs.YtbmodfegcmaieaaDoor

namespace Go.Proofs.YtbmodfegcmaieaaDoor
open Go.RowKit

set_option maxRecDepth 100000 in
set_option maxHeartbeats 4000000 in
theorem historyLeast_any (sa : Option Addr) (cap : Nat) (l : List Stp) (n : Int) (m : Int) (w : World) (hl : StepsAt w sa l) (hcl : l.length ≤ cap) (hc0 : sa = none → cap = 0) (hc1 : l.length * 24 ≤ 140737488351232) (hn1 : -9223372036854775808 ≤ n) (hn2 : n ≤ 9223372036854775807) (hm1 : -9223372036854775808 ≤ m) (hm2 : m ≤ 9223372036854775807) (hT : Tabs w) :
    Calls Tryd.prog 18 #[.slice sa l.length cap, .int .i64 n, .int .i64 m] w fun e w' => ∃ cc, GrownTo (s0 :: l) (min (l.length + 1) 24) cc ∧ (e = .returned (.bool true) ∨ (e = .returned (.bool false) ∧ Coll cc)) ∧ Below w.heap.size w w' := by
  have hnil : sa = none → l.length = 0 ∧ cap = 0 := fun h => by have := hc0 h; omega
  have H := grown_any l sa _ cap w rfl hl hnil hc1 hT
  have HT : Hid (∀ W : World, Below w.heap.size w W → Tabs W) := by
    show ∀ W, _
    exact fun W hW => hT.below hW
  clear hT hnil hc0 hc1 hcl
  go_enter Tryd.func18, Tryd.ntmps18
  go_wp2_with fail
  refine H.mono ?_
  rintro e w1 ⟨ka, kc, ks, ba, bc, bl, he, hG, hd, hnew, ho, hoff, hV, hb1⟩
  subst he
  dsimp only
  have hpos : 0 < ks.length := by have := grown_some (by omega) hG; rw [cvs_length] at this; exact this
  have HD : Hid (dagF (cvs ks) = 0) := hG.dag
  have HG : Hid (GrownTo (s0 :: l) (min (l.length + 1) 24) (cvs ks)) := hG
  have hle : ks.length ≤ 24 := by have := hG.len; rw [cvs_length] at this; omega
  have hA1 := (Below.refl w1.heap.size w1).alloc (Nat.le_refl _) (.cells #[.slice ka ks.length kc] 51)
  have qD := heap_alloc_new w1 (.cells #[.slice ka ks.length kc] 51)
  have hd2 := hd.below hA1
  have hB2 := hb1.trans (hA1.mono hb1.size)
  have hgD : w.heap.size ≤ w1.heap.size := hb1.size
  have hdlt : ∀ b, DagIn ka ks b → b < w1.heap.size := fun b hb => by
    rcases hb with ⟨so, e⟩ | ⟨c', hc', hq⟩
    · exact dag_row_lt hd hpos b so e
    · exact (hd.each c' hc').block_lt b hq
  clear hG hV ho hoff hnew hd H hl
  have e0 := cells_at qD 0 _ rfl
  have HHF : Hid (∀ c ∈ ks, headerF c.au c.rd c.bl c.pl = 0) := by
    show ∀ c, _
    intro c hc
    obtain ⟨j, hj, rfl⟩ := List.getElem_of_mem hc
    have h2 := dagF_f HD.out j (by rw [cvs_length]; exact hj)
    rw [cvAt_get ks j hj] at h2
    rw [Ct.hf_v]; exact certF_head (vl := (ks[j]).vl) h2
  go_wp2_with fail
  generalize w1.alloc (.cells #[.slice ka ks.length kc] 51) = W2 at hA1 qD hd2 hB2 e0 ⊢
  clear hA1
  generalize w1.heap.size = D at qD e0 hgD hdlt ⊢
  refine (digestsOf_any ks ka _ kc W2 rfl (by omega) hd2 HHF.out (HT.out W2 hB2)).mono ?_
  intro e w3 hDg
  have hb3 := hDg.below
  obtain ⟨da, dc, ds, he, hds, hLd, hfd⟩ := hDg.out
  subst he
  dsimp only
  have HDS : Hid _ := hds
  have hdsl : ds.length = ks.length := by have := congrArg List.length hds; simpa [bss, cvs] using this
  have HDL : Hid (ds.length = ks.length) := hdsl
  rw [hdsl]
  have hB3 := hB2.trans (hb3.mono hB2.size)
  have qD3 := (hb3.block _ (lt_of_heap qD)).trans qD
  have hd3 := hd2.below hb3
  clear hDg hds hfd hdsl hd2 qD e0 hb3 hdlt
  have HV : Hid (∀ x ∈ cvs ks, x.vl = [0, 1, 2]) := HG.out.voters
  have HU : Hid (∀ x ∈ cvs ks, U8C x) := HG.out.u8
  obtain ⟨sb, so, hdae, hlc⟩ : ∃ sb so, da = some ⟨sb, so, none⟩ ∧ ∀ j (h : j < ds.length), w3.cell? ⟨sb, so + j, none⟩ = some (.slice (ds[j]).sa (ds[j]).bs.length (ds[j]).cap) := by
    rcases hLd.parts.cells with h | h
    · have := HDL.out; rw [h] at this; simp at this; omega
    · exact h
  subst hdae
  have HLC : Hid _ := hlc
  have hdcl : ks.length ≤ dc := by have := hLd.le; have := HDL.out; omega
  have hdmx := hLd.max
  have hposI : (0 : Int) < ks.length := by omega
  have hne0 : ((ks.length : Int) == 0) = false := by rw [beq_eq_false_iff_ne]; omega
  have HAU : Hid (∀ x ∈ cvs ks, 0 ≤ x.au ∧ x.au < 4 ∧ 1 ≤ x.rd ∧ x.rd ≤ 1048576) := by
    show ∀ x, _
    intro x hx
    obtain ⟨j, hj, rfl⟩ := List.getElem_of_mem hx
    have h2 := dagF_f HD.out j hj
    have e : cvAt (cvs ks) j = (cvs ks)[j] := by simp [cvAt, hj]
    rw [e] at h2
    have h3 := f_author h2
    have h4 := f_round h2
    omega
  clear hlc
  obtain ⟨I, hEI⟩ : ∃ I : Nat, pk n ks.length = (I : Int) := ⟨(pk n ks.length).toNat, by have := pk_bounds n ks.length (by omega); omega⟩
  have hI : I < ks.length := by have := pk_bounds n ks.length (by omega); omega
  have HPI : Hid (∀ V : World, Calls Tryd.prog 35 #[.int .i64 n, .int .i64 (ks.length : Int)] V fun e w' => e = .returned (.int .i64 (I : Int)) ∧ V = w') := by
    show ∀ V, _
    intro V
    rw [← hEI]
    exact picked_any n ks.length V hn1 hn2 (by omega) (by omega)
  have hII : (I : Int) < ks.length := by omega
  have hdI : I < ds.length := by have := HDL.out; omega
  have lI := HLC.out I hdI
  have hSI := hLd.parts.each (ds[I]) (List.getElem_mem hdI)
  have HDI : Hid ((ds[I]).bs = (cvAt (cvs ks) I).d) := by
    show _ = _
    have h1 : (bss ds).getD I [] = ((cvs ks).map CV.d).getD I [] := by rw [HDS.out]
    rw [bss_get ds I hdI] at h1
    rw [h1]
    simp [cvAt, cvs, hI]
  have h32I : (ds[I]).bs.length = 32 := by rw [HDI.out, CV.d_length]
  clear hEI
  generalize ds[I] = p at lI hSI HDI h32I
  rw [h32I] at lI
  have hsblI : sb < w3.heap.size := block_lt_of_cell lI
  have e0 := cells_at qD3 0 _ rfl
  obtain ⟨VR, hVR⟩ : ∃ VR, VR = w3 := ⟨_, rfl⟩
  subst hVR
  have HHAI : Hid (∀ V : World, Below VR.heap.size VR V → Calls Tryd.prog 36 #[.agg #[.slice ka ks.length kc], .slice p.sa 32 p.cap] V fun e w' => (∃ (ra : Option Addr) (rc : Nat) (qs : List Part), e = .returned (.tuple #[.slice ra qs.length rc, .int .i64 0]) ∧ ListAt w' ra rc qs ∧ (∃ hs, HisG (cvs ks) (cvAt (cvs ks) I).d qs hs) ∧ Fresh V.heap.size ra qs ∧ 0 < qs.length ∧ qs.length ≤ ks.length) ∧ Below V.heap.size V w') := by
    show ∀ V, _
    intro V hV
    exact his_at ks ka kc I p V HD.out hI (hd3.below hV) (hSI.below hV) HDI.out h32I (HT.out V (hB3.trans (hV.mono hB3.size)))
  have e1 := lI
  go_upto_region 5 with fail
  go_cut [10, 11] (fun u v wx => ∃ (ra : Option Addr) (rc : Nat) (qs : List Part), u = .slice ra qs.length rc ∧ v = .int .i64 0 ∧ ListAt wx ra rc qs ∧ Hid (∃ hs, HisG (cvs ks) (cvAt (cvs ks) I).d qs hs) ∧ (0 < qs.length ∧ qs.length ≤ ks.length) ∧ Below VR.heap.size VR wx)
  case first =>
    have hV0 : Below VR.heap.size VR VR.drew := (Below.refl _ _).drew
    refine wp_region_held_drew (S := fun w' => w'.cell? ⟨D, 0, none⟩ = some (.slice ka ks.length kc) ∧ w'.cell? ⟨sb, so + I, none⟩ = some (.slice p.sa 32 p.cap)) (by kernel_rfl) ⟨(hV0.cell (p := ⟨D, 0, none⟩) (block_lt_of_cell e0)).trans e0, (hV0.cell (p := ⟨sb, so + I, none⟩) (block_lt_of_cell e1)).trans e1⟩ (fun hHeld => ?_)
    generalize VR.drew = V0 at hV0  hHeld ⊢
    refine take_dst (i := 0) (d := 31) (v := .agg #[.slice ka ks.length kc]) rfl rfl (by kernel_rfl) (by kernel_rfl) (by kernel_rfl) (fun _ _ _ h => h) (Or.inl ⟨by rfl, ?_⟩) hHeld ?_
    · (intro w0 hSw; (try dsimp only at hSw); go_simp)
    simp only [Act.put, List.setIfInBounds_toArray, List.set_cons_zero, List.set_cons_succ]
    refine take_dst (i := 1) (d := 32) (v := .slice (some ⟨sb, so, none⟩) ks.length dc) rfl rfl (by kernel_rfl) (by kernel_rfl) (by kernel_rfl) (fun _ _ _ h => h) (Or.inl ⟨by rfl, ?_⟩) hHeld ?_
    · (intro w0 hSw; (try dsimp only at hSw); go_simp)
    simp only [Act.put, List.setIfInBounds_toArray, List.set_cons_zero, List.set_cons_succ]
    refine take_dst (i := 2) (d := 33) (v := .int .i64 n) rfl rfl (by kernel_rfl) (by kernel_rfl) (by kernel_rfl) (fun _ _ _ h => h) (Or.inl ⟨by rfl, ?_⟩) hHeld ?_
    · (intro w0 hSw; (try dsimp only at hSw); go_simp)
    simp only [Act.put, List.setIfInBounds_toArray, List.set_cons_zero, List.set_cons_succ]
    refine take_dst (i := 3) (d := 34) (v := .slice (some ⟨sb, so, none⟩) ks.length dc) rfl rfl (by kernel_rfl) (by kernel_rfl) (by kernel_rfl) (fun _ _ _ h => h) (Or.inl ⟨by rfl, ?_⟩) hHeld ?_
    · (intro w0 hSw; (try dsimp only at hSw); go_simp)
    simp only [Act.put, List.setIfInBounds_toArray, List.set_cons_zero, List.set_cons_succ]
    refine take_dst (i := 4) (d := 35) (v := .int .i64 (ks.length : Int)) rfl rfl (by kernel_rfl) (by kernel_rfl) (by kernel_rfl) (fun _ _ _ h => h) (Or.inl ⟨by rfl, ?_⟩) hHeld ?_
    · (intro w0 hSw; (try dsimp only at hSw); go_simp)
    simp only [Act.put, List.setIfInBounds_toArray, List.set_cons_zero, List.set_cons_succ]
    clear hHeld
    refine any_named (fun GO hGo hGi => ?_)
    refine act_named (fun A0 hA0 => ?_)
    have st_PH : Hid (∀ (V : World) (ra : Option Addr) (rc : Nat) (qs : List Part), Below VR.heap.size VR V → (ListAt V ra rc qs) → (Hid (∃ hs, HisG (cvs ks) (cvAt (cvs ks) I).d qs hs)) → (0 < qs.length ∧ qs.length ≤ ks.length) → GO 0 #[true, true, true, true, true, true, true, true, true, true, true, true, true, true] (((((((((A0.put (some 36) (.int .i64 (I : Int))).put (some 37) (.pointer (some ⟨sb, so + I, none⟩))).put (some 38) (.slice p.sa 32 p.cap)).put (some 39) (.tuple #[.slice ra qs.length rc, .int .i64 0])).put (some 30) (.tuple #[.slice ra qs.length rc, .int .i64 0])).put (some 40) (.slice ra qs.length rc)).put (some 41) (.int .i64 0)).put (some 10) (.slice ra qs.length rc)).put (some 11) (.int .i64 0)) V) := by
      show ∀ V, _
      intro V ra rc qs hB hL HHG hqb
      refine hGo.out _ _ _ _ ?_
      rw [← hA0.out]
      try simp only [Act.put, List.setIfInBounds_toArray, List.set_cons_zero, List.set_cons_succ]
      refine wpAnyH_done (by kernel_rfl) ?_ _
      go_wp2_with fail
      go_meet
      case rel => exact ⟨ra, rc, qs, rfl, rfl, hL, HHG, hqb, hB⟩
    have st_P : Hid (∀ (V : World), Below VR.heap.size VR V → GO 6 #[true, true, true, true, true, true, true, true, false, false, false, false, false, false] (((A0.put (some 36) (.int .i64 (I : Int))).put (some 37) (.pointer (some ⟨sb, so + I, none⟩))).put (some 38) (.slice p.sa 32 p.cap)) V) := by
      show ∀ V, _
      intro V  hB 
      refine hGo.out _ _ _ _ ?_
      rw [← hA0.out]
      try simp only [Act.put, List.setIfInBounds_toArray, List.set_cons_zero, List.set_cons_succ]
      refine wpAnyH_ready (rs := [8]) (by kernel_rfl) (by simp) (AllReadyH.cons rfl (fun K hK => ?_) AllReadyH.nil)
      refine step_calls_dst rfl 39 rfl 36 [.tmp 31, .tmp 38] #[51, 46] rfl [.agg #[.slice ka ks.length kc], .slice p.sa 32 p.cap] rfl (enters_of Tryd.func36 (by kernel_rfl) rfl) (fun v w' => (∃ (ra : Option Addr) (rc : Nat) (qs : List Part), v = .tuple #[.slice ra qs.length rc, .int .i64 0] ∧ ListAt w' ra rc qs ∧ Hid (∃ hs, HisG (cvs ks) (cvAt (cvs ks) I).d qs hs) ∧ (0 < qs.length ∧ qs.length ≤ ks.length)) ∧ Below V.heap.size V w') ((HHAI.out V hB).mono (fun e w2 h => by obtain ⟨⟨xa, xc, xs, h1, h2, h3, _, h4⟩, h5⟩ := h; exact ⟨_, h1, ⟨xa, xc, xs, rfl, h2, h3, h4⟩, h5⟩)) ?_
      rintro v W' ⟨⟨ra, rc, qs, rfl, hL_n, HHG_n, hqb_n⟩, hb⟩
      have hBn := hB.trans (hb.mono hB.size)
      refine hK.out _ _ ⟨(hBn.cell (p := ⟨D, 0, none⟩) (block_lt_of_cell e0)).trans e0, (hBn.cell (p := ⟨sb, so + I, none⟩) (block_lt_of_cell e1)).trans e1⟩ (fun hHeld => ?_)
      simp only [Act.put, List.setIfInBounds_toArray, List.set_cons_zero, List.set_cons_succ]
      refine take_dst (i := 9) (d := 30) (v := .tuple #[.slice ra qs.length rc, .int .i64 0]) rfl rfl (by kernel_rfl) (by kernel_rfl) (by kernel_rfl) (fun _ _ _ h => h) (Or.inl ⟨by rfl, ?_⟩) hHeld ?_
      · (intro w0 hSw; (try dsimp only at hSw); go_simp)
      simp only [Act.put, List.setIfInBounds_toArray, List.set_cons_zero, List.set_cons_succ]
      refine take_dst (i := 10) (d := 40) (v := .slice ra qs.length rc) rfl rfl (by kernel_rfl) (by kernel_rfl) (by kernel_rfl) (fun _ _ _ h => h) (Or.inl ⟨by rfl, ?_⟩) hHeld ?_
      · (intro w0 hSw; (try dsimp only at hSw); go_simp)
      simp only [Act.put, List.setIfInBounds_toArray, List.set_cons_zero, List.set_cons_succ]
      refine take_dst (i := 11) (d := 41) (v := .int .i64 0) rfl rfl (by kernel_rfl) (by kernel_rfl) (by kernel_rfl) (fun _ _ _ h => h) (Or.inl ⟨by rfl, ?_⟩) hHeld ?_
      · (intro w0 hSw; (try dsimp only at hSw); go_simp)
      simp only [Act.put, List.setIfInBounds_toArray, List.set_cons_zero, List.set_cons_succ]
      refine take_dst (i := 12) (d := 10) (v := .slice ra qs.length rc) rfl rfl (by kernel_rfl) (by kernel_rfl) (by kernel_rfl) (fun _ _ _ h => h) (Or.inl ⟨by rfl, ?_⟩) hHeld ?_
      · (intro w0 hSw; (try dsimp only at hSw); go_simp)
      simp only [Act.put, List.setIfInBounds_toArray, List.set_cons_zero, List.set_cons_succ]
      refine take_dst (i := 13) (d := 11) (v := .int .i64 0) rfl rfl (by kernel_rfl) (by kernel_rfl) (by kernel_rfl) (fun _ _ _ h => h) (Or.inl ⟨by rfl, ?_⟩) hHeld ?_
      · (intro w0 hSw; (try dsimp only at hSw); go_simp)
      simp only [Act.put, List.setIfInBounds_toArray, List.set_cons_zero, List.set_cons_succ]
      clear hHeld
      have h := st_PH.out W' ra rc qs hBn hL_n HHG_n hqb_n
      rw [← hA0.out] at h
      (try simp only [Act.put, List.setIfInBounds_toArray, List.set_cons_zero, List.set_cons_succ] at h)
      (try simp only [Act.put, List.setIfInBounds_toArray, List.set_cons_zero, List.set_cons_succ])
      exact hGi.out _ _ _ _ h
    have st_0 : Hid (∀ (V : World), Below VR.heap.size VR V → GO 9 #[true, true, true, true, true, false, false, false, false, false, false, false, false, false] A0 V) := by
      show ∀ V, _
      intro V  hB 
      refine hGo.out _ _ _ _ ?_
      rw [← hA0.out]
      try simp only [Act.put, List.setIfInBounds_toArray, List.set_cons_zero, List.set_cons_succ]
      refine wpAnyH_ready (rs := [5]) (by kernel_rfl) (by simp) (AllReadyH.cons rfl (fun K hK => ?_) AllReadyH.nil)
      refine step_calls_dst rfl 36 rfl 35 [.tmp 33, .tmp 35] #[3, 3] rfl [.int .i64 n, .int .i64 (ks.length : Int)] rfl (enters_of Tryd.func35 (by kernel_rfl) rfl) (fun v w' => v = .int .i64 (I : Int) ∧ V = w') ((HPI.out V).mono (fun e w2 h => ⟨_, h.1, rfl, h.2⟩)) ?_
      rintro v W' ⟨rfl, hwq⟩
      subst hwq
      refine hK.out _ _ ⟨(hB.cell (p := ⟨D, 0, none⟩) (block_lt_of_cell e0)).trans e0, (hB.cell (p := ⟨sb, so + I, none⟩) (block_lt_of_cell e1)).trans e1⟩ (fun hHeld => ?_)
      simp only [Act.put, List.setIfInBounds_toArray, List.set_cons_zero, List.set_cons_succ]
      refine take_dst (i := 6) (d := 37) (v := .pointer (some ⟨sb, so + I, none⟩)) rfl rfl (by kernel_rfl) (by kernel_rfl) (by kernel_rfl) (fun _ _ _ h => h) (Or.inl ⟨by rfl, ?_⟩) hHeld ?_
      · (intro w0 hSw; (try dsimp only at hSw); go_simp)
      simp only [Act.put, List.setIfInBounds_toArray, List.set_cons_zero, List.set_cons_succ]
      refine take_dst (i := 7) (d := 38) (v := .slice p.sa 32 p.cap) rfl rfl (by kernel_rfl) (by kernel_rfl) (by kernel_rfl) (fun _ _ _ h => h) (Or.inl ⟨by rfl, ?_⟩) hHeld ?_
      · (intro w0 hSw; (try dsimp only at hSw); go_simp)
      simp only [Act.put, List.setIfInBounds_toArray, List.set_cons_zero, List.set_cons_succ]
      clear hHeld
      have h := st_P.out V hB
      rw [← hA0.out] at h
      (try simp only [Act.put, List.setIfInBounds_toArray, List.set_cons_zero, List.set_cons_succ] at h)
      (try simp only [Act.put, List.setIfInBounds_toArray, List.set_cons_zero, List.set_cons_succ])
      exact hGi.out _ _ _ _ h
    exact st_0.out V0 hV0 
  case rest =>
    obtain ⟨ra, rc, qs, rfl, rfl, hLa, HGA, hqa, hb4⟩ := hcut
    have hB4 := hB3.trans (hb4.mono hB3.size)
    have qD4 := (hb4.block _ (lt_of_heap qD3)).trans qD3
    have hd4 := hd3.below hb4
    clear e0 e1 HHAI HPI lI hSI h32I hd3 qD3
    obtain ⟨hq1, hq2⟩ := hqa
    obtain ⟨hs, hGA⟩ := HGA.out
    have HHG : Hid _ := hGA
    clear hGA HGA
    obtain ⟨qb, qo, hqe, hqc⟩ : ∃ qb qo, ra = some ⟨qb, qo, none⟩ ∧ ∀ j (h : j < qs.length), wc.cell? ⟨qb, qo + j, none⟩ = some (.slice (qs[j]).sa (qs[j]).bs.length (qs[j]).cap) := by
      rcases hLa.parts.cells with h | h
      · rw [h] at hq1; simp at hq1
      · exact h
    subst hqe
    have HQC : Hid _ := hqc
    have hqbl : qb < wc.heap.size := block_lt_of_cell (hqc 0 hq1)
    clear hqc
    have hqn : ((qs.length : Int) == 0) = false := by rw [beq_eq_false_iff_ne]; omega
    obtain ⟨W4, hW4⟩ : ∃ W4, W4 = wc := ⟨_, rfl⟩
    subst hW4
    go_upto_region 9 with fail
    go_wp2_with fail
    go_loopw [12] (fun j wr => ∃ i : Nat, i ≤ qs.length ∧ j = .int .i64 i ∧ Below W4.heap.size W4 wr) (fun j _ => qs.length - (intOf j).toNat)
    case atStart => exact ⟨0, Nat.zero_le _, rfl, Below.refl _ _⟩
    case round =>
      obtain ⟨r, hr, rfl, hb5⟩ := hrel
      have hB5 := hB4.trans (hb5.mono hB4.size)
      have hwr : IntKind.i64.wrap ((r : Int) + 1) = ((r + 1 : Nat) : Int) := by rw [IntKind.wrap_i64]; omega
      by_cases hlt : r + 1 < qs.length
      · have hltI : ((r + 1 : Nat) : Int) < qs.length := by omega
        have lr := HQC.out r (by omega)
        have hSr := hLa.parts.each (qs[r]) (List.getElem_mem (by omega))
        have HRB : Hid ((qs[r]).bs = (cvAt hs r).d) := HHG.out.bs (by omega)
        generalize qs[r] = y at lr hSr HRB
        have HCH : Hid (OneD (cvs ks) → ∃ j, r < j ∧ j < qs.length ∧ ∃ p ∈ (cvAt hs j).pl, bstr p = bstr y.bs) := by
          show _ → _
          intro ho
          rw [HRB.out, HHG.out.len]
          exact hist_child HD.out ho (by rw [cvs_length]; exact hI) HHG.out.hist (by rw [← HHG.out.len]; exact hlt)
        obtain ⟨W5, hW5⟩ : ∃ W5, W5 = wr := ⟨_, rfl⟩
        subst hW5
        go_upto_region 13 with fail
        go_wp2_with fail
        go_loopw [14, 13] (fun j v wr => ∃ (k : Nat) (B : Bool), r + 1 ≤ k ∧ k ≤ qs.length ∧ j = .int .i64 k ∧ v = .bool B ∧ Hid (Coll (cvs ks) ∨ B = true ∨ ∀ j, r < j → j < k → ¬ ∃ p ∈ (cvAt hs j).pl, bstr p = bstr y.bs) ∧ Below W5.heap.size W5 wr) (fun j _ _ => qs.length - (intOf j).toNat)
        case atStart => exact ⟨r + 1, false, Nat.le_refl _, by omega, by go_num, rfl, .inr (.inr (fun j h1 h2 => by omega)), Below.refl _ _⟩
        case round =>
          obtain ⟨k, B, hk1, hk2, rfl, rfl, HBI, hb6⟩ := hrel
          have hb46 := hb5.trans (hb6.mono hb5.size)
          have hB6 := hB5.trans (hb6.mono hB5.size)
          by_cases hlk : k < qs.length
          · have hlkI : (k : Int) < qs.length := by omega
            obtain ⟨i, hi, hsel, hcv, hqb⟩ := HHG.out.at hlk
            rw [cvs_length] at hi
            have l0 := HQC.out k hlk
            have hSl := hLa.parts.each (qs[k]) (List.getElem_mem hlk)
            have HQB : Hid ((qs[k]).bs = (cvAt (cvs ks) i).d) := hqb
            have HCV : Hid (cvAt hs k = cvAt (cvs ks) i) := hcv
            have h32 : (qs[k]).bs.length = 32 := by rw [hqb, CV.d_length]
            clear hsel hcv hqb
            generalize qs[k] = q at l0 hSl HQB h32
            rw [h32] at l0
            have qD6 := (hb46.block _ (lt_of_heap qD4)).trans qD4
            have hd6 := hd4.below hb46
            have e0 := cells_at qD6 0 _ rfl
            have e1 := (hb46.cell (p := ⟨qb, qo + k, none⟩) hqbl).trans l0
            have hSk := hSl.below hb46
            obtain ⟨VR, hVR⟩ : ∃ VR, VR = wr := ⟨_, rfl⟩
            subst hVR
            have HFD : Hid (∀ V : World, Below VR.heap.size VR V → Calls Tryd.prog 38 #[.agg #[.slice ka ks.length kc], .slice q.sa 32 q.cap] V fun e w' => (∃ c : Ct, e = .returned (.tuple #[.agg #[.int .i64 c.au, .int .i64 c.rd, .slice c.ba c.bl.length c.bc, .slice c.pa c.pl.length c.pc, .slice c.va c.vl.length c.vc], .int .i64 0]) ∧ CtAt w' c ∧ Hid ((c.v = cvAt (cvs ks) i ∨ (unlikeC (cvAt (cvs ks) i) c.v ∧ Coll (cvs ks))) ∧ c.v ∈ cvs ks) ∧ ∀ b, CtIn c b → V.heap.size ≤ b) ∧ Below V.heap.size V w') := by
              show ∀ V, _
              intro V hV
              exact find_at ks _ kc i q V HD.out HV.out hi (hd6.below hV) (hSk.below hV) HQB.out h32 (HT.out V (hB6.trans (hV.mono hB6.size)))
            go_upto_region 15 with fail
            go_cut [15, 16] from 58 to 88 (fun u v wx => ∃ (X : Nat) (c : Ct), u = .pointer (some ⟨X, 0, none⟩) ∧ v = .int .i64 0 ∧ wx.heap[X]? = some (.cells #[.int .i64 c.au, .int .i64 c.rd, .slice c.ba c.bl.length c.bc, .slice c.pa c.pl.length c.pc, .slice c.va c.vl.length c.vc] 63 (0, 0)) ∧ CtAt wx c ∧ Hid ((c.v = cvAt (cvs ks) i ∨ (unlikeC (cvAt (cvs ks) i) c.v ∧ Coll (cvs ks))) ∧ c.v ∈ cvs ks) ∧ Below VR.heap.size VR wx)
            case first =>
              have hV0 : Below VR.heap.size VR VR.drew := (Below.refl _ _).drew
              refine wp_region_held_drew (S := fun w' => w'.cell? ⟨D, 0, none⟩ = some (.slice ka ks.length kc) ∧ w'.cell? ⟨qb, qo + k, none⟩ = some (.slice q.sa 32 q.cap)) (by kernel_rfl) ⟨(hV0.cell (p := ⟨D, 0, none⟩) (block_lt_of_cell e0)).trans e0, (hV0.cell (p := ⟨qb, qo + k, none⟩) (block_lt_of_cell e1)).trans e1⟩ (fun hHeld => ?_)
              generalize VR.drew = V0 at hV0  hHeld ⊢
              refine take_dst (i := 0) (d := 65) (v := .agg #[.slice ka ks.length kc]) rfl rfl (by kernel_rfl) (by kernel_rfl) (by kernel_rfl) (fun _ _ _ h => h) (Or.inl ⟨by rfl, ?_⟩) hHeld ?_
              · (intro w0 hSw; (try dsimp only at hSw); go_simp)
              simp only [Act.put, List.setIfInBounds_toArray, List.set_cons_zero, List.set_cons_succ]
              refine take_dst (i := 1) (d := 66) (v := .slice (some ⟨qb, qo, none⟩) qs.length rc) rfl rfl (by kernel_rfl) (by kernel_rfl) (by kernel_rfl) (fun _ _ _ h => h) (Or.inl ⟨by rfl, ?_⟩) hHeld ?_
              · (intro w0 hSw; (try dsimp only at hSw); go_simp)
              simp only [Act.put, List.setIfInBounds_toArray, List.set_cons_zero, List.set_cons_succ]
              refine take_dst (i := 2) (d := 67) (v := .int .i64 (k : Int)) rfl rfl (by kernel_rfl) (by kernel_rfl) (by kernel_rfl) (fun _ _ _ h => h) (Or.inl ⟨by rfl, ?_⟩) hHeld ?_
              · (intro w0 hSw; (try dsimp only at hSw); go_simp)
              simp only [Act.put, List.setIfInBounds_toArray, List.set_cons_zero, List.set_cons_succ]
              refine take_dst (i := 3) (d := 68) (v := .pointer (some ⟨qb, qo + k, none⟩)) rfl rfl (by kernel_rfl) (by kernel_rfl) (by kernel_rfl) (fun _ _ _ h => h) (Or.inl ⟨by rfl, ?_⟩) hHeld ?_
              · (intro w0 hSw; (try dsimp only at hSw); go_simp)
              simp only [Act.put, List.setIfInBounds_toArray, List.set_cons_zero, List.set_cons_succ]
              refine take_dst (i := 4) (d := 69) (v := .slice q.sa 32 q.cap) rfl rfl (by kernel_rfl) (by kernel_rfl) (by kernel_rfl) (fun _ _ _ h => h) (Or.inl ⟨by rfl, ?_⟩) hHeld ?_
              · (intro w0 hSw; (try dsimp only at hSw); go_simp)
              simp only [Act.put, List.setIfInBounds_toArray, List.set_cons_zero, List.set_cons_succ]
              clear hHeld
              refine any_named (fun GO hGo hGi => ?_)
              refine act_named (fun A0 hA0 => ?_)
              have st_FXS : Hid (∀ (V : World) (c : Ct) (bX : Nat), Below VR.heap.size VR V → (CtAt V c) → (Hid ((c.v = cvAt (cvs ks) i ∨ (unlikeC (cvAt (cvs ks) i) c.v ∧ Coll (cvs ks))) ∧ c.v ∈ cvs ks)) → (VR.heap.size ≤ bX) → (V.heap[bX]? = some (.cells #[.int .i64 c.au, .int .i64 c.rd, .slice c.ba c.bl.length c.bc, .slice c.pa c.pl.length c.pc, .slice c.va c.vl.length c.vc] 63 (0, 0))) → (∀ b, CtIn c b → b ≠ bX) → GO 0 #[true, true, true, true, true, true, true, true, true, true, true, true] ((((((A0.put (some 70) (.tuple #[.agg #[.int .i64 c.au, .int .i64 c.rd, .slice c.ba c.bl.length c.bc, .slice c.pa c.pl.length c.pc, .slice c.va c.vl.length c.vc], .int .i64 0])).put (some 64) (.tuple #[.agg #[.int .i64 c.au, .int .i64 c.rd, .slice c.ba c.bl.length c.bc, .slice c.pa c.pl.length c.pc, .slice c.va c.vl.length c.vc], .int .i64 0])).put (some 71) (.agg #[.int .i64 c.au, .int .i64 c.rd, .slice c.ba c.bl.length c.bc, .slice c.pa c.pl.length c.pc, .slice c.va c.vl.length c.vc])).put (some 72) (.int .i64 0)).put (some 15) (.pointer (some ⟨bX, 0, none⟩))).put (some 16) (.int .i64 0)) V) := by
                show ∀ V, _
                intro V c bX hB hC HC gX qS hCX
                refine hGo.out _ _ _ _ ?_
                rw [← hA0.out]
                try simp only [Act.put, List.setIfInBounds_toArray, List.set_cons_zero, List.set_cons_succ]
                refine wpAnyH_done (by kernel_rfl) ?_ _
                go_wp2_with fail
                go_meet
                case rel => exact ⟨bX, c, rfl, rfl, qS, hC, HC, hB⟩
              have st_FX : Hid (∀ (V : World) (c : Ct) (bX : Nat), Below VR.heap.size VR V → (CtAt V c) → (Hid ((c.v = cvAt (cvs ks) i ∨ (unlikeC (cvAt (cvs ks) i) c.v ∧ Coll (cvs ks))) ∧ c.v ∈ cvs ks)) → (V.heap[bX]? = some (.cells #[.int .i64 0, .int .i64 0, .slice none 0 0, .slice none 0 0, .slice none 0 0] 63 (0, 0))) → (VR.heap.size ≤ bX) → (∀ b, CtIn c b → b ≠ bX) → GO 2 #[true, true, true, true, true, true, true, true, true, true, false, false] (((((A0.put (some 70) (.tuple #[.agg #[.int .i64 c.au, .int .i64 c.rd, .slice c.ba c.bl.length c.bc, .slice c.pa c.pl.length c.pc, .slice c.va c.vl.length c.vc], .int .i64 0])).put (some 64) (.tuple #[.agg #[.int .i64 c.au, .int .i64 c.rd, .slice c.ba c.bl.length c.bc, .slice c.pa c.pl.length c.pc, .slice c.va c.vl.length c.vc], .int .i64 0])).put (some 71) (.agg #[.int .i64 c.au, .int .i64 c.rd, .slice c.ba c.bl.length c.bc, .slice c.pa c.pl.length c.pc, .slice c.va c.vl.length c.vc])).put (some 72) (.int .i64 0)).put (some 15) (.pointer (some ⟨bX, 0, none⟩))) V) := by
                show ∀ V, _
                intro V c bX hB hC HC qX gX hCX
                refine hGo.out _ _ _ _ ?_
                rw [← hA0.out]
                try simp only [Act.put, List.setIfInBounds_toArray, List.set_cons_zero, List.set_cons_succ]
                refine wpAnyH_ready (rs := [10]) (by kernel_rfl) (by simp) (AllReadyH.cons rfl (fun K hK => ?_) AllReadyH.nil)
                have c0_ := cells_at qX 0 _ rfl
                have f0_ := frozen_at qX 0
                have c1_ := cells_at qX 1 _ rfl
                have f1_ := frozen_at qX 1
                have c2_ := cells_at qX 2 _ rfl
                have f2_ := frozen_at qX 2
                have c3_ := cells_at qX 3 _ rfl
                have f3_ := frozen_at qX 3
                have c4_ := cells_at qX 4 _ rfl
                have f4_ := frozen_at qX 4
                refine step_store rfl rfl (((((V.setCell ⟨bX, 0, none⟩ (.int .i64 c.au)).setCell ⟨bX, 1, none⟩ (.int .i64 c.rd)).setCell ⟨bX, 2, none⟩ (.slice c.ba c.bl.length c.bc)).setCell ⟨bX, 3, none⟩ (.slice c.pa c.pl.length c.pc)).setCell ⟨bX, 4, none⟩ (.slice c.va c.vl.length c.vc)) (by go_simp) ?_
                have hBn := (((((hB.setCell (p := ⟨bX, 0, none⟩) gX (.int .i64 c.au)).setCell (p := ⟨bX, 1, none⟩) gX (.int .i64 c.rd)).setCell (p := ⟨bX, 2, none⟩) gX (.slice c.ba c.bl.length c.bc)).setCell (p := ⟨bX, 3, none⟩) gX (.slice c.pa c.pl.length c.pc)).setCell (p := ⟨bX, 4, none⟩) gX (.slice c.va c.vl.length c.vc))
                have qS_n : (((((V.setCell ⟨bX, 0, none⟩ (.int .i64 c.au)).setCell ⟨bX, 1, none⟩ (.int .i64 c.rd)).setCell ⟨bX, 2, none⟩ (.slice c.ba c.bl.length c.bc)).setCell ⟨bX, 3, none⟩ (.slice c.pa c.pl.length c.pc)).setCell ⟨bX, 4, none⟩ (.slice c.va c.vl.length c.vc)).heap[bX]? = some (.cells #[.int .i64 c.au, .int .i64 c.rd, .slice c.ba c.bl.length c.bc, .slice c.pa c.pl.length c.pc, .slice c.va c.vl.length c.vc] 63 (0, 0)) := by simpa using (heap_setCell_same _ _ 4 _ _ (.slice c.va c.vl.length c.vc) (heap_setCell_same _ _ 3 _ _ (.slice c.pa c.pl.length c.pc) (heap_setCell_same _ _ 2 _ _ (.slice c.ba c.bl.length c.bc) (heap_setCell_same _ _ 1 _ _ (.int .i64 c.rd) (heap_setCell_same _ _ 0 _ _ (.int .i64 c.au) qX)))))
                have hC_n := (ct_put (ct_put (ct_put (ct_put (ct_put hC bX 0 (.int .i64 c.au) hCX) bX 1 (.int .i64 c.rd) hCX) bX 2 (.slice c.ba c.bl.length c.bc) hCX) bX 3 (.slice c.pa c.pl.length c.pc) hCX) bX 4 (.slice c.va c.vl.length c.vc) hCX)
                generalize (((((V.setCell ⟨bX, 0, none⟩ (.int .i64 c.au)).setCell ⟨bX, 1, none⟩ (.int .i64 c.rd)).setCell ⟨bX, 2, none⟩ (.slice c.ba c.bl.length c.bc)).setCell ⟨bX, 3, none⟩ (.slice c.pa c.pl.length c.pc)).setCell ⟨bX, 4, none⟩ (.slice c.va c.vl.length c.vc)) = W' at hBn qS_n hC_n ⊢
                refine hK.out _ _ ⟨(hBn.cell (p := ⟨D, 0, none⟩) (block_lt_of_cell e0)).trans e0, (hBn.cell (p := ⟨qb, qo + k, none⟩) (block_lt_of_cell e1)).trans e1⟩ (fun hHeld => ?_)
                simp only [List.setIfInBounds_toArray, List.set_cons_zero, List.set_cons_succ]
                refine take_dst (i := 11) (d := 16) (v := .int .i64 0) rfl rfl (by kernel_rfl) (by kernel_rfl) (by kernel_rfl) (fun _ _ _ h => h) (Or.inl ⟨by rfl, ?_⟩) hHeld ?_
                · (intro w0 hSw; (try dsimp only at hSw); go_simp)
                simp only [Act.put, List.setIfInBounds_toArray, List.set_cons_zero, List.set_cons_succ]
                clear hHeld
                have h := st_FXS.out W' c bX hBn hC_n HC gX qS_n hCX
                rw [← hA0.out] at h
                (try simp only [Act.put, List.setIfInBounds_toArray, List.set_cons_zero, List.set_cons_succ] at h)
                (try simp only [Act.put, List.setIfInBounds_toArray, List.set_cons_zero, List.set_cons_succ])
                exact hGi.out _ _ _ _ h
              have st_F : Hid (∀ (V : World) (c : Ct), Below VR.heap.size VR V → (CtAt V c) → (Hid ((c.v = cvAt (cvs ks) i ∨ (unlikeC (cvAt (cvs ks) i) c.v ∧ Coll (cvs ks))) ∧ c.v ∈ cvs ks)) → GO 3 #[true, true, true, true, true, true, true, true, true, false, false, false] ((((A0.put (some 70) (.tuple #[.agg #[.int .i64 c.au, .int .i64 c.rd, .slice c.ba c.bl.length c.bc, .slice c.pa c.pl.length c.pc, .slice c.va c.vl.length c.vc], .int .i64 0])).put (some 64) (.tuple #[.agg #[.int .i64 c.au, .int .i64 c.rd, .slice c.ba c.bl.length c.bc, .slice c.pa c.pl.length c.pc, .slice c.va c.vl.length c.vc], .int .i64 0])).put (some 71) (.agg #[.int .i64 c.au, .int .i64 c.rd, .slice c.ba c.bl.length c.bc, .slice c.pa c.pl.length c.pc, .slice c.va c.vl.length c.vc])).put (some 72) (.int .i64 0)) V) := by
                show ∀ V, _
                intro V c hB hC HC
                refine hGo.out _ _ _ _ ?_
                rw [← hA0.out]
                try simp only [Act.put, List.setIfInBounds_toArray, List.set_cons_zero, List.set_cons_succ]
                refine wpAnyH_ready (rs := [9]) (by kernel_rfl) (by simp) (AllReadyH.cons rfl (fun K hK => ?_) AllReadyH.nil)
                refine step_run rfl 15 rfl (.pointer (some ⟨V.heap.size, 0, none⟩)) (V.alloc (.cells #[.int .i64 0, .int .i64 0, .slice none 0 0, .slice none 0 0, .slice none 0 0] 63)) (by go_simp) ?_
                have hA : Below V.heap.size V (V.alloc (.cells #[.int .i64 0, .int .i64 0, .slice none 0 0, .slice none 0 0, .slice none 0 0] 63)) := (Below.refl _ _).alloc (Nat.le_refl _) _
                have hBn := hB.trans (hA.mono hB.size)
                have qX_n := heap_alloc_new V (.cells #[.int .i64 0, .int .i64 0, .slice none 0 0, .slice none 0 0, .slice none 0 0] 63)
                have gX_n := hB.size
                generalize hW' : V.alloc (.cells #[.int .i64 0, .int .i64 0, .slice none 0 0, .slice none 0 0, .slice none 0 0] 63) = W' at hA hBn qX_n ⊢
                clear hW'
                obtain ⟨bX, hx_e⟩ : ∃ bX, bX = V.heap.size := ⟨_, rfl⟩
                rw [← hx_e] at qX_n gX_n ⊢
                have hCX_n : ∀ b, CtIn c b → b ≠ bX := fun b hb' => by have := hC.block_lt b hb'; omega
                have hA' := hA
                clear hx_e
                refine hK.out _ _ ⟨(hBn.cell (p := ⟨D, 0, none⟩) (block_lt_of_cell e0)).trans e0, (hBn.cell (p := ⟨qb, qo + k, none⟩) (block_lt_of_cell e1)).trans e1⟩ (fun hHeld => ?_)
                clear hHeld
                have h := st_FX.out W' c bX hBn (hC.below hA') HC qX_n gX_n hCX_n
                rw [← hA0.out] at h
                (try simp only [Act.put, List.setIfInBounds_toArray, List.set_cons_zero, List.set_cons_succ] at h)
                (try simp only [Act.put, List.setIfInBounds_toArray, List.set_cons_zero, List.set_cons_succ])
                exact hGi.out _ _ _ _ h
              have st_X : Hid (∀ (V : World) (bX : Nat), Below VR.heap.size VR V → (V.heap[bX]? = some (.cells #[.int .i64 0, .int .i64 0, .slice none 0 0, .slice none 0 0, .slice none 0 0] 63 (0, 0))) → (VR.heap.size ≤ bX) → GO 6 #[true, true, true, true, true, false, false, false, false, true, false, false] (A0.put (some 15) (.pointer (some ⟨bX, 0, none⟩))) V) := by
                show ∀ V, _
                intro V bX hB qX gX
                refine hGo.out _ _ _ _ ?_
                rw [← hA0.out]
                try simp only [Act.put, List.setIfInBounds_toArray, List.set_cons_zero, List.set_cons_succ]
                refine wpAnyH_ready (rs := [5]) (by kernel_rfl) (by simp) (AllReadyH.cons rfl (fun K hK => ?_) AllReadyH.nil)
                refine step_calls_dst rfl 70 rfl 38 [.tmp 65, .tmp 69] #[51, 46] rfl [.agg #[.slice ka ks.length kc], .slice q.sa 32 q.cap] rfl (enters_of Tryd.func38 (by kernel_rfl) rfl) (fun v w' => (∃ c : Ct, v = .tuple #[.agg #[.int .i64 c.au, .int .i64 c.rd, .slice c.ba c.bl.length c.bc, .slice c.pa c.pl.length c.pc, .slice c.va c.vl.length c.vc], .int .i64 0] ∧ CtAt w' c ∧ Hid ((c.v = cvAt (cvs ks) i ∨ (unlikeC (cvAt (cvs ks) i) c.v ∧ Coll (cvs ks))) ∧ c.v ∈ cvs ks) ∧ ∀ b, CtIn c b → V.heap.size ≤ b) ∧ Below V.heap.size V w') ((HFD.out V hB).mono (fun e w2 h => ⟨_, h.1.choose_spec.1, ⟨_, rfl, h.1.choose_spec.2⟩, h.2⟩)) ?_
                rintro v W' ⟨⟨c, rfl, hC_n, HC_n, hfr⟩, hb⟩
                have hBn := hB.trans (hb.mono hB.size)
                have hCX_n : ∀ b, CtIn c b → b ≠ bX := fun b hb' => by have := hfr b hb'; have := lt_of_heap qX; omega
                refine hK.out _ _ ⟨(hBn.cell (p := ⟨D, 0, none⟩) (block_lt_of_cell e0)).trans e0, (hBn.cell (p := ⟨qb, qo + k, none⟩) (block_lt_of_cell e1)).trans e1⟩ (fun hHeld => ?_)
                simp only [Act.put, List.setIfInBounds_toArray, List.set_cons_zero, List.set_cons_succ]
                refine take_dst (i := 6) (d := 64) (v := .tuple #[.agg #[.int .i64 c.au, .int .i64 c.rd, .slice c.ba c.bl.length c.bc, .slice c.pa c.pl.length c.pc, .slice c.va c.vl.length c.vc], .int .i64 0]) rfl rfl (by kernel_rfl) (by kernel_rfl) (by kernel_rfl) (fun _ _ _ h => h) (Or.inl ⟨by rfl, ?_⟩) hHeld ?_
                · (intro w0 hSw; (try dsimp only at hSw); go_simp)
                simp only [Act.put, List.setIfInBounds_toArray, List.set_cons_zero, List.set_cons_succ]
                refine take_dst (i := 7) (d := 71) (v := .agg #[.int .i64 c.au, .int .i64 c.rd, .slice c.ba c.bl.length c.bc, .slice c.pa c.pl.length c.pc, .slice c.va c.vl.length c.vc]) rfl rfl (by kernel_rfl) (by kernel_rfl) (by kernel_rfl) (fun _ _ _ h => h) (Or.inl ⟨by rfl, ?_⟩) hHeld ?_
                · (intro w0 hSw; (try dsimp only at hSw); go_simp)
                simp only [Act.put, List.setIfInBounds_toArray, List.set_cons_zero, List.set_cons_succ]
                refine take_dst (i := 8) (d := 72) (v := .int .i64 0) rfl rfl (by kernel_rfl) (by kernel_rfl) (by kernel_rfl) (fun _ _ _ h => h) (Or.inl ⟨by rfl, ?_⟩) hHeld ?_
                · (intro w0 hSw; (try dsimp only at hSw); go_simp)
                simp only [Act.put, List.setIfInBounds_toArray, List.set_cons_zero, List.set_cons_succ]
                clear hHeld
                have h := st_FX.out W' c bX hBn hC_n HC_n ((hb.block _ (lt_of_heap qX)).trans qX) gX hCX_n
                rw [← hA0.out] at h
                (try simp only [Act.put, List.setIfInBounds_toArray, List.set_cons_zero, List.set_cons_succ] at h)
                (try simp only [Act.put, List.setIfInBounds_toArray, List.set_cons_zero, List.set_cons_succ])
                exact hGi.out _ _ _ _ h
              have st_0 : Hid (∀ (V : World), Below VR.heap.size VR V → GO 7 #[true, true, true, true, true, false, false, false, false, false, false, false] A0 V) := by
                show ∀ V, _
                intro V  hB 
                refine hGo.out _ _ _ _ ?_
                rw [← hA0.out]
                try simp only [Act.put, List.setIfInBounds_toArray, List.set_cons_zero, List.set_cons_succ]
                refine wpAnyH_ready (rs := [5, 9]) (by kernel_rfl) (by simp) (AllReadyH.cons rfl (fun K hK => ?_) (AllReadyH.cons rfl (fun K hK => ?_) AllReadyH.nil))
                · skip
                  refine step_calls_dst rfl 70 rfl 38 [.tmp 65, .tmp 69] #[51, 46] rfl [.agg #[.slice ka ks.length kc], .slice q.sa 32 q.cap] rfl (enters_of Tryd.func38 (by kernel_rfl) rfl) (fun v w' => (∃ c : Ct, v = .tuple #[.agg #[.int .i64 c.au, .int .i64 c.rd, .slice c.ba c.bl.length c.bc, .slice c.pa c.pl.length c.pc, .slice c.va c.vl.length c.vc], .int .i64 0] ∧ CtAt w' c ∧ Hid ((c.v = cvAt (cvs ks) i ∨ (unlikeC (cvAt (cvs ks) i) c.v ∧ Coll (cvs ks))) ∧ c.v ∈ cvs ks) ∧ ∀ b, CtIn c b → V.heap.size ≤ b) ∧ Below V.heap.size V w') ((HFD.out V hB).mono (fun e w2 h => ⟨_, h.1.choose_spec.1, ⟨_, rfl, h.1.choose_spec.2⟩, h.2⟩)) ?_
                  rintro v W' ⟨⟨c, rfl, hC_n, HC_n, hfr⟩, hb⟩
                  have hBn := hB.trans (hb.mono hB.size)
                  refine hK.out _ _ ⟨(hBn.cell (p := ⟨D, 0, none⟩) (block_lt_of_cell e0)).trans e0, (hBn.cell (p := ⟨qb, qo + k, none⟩) (block_lt_of_cell e1)).trans e1⟩ (fun hHeld => ?_)
                  simp only [Act.put, List.setIfInBounds_toArray, List.set_cons_zero, List.set_cons_succ]
                  refine take_dst (i := 6) (d := 64) (v := .tuple #[.agg #[.int .i64 c.au, .int .i64 c.rd, .slice c.ba c.bl.length c.bc, .slice c.pa c.pl.length c.pc, .slice c.va c.vl.length c.vc], .int .i64 0]) rfl rfl (by kernel_rfl) (by kernel_rfl) (by kernel_rfl) (fun _ _ _ h => h) (Or.inl ⟨by rfl, ?_⟩) hHeld ?_
                  · (intro w0 hSw; (try dsimp only at hSw); go_simp)
                  simp only [Act.put, List.setIfInBounds_toArray, List.set_cons_zero, List.set_cons_succ]
                  refine take_dst (i := 7) (d := 71) (v := .agg #[.int .i64 c.au, .int .i64 c.rd, .slice c.ba c.bl.length c.bc, .slice c.pa c.pl.length c.pc, .slice c.va c.vl.length c.vc]) rfl rfl (by kernel_rfl) (by kernel_rfl) (by kernel_rfl) (fun _ _ _ h => h) (Or.inl ⟨by rfl, ?_⟩) hHeld ?_
                  · (intro w0 hSw; (try dsimp only at hSw); go_simp)
                  simp only [Act.put, List.setIfInBounds_toArray, List.set_cons_zero, List.set_cons_succ]
                  refine take_dst (i := 8) (d := 72) (v := .int .i64 0) rfl rfl (by kernel_rfl) (by kernel_rfl) (by kernel_rfl) (fun _ _ _ h => h) (Or.inl ⟨by rfl, ?_⟩) hHeld ?_
                  · (intro w0 hSw; (try dsimp only at hSw); go_simp)
                  simp only [Act.put, List.setIfInBounds_toArray, List.set_cons_zero, List.set_cons_succ]
                  clear hHeld
                  have h := st_F.out W' c hBn hC_n HC_n
                  rw [← hA0.out] at h
                  (try simp only [Act.put, List.setIfInBounds_toArray, List.set_cons_zero, List.set_cons_succ] at h)
                  (try simp only [Act.put, List.setIfInBounds_toArray, List.set_cons_zero, List.set_cons_succ])
                  exact hGi.out _ _ _ _ h
                · skip
                  refine step_run rfl 15 rfl (.pointer (some ⟨V.heap.size, 0, none⟩)) (V.alloc (.cells #[.int .i64 0, .int .i64 0, .slice none 0 0, .slice none 0 0, .slice none 0 0] 63)) (by go_simp) ?_
                  have hA : Below V.heap.size V (V.alloc (.cells #[.int .i64 0, .int .i64 0, .slice none 0 0, .slice none 0 0, .slice none 0 0] 63)) := (Below.refl _ _).alloc (Nat.le_refl _) _
                  have hBn := hB.trans (hA.mono hB.size)
                  have qX_n := heap_alloc_new V (.cells #[.int .i64 0, .int .i64 0, .slice none 0 0, .slice none 0 0, .slice none 0 0] 63)
                  have gX_n := hB.size
                  generalize hW' : V.alloc (.cells #[.int .i64 0, .int .i64 0, .slice none 0 0, .slice none 0 0, .slice none 0 0] 63) = W' at hA hBn qX_n ⊢
                  clear hW'
                  obtain ⟨bX, hx_e⟩ : ∃ bX, bX = V.heap.size := ⟨_, rfl⟩
                  rw [← hx_e] at qX_n gX_n ⊢
                  have hA' := hA
                  clear hx_e
                  refine hK.out _ _ ⟨(hBn.cell (p := ⟨D, 0, none⟩) (block_lt_of_cell e0)).trans e0, (hBn.cell (p := ⟨qb, qo + k, none⟩) (block_lt_of_cell e1)).trans e1⟩ (fun hHeld => ?_)
                  clear hHeld
                  have h := st_X.out W' bX hBn qX_n gX_n
                  rw [← hA0.out] at h
                  (try simp only [Act.put, List.setIfInBounds_toArray, List.set_cons_zero, List.set_cons_succ] at h)
                  (try simp only [Act.put, List.setIfInBounds_toArray, List.set_cons_zero, List.set_cons_succ])
                  exact hGi.out _ _ _ _ h
              exact st_0.out V0 hV0 
            case rest =>
              obtain ⟨X, c, rfl, rfl, qX, hC, HCI, hb7⟩ := hcut
              have hb57 := hb6.trans (hb7.mono hb6.size)
              have hb47 := hb46.trans (hb7.mono hb46.size)
              have hB7 := hB6.trans (hb7.mono hB6.size)
              have x3 := cells_at qX 3 _ rfl
              have lr7 := (hb47.cell (p := ⟨qb, qo + r, none⟩) hqbl).trans lr
              have hrI : (r : Int) < qs.length := by omega
              clear HFD HQB e0 e1
              obtain ⟨VR, hVR⟩ : ∃ VR, VR = wc := ⟨_, rfl⟩
              subst hVR
              obtain ⟨N, hN⟩ : ∃ N : Int, atF (bss c.pl) y.bs = N := ⟨_, rfl⟩
              have HAT : Hid (∀ V : World, Below VR.heap.size VR V → Calls Tryd.prog 39 #[.slice c.pa c.pl.length c.pc, .slice y.sa y.bs.length y.cap] V fun e w' => e = .returned (.int .i64 N) ∧ V = w') := by
                show ∀ V, _
                intro V hV
                have hbV := hb47.trans (hV.mono hb47.size)
                rw [← hN]
                exact at_any c.pl c.pa _ c.pc y.bs y.sa _ y.cap V rfl rfl (hC.hat.lp.below hV) (hSr.below hbV)
              have HNX : Hid (B = false → Coll (cvs ks) ∨ decide (0 ≤ N) = true ∨ ∀ j, r < j → j < k + 1 → ¬ ∃ p ∈ (cvAt hs j).pl, bstr p = bstr y.bs) := by
                show _ → _
                intro hBf
                rcases HBI.out with o | o | o
                · exact .inl o
                · rw [hBf] at o; cases o
                · rcases HCI.out.1 with g | g
                  · by_cases hp : ∃ p ∈ (cvAt hs k).pl, bstr p = bstr y.bs
                    · right; left
                      obtain ⟨p, hp1, hp2⟩ := hp
                      rw [HCV.out, ← g] at hp1
                      rw [← hN]
                      exact decide_eq_true (atF_mem hp1 hp2)
                    · right; right
                      intro j h1 h2
                      rcases Nat.lt_or_ge j k with z | z
                      · exact o j h1 z
                      · obtain rfl : j = k := by omega
                        exact hp
                  · exact .inl g.2
              clear hN
              go_upto_region 16 with fail
              cases B with
              | true =>
                have HQ : Hid (Coll (cvs ks) ∨ true = true ∨ ∀ j, r < j → j < k + 1 → ¬ ∃ p ∈ (cvAt hs j).pl, bstr p = bstr y.bs) := .inr (.inl rfl)
                have hV0 : Below VR.heap.size VR VR.drew := (Below.refl _ _).drew
                refine wp_region_held_drew (S := fun w' => True) (by kernel_rfl) ⟨⟩ (fun hHeld => ?_)
                generalize VR.drew = V0 at hV0  hHeld ⊢
                refine take_dst (i := 0) (d := 73) (v := .bool true) rfl rfl (by kernel_rfl) (by kernel_rfl) (by kernel_rfl) (fun _ _ _ h => h) (Or.inl ⟨by rfl, ?_⟩) hHeld ?_
                · (intro w0 hSw; (try dsimp only at hSw); go_simp)
                simp only [Act.put, List.setIfInBounds_toArray, List.set_cons_zero, List.set_cons_succ]
                refine take_dst (i := 1) (d := 74) (v := .bool true) rfl rfl (by kernel_rfl) (by kernel_rfl) (by kernel_rfl) (fun _ _ _ h => h) (Or.inl ⟨by rfl, ?_⟩) hHeld ?_
                · (intro w0 hSw; (try dsimp only at hSw); go_simp)
                simp only [Act.put, List.setIfInBounds_toArray, List.set_cons_zero, List.set_cons_succ]
                refine take_dst (i := 2) (d := 75) (v := undef) rfl rfl (by kernel_rfl) (by kernel_rfl) (by kernel_rfl) (fun _ _ _ h => h) (Or.inr ⟨by rfl, rfl⟩) hHeld ?_
                simp only [Act.put, List.setIfInBounds_toArray, List.set_cons_zero, List.set_cons_succ]
                refine take_dst (i := 3) (d := 76) (v := undef) rfl rfl (by kernel_rfl) (by kernel_rfl) (by kernel_rfl) (fun _ _ _ h => h) (Or.inr ⟨by rfl, rfl⟩) hHeld ?_
                simp only [Act.put, List.setIfInBounds_toArray, List.set_cons_zero, List.set_cons_succ]
                refine take_dst (i := 4) (d := 77) (v := undef) rfl rfl (by kernel_rfl) (by kernel_rfl) (by kernel_rfl) (fun _ _ _ h => h) (Or.inr ⟨by rfl, rfl⟩) hHeld ?_
                simp only [Act.put, List.setIfInBounds_toArray, List.set_cons_zero, List.set_cons_succ]
                refine take_dst (i := 5) (d := 78) (v := undef) rfl rfl (by kernel_rfl) (by kernel_rfl) (by kernel_rfl) (fun _ _ _ h => h) (Or.inr ⟨by rfl, rfl⟩) hHeld ?_
                simp only [Act.put, List.setIfInBounds_toArray, List.set_cons_zero, List.set_cons_succ]
                refine take_dst (i := 6) (d := 79) (v := undef) rfl rfl (by kernel_rfl) (by kernel_rfl) (by kernel_rfl) (fun _ _ _ h => h) (Or.inr ⟨by rfl, rfl⟩) hHeld ?_
                simp only [Act.put, List.setIfInBounds_toArray, List.set_cons_zero, List.set_cons_succ]
                refine take_dst (i := 7) (d := 80) (v := undef) rfl rfl (by kernel_rfl) (by kernel_rfl) (by kernel_rfl) (fun _ _ _ h => h) (Or.inr ⟨by rfl, rfl⟩) hHeld ?_
                simp only [Act.put, List.setIfInBounds_toArray, List.set_cons_zero, List.set_cons_succ]
                refine take_dst (i := 8) (d := 81) (v := undef) rfl rfl (by kernel_rfl) (by kernel_rfl) (by kernel_rfl) (fun _ _ _ h => h) (Or.inr ⟨by rfl, rfl⟩) hHeld ?_
                simp only [Act.put, List.setIfInBounds_toArray, List.set_cons_zero, List.set_cons_succ]
                refine take_dst (i := 9) (d := 82) (v := undef) rfl rfl (by kernel_rfl) (by kernel_rfl) (by kernel_rfl) (fun _ _ _ h => h) (Or.inr ⟨by rfl, rfl⟩) hHeld ?_
                simp only [Act.put, List.setIfInBounds_toArray, List.set_cons_zero, List.set_cons_succ]
                refine take_dst (i := 10) (d := 83) (v := undef) rfl rfl (by kernel_rfl) (by kernel_rfl) (by kernel_rfl) (fun _ _ _ h => h) (Or.inr ⟨by rfl, rfl⟩) hHeld ?_
                simp only [Act.put, List.setIfInBounds_toArray, List.set_cons_zero, List.set_cons_succ]
                refine take_dst (i := 11) (d := 84) (v := undef) rfl rfl (by kernel_rfl) (by kernel_rfl) (by kernel_rfl) (fun _ _ _ h => h) (Or.inr ⟨by rfl, rfl⟩) hHeld ?_
                simp only [Act.put, List.setIfInBounds_toArray, List.set_cons_zero, List.set_cons_succ]
                refine take_dst (i := 12) (d := 85) (v := undef) rfl rfl (by kernel_rfl) (by kernel_rfl) (by kernel_rfl) (fun _ _ _ h => h) (Or.inr ⟨by rfl, rfl⟩) hHeld ?_
                simp only [Act.put, List.setIfInBounds_toArray, List.set_cons_zero, List.set_cons_succ]
                refine take_dst (i := 13) (d := 86) (v := undef) rfl rfl (by kernel_rfl) (by kernel_rfl) (by kernel_rfl) (fun _ _ _ h => h) (Or.inr ⟨by rfl, rfl⟩) hHeld ?_
                simp only [Act.put, List.setIfInBounds_toArray, List.set_cons_zero, List.set_cons_succ]
                refine take_dst (i := 14) (d := 87) (v := undef) rfl rfl (by kernel_rfl) (by kernel_rfl) (by kernel_rfl) (fun _ _ _ h => h) (Or.inr ⟨by rfl, rfl⟩) hHeld ?_
                simp only [Act.put, List.setIfInBounds_toArray, List.set_cons_zero, List.set_cons_succ]
                refine take_dst (i := 15) (d := 88) (v := .bool true) rfl rfl (by kernel_rfl) (by kernel_rfl) (by kernel_rfl) (fun _ _ _ h => h) (Or.inl ⟨by rfl, ?_⟩) hHeld ?_
                · (intro w0 hSw; (try dsimp only at hSw); go_simp)
                simp only [Act.put, List.setIfInBounds_toArray, List.set_cons_zero, List.set_cons_succ]
                refine take_dst (i := 16) (d := 13) (v := .bool true) rfl rfl (by kernel_rfl) (by kernel_rfl) (by kernel_rfl) (fun _ _ _ h => h) (Or.inl ⟨by rfl, ?_⟩) hHeld ?_
                · (intro w0 hSw; (try dsimp only at hSw); go_simp)
                simp only [Act.put, List.setIfInBounds_toArray, List.set_cons_zero, List.set_cons_succ]
                clear hHeld
                refine any_named (fun GO hGo hGi => ?_)
                refine act_named (fun A0 hA0 => ?_)
                have st_0 : Hid (∀ (V : World), Below VR.heap.size VR V → GO 0 #[true, true, true, true, true, true, true, true, true, true, true, true, true, true, true, true, true] A0 V) := by
                  show ∀ V, _
                  intro V  hB 
                  refine hGo.out _ _ _ _ ?_
                  rw [← hA0.out]
                  try simp only [Act.put, List.setIfInBounds_toArray, List.set_cons_zero, List.set_cons_succ]
                  refine wpAnyH_done (by kernel_rfl) ?_ _
                  go_wp2_with fail
                  go_roundw
                  case rel => exact ⟨k + 1, true, by omega, by omega, by go_num, rfl, HQ, hb57.trans (hB.mono hb57.size)⟩
                  case measure => simp [intOf]; omega
                exact st_0.out V0 hV0 
              | false =>
                have HQ : Hid (Coll (cvs ks) ∨ decide (0 ≤ N) = true ∨ ∀ j, r < j → j < k + 1 → ¬ ∃ p ∈ (cvAt hs j).pl, bstr p = bstr y.bs) := HNX.out rfl
                have hV0 : Below VR.heap.size VR VR.drew := (Below.refl _ _).drew
                refine wp_region_held_drew (S := fun w' => w'.cell? ⟨X, 3, none⟩ = some (.slice c.pa c.pl.length c.pc) ∧ w'.cell? ⟨qb, qo + r, none⟩ = some (.slice y.sa y.bs.length y.cap)) (by kernel_rfl) ⟨(hV0.cell (p := ⟨X, 3, none⟩) (block_lt_of_cell x3)).trans x3, (hV0.cell (p := ⟨qb, qo + r, none⟩) (block_lt_of_cell lr7)).trans lr7⟩ (fun hHeld => ?_)
                generalize VR.drew = V0 at hV0  hHeld ⊢
                refine take_dst (i := 0) (d := 73) (v := .bool false) rfl rfl (by kernel_rfl) (by kernel_rfl) (by kernel_rfl) (fun _ _ _ h => h) (Or.inl ⟨by rfl, ?_⟩) hHeld ?_
                · (intro w0 hSw; (try dsimp only at hSw); go_simp)
                simp only [Act.put, List.setIfInBounds_toArray, List.set_cons_zero, List.set_cons_succ]
                refine take_dst (i := 1) (d := 74) (v := .bool false) rfl rfl (by kernel_rfl) (by kernel_rfl) (by kernel_rfl) (fun _ _ _ h => h) (Or.inl ⟨by rfl, ?_⟩) hHeld ?_
                · (intro w0 hSw; (try dsimp only at hSw); go_simp)
                simp only [Act.put, List.setIfInBounds_toArray, List.set_cons_zero, List.set_cons_succ]
                refine take_dst (i := 2) (d := 75) (v := .int .i64 0) rfl rfl (by kernel_rfl) (by kernel_rfl) (by kernel_rfl) (fun _ _ _ h => h) (Or.inl ⟨by rfl, ?_⟩) hHeld ?_
                · (intro w0 hSw; (try dsimp only at hSw); go_simp)
                simp only [Act.put, List.setIfInBounds_toArray, List.set_cons_zero, List.set_cons_succ]
                refine take_dst (i := 3) (d := 76) (v := .bool true) rfl rfl (by kernel_rfl) (by kernel_rfl) (by kernel_rfl) (fun _ _ _ h => h) (Or.inl ⟨by rfl, ?_⟩) hHeld ?_
                · (intro w0 hSw; (try dsimp only at hSw); go_simp)
                simp only [Act.put, List.setIfInBounds_toArray, List.set_cons_zero, List.set_cons_succ]
                refine take_dst (i := 4) (d := 77) (v := .bool true) rfl rfl (by kernel_rfl) (by kernel_rfl) (by kernel_rfl) (fun _ _ _ h => h) (Or.inl ⟨by rfl, ?_⟩) hHeld ?_
                · (intro w0 hSw; (try dsimp only at hSw); go_simp)
                simp only [Act.put, List.setIfInBounds_toArray, List.set_cons_zero, List.set_cons_succ]
                refine take_dst (i := 5) (d := 78) (v := .pointer (some ⟨X, 0, none⟩)) rfl rfl (by kernel_rfl) (by kernel_rfl) (by kernel_rfl) (fun _ _ _ h => h) (Or.inl ⟨by rfl, ?_⟩) hHeld ?_
                · (intro w0 hSw; (try dsimp only at hSw); go_simp)
                simp only [Act.put, List.setIfInBounds_toArray, List.set_cons_zero, List.set_cons_succ]
                refine take_dst (i := 6) (d := 79) (v := .pointer (some ⟨X, 3, none⟩)) rfl rfl (by kernel_rfl) (by kernel_rfl) (by kernel_rfl) (fun _ _ _ h => h) (Or.inl ⟨by rfl, ?_⟩) hHeld ?_
                · (intro w0 hSw; (try dsimp only at hSw); go_simp)
                simp only [Act.put, List.setIfInBounds_toArray, List.set_cons_zero, List.set_cons_succ]
                refine take_dst (i := 7) (d := 80) (v := .slice c.pa c.pl.length c.pc) rfl rfl (by kernel_rfl) (by kernel_rfl) (by kernel_rfl) (fun _ _ _ h => h) (Or.inl ⟨by rfl, ?_⟩) hHeld ?_
                · (intro w0 hSw; (try dsimp only at hSw); go_simp)
                simp only [Act.put, List.setIfInBounds_toArray, List.set_cons_zero, List.set_cons_succ]
                refine take_dst (i := 8) (d := 81) (v := .slice (some ⟨qb, qo, none⟩) qs.length rc) rfl rfl (by kernel_rfl) (by kernel_rfl) (by kernel_rfl) (fun _ _ _ h => h) (Or.inl ⟨by rfl, ?_⟩) hHeld ?_
                · (intro w0 hSw; (try dsimp only at hSw); go_simp)
                simp only [Act.put, List.setIfInBounds_toArray, List.set_cons_zero, List.set_cons_succ]
                refine take_dst (i := 9) (d := 82) (v := .int .i64 (r : Int)) rfl rfl (by kernel_rfl) (by kernel_rfl) (by kernel_rfl) (fun _ _ _ h => h) (Or.inl ⟨by rfl, ?_⟩) hHeld ?_
                · (intro w0 hSw; (try dsimp only at hSw); go_simp)
                simp only [Act.put, List.setIfInBounds_toArray, List.set_cons_zero, List.set_cons_succ]
                refine take_dst (i := 10) (d := 83) (v := .pointer (some ⟨qb, qo + r, none⟩)) rfl rfl (by kernel_rfl) (by kernel_rfl) (by kernel_rfl) (fun _ _ _ h => h) (Or.inl ⟨by rfl, ?_⟩) hHeld ?_
                · (intro w0 hSw; (try dsimp only at hSw); go_simp)
                simp only [Act.put, List.setIfInBounds_toArray, List.set_cons_zero, List.set_cons_succ]
                refine take_dst (i := 11) (d := 84) (v := .slice y.sa y.bs.length y.cap) rfl rfl (by kernel_rfl) (by kernel_rfl) (by kernel_rfl) (fun _ _ _ h => h) (Or.inl ⟨by rfl, ?_⟩) hHeld ?_
                · (intro w0 hSw; (try dsimp only at hSw); go_simp)
                simp only [Act.put, List.setIfInBounds_toArray, List.set_cons_zero, List.set_cons_succ]
                clear hHeld
                refine any_named (fun GO hGo hGi => ?_)
                refine act_named (fun A0 hA0 => ?_)
                have st_A : Hid (∀ (V : World), Below VR.heap.size VR V → GO 0 #[true, true, true, true, true, true, true, true, true, true, true, true, true, true, true, true, true] (((((A0.put (some 85) (.int .i64 N)).put (some 86) (.bool (decide (0 ≤ N)))).put (some 87) (.bool (decide (0 ≤ N)))).put (some 88) (.bool (decide (0 ≤ N)))).put (some 13) (.bool (decide (0 ≤ N)))) V) := by
                  show ∀ V, _
                  intro V  hB 
                  refine hGo.out _ _ _ _ ?_
                  rw [← hA0.out]
                  try simp only [Act.put, List.setIfInBounds_toArray, List.set_cons_zero, List.set_cons_succ]
                  refine wpAnyH_done (by kernel_rfl) ?_ _
                  go_wp2_with fail
                  go_roundw
                  case rel => exact ⟨k + 1, _, by omega, by omega, by go_num, rfl, HQ, hb57.trans (hB.mono hb57.size)⟩
                  case measure => simp [intOf]; omega
                have st_0 : Hid (∀ (V : World), Below VR.heap.size VR V → GO 5 #[true, true, true, true, true, true, true, true, true, true, true, true, false, false, false, false, false] A0 V) := by
                  show ∀ V, _
                  intro V  hB 
                  refine hGo.out _ _ _ _ ?_
                  rw [← hA0.out]
                  try simp only [Act.put, List.setIfInBounds_toArray, List.set_cons_zero, List.set_cons_succ]
                  refine wpAnyH_ready (rs := [12]) (by kernel_rfl) (by simp) (AllReadyH.cons rfl (fun K hK => ?_) AllReadyH.nil)
                  refine step_calls_on (by rfl) 85 rfl 39 [.tmp 80, .tmp 84] #[44, 46] rfl [.slice c.pa c.pl.length c.pc, .slice y.sa y.bs.length y.cap] rfl (enters_of Tryd.func39 (by kernel_rfl) rfl) (fun v w' => v = .int .i64 N ∧ V = w') ((HAT.out V hB).mono (fun e w2 h => ⟨_, h.1, rfl, h.2⟩)) ?_
                  rintro v W' ⟨rfl, hwq⟩
                  subst hwq
                  refine hK.out _ _ ⟨(hB.cell (p := ⟨X, 3, none⟩) (block_lt_of_cell x3)).trans x3, (hB.cell (p := ⟨qb, qo + r, none⟩) (block_lt_of_cell lr7)).trans lr7⟩ (fun hHeld => ?_)
                  simp only [Act.put, List.setIfInBounds_toArray, List.set_cons_zero, List.set_cons_succ]
                  refine take_dst (i := 13) (d := 86) (v := .bool (decide (0 ≤ N))) rfl rfl (by kernel_rfl) (by kernel_rfl) (by kernel_rfl) (fun _ _ _ h => h) (Or.inl ⟨by rfl, ?_⟩) hHeld ?_
                  · (intro w0 hSw; (try dsimp only at hSw); go_simp)
                  simp only [Act.put, List.setIfInBounds_toArray, List.set_cons_zero, List.set_cons_succ]
                  refine take_dst (i := 14) (d := 87) (v := .bool (decide (0 ≤ N))) rfl rfl (by kernel_rfl) (by kernel_rfl) (by kernel_rfl) (fun _ _ _ h => h) (Or.inl ⟨by rfl, ?_⟩) hHeld ?_
                  · (intro w0 hSw; (try dsimp only at hSw); go_simp)
                  simp only [Act.put, List.setIfInBounds_toArray, List.set_cons_zero, List.set_cons_succ]
                  refine take_dst (i := 15) (d := 88) (v := .bool (decide (0 ≤ N))) rfl rfl (by kernel_rfl) (by kernel_rfl) (by kernel_rfl) (fun _ _ _ h => h) (Or.inl ⟨by rfl, ?_⟩) hHeld ?_
                  · (intro w0 hSw; (try dsimp only at hSw); go_simp)
                  simp only [Act.put, List.setIfInBounds_toArray, List.set_cons_zero, List.set_cons_succ]
                  refine take_dst (i := 16) (d := 13) (v := .bool (decide (0 ≤ N))) rfl rfl (by kernel_rfl) (by kernel_rfl) (by kernel_rfl) (fun _ _ _ h => h) (Or.inl ⟨by rfl, ?_⟩) hHeld ?_
                  · (intro w0 hSw; (try dsimp only at hSw); go_simp)
                  simp only [Act.put, List.setIfInBounds_toArray, List.set_cons_zero, List.set_cons_succ]
                  clear hHeld
                  have h := st_A.out V hB
                  rw [← hA0.out] at h
                  (try simp only [Act.put, List.setIfInBounds_toArray, List.set_cons_zero, List.set_cons_succ] at h)
                  (try simp only [Act.put, List.setIfInBounds_toArray, List.set_cons_zero, List.set_cons_succ])
                  exact hGi.out _ _ _ _ h
                exact st_0.out V0 hV0 
          · obtain rfl : k = qs.length := by omega
            cases B with
            | false =>
              have HCO : Hid (Coll (cvs ks)) := by
                rcases HBI.out with o | o | o
                · exact o
                · cases o
                · rcases coll_or HD.out with c | c
                  · obtain ⟨j, j1, j2, j3⟩ := HCH.out c
                    exact absurd j3 (o j j1 j2)
                  · exact c
              go_wp2_with fail
              go_ret
              exact ⟨cvs ks, HG.out, .inr ⟨rfl, HCO.out⟩, hB6⟩
            | true =>
              go_wp2_with fail
              go_roundw
              case rel => exact ⟨r + 1, by omega, by go_num, hb46⟩
              case measure => simp [intOf]; omega
      · have hltI : ¬ ((r + 1 : Nat) : Int) < qs.length := by omega
        obtain ⟨KN, hEK⟩ : ∃ KN : Nat, pk m qs.length = (KN : Int) := ⟨(pk m qs.length).toNat, by have := pk_bounds m qs.length (by omega); omega⟩
        have hKN : KN < qs.length := by have := pk_bounds m qs.length (by omega); omega
        have HPK : Hid (∀ V : World, Calls Tryd.prog 35 #[.int .i64 m, .int .i64 (qs.length : Int)] V fun e w' => e = .returned (.int .i64 (KN : Int)) ∧ V = w') := by
          show ∀ V, _
          intro V
          rw [← hEK]
          exact picked_any m qs.length V hm1 hm2 (by omega) (by omega)
        clear hEK
        have hKNI : (KN : Int) < qs.length := by omega
        obtain ⟨J, hJ, hselJ, hcvJ, hqbJ⟩ := HHG.out.at hKN
        rw [cvs_length] at hJ
        have lKN := HQC.out KN hKN
        have hSJ := hLa.parts.each (qs[KN]) (List.getElem_mem hKN)
        have HDJ : Hid ((qs[KN]).bs = (cvAt (cvs ks) J).d) := hqbJ
        have HSJ : Hid (sel (cvs ks) (cvAt (cvs ks) I).d J) := hselJ
        have h32J : (qs[KN]).bs.length = 32 := by rw [hqbJ, CV.d_length]
        clear hselJ hcvJ hqbJ
        generalize qs[KN] = q at lKN hSJ HDJ h32J
        rw [h32J] at lKN
        have qD5 := (hb5.block _ (lt_of_heap qD4)).trans qD4
        have hd5 := hd4.below hb5
        have e0 := cells_at qD5 0 _ rfl
        have e1 := (hb5.cell (p := ⟨qb, qo + KN, none⟩) hqbl).trans lKN
        have hSJ5 := hSJ.below hb5
        have hLa5 := hLa.below hb5
        obtain ⟨VR, hVR⟩ : ∃ VR, VR = wr := ⟨_, rfl⟩
        subst hVR
        have HHAJ : Hid (∀ V : World, Below VR.heap.size VR V → Calls Tryd.prog 36 #[.agg #[.slice ka ks.length kc], .slice q.sa 32 q.cap] V fun e w' => (∃ (ra : Option Addr) (rc : Nat) (qs : List Part), e = .returned (.tuple #[.slice ra qs.length rc, .int .i64 0]) ∧ ListAt w' ra rc qs ∧ (∃ hs, HisG (cvs ks) (cvAt (cvs ks) J).d qs hs) ∧ Fresh V.heap.size ra qs ∧ 0 < qs.length ∧ qs.length ≤ ks.length) ∧ Below V.heap.size V w') := by
          show ∀ V, _
          intro V hV
          exact his_at ks ka kc J q V HD.out hJ (hd5.below hV) (hSJ5.below hV) HDJ.out h32J (HT.out V (hB5.trans (hV.mono hB5.size)))
        go_upto_region 19 with fail
        go_cut [17, 18] (fun u v wx => ∃ (ta : Option Addr) (tc : Nat) (ts : List Part), u = .slice ta ts.length tc ∧ v = .int .i64 0 ∧ ListAt wx ta tc ts ∧ Hid (∃ hs, HisG (cvs ks) (cvAt (cvs ks) J).d ts hs) ∧ (0 < ts.length ∧ ts.length ≤ ks.length) ∧ Below VR.heap.size VR wx)
        case first =>
          have hV0 : Below VR.heap.size VR VR.drew := (Below.refl _ _).drew
          refine wp_region_held_drew (S := fun w' => w'.cell? ⟨D, 0, none⟩ = some (.slice ka ks.length kc) ∧ w'.cell? ⟨qb, qo + KN, none⟩ = some (.slice q.sa 32 q.cap)) (by kernel_rfl) ⟨(hV0.cell (p := ⟨D, 0, none⟩) (block_lt_of_cell e0)).trans e0, (hV0.cell (p := ⟨qb, qo + KN, none⟩) (block_lt_of_cell e1)).trans e1⟩ (fun hHeld => ?_)
          generalize VR.drew = V0 at hV0  hHeld ⊢
          refine take_dst (i := 0) (d := 92) (v := .agg #[.slice ka ks.length kc]) rfl rfl (by kernel_rfl) (by kernel_rfl) (by kernel_rfl) (fun _ _ _ h => h) (Or.inl ⟨by rfl, ?_⟩) hHeld ?_
          · (intro w0 hSw; (try dsimp only at hSw); go_simp)
          simp only [Act.put, List.setIfInBounds_toArray, List.set_cons_zero, List.set_cons_succ]
          refine take_dst (i := 1) (d := 93) (v := .slice (some ⟨qb, qo, none⟩) qs.length rc) rfl rfl (by kernel_rfl) (by kernel_rfl) (by kernel_rfl) (fun _ _ _ h => h) (Or.inl ⟨by rfl, ?_⟩) hHeld ?_
          · (intro w0 hSw; (try dsimp only at hSw); go_simp)
          simp only [Act.put, List.setIfInBounds_toArray, List.set_cons_zero, List.set_cons_succ]
          refine take_dst (i := 2) (d := 94) (v := .int .i64 m) rfl rfl (by kernel_rfl) (by kernel_rfl) (by kernel_rfl) (fun _ _ _ h => h) (Or.inl ⟨by rfl, ?_⟩) hHeld ?_
          · (intro w0 hSw; (try dsimp only at hSw); go_simp)
          simp only [Act.put, List.setIfInBounds_toArray, List.set_cons_zero, List.set_cons_succ]
          refine take_dst (i := 3) (d := 95) (v := .slice (some ⟨qb, qo, none⟩) qs.length rc) rfl rfl (by kernel_rfl) (by kernel_rfl) (by kernel_rfl) (fun _ _ _ h => h) (Or.inl ⟨by rfl, ?_⟩) hHeld ?_
          · (intro w0 hSw; (try dsimp only at hSw); go_simp)
          simp only [Act.put, List.setIfInBounds_toArray, List.set_cons_zero, List.set_cons_succ]
          refine take_dst (i := 4) (d := 96) (v := .int .i64 (qs.length : Int)) rfl rfl (by kernel_rfl) (by kernel_rfl) (by kernel_rfl) (fun _ _ _ h => h) (Or.inl ⟨by rfl, ?_⟩) hHeld ?_
          · (intro w0 hSw; (try dsimp only at hSw); go_simp)
          simp only [Act.put, List.setIfInBounds_toArray, List.set_cons_zero, List.set_cons_succ]
          clear hHeld
          refine any_named (fun GO hGo hGi => ?_)
          refine act_named (fun A0 hA0 => ?_)
          have st_PH : Hid (∀ (V : World) (ta : Option Addr) (tc : Nat) (ts : List Part), Below VR.heap.size VR V → (ListAt V ta tc ts) → (Hid (∃ hs, HisG (cvs ks) (cvAt (cvs ks) J).d ts hs)) → (0 < ts.length ∧ ts.length ≤ ks.length) → GO 0 #[true, true, true, true, true, true, true, true, true, true, true, true, true, true] (((((((((A0.put (some 97) (.int .i64 (KN : Int))).put (some 98) (.pointer (some ⟨qb, qo + KN, none⟩))).put (some 99) (.slice q.sa 32 q.cap)).put (some 100) (.tuple #[.slice ta ts.length tc, .int .i64 0])).put (some 91) (.tuple #[.slice ta ts.length tc, .int .i64 0])).put (some 101) (.slice ta ts.length tc)).put (some 102) (.int .i64 0)).put (some 17) (.slice ta ts.length tc)).put (some 18) (.int .i64 0)) V) := by
            show ∀ V, _
            intro V ta tc ts hB hL HHG hqb
            refine hGo.out _ _ _ _ ?_
            rw [← hA0.out]
            try simp only [Act.put, List.setIfInBounds_toArray, List.set_cons_zero, List.set_cons_succ]
            refine wpAnyH_done (by kernel_rfl) ?_ _
            go_wp2_with fail
            go_meet
            case rel => exact ⟨ta, tc, ts, rfl, rfl, hL, HHG, hqb, hB⟩
          have st_P : Hid (∀ (V : World), Below VR.heap.size VR V → GO 6 #[true, true, true, true, true, true, true, true, false, false, false, false, false, false] (((A0.put (some 97) (.int .i64 (KN : Int))).put (some 98) (.pointer (some ⟨qb, qo + KN, none⟩))).put (some 99) (.slice q.sa 32 q.cap)) V) := by
            show ∀ V, _
            intro V  hB 
            refine hGo.out _ _ _ _ ?_
            rw [← hA0.out]
            try simp only [Act.put, List.setIfInBounds_toArray, List.set_cons_zero, List.set_cons_succ]
            refine wpAnyH_ready (rs := [8]) (by kernel_rfl) (by simp) (AllReadyH.cons rfl (fun K hK => ?_) AllReadyH.nil)
            refine step_calls_dst rfl 100 rfl 36 [.tmp 92, .tmp 99] #[51, 46] rfl [.agg #[.slice ka ks.length kc], .slice q.sa 32 q.cap] rfl (enters_of Tryd.func36 (by kernel_rfl) rfl) (fun v w' => (∃ (ta : Option Addr) (tc : Nat) (ts : List Part), v = .tuple #[.slice ta ts.length tc, .int .i64 0] ∧ ListAt w' ta tc ts ∧ Hid (∃ hs, HisG (cvs ks) (cvAt (cvs ks) J).d ts hs) ∧ (0 < ts.length ∧ ts.length ≤ ks.length)) ∧ Below V.heap.size V w') ((HHAJ.out V hB).mono (fun e w2 h => by obtain ⟨⟨xa, xc, xs, h1, h2, h3, _, h4⟩, h5⟩ := h; exact ⟨_, h1, ⟨xa, xc, xs, rfl, h2, h3, h4⟩, h5⟩)) ?_
            rintro v W' ⟨⟨ta, tc, ts, rfl, hL_n, HHG_n, hqb_n⟩, hb⟩
            have hBn := hB.trans (hb.mono hB.size)
            refine hK.out _ _ ⟨(hBn.cell (p := ⟨D, 0, none⟩) (block_lt_of_cell e0)).trans e0, (hBn.cell (p := ⟨qb, qo + KN, none⟩) (block_lt_of_cell e1)).trans e1⟩ (fun hHeld => ?_)
            simp only [Act.put, List.setIfInBounds_toArray, List.set_cons_zero, List.set_cons_succ]
            refine take_dst (i := 9) (d := 91) (v := .tuple #[.slice ta ts.length tc, .int .i64 0]) rfl rfl (by kernel_rfl) (by kernel_rfl) (by kernel_rfl) (fun _ _ _ h => h) (Or.inl ⟨by rfl, ?_⟩) hHeld ?_
            · (intro w0 hSw; (try dsimp only at hSw); go_simp)
            simp only [Act.put, List.setIfInBounds_toArray, List.set_cons_zero, List.set_cons_succ]
            refine take_dst (i := 10) (d := 101) (v := .slice ta ts.length tc) rfl rfl (by kernel_rfl) (by kernel_rfl) (by kernel_rfl) (fun _ _ _ h => h) (Or.inl ⟨by rfl, ?_⟩) hHeld ?_
            · (intro w0 hSw; (try dsimp only at hSw); go_simp)
            simp only [Act.put, List.setIfInBounds_toArray, List.set_cons_zero, List.set_cons_succ]
            refine take_dst (i := 11) (d := 102) (v := .int .i64 0) rfl rfl (by kernel_rfl) (by kernel_rfl) (by kernel_rfl) (fun _ _ _ h => h) (Or.inl ⟨by rfl, ?_⟩) hHeld ?_
            · (intro w0 hSw; (try dsimp only at hSw); go_simp)
            simp only [Act.put, List.setIfInBounds_toArray, List.set_cons_zero, List.set_cons_succ]
            refine take_dst (i := 12) (d := 17) (v := .slice ta ts.length tc) rfl rfl (by kernel_rfl) (by kernel_rfl) (by kernel_rfl) (fun _ _ _ h => h) (Or.inl ⟨by rfl, ?_⟩) hHeld ?_
            · (intro w0 hSw; (try dsimp only at hSw); go_simp)
            simp only [Act.put, List.setIfInBounds_toArray, List.set_cons_zero, List.set_cons_succ]
            refine take_dst (i := 13) (d := 18) (v := .int .i64 0) rfl rfl (by kernel_rfl) (by kernel_rfl) (by kernel_rfl) (fun _ _ _ h => h) (Or.inl ⟨by rfl, ?_⟩) hHeld ?_
            · (intro w0 hSw; (try dsimp only at hSw); go_simp)
            simp only [Act.put, List.setIfInBounds_toArray, List.set_cons_zero, List.set_cons_succ]
            clear hHeld
            have h := st_PH.out W' ta tc ts hBn hL_n HHG_n hqb_n
            rw [← hA0.out] at h
            (try simp only [Act.put, List.setIfInBounds_toArray, List.set_cons_zero, List.set_cons_succ] at h)
            (try simp only [Act.put, List.setIfInBounds_toArray, List.set_cons_zero, List.set_cons_succ])
            exact hGi.out _ _ _ _ h
          have st_0 : Hid (∀ (V : World), Below VR.heap.size VR V → GO 9 #[true, true, true, true, true, false, false, false, false, false, false, false, false, false] A0 V) := by
            show ∀ V, _
            intro V  hB 
            refine hGo.out _ _ _ _ ?_
            rw [← hA0.out]
            try simp only [Act.put, List.setIfInBounds_toArray, List.set_cons_zero, List.set_cons_succ]
            refine wpAnyH_ready (rs := [5]) (by kernel_rfl) (by simp) (AllReadyH.cons rfl (fun K hK => ?_) AllReadyH.nil)
            refine step_calls_dst rfl 97 rfl 35 [.tmp 94, .tmp 96] #[3, 3] rfl [.int .i64 m, .int .i64 (qs.length : Int)] rfl (enters_of Tryd.func35 (by kernel_rfl) rfl) (fun v w' => v = .int .i64 (KN : Int) ∧ V = w') ((HPK.out V).mono (fun e w2 h => ⟨_, h.1, rfl, h.2⟩)) ?_
            rintro v W' ⟨rfl, hwq⟩
            subst hwq
            refine hK.out _ _ ⟨(hB.cell (p := ⟨D, 0, none⟩) (block_lt_of_cell e0)).trans e0, (hB.cell (p := ⟨qb, qo + KN, none⟩) (block_lt_of_cell e1)).trans e1⟩ (fun hHeld => ?_)
            simp only [Act.put, List.setIfInBounds_toArray, List.set_cons_zero, List.set_cons_succ]
            refine take_dst (i := 6) (d := 98) (v := .pointer (some ⟨qb, qo + KN, none⟩)) rfl rfl (by kernel_rfl) (by kernel_rfl) (by kernel_rfl) (fun _ _ _ h => h) (Or.inl ⟨by rfl, ?_⟩) hHeld ?_
            · (intro w0 hSw; (try dsimp only at hSw); go_simp)
            simp only [Act.put, List.setIfInBounds_toArray, List.set_cons_zero, List.set_cons_succ]
            refine take_dst (i := 7) (d := 99) (v := .slice q.sa 32 q.cap) rfl rfl (by kernel_rfl) (by kernel_rfl) (by kernel_rfl) (fun _ _ _ h => h) (Or.inl ⟨by rfl, ?_⟩) hHeld ?_
            · (intro w0 hSw; (try dsimp only at hSw); go_simp)
            simp only [Act.put, List.setIfInBounds_toArray, List.set_cons_zero, List.set_cons_succ]
            clear hHeld
            have h := st_P.out V hB
            rw [← hA0.out] at h
            (try simp only [Act.put, List.setIfInBounds_toArray, List.set_cons_zero, List.set_cons_succ] at h)
            (try simp only [Act.put, List.setIfInBounds_toArray, List.set_cons_zero, List.set_cons_succ])
            exact hGi.out _ _ _ _ h
          exact st_0.out V0 hV0 
        case rest =>
          obtain ⟨ta, tc, ts, rfl, rfl, hLb, HGB, hqb, hb6⟩ := hcut
          have hB6 := hB5.trans (hb6.mono hB5.size)
          have hLa6 := hLa5.below hb6
          obtain ⟨ht1, ht2⟩ := hqb
          obtain ⟨ps, hGB⟩ := HGB.out
          have HGB2 : Hid _ := hGB
          clear hGB HGB e0 e1 HHAJ HPK lKN hSJ hSJ5 HDJ h32J
          obtain ⟨tb, to', hte, htc⟩ : ∃ tb to', ta = some ⟨tb, to', none⟩ ∧ ∀ j (h : j < ts.length), wc.cell? ⟨tb, to' + j, none⟩ = some (.slice (ts[j]).sa (ts[j]).bs.length (ts[j]).cap) := by
            rcases hLb.parts.cells with h | h
            · rw [h] at ht1; simp at ht1
            · exact h
          subst hte
          have HTC : Hid _ := htc
          clear htc
          obtain ⟨W6, hW6⟩ : ∃ W6, W6 = wc := ⟨_, rfl⟩
          subst hW6
          go_upto_region 21 with fail
          go_wp2_with fail
          go_loopw [19] (fun j wr => ∃ i : Nat, i ≤ ts.length ∧ j = .int .i64 i ∧ W6 = wr) (fun j _ => ts.length - (intOf j).toNat)
          case atStart => exact ⟨0, Nat.zero_le _, rfl, rfl⟩
          case round =>
            obtain ⟨i, hi, rfl, rfl⟩ := hrel
            by_cases hlt : i < ts.length
            · have hltI : (i : Int) < ts.length := by omega
              have l0 := HTC.out i hlt
              have hSl := hLb.parts.each (ts[i]) (List.getElem_mem hlt)
              have HQB : Hid ((ts[i]).bs = (cvAt ps i).d) := HGB2.out.bs hlt
              generalize ts[i] = y at l0 hSl HQB
              obtain ⟨N, hN⟩ : ∃ N : Int, atF (bss qs) y.bs = N := ⟨_, rfl⟩
              have HN : Hid (Coll (cvs ks) ∨ 0 ≤ N) := by
                rcases coll_or HD.out with c | c
                · right
                  rw [← hN, HHG.out.digs, HQB.out]
                  exact hist_part HD.out c HHG.out.hist (by rw [cvs_length]; exact hJ) HSJ.out HGB2.out.hist (by rw [← HGB2.out.len]; exact hlt)
                · exact .inl c
              have HAT := at_any qs (some ⟨qb, qo, none⟩) _ rc y.bs y.sa _ y.cap W6 rfl rfl hLa6 hSl
              rw [hN] at HAT
              clear hN
              by_cases hN0 : N < 0
              · have HCO : Hid (Coll (cvs ks)) := by
                  rcases HN.out with o | o
                  · exact o
                  · omega
                go_wp2_with (go_at_call 39; refine HAT.mono ?_; rintro e w' ⟨rfl, rfl⟩)
                go_ret
                exact ⟨cvs ks, HG.out, .inr ⟨rfl, HCO.out⟩, hB6⟩
              · go_wp2_with (go_at_call 39; refine HAT.mono ?_; rintro e w' ⟨rfl, rfl⟩)
                go_roundw
                case rel => exact ⟨i + 1, by omega, by go_num, trivial⟩
                case measure => simp [intOf]; omega
            · obtain rfl : i = ts.length := by omega
              go_wp2_with fail
              go_ret
              exact ⟨cvs ks, HG.out, .inl rfl, hB6⟩
set_option maxRecDepth 100000 in
theorem historyLeast_walk (sa : Option Addr) (cap : Nat) (l : List Stp) (n : Int) (m : Int) (w : World) (hl : StepsAt w sa l) (hcl : l.length ≤ cap) (hc0 : sa = none → cap = 0) (hc1 : l.length * 24 ≤ 140737488351232) (hn1 : -9223372036854775808 ≤ n) (hn2 : n ≤ 9223372036854775807) (hm1 : -9223372036854775808 ≤ m) (hm2 : m ≤ 9223372036854775807) (hT : Tabs w) :
    Calls Tryd.prog 5 #[.slice sa l.length cap, .int .i64 n, .int .i64 m] w fun e w' => e = .returned (.bool true) ∧ Below w.heap.size w w' := by
  have H := historyLeast_any sa cap l n m w hl hcl hc0 hc1 hn1 hn2 hm1 hm2 hT
  go_enter Tryd.func5, Tryd.ntmps5
  go_wp2_with fail
  refine H.mono ?_
  rintro e w1 ⟨cc, hG, hor, hb1⟩
  rcases hor with he | ⟨he, hco⟩
  · subst he
    dsimp only
    go_wp2_with fail
    go_ret
    exact ⟨rfl, hb1⟩
  · subst he
    dsimp only
    obtain ⟨K, I, h1, h2, h3, h4⟩ := hco
    have H2 := grownSum_true l sa cap w1 cc I K (hl.below hb1) hcl hc0 hc1 hG h1 h2 h3 h4 (hT.below hb1)
    clear H hG hcl hc0 hc1
    go_wp2_with fail
    refine H2.mono ?_
    rintro e w2 ⟨he, hb2⟩
    subst he
    dsimp only
    go_wp2_with fail
    go_ret
    exact ⟨rfl, hb1.trans (hb2.mono hb1.size)⟩
end Go.Proofs.YtbmodfegcmaieaaDoor

namespace Go.Proofs.YtbmodfegcmaieaaDoor
open Go.RowKit

set_option maxRecDepth 100000 in
/-- An array of arrays of integers that reads as a table of rows holds the rows' numbers, cell for cell. -/
theorem cells_of_tab2 {H : Type} {enc : TypeId × Value → H} {P : Program} {w : World} {base : Nat} {sp : Nat → Bool} {held : Bool} {fuel : Nat} {t e i : TypeId} {n m : Nat} {k : IntKind} {cs : List Value} {rows : List (List Int)} {p : List MemPlace}
    (ht : P.underlying t = some (.array n e)) (he : P.underlying e = some (.array m i)) (hi : P.underlying i = some (.int k)) (hci : P.cellsOf i = 1) (hce : P.cellsOf e = m) (hm : 0 < m)
    (h : DataW.trod enc P w base sp held fuel t cs = some (.agg (rows.map (Lib.tabData k)), p)) (q : Nat) (hq : q < n * m) : cs[q]? = ((rows.getD (q / m) []).map (Value.int k))[q % m]? := by
  obtain ⟨xs, f, rfl, hx, hl, hn, hr⟩ := DataW.trod_array ht h
  have hin : q / m < n := Nat.div_lt_of_lt_mul (by rw [Nat.mul_comm]; exact hq)
  have hrow := hr (q / m) hin
  have hxs : xs.map (·.1) = rows.map (Lib.tabData k) := by
    have := congrArg Prod.fst hx
    simpa using this.symm
  have hg : (xs.map (·.1))[q / m]? = some (xs[q / m]'(by omega)).1 := by simp [hn, hin]
  rw [hxs] at hg
  simp only [List.getElem?_map, Option.map_eq_some_iff] at hg
  obtain ⟨r, hr1, hr2⟩ := hg
  rw [List.getElem?_eq_getElem (by omega), hce] at hrow
  have hrow' : DataW.trod enc P w base sp held f e ((cs.drop (q / m * m)).take m) = some (Lib.tabData k r, (xs[q / m]'(by omega)).2) := by
    rw [hrow, hr2]
  have hc := Lib.cells_of_tab he hi hci hce hrow'
  have hj : q % m < m := Nat.mod_lt _ hm
  have e1 : ((cs.drop (q / m * m)).take m)[q % m]? = cs[q]? := by
    rw [List.getElem?_take, if_pos hj, List.getElem?_drop, Nat.mul_comm, Nat.div_add_mod]
  rw [← e1, hc]
  simp [List.getD, hr1]

set_option maxRecDepth 100000 in
theorem tFirst : (Tryd.prog.globals[0]?).map (·.type) = some 142 := by kernel_rfl
set_option maxRecDepth 100000 in
theorem tOrders : (Tryd.prog.globals[1]?).map (·.type) = some 172 := by kernel_rfl
set_option maxRecDepth 100000 in
theorem tLanes : (Tryd.prog.globals[2]?).map (·.type) = some 174 := by kernel_rfl
set_option maxRecDepth 100000 in
theorem cU32 : Tryd.prog.cellsOf 141 = 1 := by kernel_rfl
set_option maxRecDepth 100000 in
theorem c8U32 : Tryd.prog.cellsOf 142 = 8 := by kernel_rfl
set_option maxRecDepth 100000 in
theorem c16U8 : Tryd.prog.cellsOf 171 = 16 := by kernel_rfl
set_option maxRecDepth 100000 in
theorem c4U8 : Tryd.prog.cellsOf 173 = 4 := by kernel_rfl
def ordRows : List (List Int) := [[0, 1, 2, 3, 4, 5, 6, 7, 8, 9, 10, 11, 12, 13, 14, 15], [14, 10, 4, 8, 9, 15, 13, 6, 1, 12, 0, 2, 11, 7, 5, 3], [11, 8, 12, 0, 5, 2, 15, 13, 10, 14, 3, 6, 7, 1, 9, 4], [7, 9, 3, 1, 13, 12, 11, 14, 2, 6, 5, 10, 4, 0, 15, 8], [9, 0, 5, 7, 2, 4, 10, 15, 14, 1, 11, 12, 6, 8, 3, 13], [2, 12, 6, 10, 0, 11, 8, 3, 4, 13, 7, 5, 15, 14, 1, 9], [12, 5, 1, 15, 14, 13, 4, 10, 0, 7, 6, 3, 9, 2, 8, 11], [13, 11, 7, 14, 12, 1, 3, 9, 5, 0, 15, 4, 8, 6, 2, 10], [6, 15, 14, 9, 11, 3, 0, 8, 12, 2, 13, 7, 1, 4, 10, 5], [10, 2, 8, 4, 7, 6, 1, 5, 15, 11, 9, 14, 3, 12, 13, 0]]
def laneRows : List (List Int) := [[0, 4, 8, 12], [1, 5, 9, 13], [2, 6, 10, 14], [3, 7, 11, 15], [0, 5, 10, 15], [1, 6, 11, 12], [2, 7, 8, 13], [3, 4, 9, 14]]
set_option maxRecDepth 100000 in
theorem ordRows_flat : ∀ q, q < 160 → (ordRows.getD (q / 16) [])[q % 16]? = some ((ordF.getD q 0 : Nat) : Int) := by decide +kernel
set_option maxRecDepth 100000 in
theorem laneRows_flat : ∀ q, q < 32 → (laneRows.getD (q / 4) [])[q % 4]? = some ((laneF.getD q 0 : Nat) : Int) := by decide +kernel
set_option maxRecDepth 100000 in
theorem dFirst : Rows.laid_sheaves_blake_firstWords (H := Unit) = Lib.tabData .u32 fw := rfl
set_option maxRecDepth 100000 in
theorem dOrders : Rows.laid_sheaves_blake_orders (H := Unit) = .agg (ordRows.map (Lib.tabData .u8)) := rfl
set_option maxRecDepth 100000 in
theorem dLanes : Rows.laid_sheaves_blake_lanes (H := Unit) = .agg (laneRows.map (Lib.tabData .u8)) := rfl

set_option maxRecDepth 100000 in
theorem tabs_of_laid {W : World} {n1 n2 n3 : String} (gFirst : Tryd.prog.globalNamed n1 = some 0) (gOrders : Tryd.prog.globalNamed n2 = some 1) (gLanes : Tryd.prog.globalNamed n3 = some 2)
    (h : laidMetH Tryd.prog [(n1, Rows.laid_sheaves_blake_firstWords), (n2, Rows.laid_sheaves_blake_orders), (n3, Rows.laid_sheaves_blake_lanes)] W) : Tabs W := by
  have h1 : laidMet Tryd.prog [(n1, Rows.laid_sheaves_blake_firstWords), (n2, Rows.laid_sheaves_blake_orders), (n3, Rows.laid_sheaves_blake_lanes)] W := h
  clear h
  have h2 := h1.tail
  have h3 := h2.tail
  rw [dFirst] at h1
  rw [dOrders] at h2
  rw [dLanes] at h3
  have t1 := Lib.tabIs_of_head gFirst tFirst Tryd.underlying142 Tryd.underlying141 cU32 c8U32 h1
  refine ⟨fun i hi => t1.cell gFirst i hi, fun i hi => ?_, fun i hi => ?_⟩
  · obtain ⟨ps, ⟨g', t', cs, fuel, p, q, hg', ht', hvar, hd, _, _⟩, _⟩ := h2
    obtain rfl := Option.some.inj (gOrders.symm.trans hg')
    obtain rfl := Option.some.inj (tOrders.symm.trans ht')
    have hc := World.var?_cell gOrders hvar i
    have he := cells_of_tab2 Tryd.underlying172 Tryd.underlying171 Tryd.underlying5 cU8 c16U8 (by decide) hd i hi
    rw [hc]
    have := ordRows_flat i hi
    simp only [List.getElem?_map, this, Option.map_some] at he
    simpa using he
  · obtain ⟨ps, ⟨g', t', cs, fuel, p, q, hg', ht', hvar, hd, _, _⟩, _⟩ := h3
    obtain rfl := Option.some.inj (gLanes.symm.trans hg')
    obtain rfl := Option.some.inj (tLanes.symm.trans ht')
    have hc := World.var?_cell gLanes hvar i
    have he := cells_of_tab2 Tryd.underlying174 Tryd.underlying173 Tryd.underlying5 cU8 c4U8 (by decide) hd i hi
    rw [hc]
    have := laneRows_flat i hi
    simp only [List.getElem?_map, this, Option.map_some] at he
    simpa using he
end Go.Proofs.YtbmodfegcmaieaaDoor

namespace Go.Proofs.YtbmodfegcmaieaaDoor
open Go.ChangeShapes Go.WideShapes Go.ChangeAt Go.RowKit

/-- What the initialisers of the three tables lay, in the first blocks. -/
def layBlock (c : Array Value) : Obj → Obj
  | .cells _ t frozen => .cells c t frozen
  | o => o
def layTabs (w : World) : World :=
  { w with heap := ((w.heap.modify 0 (layBlock (ua fw))).modify 1 (layBlock (ub (ordF.map Int.ofNat)).toArray)).modify 2 (layBlock (ub (laneF.map Int.ofNat)).toArray) }
end Go.Proofs.YtbmodfegcmaieaaDoor
