/- Appends of texts onto a row that the call owns. -/
import Derived.Test.YtbmodfegcmaieaaDoorBlockSameM6
import Derived.Test.YtbmodfegcmaieaaDoorBlockSameM0
import Derived.Test.YtbmodfegcmaieaaDoorQBcF
import Derived.Test.YtbmodfegcmaieaaDoorGBtRow
import Derived.Test.YtbmodfegcmaieaaDoorGOwnL
import Derived.Test.YtbmodfegcmaieaaDoorGSteps
import Derived.Test.YtbmodfegcmaieaaDoorGAppB
import Derived.Deep.Strs
import Derived.Test.YtbmodfegcmaieaaDoorGCBatch
import Derived.Test.YtbmodfegcmaieaaDoorGAppR
import Derived.Test.YtbmodfegcmaieaaDoorGDagQ
import Derived.Test.YtbmodfegcmaieaaDoorGApp
import Derived.Laws.AppendOwnNone
import Derived.Deep.RegionHeld3
namespace Go.Proofs.YtbmodfegcmaieaaDoor
open Go.RowKit

/-- What Find refuses. -/
def FndE (l : List CV) (k : List Int) (ec : Int) : Prop := (dagF l = 12 ∧ ec = 12) ∨ (dagF l = 0 ∧ pOf l k = -1 ∧ ec = 8)
/-- What historyOf answers. -/
structure HofO (w w' : World) (e : Ending) (ls : List Ct) (k : List Int) : Prop where
  below : Below w.heap.size w w'
  out : (∃ ec : Int, e = .returned (.tuple #[.slice none 0 0, .int .i64 ec]) ∧ FndE (cvs ls) k ec) ∨ (dagF (cvs ls) = 0 ∧ 0 ≤ pOf (cvs ls) k ∧ ∃ (sa : Option Addr) (cap : Nat) (sts : List HSt), e = .returned (.tuple #[.slice sa sts.length cap, .int .i64 0]) ∧ HistIs (cvs ls) k (sts.map (·.c.v)) ∧ (∀ s ∈ sts, s.c ∈ ls ∧ s.p.bs = s.c.v.d) ∧ StsAt w' sa sts ∧ (∀ s ∈ sts, ∀ b so, s.p.sa = some ⟨b, so, none⟩ → w.heap.size ≤ b))
set_option maxRecDepth 100000 in
theorem pOf_sel {l : List CV} {k : List Int} (h : 0 ≤ pOf l k) : ∃ j, j < l.length ∧ sel l k j ∧ (j : Int) = pOf l k ∧ bstr (cvAt l j).d = bstr k := by
  have hb := pOf_bounds l k
  have hy := of_decide_eq_true (fidx_yes (dHit l k) l.length h)
  have hj : (pOf l k).toNat < l.length := by omega
  exact ⟨(pOf l k).toNat, hj, (sel_iff hj).2 (.inl (txL_bstr.1 hy)), by omega, txL_bstr.1 hy⟩
set_option maxRecDepth 100000 in
set_option maxHeartbeats 2000000 in
theorem historyOf_any (ls : List Ct) (sa : Option Addr) (n cap : Nat) (bs : List Int) (ka : Option Addr) (kn kc : Nat) (w : World) (hn : n = ls.length) (hkn : kn = bs.length) (hd : DagAt w sa cap ls) (hk : SliceAt w ka kc bs) (hT : Tabs w) :
    Calls Tryd.prog 55 #[.agg #[.slice sa n cap], .slice ka kn kc] w fun e w' => HofO w w' e ls bs := by
  subst hn hkn
  have hA : Below w.heap.size w (w.alloc (.cells #[.slice sa ls.length cap] 51)) := (Below.refl _ _).alloc (Nat.le_refl _) _
  have r0 := heap_alloc_new w (.cells #[.slice sa ls.length cap] 51)
  go_enter Tryd.func55, Tryd.ntmps55
  go_wp2_with fail
  generalize w.alloc (.cells #[.slice sa ls.length cap] 51) = W0 at hA r0 ⊢
  refine (dagFind_own ls sa _ cap bs ka _ kc W0 rfl rfl (hd.below hA) (hk.below hA) (hT.below hA)).mono ?_
  intro e w1 hO
  have hb1 := hO.below
  have hB1 := hA.trans (hb1.mono hA.size)
  rcases hO.out with ⟨ec, he, hec⟩ | ⟨h1, h2, c, he, hcv, hct, hcb⟩
  · subst he
    dsimp only
    have hne : (ec != 0) = true := by
      rcases hec with h | h
      · rw [h.2]; rfl
      · rw [h.2.2]; rfl
    have HE : Hid _ := hec
    clear hec hO
    go_wp2_with fail
    go_ret2
    exact ⟨hB1.alloc hB1.size _, .inl ⟨ec, rfl, HE.out⟩⟩
  · subst he
    dsimp only
    have HF : Hid (dagF (cvs ls) = 0) := h1
    have HP : Hid (0 ≤ pOf (cvs ls) bs) := h2
    have r1 := (hb1.block _ (lt_of_heap r0)).trans r0
    clear hO hcv h1 h2
    have hA2 := (Below.refl w1.heap.size w1).alloc (Nat.le_refl _) (.cells #[.int .i64 c.au, .int .i64 c.rd, .slice c.ba c.bl.length c.bc, .slice c.pa c.pl.length c.pc, .slice c.va c.vl.length c.vc] 63)
    have hB2 := hB1.trans (hA2.mono hB1.size)
    have r2 := (hA2.block _ (lt_of_heap r1)).trans r1
    have d0 := cells_at r2 0 _ rfl
    go_wp2_with fail
    generalize w1.alloc (.cells #[.int .i64 c.au, .int .i64 c.rd, .slice c.ba c.bl.length c.bc, .slice c.pa c.pl.length c.pc, .slice c.va c.vl.length c.vc] 63) = W2 at hA2 hB2 r2 d0 ⊢
    refine (reached_any ls sa _ cap bs ka _ kc W2 rfl rfl (hd.below hB2) HF.out (hk.below hB2) (hT.below hB2)).mono ?_
    intro e w3 hO
    have hb3 := hO.below
    have hB3 := hB2.trans (hb3.mono hB2.size)
    obtain ⟨v, sts, he, hsts, hmem, ho, hap⟩ := hO.out
    subst he
    dsimp only
    have hne : sts ≠ [] := by
      intro h
      obtain ⟨j, hj, hsel, _⟩ := pOf_sel HP.out
      have : cvAt (cvs ls) j ∈ (rchTo (cvs ls) bs 0).2 := (rch_snd_mem _ _ (cvs ls).length 0 (by omega) _).2 ⟨j, Nat.zero_le _, hj, hsel, rfl⟩
      rw [← hsts, h] at this; cases this
    have hlen : sts.length ≤ 400 := by
      have h1 : (sts.map (·.c.v)).length ≤ (cvs ls).length := by
        have : ∀ n m, m + n = (cvs ls).length → (rchTo (cvs ls) bs m).2.length ≤ n := by
          intro n
          induction n with
          | zero => intro m hm; obtain rfl : m = (cvs ls).length := by omega
                    rw [rchTo_end]; simp
          | succ n ih =>
            intro m hm
            have := ih (m + 1) (by omega)
            rw [rchTo_step _ _ m (by omega), rchS]
            cases inO (bstr (cvAt (cvs ls) m).d) (rchTo (cvs ls) bs (m + 1)).1
            · show (rchTo (cvs ls) bs (m + 1)).2.length ≤ n + 1
              omega
            · show ((rchTo (cvs ls) bs (m + 1)).2 ++ [cvAt (cvs ls) m]).length ≤ n + 1
              rw [List.length_append]; simp; omega
        rw [hsts]; exact this _ 0 (by omega)
      have h2 := (dagF_zero HF.out).1
      rw [List.length_map] at h1; omega
    obtain ⟨g, gc, rfl⟩ : ∃ g gc, v = .slice (some ⟨g, 0, none⟩) sts.length gc := by
      rcases ho.2 with ⟨_, h0⟩ | ⟨g, gc, cur, rfl, _⟩
      · exact absurd (List.eq_nil_of_length_eq_zero h0) hne
      · exact ⟨g, gc, rfl⟩
    have HS : Hid _ := hsts
    have HM : Hid _ := hmem
    have HNW : Hid (∀ s ∈ sts, ∀ b so, s.p.sa = some ⟨b, so, none⟩ → w.heap.size ≤ b) := by
      show ∀ s ∈ sts, _
      intro s hs b so e
      have := ((hap s.p (List.mem_map.2 ⟨s, hs, rfl⟩)).2 b so e).1
      have := hB2.size
      omega
    have hSR := sortSteps_any sts g gc (W2.heap.size + 2) W2 w3 hb3 (by omega) (by omega) hne ho hap
    have HLN : Hid (sts.length ≤ 400) := hlen
    clear hO hsts hmem ho hap hne hlen d0
    go_wp2_with fail
    refine hSR.mono ?_
    intro e w4 hO
    have hb4 := hO.below
    obtain ⟨he, ks, hpm, hup, hat⟩ := hO.out
    subst he
    dsimp only
    have hB4 := hB2.trans (hb4.mono hB2.size)
    have HKL : Hid (ks.length = sts.length) := hpm.length_eq
    have HH : Hid (HistIs (cvs ls) bs (ks.map (·.c.v))) := by
      have h1 : (ks.map (·.c.v)).Perm (rchTo (cvs ls) bs 0).2 := by rw [← HS.out]; exact hpm.map _
      refine ⟨h1, up_of_not (perm_apart h1 (rch_apart _ HF.out _ (cvs ls).length 0 (by omega))) ?_⟩
      intro i j hi hj
      have hj2 : j < ks.length := by simpa using hj
      have := hup i j hi hj2
      simpa [kSt, kRA, Ct.v] using this
    have HK2 : Hid ((∀ s ∈ ks, s.c ∈ ls ∧ s.p.bs = s.c.v.d) ∧ ∀ s ∈ ks, ∀ b so, s.p.sa = some ⟨b, so, none⟩ → w.heap.size ≤ b) := ⟨fun s hs => HM.out s (hpm.mem_iff.1 hs), fun s hs => HNW.out s (hpm.mem_iff.1 hs)⟩
    clear hO hup hpm hSR
    go_wp2_with fail
    go_ret2
    exact ⟨hB4, .inr ⟨HF.out, HP.out, some ⟨g, 0, none⟩, gc, ks, by rw [HKL.out]; rfl, HH.out, HK2.out.1, hat, HK2.out.2⟩⟩
/-- What History answers. -/
structure HisO (w w' : World) (e : Ending) (l : List CV) (k : List Int) : Prop where
  below : Below w.heap.size w w'
  out : (∃ ec : Int, e = .returned (.tuple #[.slice none 0 0, .int .i64 ec]) ∧ FndE l k ec) ∨ (dagF l = 0 ∧ 0 ≤ pOf l k ∧ ∃ (ra : Option Addr) (rc : Nat) (ds : List Part) (hs : List CV), e = .returned (.tuple #[.slice ra ds.length rc, .int .i64 0]) ∧ HistIs l k hs ∧ bss ds = hs.map CV.d ∧ ListAt w' ra rc ds ∧ Fresh w.heap.size ra ds)
set_option maxRecDepth 100000 in
theorem own_wideO {w : World} {B B' n : Nat} {e : TypeId} {sz : Nat} {v : Value} {xs : List Value} (h : w.ownsRow B e sz v n xs) (hB : B' ≤ B) : w.ownsRow B' e sz v n xs := ⟨h.1, h.2.imp id (fun ⟨g, c, cur, e1, e2, r⟩ => ⟨g, c, cur, e1, Nat.le_trans hB e2, r⟩)⟩
set_option maxRecDepth 100000 in
theorem hist_small {l : List CV} {k : List Int} {hs : List CV} (h : HistIs l k hs) (hF : dagF l = 0) : hs.length ≤ 400 := Nat.le_trans (hist_len h) (dagF_zero hF).1
set_option maxRecDepth 100000 in
set_option maxHeartbeats 2000000 in
theorem history_any (ls : List Ct) (sa : Option Addr) (n cap : Nat) (bs : List Int) (ka : Option Addr) (kn kc : Nat) (w : World) (hn : n = ls.length) (hkn : kn = bs.length) (hd : DagAt w sa cap ls) (hk : SliceAt w ka kc bs) (hT : Tabs w) :
    Calls Tryd.prog 36 #[.agg #[.slice sa n cap], .slice ka kn kc] w fun e w' => HisO w w' e (cvs ls) bs := by
  subst hn hkn
  have hA : Below w.heap.size w (w.alloc (.cells #[.slice sa ls.length cap] 51)) := (Below.refl _ _).alloc (Nat.le_refl _) _
  obtain ⟨i, hi, hz0, hz1, hz2⟩ := info_parts infoBs
  go_enter Tryd.func36, Tryd.ntmps36
  go_wp2_with fail
  generalize w.alloc (.cells #[.slice sa ls.length cap] 51) = W0 at hA ⊢
  refine (historyOf_any ls sa _ cap bs ka _ kc W0 rfl rfl (hd.below hA) (hk.below hA) (hT.below hA)).mono ?_
  intro e w1 hO
  have hb1 := hO.below
  have hB1 := hA.trans (hb1.mono hA.size)
  rcases hO.out with ⟨ec, he, hec⟩ | ⟨h1, h2, ra, rc, sts, he, hH, hM, hat, hnw⟩
  · subst he
    dsimp only
    have hne : (ec != 0) = true := by
      rcases hec with h | h
      · rw [h.2]; rfl
      · rw [h.2.2]; rfl
    have HE : Hid _ := hec
    clear hec hO
    go_wp2_with fail
    go_ret2
    exact ⟨hB1, .inl ⟨ec, rfl, HE.out⟩⟩
  · subst he
    dsimp only
    have hlen : sts.length ≤ 400 := by have := hist_small hH h1; rwa [List.length_map] at this
    have HX : Hid (dagF (cvs ls) = 0 ∧ 0 ≤ pOf (cvs ls) bs ∧ HistIs (cvs ls) bs (sts.map (·.c.v)) ∧ (∀ s ∈ sts, s.c ∈ ls ∧ s.p.bs = s.c.v.d) ∧ ∀ s ∈ sts, ∀ b so, s.p.sa = some ⟨b, so, none⟩ → w.heap.size ≤ b) := ⟨h1, h2, hH, hM, fun s hs b so e => Nat.le_trans hA.size (hnw s hs b so e)⟩
    clear h1 h2 hH hM hnw hO hd hk hT
    go_wp2_with (at_make; refine wpList_make_own _ rfl _ _ 44 rfl w1.heap.size 46 i (.slice none 0 0) 1 Tryd.underlying44 hi hz0 hz1 .i64 .i64 _ sts.length rfl rfl (by go_num) (by rw [hz2]; omega) (by unfold maxLen; omega) (Nat.le_refl _) ?_; intro w2 ho2 hg2)
    have hb2 : Below w1.heap.size w1 w2 := grown_none hg2
    go_wp2_with fail
    go_loopw [25, 8] (fun j v wr => ∃ m : Nat, m ≤ sts.length ∧ j = .int .i64 m ∧ wr.ownsRow w1.heap.size 46 1 v m (pv ((sts.take m).map HSt.p)) ∧ Below w1.heap.size w1 wr) (fun j _ _ => sts.length - (intOf j).toNat)
    case atStart => exact ⟨0, Nat.zero_le _, rfl, ho2, hb2⟩
    case round =>
      clear ho2 hg2 hb2
      obtain ⟨m, hm, rfl, ho, hb⟩ := hrel
      by_cases hlt : m < sts.length
      · have hltI : (m : Int) < sts.length := by omega
        obtain ⟨sb, so, rfl, hc⟩ : ∃ sb so, ra = some ⟨sb, so, none⟩ ∧ _ := by
          rcases (hat.below hb).cells with h | h
          · rw [h] at hlt; simp at hlt
          · exact h
        obtain ⟨c0, c1, c2, c3, c4⟩ := hc m hlt
        have HST : Hid (pv ((sts.take (m + 1)).map HSt.p) = pv ((sts.take m).map HSt.p) ++ [.slice (sts[m]).p.sa (sts[m]).p.bs.length (sts[m]).p.cap]) := by
          show _ = _
          rw [List.take_succ_eq_append_getElem hlt, List.map_append]
          simp [pv, Part.val]
        clear hc
        generalize sts[m] = s at c0 c1 c2 c3 c4 HST
        generalize pv ((sts.take m).map HSt.p) = PS at ho HST
        have hA2 := (Below.refl wr.heap.size wr).alloc (Nat.le_refl _) (.cells #[.int .i64 s.c.au, .int .i64 s.c.rd, .slice s.c.ba s.c.bl.length s.c.bc, .slice s.c.pa s.c.pl.length s.c.pc, .slice s.p.sa s.p.bs.length s.p.cap] 91)
        have q0 := heap_alloc_new wr (.cells #[.int .i64 s.c.au, .int .i64 s.c.rd, .slice s.c.ba s.c.bl.length s.c.bc, .slice s.c.pa s.c.pl.length s.c.pc, .slice s.p.sa s.p.bs.length s.p.cap] 91)
        have ho2 := World.ownsRow.alloc ho (.cells #[.int .i64 s.c.au, .int .i64 s.c.rd, .slice s.c.ba s.c.bl.length s.c.bc, .slice s.c.pa s.c.pl.length s.c.pc, .slice s.p.sa s.p.bs.length s.p.cap] 91)
        go_upto_region 8 with fail
        generalize wr.alloc (.cells #[.int .i64 s.c.au, .int .i64 s.c.rd, .slice s.c.ba s.c.bl.length s.c.bc, .slice s.c.pa s.c.pl.length s.c.pc, .slice s.p.sa s.p.bs.length s.p.cap] 91) = W3 at hA2 q0 ho2 ⊢
        have k4 := cells_at q0 4 _ rfl
        have hB3 := hb.trans (hA2.mono hb.size)
        clear c0 c1 c2 c3 c4
        go_wp2_with (at_builtin; refine wpList_append_own_at _ rfl _ _ 44 rfl w1.heap.size 46 i (.slice none 0 0) 1 24 Tryd.underlying44 hi hz0 hz1 hz2 rfl (by decide) _ m _ rfl (World.ownsRow.alloc ho2 _) ⟨W3.heap.size, 0, none⟩ 1 1 [.slice s.p.sa s.p.bs.length s.p.cap] rfl rfl (cells_new _ _ _) (by intro u hu; simp at hu; subst hu; rfl) (by unfold maxLen; omega) (by omega) (le_alloc hB3.size _) ?_; intro v5 w5 ho5 hg5 _ hat5)
        have hB5 := Below.grown (hB3.alloc hB3.size _) hg5 (le_alloc hB3.size _) (fun q e => (ho2.lt q e).1)
        go_roundw
        case rel => exact ⟨m + 1, by omega, by go_num, by rw [HST.out]; exact ho5, hB5⟩
        case measure => simp [intOf]; omega
      · obtain rfl : m = sts.length := by omega
        rw [List.take_length] at ho
        have hBr := hB1.trans (hb.mono hB1.size)
        go_wp2_with fail
        go_ret2
        obtain ⟨g1, g2, g3, g4, g5⟩ := HX.out
        have hap : Apart wr w.heap.size _ (sts.map HSt.p) := fun p hp => by
          obtain ⟨s, hs, rfl⟩ := List.mem_map.1 hp
          have hsl := hat.each s hs
          have h32 : s.p.bs.length = 32 := by rw [(g4 s hs).2, CV.d_length]
          refine ⟨hsl.below hb, fun sb so e => ?_⟩
          have hlt : sb < w1.heap.size := by
            rcases hsl.bytes with h | ⟨sb', so', e', h⟩
            · rw [h] at h32; simp at h32
            · rw [e] at e'; cases e'
              exact block_lt_of_cell (h 0 (by omega))
          have := hb.size
          exact ⟨g5 s hs sb so e, by omega, fun h => by have := (ho.lt sb h).1; omega⟩
        obtain ⟨xa, xc, hv, hl, hL, hFr⟩ := listAt_of_owns (own_wideO ho hB1.size) hap
        subst hv
        refine ⟨hBr, .inr ⟨g1, g2, xa, xc, sts.map HSt.p, sts.map (·.c.v), by rw [List.length_map]; rfl, g3, ?_, hL (by omega), hFr⟩⟩
        rw [bss, List.map_map, List.map_map]
        exact List.map_congr_left (fun s hs => (g4 s hs).2)
end Go.Proofs.YtbmodfegcmaieaaDoor

namespace Go.Proofs.YtbmodfegcmaieaaDoor
open Go.RowKit

set_option maxRecDepth 100000 in
theorem coll_or {l : List CV} (h : dagF l = 0) : OneD l ∨ Coll l := by
  rcases oneD_or h with h1 | ⟨K, I, h1, h2, h3, h4⟩
  · exact .inl h1
  · exact .inr ⟨K, I, h1, h2, h3, fun g => h4 ⟨g.1, g.2.1⟩⟩
/-- What the list of a history has. -/
structure HisG (l : List CV) (k : List Int) (qs : List Part) (hs : List CV) : Prop where
  hist : HistIs l k hs
  digs : bss qs = hs.map CV.d
set_option maxRecDepth 100000 in
theorem HisG.len {l : List CV} {k : List Int} {qs : List Part} {hs : List CV} (h : HisG l k qs hs) : qs.length = hs.length := by
  have := congrArg List.length h.digs
  simpa [bss] using this
set_option maxRecDepth 100000 in
theorem HisG.bs {l : List CV} {k : List Int} {qs : List Part} {hs : List CV} (h : HisG l k qs hs) {m : Nat} (hm : m < qs.length) : (qs[m]).bs = (cvAt hs m).d := by
  have hm2 : m < hs.length := by rw [← h.len]; exact hm
  have h1 : (bss qs).getD m [] = (hs.map CV.d).getD m [] := by rw [h.digs]
  rw [bss_get qs m hm] at h1
  rw [h1]
  simp [cvAt, hm2]
set_option maxRecDepth 100000 in
theorem HisG.at {l : List CV} {k : List Int} {qs : List Part} {hs : List CV} (h : HisG l k qs hs) {m : Nat} (hm : m < qs.length) : ∃ j, j < l.length ∧ sel l k j ∧ cvAt hs m = cvAt l j ∧ (qs[m]).bs = (cvAt l j).d := by
  have hm2 : m < hs.length := by rw [← h.len]; exact hm
  obtain ⟨j, h1, h2, h3⟩ := (h.hist.mem _).1 (cvAt_mem hm2)
  exact ⟨j, h1, h2, h3, by rw [h.bs hm, h3]⟩
set_option maxRecDepth 100000 in
theorem hist_up {hs : List CV} {l : List CV} {k : List Int} (h : HistIs l k hs) {a b : Nat} (hab : a < b) (hb : b < hs.length) : (cvAt hs a).rd < (cvAt hs b).rd ∨ ((cvAt hs a).rd = (cvAt hs b).rd ∧ (cvAt hs a).au < (cvAt hs b).au) := by
  have := (List.pairwise_iff_getElem.1 h.up) a b (by omega) hb hab
  have e1 : cvAt hs a = hs[a] := by simp [cvAt, show a < hs.length by omega]
  have e2 : cvAt hs b = hs[b] := by simp [cvAt, hb]
  rw [e1, e2]
  exact cmpRA_kRA.1 this
set_option maxRecDepth 100000 in
/-- The parents of what a history has stand ahead in it. -/
theorem hist_parent {l : List CV} (h : dagF l = 0) (ho : OneD l) {k : List Int} {hs : List CV} (H : HistIs l k hs) {m : Nat} (hm : m < hs.length) {p : List Int} (hp : p ∈ (cvAt hs m).pl) : ∃ j, j < m ∧ bstr (cvAt hs j).d = bstr p := by
  obtain ⟨i, h1, h2, h3⟩ := (H.mem _).1 (cvAt_mem hm)
  rw [h3] at hp
  obtain ⟨q, q1, q2, q3⟩ := parent_at h h1 hp
  have hq : q < l.length := by omega
  obtain ⟨_, hs2, _⟩ := sel_parent h ho h1 hq h2 hp q2
  have hin : cvAt l q ∈ hs := (H.mem _).2 ⟨q, hq, hs2, rfl⟩
  obtain ⟨j, hj, e⟩ := List.getElem_of_mem hin
  have e1 : cvAt hs j = cvAt l q := by rw [← e]; simp [cvAt, hj]
  refine ⟨j, ?_, by rw [e1]; exact q2⟩
  rcases Nat.lt_or_ge j m with g | g
  · exact g
  · rcases Nat.lt_or_ge m j with g2 | g2
    · have := hist_up H g2 hj
      rw [e1, h3] at this
      omega
    · obtain rfl : j = m := by omega
      rw [e1] at h3
      rw [h3] at q3; omega
set_option maxRecDepth 100000 in
theorem atF_some {hs : List CV} {p : List Int} {j : Nat} (hj : j < hs.length) (h : bstr (cvAt hs j).d = bstr p) : 0 ≤ atF (hs.map CV.d) p := by
  rw [atF_pOf]
  rcases Int.lt_or_le (pOf hs p) 0 with g | g
  · have := fidx_no _ _ g j hj
    rw [dHit, txL_bstr.2 h] at this
    simp at this
  · exact g
set_option maxRecDepth 100000 in
theorem bss_take (ds : List Part) (i : Nat) : bss (ds.take i) = (bss ds).take i := by simp [bss, List.map_take]
set_option maxRecDepth 100000 in
theorem atF_take {hs : List CV} {p : List Int} {m j : Nat} (hm : m ≤ hs.length) (hj : j < m) (h : bstr (cvAt hs j).d = bstr p) : 0 ≤ atF ((hs.map CV.d).take m) p := by
  rw [← List.map_take]
  refine atF_some (j := j) (by rw [List.length_take]; omega) ?_
  rw [cvAt_take hs m j hj]; exact h
set_option maxRecDepth 100000 in
/-- What History gives for a digest of the dag. -/
theorem his_at (ks : List Ct) (ka : Option Addr) (kc i : Nat) (p : Part) (w : World) (hF : dagF (cvs ks) = 0) (hi : i < ks.length) (hd : DagAt w ka kc ks) (hp : SliceAt w p.sa p.cap p.bs) (hpd : p.bs = (cvAt (cvs ks) i).d) (h32 : p.bs.length = 32) (hT : Tabs w) :
    Calls Tryd.prog 36 #[.agg #[.slice ka ks.length kc], .slice p.sa 32 p.cap] w fun e w' => (∃ (ra : Option Addr) (rc : Nat) (qs : List Part), e = .returned (.tuple #[.slice ra qs.length rc, .int .i64 0]) ∧ ListAt w' ra rc qs ∧ (∃ hs, HisG (cvs ks) (cvAt (cvs ks) i).d qs hs) ∧ Fresh w.heap.size ra qs ∧ 0 < qs.length ∧ qs.length ≤ ks.length) ∧ Below w.heap.size w w' := by
  refine (history_any ks ka _ kc p.bs p.sa 32 p.cap w rfl h32.symm hd hp hT).mono ?_
  intro e w' hO
  have hps := (pOf_self (l := cvs ks) (i := i) (by rw [cvs_length]; exact hi)).1
  rw [hpd] at hO
  refine ⟨?_, hO.below⟩
  rcases hO.out with ⟨ec, _, h | h⟩ | ⟨_, _, ra, rc, ds, hs, he, hH, hb, hL, hf⟩
  · rw [hF] at h; cases h.1
  · omega
  · have hG : HisG (cvs ks) (cvAt (cvs ks) i).d ds hs := ⟨hH, hb⟩
    refine ⟨ra, rc, ds, he, hL, ⟨hs, hG⟩, hf, ?_, ?_⟩
    · rw [hG.len]
      have hin : cvAt (cvs ks) i ∈ hs := (hH.mem _).2 ⟨i, by rw [cvs_length]; exact hi, sel_self (by rw [cvs_length]; exact hi), rfl⟩
      exact List.length_pos_of_mem hin
    · rw [hG.len, ← cvs_length ks]; exact hist_len hH
set_option maxRecDepth 100000 in
/-- What History refuses: what is no digest. -/
theorem his_none (ks : List Ct) (ka : Option Addr) (kc n : Nat) (bs : List Int) (sa : Option Addr) (cap : Nat) (w : World) (hF : dagF (cvs ks) = 0) (hd : DagAt w ka kc ks) (hn : n = bs.length) (hs : SliceAt w sa cap bs) (hu : ∀ x ∈ bs, 0 ≤ x ∧ x ≤ 255) (hl : bs.length ≠ 32) (hT : Tabs w) :
    Calls Tryd.prog 36 #[.agg #[.slice ka ks.length kc], .slice sa n cap] w fun e w' => e = .returned (.tuple #[.slice none 0 0, .int .i64 8]) ∧ Below w.heap.size w w' := by
  refine (history_any ks ka _ kc bs sa n cap w rfl hn hd hs hT).mono ?_
  intro e w' hO
  have hps := pOf_short (l := cvs ks) hu hl
  refine ⟨?_, hO.below⟩
  rcases hO.out with ⟨ec, he, h | h⟩ | ⟨_, h2, _⟩
  · rw [hF] at h; cases h.1
  · rw [he, h.2.2]
  · omega
end Go.Proofs.YtbmodfegcmaieaaDoor

namespace Go.Proofs.YtbmodfegcmaieaaDoor
open Go.RowKit Go.WideMaps Go.Maps

set_option maxRecDepth 100000 in
theorem snoc_indB {α : Type} {P : List α → Prop} (h0 : P []) (hs : ∀ l x, P l → P (l ++ [x])) : ∀ l, P l := fun l => by
  have : ∀ l : List α, P l.reverse := by
    intro l
    induction l with
    | nil => exact h0
    | cons x l ih => rw [List.reverse_cons]; exact hs _ _ ih
  simpa using this l.reverse
/-- An element of the map stands for itself. -/
def tokE (v : Value) : Option (DataW Value × List MemPlace) := some (.held v, [])
/-- The map of batches by their digests. -/
def heldD (bl : List Bc) : DataW Value := bl.foldl (fun D b => D.put (keyS (bstr b.v.d)) (.held b.val)) (.map [])
set_option maxRecDepth 100000 in
theorem heldD_snoc (bl : List Bc) (b : Bc) : heldD (bl ++ [b]) = (heldD bl).put (keyS (bstr b.v.d)) (.held b.val) := by simp [heldD, List.foldl_append]
set_option maxRecDepth 100000 in
theorem heldD_map : ∀ bl : List Bc, IsMap (heldD bl) := by
  refine snoc_indB isMap_empty (fun l x h => ?_)
  rw [heldD_snoc]; exact h.put _ _
set_option maxRecDepth 100000 in
theorem keyS_lit (s : ByteArray) : WideAt.IsKeyLit (keyS s) := trivial
def bws (bl : List Bc) : List BW := bl.map (·.v)
set_option maxRecDepth 100000 in
theorem bws_length (bl : List Bc) : (bws bl).length = bl.length := by simp [bws]
set_option maxRecDepth 100000 in
theorem hasB_snoc (l : List BW) (b : BW) (d : List Int) : hasB (l ++ [b]) d = (hasB l d || decide (bstr b.d = bstr d)) := by simp [hasB]
set_option maxRecDepth 100000 in
theorem held_has (d : List Int) : ∀ bl : List Bc, Maps.has (heldD bl) (keyS (bstr d)) = hasB (bws bl) d := by
  refine snoc_indB rfl (fun l x h => ?_)
  have e : bws (l ++ [x]) = bws l ++ [x.v] := by simp [bws]
  rw [heldD_snoc, e, hasB_snoc]
  by_cases hx : bstr x.v.d = bstr d
  · rw [hx, has_put_same (heldD_map l) (keyS_lit _)]; simp
  · rw [has_put_other (fun e => hx (keyS_inj e).symm), h]; simp [hx]
set_option maxRecDepth 100000 in
theorem held_none {bl : List Bc} {d : List Int} (h : hasB (bws bl) d = false) (z : DataW Value) : (heldD bl).atKey (keyS (bstr d)) z = z := atKey_of_not_has (by rw [held_has]; exact h) z
/-- The batch of a digest, in memory. -/
def bcOf (l : List Bc) (d : List Int) : Option Bc := l.find? fun b => decide (bstr b.v.d = bstr d)
set_option maxRecDepth 100000 in
theorem bcOf_bOf (l : List Bc) (d : List Int) : (bcOf l d).map (·.v) = bOf (bws l) d := by
  induction l with
  | nil => rfl
  | cons x r ih =>
    simp only [bcOf, bOf, bws, List.map_cons, List.find?_cons] at ih ⊢
    cases decide (bstr x.v.d = bstr d)
    · exact ih
    · rfl
set_option maxRecDepth 100000 in
theorem held_at {d : List Int} (z : DataW Value) : ∀ (bl : List Bc), bl.Pairwise (fun a b => bstr a.v.d ≠ bstr b.v.d) → ∀ b, bcOf bl d = some b → (heldD bl).atKey (keyS (bstr d)) z = .held b.val := by
  refine snoc_indB (fun _ b h => by cases h) (fun l x h hp b hb => ?_)
  rw [List.pairwise_append] at hp
  rw [heldD_snoc]
  by_cases hx : bstr x.v.d = bstr d
  · rw [hx, atKey_put_same (heldD_map l) (keyS_lit _)]
    have hn : bcOf l d = none := by
      rw [bcOf, List.find?_eq_none]
      intro c hc h2
      exact hp.2.2 c hc x (by simp) ((of_decide_eq_true h2).trans hx.symm)
    rw [bcOf, List.find?_append] at hb
    rw [bcOf] at hn
    rw [hn] at hb
    have : some x = some b := by simpa [hx] using hb
    cases this; rfl
  · rw [atKey_put_other (fun e => hx (keyS_inj e).symm)]
    refine h hp.1 b ?_
    rw [bcOf, List.find?_append] at hb
    rw [bcOf]
    cases hl : l.find? fun b => decide (bstr b.v.d = bstr d) with
    | some c => rw [hl] at hb; simpa using hb
    | none => rw [hl] at hb; simp [hx] at hb
set_option maxRecDepth 100000 in
theorem bsF_apart {bl : List Bc} (h : bsF (bws bl) = 0) : bl.Pairwise (fun a b => bstr a.v.d ≠ bstr b.v.d) := by
  rw [List.pairwise_iff_getElem]
  intro i j hi hj hij e
  have hb := (bsF_zero h).2 j (by rw [bws_length]; exact hj)
  simp only [badB, Bool.or_eq_false_iff] at hb
  have h2 := hb.2
  have e1 : (bws bl).getD j ⟨0, 0, []⟩ = (bl[j]).v := by simp [bws, hj]
  rw [e1, hasB, List.any_eq_false] at h2
  have hm : (bl[i]).v ∈ (bws bl).take j := by
    rw [List.mem_take_iff_getElem]
    exact ⟨i, by rw [bws_length]; omega, by simp [bws]⟩
  exact h2 _ hm (by simp [e])
set_option maxRecDepth 100000 in
theorem wpList_lookup_tok {P : Program} (w : World) {ops : Array Oper} {rest : List Oper} {o : Oper} {a : Act} {Q : Exit → Act → World → Prop} (hg : o.guard = none) (m x : Operand) (t : TypeId) (hop : o.op = Op.lookup t m x true)
    (k e : TypeId) (K : Keyed P k) (ht : P.underlying t = some (.map k e)) {z : Value} (hz : (zeroValue e).run P w = .ok z w) (b n : Nat) (D : DataW Value)
    (hm : a.eval m = .map (some b)) (hown : w.ownsMap P k tokE b n D) (key : Value) (kl : Lit) (hx : a.eval x = key) (hkey : keyOf P k key = some kl) (V : Value) (hat : D.atKey kl (.held z) = .held V)
    (hK : wpList P ops Q rest (a.put o.dst (.tuple #[V, .bool (Maps.has D kl)])) w) :
    wpList P ops Q (o :: rest) a w :=
  wpList_lookup_own_ok w hg m x t hop k e K ht tokE hz (.held z) [] rfl b n D hm hown key kl hx hkey (fun v ps hv => by
    have h1 : some (DataW.held v, ([] : List MemPlace)) = some (D.atKey kl (.held z), ps) := hv
    rw [hat] at h1
    injection h1 with h1
    injection h1 with h1 h2
    injection h1 with h1
    subst h1
    exact hK)
set_option maxRecDepth 100000 in
theorem zeroB (w : World) : (zeroValue 42).run Tryd.prog w = .ok (.agg #[.int .i64 0, .int .i64 0, .slice none 0 0]) w := by kernel_rfl
set_option maxRecDepth 100000 in
theorem makeMapB (n : Int) (w : World) : (Instr.makeMap 37 (some (.int .i64 n))).run Tryd.prog w = .ok (.map (some w.heap.size)) (w.alloc (.map #[] 0)) := by
  simp [Instr.makeMap, run_underlying Tryd.underlying37, Result.andThen]
  rfl
set_option maxRecDepth 100000 in
theorem ownsMap_below {H : Type} {P : Program} {k : TypeId} {R : Value → Option (DataW H × List MemPlace)} {w w' : World} {b n : Nat} {D : DataW H} (h : w.ownsMap P k R b n D) (hb : Below w.heap.size w w') : w'.ownsMap P k R b n D := by
  have hl := h.lt
  obtain ⟨es, clock, h1, F, hs, hD⟩ := h
  exact ⟨es, clock, (hb.block _ hl).trans h1, F, hs, hD⟩
/-- What byDigest answers. -/
structure BydO (w w' : World) (e : Ending) (bl : List Bc) : Prop where
  below : Below w.heap.size w w'
  out : (bsF (bws bl) = 12 ∧ e = .returned (.tuple #[.map none, .int .i64 12])) ∨ (bsF (bws bl) = 0 ∧ ∃ b, e = .returned (.tuple #[.map (some b), .int .i64 0]) ∧ w.heap.size ≤ b ∧ w'.ownsMap Tryd.prog 9 tokE b bl.length (heldD bl))
set_option maxRecDepth 100000 in
theorem badB_at {bl : List Bc} {m : Nat} (hm : m < bl.length) : badB (bws bl) m = (decide ((bl[m]).v.f ≠ 0) || hasB (bws (bl.take m)) (bl[m]).v.d) := by
  have e1 : (bws bl).getD m ⟨0, 0, []⟩ = (bl[m]).v := by simp [bws, hm]
  have e2 : (bws bl).take m = bws (bl.take m) := by simp [bws, List.map_take]
  rw [badB, e1, e2]
set_option maxRecDepth 100000 in
set_option maxHeartbeats 4000000 in
theorem byDigest_any (bl : List Bc) (sa : Option Addr) (n cap : Nat) (w : World) (hn : n = bl.length) (hs : BcsAt w sa bl) (hT : Tabs w) :
    Calls Tryd.prog 28 #[.slice sa n cap] w fun e w' => BydO w w' e bl := by
  subst hn
  have HT : Hid (∀ W : World, Below w.heap.size w W → Tabs W) := by
    show ∀ W, _
    exact fun W hW => hT.below hW
  have HS : Hid (∀ W : World, Below w.heap.size w W → BcsAt W sa bl) := by
    show ∀ W, _
    exact fun W hW => hs.below hW
  clear hT hs
  by_cases hlong : 800 < bl.length
  · have HL : Hid (bsF (bws bl) = 12) := bsF_long (by rw [bws_length]; exact hlong)
    have hI : (bl.length : Int) > 800 := by omega
    go_enter Tryd.func28, Tryd.ntmps28
    go_wp2_with fail
    go_ret2
    exact ⟨Below.refl _ _, .inl ⟨HL.out, rfl⟩⟩
  · have hI : ¬ ((bl.length : Int) > 800) := by omega
    have hmm := makeMapB
    go_enter Tryd.func28, Tryd.ntmps28
    go_wp2_with fail
    have hA0 := (Below.refl w.heap.size w).alloc (Nat.le_refl _) (.map #[] 0)
    have hown0 := World.ownsMap_made w Tryd.prog 9 tokE
    generalize w.alloc (.map #[] 0) = W0 at hA0 hown0 ⊢
    go_loopw [19] (fun j wr => ∃ m : Nat, m ≤ bl.length ∧ j = .int .i64 m ∧ Hid (∀ k, k < m → badB (bws bl) k = false) ∧ wr.ownsMap Tryd.prog 9 tokE w.heap.size m (heldD (bl.take m)) ∧ Below w.heap.size w wr) (fun j _ => bl.length - (intOf j).toNat)
    case atStart => exact ⟨0, Nat.zero_le _, rfl, (show ∀ k, k < 0 → _ from fun k hk => by omega), hown0, hA0⟩
    case round =>
      clear hown0 hA0
      obtain ⟨m, hm, rfl, HG, hown, hb⟩ := hrel
      by_cases hlt : m < bl.length
      · have hltI : (m : Int) < bl.length := by omega
        obtain ⟨sb, so, rfl, c0, c1, c2⟩ := (HS.out wr hb).at m hlt
        have hx := (HS.out wr hb).each _ (List.getElem_mem hlt)
        have HBD : Hid (badB (bws bl) m = (decide ((bl[m]).v.f ≠ 0) || hasB (bws (bl.take m)) (bl[m]).v.d)) := badB_at hlt
        have HST : Hid (heldD (bl.take (m + 1)) = (heldD (bl.take m)).put (keyS (bstr (bl[m]).v.d)) (.held (bl[m]).val)) := by
          show _ = _
          rw [List.take_succ_eq_append_getElem hlt, heldD_snoc]
        generalize bl[m] = x at c0 c1 c2 hx HBD HST
        have HHAS : Hid (Maps.has (heldD (bl.take m)) (keyS (bstr x.v.d)) = hasB (bws (bl.take m)) x.v.d) := held_has _ _
        have HNON : Hid (hasB (bws (bl.take m)) x.v.d = false → ∀ z, (heldD (bl.take m)).atKey (keyS (bstr x.v.d)) z = z) := by
          show _ → _
          exact fun h z => held_none h z
        have HHIT : Hid (hasB (bws (bl.take m)) x.v.d = true → ∃ a1 a2 a3 a4 a5, ∀ z, (heldD (bl.take m)).atKey (keyS (bstr x.v.d)) z = .held (.agg #[.int .i64 a1, .int .i64 a2, .slice a3 a4 a5])) := by
          show _ → _
          intro h
          have hap : (bl.take m).Pairwise (fun a b => bstr a.v.d ≠ bstr b.v.d) := by
            refine bsF_apart (bsF_ok ?_ (fun k hk => ?_))
            · rw [bws_length, List.length_take]; omega
            · rw [bws_length, List.length_take] at hk
              have h1 := HG.out k (by omega)
              rw [badB_at (by rw [List.length_take]; omega)]
              rw [badB_at (by omega)] at h1
              rw [List.take_take, List.getElem_take]
              rwa [show min k m = k by omega]
          have hs : (bcOf (bl.take m) x.v.d).isSome = true := by
            have h1 := congrArg Option.isSome (bcOf_bOf (bl.take m) x.v.d)
            rw [bOf_some, h, Option.isSome_map] at h1
            exact h1
          obtain ⟨b, hb⟩ := Option.isSome_iff_exists.1 hs
          exact ⟨_, _, _, _, _, fun z => held_at z _ hap b hb⟩
        generalize heldD (bl.take m) = D at hown HST HHAS HNON HHIT
        have hA2 := (Below.refl wr.heap.size wr).alloc (Nat.le_refl _) (.cells #[.int .i64 x.v.au, .int .i64 x.v.nu, .slice x.ta x.v.ss.length x.tc] 42)
        have q0 := heap_alloc_new wr (.cells #[.int .i64 x.v.au, .int .i64 x.v.nu, .slice x.ta x.v.ss.length x.tc] 42)
        have hown2 := hown.alloc (.cells #[.int .i64 x.v.au, .int .i64 x.v.nu, .slice x.ta x.v.ss.length x.tc] 42)
        go_upto_region 7 with fail
        generalize wr.alloc (.cells #[.int .i64 x.v.au, .int .i64 x.v.nu, .slice x.ta x.v.ss.length x.tc] 42) = W2 at hA2 q0 hown2 ⊢
        generalize wr.heap.size = X at q0 ⊢
        have hB2 := hb.trans (hA2.mono hb.size)
        have hx2 := hx.below hA2
        have k0 := cells_at q0 0 _ rfl
        have k1 := cells_at q0 1 _ rfl
        have k2 := cells_at q0 2 _ rfl
        clear c0 c1 c2 hown
        cases hf : decide (x.v.f ≠ 0)
        case true =>
          have hne := of_decide_eq_true hf
          have HBB : Hid (bsF (bws bl) = 12) := bsF_bad (by rw [bws_length]; exact hlt) (by rw [HBD.out, hf]; rfl)
          clear hf
          go_wp2_with fail
          refine (batchDigest_bad x.v.au x.v.nu x.ta _ x.tc x.v.ss x.v.f W2 rfl (Nat.le_trans hx2.le hx2.max) hx2.strs rfl hne).mono ?_
          rintro e w3 ⟨he, hb3⟩
          subst he
          dsimp only
          have hB3 := hB2.trans (hb3.mono hB2.size)
          have hnb : (x.v.f != 0) = true := by simpa using hne
          clear hne
          go_wp2_with fail
          go_ret2
          exact ⟨hB3, .inl ⟨HBB.out, rfl⟩⟩
        case false =>
          have h0 : x.v.f = 0 := Decidable.not_not.1 (of_decide_eq_false hf)
          obtain ⟨y1, y2, y3, y4⟩ := batchF_ok h0
          have HDG := batchDigest_ok x.v.au x.v.nu x.ta _ x.tc x.v.ss W2 rfl hx2.strs h0 y1 (by omega) y3.2 (fun s hs => (y4 s hs).2) hx2.lt (HT.out W2 hB2)
          have HBD2 : Hid (badB (bws bl) m = hasB (bws (bl.take m)) x.v.d) := by show _ = _; rw [HBD.out, hf]; rfl
          clear hf HBD h0 y1 y2 y3 y4
          go_wp2_with fail
          refine HDG.mono ?_
          rintro e w3 ⟨dg, he, hgd, hb3, hsl3⟩
          subst he
          dsimp only
          have hB3 := hB2.trans (hb3.mono hB2.size)
          have q3 := (hb3.block _ (lt_of_heap q0)).trans q0
          have hown3 := ownsMap_below hown2 hb3
          change SliceAt w3 (some ⟨dg, 0, none⟩) 32 x.v.d at hsl3
          have h32 : x.v.d.length = 32 := tagD_length _ _
          have htx := run_text w3 (some ⟨dg, 0, none⟩) 32 32 x.v.d h32.symm hsl3
          have hkey : keyOf Tryd.prog 9 (.string (bstr x.v.d)) = some (keyS (bstr x.v.d)) := keyOf_string_mk Tryd.underlying9 (by rw [bstr_sz, h32]; decide)
          clear k0 k1 k2 q0 hown2 h32 HDG hx hx2
          cases hh : hasB (bws (bl.take m)) x.v.d
          case true =>
            have HBB : Hid (bsF (bws bl) = 12) := bsF_bad (by rw [bws_length]; exact hlt) (by rw [HBD2.out, hh])
            have HB : Hid (Maps.has D (keyS (bstr x.v.d)) = true) := by show _ = _; rw [HHAS.out, hh]
            obtain ⟨a1, a2, a3, a4, a5, hat⟩ := HHIT.out hh
            have HAT : Hid (∀ z, D.atKey (keyS (bstr x.v.d)) z = .held (.agg #[.int .i64 a1, .int .i64 a2, .slice a3 a4 a5])) := hat
            clear hh hat HHIT HNON HHAS HBD2 HST
            go_wp2_with (at_lookup; refine wpList_lookup_tok _ rfl _ _ 37 rfl 9 42 keyT Tryd.underlying37 (zeroB _) w.heap.size m _ rfl hown3 _ _ rfl hkey _ (HAT.out _) ?_; rw [HB.out])
            go_ret2
            exact ⟨hB3.alloc hB3.size _, .inl ⟨HBB.out, rfl⟩⟩
          case false =>
            have HB : Hid (Maps.has D (keyS (bstr x.v.d)) = false) := by show _ = _; rw [HHAS.out, hh]
            have HGN : Hid (∀ k, k < m + 1 → badB (bws bl) k = false) := by
              show ∀ k, _
              intro k hk
              rcases Nat.lt_or_ge k m with g | g
              · exact HG.out k g
              · obtain rfl : k = m := by omega
                rw [HBD2.out, hh]
            have HAT : Hid (∀ z, D.atKey (keyS (bstr x.v.d)) z = z) := HNON.out hh
            clear hh HHIT HNON HHAS HBD2
            go_upto_region 13 with (at_lookup; refine wpList_lookup_tok _ rfl _ _ 37 rfl 9 42 keyT Tryd.underlying37 (zeroB _) w.heap.size m _ rfl hown3 _ _ rfl hkey _ (HAT.out _) ?_; rw [HB.out])
            have hA4 := (Below.refl w3.heap.size w3).alloc (Nat.le_refl _) (.cells #[.int .i64 0, .int .i64 0, .slice none 0 0] 42)
            have hown4 := hown3.alloc (.cells #[.int .i64 0, .int .i64 0, .slice none 0 0] 42)
            have q4 := (hA4.block _ (lt_of_heap q3)).trans q3
            have hsl4 := hsl3.below hA4
            have hB4 := hB3.trans (hA4.mono hB3.size)
            clear htx
            generalize w3.alloc (.cells #[.int .i64 0, .int .i64 0, .slice none 0 0] 42) = W4 at hA4 hown4 q4 hsl4 hB4 ⊢
            have htx := run_text W4 (some ⟨dg, 0, none⟩) 32 32 x.v.d (tagD_length _ _).symm hsl4
            have k0 := cells_at q4 0 _ rfl
            have k1 := cells_at q4 1 _ rfl
            have k2 := cells_at q4 2 _ rfl
            go_wp2_with (at_mapUpdate; refine wpList_mapUpdate_own _ rfl _ _ _ 37 rfl 9 42 keyT Tryd.underlying37 tokE w.heap.size m _ rfl hown4 (by unfold maxLen; omega) _ _ _ rfl rfl hkey _ [] rfl ?_; intro w5 hown5 hgrow5)
            have hB5 := Below.grown hB4 hgrow5 hB4.size (fun j hj => by cases hj; exact Nat.le_refl _)
            go_roundw
            case rel => exact ⟨m + 1, by omega, by go_num, HGN, by rw [HST.out]; exact hown5, hB5⟩
            case measure => simp [intOf]; omega
      · obtain rfl : m = bl.length := by omega
        rw [List.take_length] at hown
        have HOK : Hid (bsF (bws bl) = 0) := bsF_ok (by rw [bws_length]; omega) (fun k hk => HG.out k (by rw [bws_length] at hk; exact hk))
        go_wp2_with fail
        go_ret2
        exact ⟨hb, .inr ⟨HOK.out, _, rfl, Nat.le_refl _, hown⟩⟩
set_option maxRecDepth 100000 in
theorem checkBatches_any (bl : List Bc) (sa : Option Addr) (n cap : Nat) (w : World) (hn : n = bl.length) (hs : BcsAt w sa bl) (hT : Tabs w) :
    Calls Tryd.prog 13 #[.slice sa n cap] w fun e w' => e = .returned (.int .i64 (bsF (bws bl))) ∧ Below w.heap.size w w' := by
  subst hn
  have HX := byDigest_any bl sa _ cap w rfl hs hT
  clear hs hT
  go_enter Tryd.func13, Tryd.ntmps13
  go_wp2_with fail
  refine HX.mono ?_
  intro e w1 hO
  have hb := hO.below
  rcases hO.out with ⟨h1, he⟩ | ⟨h1, b, he, _, _⟩
  · have H1 : Hid _ := h1
    subst he
    dsimp only
    clear h1 hO
    go_wp2_with fail
    go_ret
    exact ⟨ret_int H1.out.symm, hb⟩
  · have H1 : Hid _ := h1
    subst he
    dsimp only
    clear h1 hO
    go_wp2_with fail
    go_ret
    exact ⟨ret_int H1.out.symm, hb⟩
end Go.Proofs.YtbmodfegcmaieaaDoor

namespace Go.Proofs.YtbmodfegcmaieaaDoor
open Go.ChangeShapes Go.WideShapes Go.ChangeAt Go.RowKit Go.Deep

/-- What is read of a slice of texts that came in. -/
structure TextsAt (w : World) (sa : Option Addr) (cap : Nat) (ss : List ByteArray) : Prop where
  le : ss.length ≤ cap
  reach : cap * 16 ≤ 140737488351232
  nil : sa = none → cap = 0
  strs : StrsAt w sa ss
set_option maxRecDepth 100000 in
theorem TextsAt.below {w w' : World} {sa : Option Addr} {cap : Nat} {ss : List ByteArray} (h : TextsAt w sa cap ss) (hb : Below w.heap.size w w') : TextsAt w' sa cap ss := ⟨h.le, h.reach, h.nil, h.strs.below hb⟩

set_option maxRecDepth 100000 in
theorem cStr : Tryd.prog.cellsOf 9 = 1 := by kernel_rfl
set_option maxRecDepth 100000 in
theorem bStr : Tryd.prog.bytesOf 9 = 16 := by kernel_rfl
set_option maxRecDepth 100000 in
theorem open_texts_cells {H : Type} {enc : TypeId × Value → H} {W : World} {fuel : Nat} {cs : List Value} {x : DataW H × List MemPlace}
    (hf : DataW.trod enc Tryd.prog W 0 (fun _ => true) true fuel 40 cs = some x) (hfit : ∀ n ∈ x.1.weights Tryd.prog 40, n ≤ reachBytes) :
    ∃ sa cap ss, cs = [.slice sa (List.length ss) cap] ∧ TextsAt W sa cap ss := by
  rcases open_strs Tryd.underlying40 Tryd.underlying9 cStr hf with ⟨rfl, _⟩ | ⟨a, len, cap, m, Sx, rfl, _, hl, hm, hmm, rfl, hc⟩
  · exact ⟨none, 0, [], rfl, ⟨Nat.le_refl _, by decide, fun _ => rfl, ⟨.inl rfl, fun s hs => by cases hs⟩⟩⟩
  · simp only [if_true] at hmm
    subst hmm
    have hw := hfit ((((List.range len).map fun i => (DataW.lit (.string (Sx i).data.toList) : DataW H)).length + ((List.range (m - len)).map fun j => (DataW.lit (.string (Sx (len + j)).data.toList) : DataW H)).length) * Tryd.prog.bytesOf 9) (by simp [DataW.weights, Tryd.underlying40])
    rw [bStr] at hw
    simp [reachBytes] at hw
    refine ⟨some a, m, (List.range len).map Sx, by simp, ⟨by simpa using hl, by omega, (fun e => by cases e), ⟨?_, ?_⟩⟩⟩
    · rcases Nat.eq_zero_or_pos len with h0 | h0
      · subst h0; exact .inl rfl
      · right
        have h9 := (hc 0 (by omega)).1
        obtain ⟨b, off, rfl⟩ : ∃ b off, a = ⟨b, off, none⟩ := by
          cases a with
          | mk b off spot =>
            cases spot with
            | none => exact ⟨b, off, rfl⟩
            | some s => simp [World.cell?, Addr.add] at h9; split at h9 <;> cases h9
        refine ⟨b, off, rfl, fun j hj => ?_⟩
        have hj' : j < len := by simpa using hj
        have := (hc j (by omega)).1
        rw [add_off] at this
        rw [this]
        simp [hj']
    · intro s hs
      simp at hs
      obtain ⟨j, hj, rfl⟩ := hs
      exact (hc j (by omega)).2
end Go.Proofs.YtbmodfegcmaieaaDoor

namespace Go.Proofs.YtbmodfegcmaieaaDoor
open Go.RowKit

/-- Is a text among them? -/
def inS (s : ByteArray) (ss : List ByteArray) : Bool := ss.any fun x => decide (x = s)
set_option maxRecDepth 100000 in
theorem inS_true {s : ByteArray} {ss : List ByteArray} (h : s ∈ ss) : inS s ss = true := by simp [inS, h]
set_option maxRecDepth 100000 in
theorem inS_false {s : ByteArray} {ss : List ByteArray} (h : s ∉ ss) : inS s ss = false := by
  rw [inS, List.any_eq_false]
  intro x hx
  simp only [decide_eq_true_eq]
  exact fun e => h (e ▸ hx)
/-- Transactions that may be, all different. -/
def poolOk (ss : List ByteArray) : Bool := ss.all txOk && decide ss.Nodup
/-- P7.1 -/
def poolF (nx : Int) (ss : List ByteArray) : Int := if ¬ (1 ≤ nx ∧ nx ≤ 1048577) ∨ 40 < ss.length then 12 else if poolOk ss = true then 0 else 12
set_option maxRecDepth 100000 in
theorem poolOk_iff {ss : List ByteArray} : poolOk ss = true ↔ (∀ s ∈ ss, txOk s = true) ∧ ss.Nodup := by simp [poolOk]
set_option maxRecDepth 100000 in
theorem getD_at {ss : List ByteArray} {q : Nat} (hq : q < ss.length) : ss.getD q ByteArray.empty = ss[q] := by simp [List.getD, hq]
set_option maxRecDepth 100000 in
theorem mem_take_at {ss : List ByteArray} {q : Nat} {s : ByteArray} : s ∈ ss.take q ↔ ∃ i, ∃ h : i < ss.length, i < q ∧ ss[i] = s := by
  rw [List.mem_iff_getElem]
  constructor
  · rintro ⟨i, hi, rfl⟩
    have hi' : i < q ∧ i < ss.length := by rw [List.length_take] at hi; omega
    exact ⟨i, hi'.2, hi'.1, by simp⟩
  · rintro ⟨i, h, hiq, rfl⟩
    exact ⟨i, by rw [List.length_take]; omega, by simp⟩
set_option maxRecDepth 100000 in
theorem poolOk_of {ss : List ByteArray} (h : ∀ q, q < ss.length → txOk (ss.getD q ByteArray.empty) = true ∧ ss.getD q ByteArray.empty ∉ ss.take q) : poolOk ss = true := by
  refine poolOk_iff.2 ⟨fun s hs => ?_, ?_⟩
  · obtain ⟨i, hi, rfl⟩ := List.mem_iff_getElem.1 hs
    have := (h i hi).1
    rwa [getD_at hi] at this
  · rw [List.Nodup, List.pairwise_iff_getElem]
    intro i j hi hj hij he
    refine (h j hj).2 ?_
    rw [getD_at hj, mem_take_at]
    exact ⟨i, hi, hij, he⟩
set_option maxRecDepth 100000 in
theorem poolOk_no_tx {ss : List ByteArray} {q : Nat} (hq : q < ss.length) (h : txOk (ss.getD q ByteArray.empty) = false) : poolOk ss = false := by
  rw [Bool.eq_false_iff]
  intro e
  have := (poolOk_iff.1 e).1 ss[q] (List.getElem_mem hq)
  rw [getD_at hq] at h
  rw [h] at this
  cases this
set_option maxRecDepth 100000 in
theorem poolOk_no_in {ss : List ByteArray} {q : Nat} (hq : q < ss.length) (h : ss.getD q ByteArray.empty ∈ ss.take q) : poolOk ss = false := by
  rw [Bool.eq_false_iff]
  intro e
  rw [getD_at hq, mem_take_at] at h
  obtain ⟨i, hi, hiq, he⟩ := h
  have := (poolOk_iff.1 e).2
  rw [List.Nodup, List.pairwise_iff_getElem] at this
  exact this i q hi hq hiq he
set_option maxRecDepth 100000 in
theorem poolOk_nil : poolOk [] = true := by decide
set_option maxRecDepth 100000 in
theorem poolOk_snoc {ss : List ByteArray} {t : ByteArray} (h : poolOk ss = true) (ht : txOk t = true) (hn : t ∉ ss) : poolOk (ss ++ [t]) = true := by
  obtain ⟨h1, h2⟩ := poolOk_iff.1 h
  refine poolOk_iff.2 ⟨fun s hs => ?_, ?_⟩
  · rcases List.mem_append.1 hs with g | g
    · exact h1 s g
    · obtain rfl : s = t := by simpa using g
      exact ht
  · rw [List.nodup_append]
    refine ⟨h2, by simp, ?_⟩
    intro a ha b hb
    obtain rfl : b = t := by simpa using hb
    exact fun e => hn (e ▸ ha)
set_option maxRecDepth 100000 in
theorem poolOk_drop {ss : List ByteArray} (h : poolOk ss = true) (k : Nat) : poolOk (ss.drop k) = true := by
  obtain ⟨h1, h2⟩ := poolOk_iff.1 h
  exact poolOk_iff.2 ⟨fun s hs => h1 s (List.mem_of_mem_drop hs), h2.sublist (List.drop_sublist k ss)⟩
/-- What is read of a slice of texts: it came in, or a call made it. -/
structure TxsAt (w : World) (sa : Option Addr) (cap : Nat) (ss : List ByteArray) : Prop where
  le : ss.length ≤ cap
  max : cap ≤ maxLen
  nil : sa = none → cap = 0
  strs : StrsAt w sa ss
set_option maxRecDepth 100000 in
theorem TxsAt.below {w w' : World} {sa : Option Addr} {cap : Nat} {ss : List ByteArray} (h : TxsAt w sa cap ss) (hb : Below w.heap.size w w') : TxsAt w' sa cap ss := ⟨h.le, h.max, h.nil, h.strs.below hb⟩
set_option maxRecDepth 100000 in
theorem TextsAt.txs {w : World} {sa : Option Addr} {cap : Nat} {ss : List ByteArray} (h : TextsAt w sa cap ss) : TxsAt w sa cap ss := ⟨h.le, by have := h.reach; unfold maxLen; omega, h.nil, h.strs⟩
set_option maxRecDepth 100000 in
theorem txsAt_of_owns {w : World} {base n : Nat} {v : Value} {ss : List ByteArray} (h : w.ownsRow base 9 1 v n (sv ss)) (hz : ∀ s ∈ ss, s.size ≤ maxLen) : ∃ ra rc, v = .slice ra ss.length rc ∧ n = ss.length ∧ TxsAt w ra rc ss ∧ ∀ sb so, ra = some ⟨sb, so, none⟩ → base ≤ sb := by
  obtain ⟨ra, rc, rfl, hl, hs, hf⟩ := strsAt_of_owns h hz
  refine ⟨ra, rc, by rw [hl], hl, ?_, hf⟩
  rcases h.2 with ⟨e, hn⟩ | ⟨g, cap, cur, e, _, _, h1, h2, _, _⟩
  · cases e
    exact ⟨by omega, by decide, fun _ => rfl, hs⟩
  · cases e
    exact ⟨by omega, h2, (fun e => by cases e), hs⟩
set_option maxRecDepth 100000 in
theorem StrsAt.take {w : World} {sa : Option Addr} {ss : List ByteArray} (h : StrsAt w sa ss) (k : Nat) : StrsAt w sa (ss.take k) := by
  refine ⟨?_, fun s hs => h.size s (List.mem_of_mem_take hs)⟩
  rcases h.cells with h | ⟨sb, so, rfl, hc⟩
  · subst h; simp
  · refine .inr ⟨sb, so, rfl, fun j hj => ?_⟩
    have hj' : j < k ∧ j < ss.length := by rw [List.length_take] at hj; omega
    rw [hc j hj'.2]
    simp [List.getD, hj'.1]
set_option maxRecDepth 100000 in
theorem StrsAt.drop {w : World} {sb so : Nat} {ss : List ByteArray} (h : StrsAt w (some ⟨sb, so, none⟩) ss) (k : Nat) : StrsAt w (some ⟨sb, so + k, none⟩) (ss.drop k) := by
  refine ⟨?_, fun s hs => h.size s (List.mem_of_mem_drop hs)⟩
  rcases h.cells with h | ⟨b, o, e, hc⟩
  · subst h; simp
  · cases e
    refine .inr ⟨sb, so + k, rfl, fun j hj => ?_⟩
    have hj' : k + j < ss.length := by simp at hj; omega
    rw [Nat.add_assoc, hc (k + j) hj']
    simp [List.getD]
end Go.Proofs.YtbmodfegcmaieaaDoor

namespace Go.Proofs.YtbmodfegcmaieaaDoor
open Go.RowKit

set_option maxRecDepth 100000 in
theorem sv_app (xs ys : List ByteArray) : sv (xs ++ ys) = sv xs ++ sv ys := by simp [sv]
set_option maxRecDepth 100000 in
theorem txs_cells {w : World} {ad : Addr} {cap : Nat} {cs : List ByteArray} (hp : TxsAt w (some ad) cap cs) : ∀ j u, (sv cs)[j]? = some u → w.cell? (ad.add j) = some u := by
  intro j u hu
  rcases hp.strs.cells with hb | ⟨sb, so, e, hb⟩
  · subst hb; simp [sv] at hu
  · cases e
    have hj : j < cs.length := by
      rcases Nat.lt_or_ge j cs.length with g | g
      · exact g
      · rw [List.getElem?_eq_none (by rw [sv_length]; exact g)] at hu; cases hu
    rw [add_off, hb j hj]
    simp [sv, hj] at hu
    simp [hj, hu]
set_option maxRecDepth 100000 in
/-- 'append(l, p...)': l a row that the call owns, p whatever slice of texts, nil too. -/
theorem wpList_append_txs {w : World} {ops : Array Oper} {rest : List Oper} {o : Oper} {a : Act} {Q : Exit → Act → World → Prop} (hgd : o.guard = none) (s x : Operand)
    (ho : o.op = .call { callee := .builtin .append, args := #[s, x], argTypes := #[40, 40] })
    (base : Nat) (v : Value) (n : Nat) (bs : List ByteArray) (hs : a.eval s = v) (hown : w.ownsRow base 9 1 v n (sv bs))
    (sa : Option Addr) (m cap : Nat) (cs : List ByteArray) (hx : a.eval x = .slice sa m cap) (hm : m = cs.length) (hp : TxsAt w sa cap cs)
    (hlen : (n + m) * 16 ≤ 140737488355328) (hbase : base ≤ w.heap.size)
    (h : ∀ v' w', w'.ownsRow base 9 1 v' (n + m) (sv (bs ++ cs)) → w.grownBy w' v.ownBlock → wpList Tryd.prog ops Q rest (a.put o.dst v') w') : wpList Tryd.prog ops Q (o :: rest) a w := by
  obtain ⟨i, hi, hz0, hz1, hz2⟩ := info_parts infoStr
  cases sa with
  | none =>
    obtain rfl := hp.nil rfl
    obtain rfl : cs = [] := List.eq_nil_of_length_eq_zero (by have := hp.le; omega)
    subst hm
    exact wpList_append_own_none hgd s x 40 ho base 9 i 1 Tryd.underlying40 hi v n (sv bs) hs hown hx (h v w (by simpa using hown) (World.grownBy.refl _ _))
  | some ad =>
    refine wpList_append_own w hgd s x 40 ho base 9 i (.string ByteArray.empty) 1 16 Tryd.underlying40 hi hz0 hz1 hz2 rfl (by decide) v n (sv bs) hs hown ad m cap (sv cs) hx (by rw [sv_length, hm]; omega) (txs_cells hp) (sv_one cs) (by unfold maxLen; omega) hlen hbase (fun v' w' h1 h2 _ => h v' w' (by rw [sv_app]; exact h1) h2)
end Go.Proofs.YtbmodfegcmaieaaDoor
