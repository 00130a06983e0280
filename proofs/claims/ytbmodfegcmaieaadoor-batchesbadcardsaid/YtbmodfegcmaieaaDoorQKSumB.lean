/- sheaveskeep.grownSum, of steps that make two unlike headers, or two unlike batches, of one digest. -/
import Derived.Test.YtbmodfegcmaieaaDoorQKSum
import Derived.Test.YtbmodfegcmaieaaDoorQDagP
import Derived.Test.YtbmodfegcmaieaaDoorQOneSumB
import Derived.Test.YtbmodfegcmaieaaDoorQGrowB
namespace Go.Proofs.YtbmodfegcmaieaaDoor
open Go.RowKit

def Bt.bc (b : Bt) : Bc := ⟨b.v.w, some ⟨b.tb, 0, none⟩, 2⟩
set_option maxRecDepth 100000 in
theorem bt_at {w : World} {b : Bt} (h : BtOk w b) (h1 : b.v.s1.size ≤ maxLen) (h2 : b.v.s2.size ≤ maxLen) : BcAt w b.bc := by
  refine ⟨⟨.inr ⟨b.tb, 0, rfl, fun j hj => ?_⟩, fun s hs => ?_⟩, Nat.le_refl _, (show 2 ≤ maxLen by decide), (fun e => by cases e), (fun sb so e => by cases e; exact lt_of_heap h)⟩
  · have hj : j < 2 := hj
    match j, hj with
    | 0, _ => exact cells_at h 0 _ rfl
    | 1, _ => exact cells_at h 1 _ rfl
  · have hs : s ∈ [b.v.s1, b.v.s2] := hs
    rcases List.mem_cons.1 hs with e | e
    · rw [e]; exact h1
    · rw [List.mem_singleton.1 e]; exact h2
def BtSm (b : Bt) : Prop := b.v.s1.size ≤ maxLen ∧ b.v.s2.size ≤ maxLen
set_option maxRecDepth 100000 in
theorem bts_small {l : List Stp} {k : Nat} {bl : List Bt} (h : bl.map (·.v) = bvTo l k) (hk : k ≤ 1000) : ∀ b ∈ bl, BtSm b := by
  intro b hb
  have hm : b.v ∈ bvTo l k := by rw [← h]; exact List.mem_map.2 ⟨b, hb, rfl⟩
  have := (batchF_ok (bvTo_f hk _ hm)).2.2.2
  exact ⟨by have := (this b.v.s1 (by simp [BV.w])).2; unfold maxLen; omega, by have := (this b.v.s2 (by simp [BV.w])).2; unfold maxLen; omega⟩
set_option maxRecDepth 100000 in
theorem bcs_of_bts {w : World} {sa : Option Addr} {bl : List Bt} (h : BtsAt w sa bl) (hz : ∀ b ∈ bl, BtSm b) : BcsAt w sa (bl.map Bt.bc) := by
  refine ⟨?_, fun b hb => ?_⟩
  · rcases h.cells with h | ⟨sb, so, e, hc⟩
    · left; rw [h]; rfl
    · refine .inr ⟨sb, so, e, fun j hj => ?_⟩
      have hj2 : j < bl.length := by simpa using hj
      obtain ⟨h0, h1, h2⟩ := hc j hj2
      simp only [List.getElem_map]
      exact ⟨h0, h1, h2⟩
  · obtain ⟨x, hx, rfl⟩ := List.mem_map.1 hb
    exact bt_at (h.each x hx) (hz x hx).1 (hz x hx).2
def bcv (bl : List Bt) : List BW := bl.map fun b => b.v.w
set_option maxRecDepth 100000 in
theorem bcv_at (bl : List Bt) (j : Nat) (hj : j < bl.length) : (bcAt (bl.map Bt.bc) j).v = (bcv bl).getD j ⟨0, 0, []⟩ := by
  rw [bcAt_get _ j (by simpa using hj)]
  simp [bcv, hj, Bt.bc]
set_option maxRecDepth 100000 in
theorem btv_app (a b : List Bt) : btv (a ++ b) = btv a ++ btv b := by
  induction a with
  | nil => rfl
  | cons x r ih => simp [btv, ih]
set_option maxRecDepth 100000 in
theorem step_more {w : World} {B k m : Nat} {xa : Option Addr} {xc : Nat} {lk mo : List Stp} {W : World} {sa ma : Option Addr} (ho : w.ownsRow B 86 3 (.slice xa (0 + k + m) xc) (0 + k + m) (stv ([] ++ lk ++ mo))) (hk : k = lk.length) (hm : m = mo.length) (hl : StepsAt W sa lk) (hl2 : StepsAt W ma mo) (h12 : k ≤ 12) (hmm : mo.length * 24 ≤ 140737488351232) (hT : Tabs w) :
    Calls Tryd.prog 33 #[.slice xa (k + m) xc] w fun e w' => GrownIs w w' e (s0 :: (lk ++ mo)) (min ((lk ++ mo).length + 1) 24) := by
  simp only [Nat.zero_add, List.nil_append] at ho
  obtain ⟨xa', xc', e, h⟩ := steps_of_owns ho (fun s hs => by
    rcases List.mem_append.1 hs with g | g
    · exact hl.each s g
    · exact hl2.each s g)
  simp at e
  obtain ⟨rfl, _, rfl⟩ := e
  refine grown_wide (lk ++ mo) xa (k + m) xc w (by rw [List.length_append]; omega) h (fun e => ?_) (by rw [List.length_append]; omega) hT
  subst e
  rcases ho.2 with ⟨e, hn⟩ | ⟨g, cap, cur, e, _⟩
  · simp at e; exact ⟨by omega, e.2⟩
  · cases e
set_option maxRecDepth 100000 in
/-- What oneSum answers of the headers and batches of two grown dags. -/
theorem oneSum_two (ks ns : List Ct) (ta : Option Addr) (tc m : Nat) (bl yl : List Bt) (ra : Option Addr) (rc q : Nat) (W V : World) (hm : m = ks.length + ns.length) (hq : q = 0 + bl.length + yl.length) (hWV : Below W.heap.size W V) (h3 : V.ownsRow W.heap.size 60 4 (.slice ta m tc) m (hdv (ks.map Ct.hd) ++ hdv (ns.map Ct.hd))) (h5 : V.ownsRow W.heap.size 42 3 (.slice ra q rc) q ([] ++ btv bl ++ btv yl)) (hk : ∀ c ∈ ks, HdAt W c.hd) (hn : ∀ c ∈ ns, HdAt W c.hd) (hbl : ∀ b ∈ bl ++ yl, BtOk V b ∧ BtSm b ∧ b.v.w.f = 0) (hlen : m ≤ 1000) (hlen2 : q ≤ 1000) (hcol : Coll (cvs ks ++ cvs ns) ∨ CollB (bcv bl ++ bcv yl)) (hT : Tabs V) :
    Calls Tryd.prog 25 #[.slice ta m tc, .slice ra q rc] V fun e w' => e = .returned (.bool true) ∧ Below V.heap.size V w' := by
  have hall : ∀ c ∈ ks.map Ct.hd ++ ns.map Ct.hd, HdAt W c := by
    intro c hc
    rcases List.mem_append.1 hc with h | h
    · obtain ⟨x, hx, rfl⟩ := List.mem_map.1 h; exact hk x hx
    · obtain ⟨x, hx, rfl⟩ := List.mem_map.1 h; exact hn x hx
  rw [← hdv_app] at h3
  obtain ⟨ra', rc', hv, hl, hH⟩ := hs_of_owns h3 (fun c hc => ⟨(hall c hc).below hWV, fun b hb hv => by have := (hall c hc).block_lt b hb; have := (h3.lt b hv).1; omega⟩)
  simp at hv
  obtain ⟨rfl, rfl⟩ := hv
  have hmap : ks.map Ct.hd ++ ns.map Ct.hd = (ks ++ ns).map Ct.hd := by simp
  have hcvs : cvs ks ++ cvs ns = cvs (ks ++ ns) := by simp [cvs]
  rcases hcol with ⟨K, I, c1, c2, c3, c4⟩ | ⟨K, I, c1, c2, c3, c4⟩
  · rw [hcvs] at c2 c3 c4
    rw [cvs_length] at c2
    have hat : ∀ j, j < (ks ++ ns).length → hdAt (ks.map Ct.hd ++ ns.map Ct.hd) j = ((ks ++ ns).getD j ⟨0, 0, none, 0, [], none, 0, [], none, 0, []⟩).hd := fun j hj => by
      rw [hmap, hdAt_get _ j (by simpa using hj)]
      simp only [List.getElem_map]
      rw [List.getD_eq_getElem?_getD, List.getElem?_eq_getElem hj]; rfl
    have hcv : ∀ j, j < (ks ++ ns).length → cvAt (cvs (ks ++ ns)) j = ((ks ++ ns).getD j ⟨0, 0, none, 0, [], none, 0, [], none, 0, []⟩).v := fun j hj => by
      rw [cvAt_get _ j hj, List.getD_eq_getElem?_getD, List.getElem?_eq_getElem hj]; rfl
    rw [hcv I c2, hcv K (by omega)] at c3 c4
    refine oneSum_true _ ta m tc _ V I K (by simp [hm]) (by simp; omega) c1 (by rw [hmap, List.length_map]; exact c2) hH ?_ ?_ hT
    · rw [hat I c2, hat K (by omega)]
      rw [← Ct.d_v, ← Ct.d_v] at c3
      exact c3
    · rw [hat I c2, hat K (by omega)]
      exact c4
  · rw [List.nil_append, ← btv_app] at h5
    have hlq : q = (bl ++ yl).length := by rw [List.length_append]; omega
    have hO : BtsOwn V W.heap.size (.slice ra q rc) (bl ++ yl) := ⟨by rw [hlq] at h5 ⊢; exact h5, fun b hb => (hbl b hb).1⟩
    obtain ⟨xa, xc, hv, hAt, _, _, _⟩ := bts_of_owns hO
    simp at hv
    obtain ⟨rfl, hql, rfl⟩ := hv
    have hB := bcs_of_bts hAt (fun b hb => (hbl b hb).2.1)
    have hb2 : bcv bl ++ bcv yl = bcv (bl ++ yl) := by simp [bcv]
    rw [hb2] at c2 c3 c4
    have hIl : I < (bl ++ yl).length := by simpa [bcv] using c2
    refine oneSum_batches _ ta m tc _ ra q rc V I K (by simp [hm]) (by rw [List.length_map]; exact hlq) (by simp; omega) (by rw [List.length_map]; omega) c1 (by rw [List.length_map]; exact hIl) hH hB (fun b hb => ?_) ?_ ?_ hT
    · obtain ⟨x, hx, rfl⟩ := List.mem_map.1 hb
      exact (hbl x hx).2.2
    · rw [bcv_at _ I hIl, bcv_at _ K (by omega)]; exact c3
    · rw [bcv_at _ I hIl, bcv_at _ K (by omega)]; exact c4
set_option maxRecDepth 100000 in
set_option maxHeartbeats 8000000 in
theorem grownSum_all (l mo : List Stp) (sa : Option Addr) (cap : Nat) (ma : Option Addr) (mc : Nat) (w : World) (c : List CV) (hl : StepsAt w sa l) (hcl : l.length ≤ cap) (hc0 : sa = none → cap = 0) (hc1 : l.length * 24 ≤ 140737488351232) (hml : StepsAt w ma mo) (hmc : mo.length ≤ mc) (hm0 : ma = none → mc = 0) (hm1 : mo.length * 24 ≤ 140737488351232) (hG : GrownTo (s0 :: l) (min (l.length + 1) 24) c) (hcol : ∀ cx, GrownTo (s0 :: (l.take (min l.length 12) ++ mo)) (min ((l.take (min l.length 12) ++ mo).length + 1) 24) cx → Coll (c ++ cx) ∨ CollB ((bvTo (s0 :: l) (min (l.length + 1) 24)).map BV.w ++ (bvTo (s0 :: (l.take (min l.length 12) ++ mo)) (min ((l.take (min l.length 12) ++ mo).length + 1) 24)).map BV.w)) (hT : Tabs w) :
    Calls Tryd.prog 17 #[.slice sa l.length cap, .slice ma mo.length mc] w fun e w' => e = .returned (.bool true) ∧ Below w.heap.size w w' := by
  have hnil : sa = none → l.length = 0 ∧ cap = 0 := fun h => by have := hc0 h; omega
  have HNM : Hid (ma = none → mo.length = 0 ∧ mc = 0) := fun h => by have := hm0 h; omega
  have H := grown_any l sa _ cap w rfl hl hnil hc1 hT
  have HT : Hid (∀ W : World, Below w.heap.size w W → Tabs W) := by
    show ∀ W, _
    exact fun W hW => hT.below hW
  have HC : Hid _ := hG
  have HCO : Hid _ := hcol
  clear hT hG hcol hm0
  go_enter Tryd.func17, Tryd.ntmps17
  go_wp2_with fail
  refine H.mono ?_
  rintro e w1 ⟨ka, kc, ks, ba, bc, bl, he, hG, hd, hnew, ho, hoff, hV, hb1⟩
  subst he
  dsimp only
  have HE : Hid (cvs ks = c) := hG.one HC.out
  have HEV : Hid (bcv bl = (bvTo (s0 :: l) (min (l.length + 1) 24)).map BV.w) := by
    show _ = _
    rw [← hV, List.map_map]; rfl
  have HBS : Hid (∀ b ∈ bl, BtSm b ∧ b.v.w.f = 0) := by
    show ∀ b, _
    intro b hb
    refine ⟨bts_small hV (by omega) b hb, ?_⟩
    exact bvTo_f (l := s0 :: l) (k := min (l.length + 1) 24) (by omega) b.v (by rw [← hV]; exact List.mem_map.2 ⟨b, hb, rfl⟩)
  have hle : ks.length ≤ 24 := by have := hG.len; rw [cvs_length] at this; omega
  have hbl60' : bl.length ≤ 60 := (grown_facts hG hV).out.2.2.1
  have hblp : 0 < bl.length := (grown_facts hG hV).out.2.2.2.1
  have hA1 := (Below.refl w1.heap.size w1).alloc (Nat.le_refl _) (.cells #[.slice ka ks.length kc] 51)
  have qD := heap_alloc_new w1 (.cells #[.slice ka ks.length kc] 51)
  have hd2 := hd.below hA1
  have ho2 := ho.below hA1
  have hB2 := hb1.trans (hA1.mono hb1.size)
  have hl2 := hl.below hB2
  have hml2 := hml.below hB2
  have HU1 : Hid (∀ x ∈ cvs ks, x.f = 0 ∧ U8C x) := by
    show ∀ x, _
    intro x hx
    refine ⟨?_, hG.u8 x hx⟩
    obtain ⟨j, hj, rfl⟩ := List.getElem_of_mem hx
    have h2 := dagF_f hG.dag j hj
    have e : cvAt (cvs ks) j = (cvs ks)[j] := by simp [cvAt, hj]
    rw [e] at h2; exact h2
  clear hG hV ho hoff hnew hd H hml
  go_upto_region 2 with fail
  generalize w1.alloc (.cells #[.slice ka ks.length kc] 51) = W2 at hA1 qD hd2 ho2 hB2 hl2 hml2 ⊢
  clear hA1
  have hgD : w.heap.size ≤ w1.heap.size := hb1.size
  clear hb1
  generalize w1.heap.size = D at qD hgD ⊢
  obtain ⟨k, hk⟩ : ∃ k : Nat, k = min l.length 12 := ⟨_, rfl⟩
  rw [← hk] at HCO
  have hkl : k ≤ l.length := by omega
  have HLT : Hid (k = (l.take k).length) := by show _ = _; rw [List.length_take]; omega
  have hlk : StepsAt W2 sa (l.take k) := by
    refine ⟨?_, fun s hs => hl2.each s (List.mem_of_mem_take hs)⟩
    rcases hl2.cells with h | ⟨sb, so, e, h⟩
    · left; rw [h]; simp
    · refine .inr ⟨sb, so, e, fun j hj => ?_⟩
      have hj2 : j < l.length := by rw [List.length_take] at hj; omega
      simpa using h j hj2
  generalize l.take k = lk at hlk HLT HCO
  have hnk : sa = none → k = 0 ∧ cap = 0 := fun h => by have := hnil h; omega
  have hk24 : k ≤ 12 := by omega
  go_cut [7, 8] (fun u v wx => ∃ (X : Nat) (na : Option Addr) (nc : Nat) (ns : List Ct) (ya : Option Addr) (yc : Nat) (yl : List Bt), u = .pointer (some ⟨X, 0, none⟩) ∧ v = .slice ya yl.length yc ∧ W2.heap.size ≤ X ∧ wx.heap[X]? = some (.cells #[.slice na ns.length nc] 51 (0, 0)) ∧ DagAt wx na nc ns ∧ BtsOwn wx W2.heap.size (.slice ya yl.length yc) yl ∧ 0 < ns.length ∧ ns.length ≤ 24 ∧ yl.length ≤ 60 ∧ 0 < yl.length ∧ Hid (∀ x ∈ cvs ns, x.f = 0 ∧ U8C x) ∧ Hid (GrownTo (s0 :: (lk ++ mo)) (min ((lk ++ mo).length + 1) 24) (cvs ns) ∧ bcv yl = (bvTo (s0 :: (lk ++ mo)) (min ((lk ++ mo).length + 1) 24)).map BV.w ∧ ∀ b ∈ yl, BtSm b ∧ b.v.w.f = 0) ∧ Below W2.heap.size W2 wx)
  case first =>
    have HNN0 : Hid (sa = none → k = 0 ∧ cap = 0) := hnk
    clear hnk hnil hc0 hl hl2
    cases sa with
    | none =>
      have hl12 : l.length ≤ 12 := by have := (HNN0.out rfl).1; omega
      obtain rfl : k = l.length := by omega
      have HNN : Hid ((none : Option Addr) = none → l.length = 0 ∧ cap = 0) := HNN0.out
      have hnI : ¬ (12 : Int) < l.length := by omega
      have hkc : (l.length : Int) ≤ cap := by omega
      clear hk HNN0 hl12
      go_wp2_with (at_builtin; first
        | (refine wpList_append_steps rfl _ _ rfl W2.heap.size v1 (0 + l.length) ([] ++ lk) rfl ho5 ma mo.length mc mo rfl rfl (hml2.below hb5) HNM.out (by omega) hg5.size ?_; intro v2 w6 ho6 hg6; obtain ⟨xa, xc, hxe⟩ := owns_shape ho6; subst hxe)
        | (refine wpList_append_steps rfl _ _ rfl W2.heap.size (.slice none 0 0) 0 [] rfl (World.ownsRow_nil _ _ _ _) none l.length cap lk rfl HLT.out hlk HNN.out (by omega) (Nat.le_refl _) ?_; intro v1 w5 ho5 hg5; have hb5 : Below W2.heap.size W2 w5 := Below.grown (Below.refl _ _) hg5 (Nat.le_refl _) (fun q e => by cases e)))
      have hb6 : Below W2.heap.size W2 w6 := Below.grown hb5 hg6 hb5.size (fun q e => (ho5.lt q e).1)
      have hB6 := hB2.trans (hb6.mono hB2.size)
      have H2 := step_more ho6 HLT.out rfl hlk hml2 (by omega) hm1 (HT.out w6 hB6)
      refine H2.mono ?_
      rintro e w7 ⟨na, nc, ns, ya, yc, yl, he, hG7, hd7, hnew7, ho7, hoff7, hV7, hb7⟩
      subst he
      dsimp only
      have hA7 := (Below.refl w7.heap.size w7).alloc (Nat.le_refl _) (.cells #[.slice na ns.length nc] 51)
      have qX := heap_alloc_new w7 (.cells #[.slice na ns.length nc] 51)
      have hB7 := hb6.trans (hb7.mono hb6.size)
      have hd8 := hd7.below hA7
      have ho8 := ho7.below hA7
      have HR := grown_facts hG7 hV7
      have HR2 : Hid (GrownTo (s0 :: (lk ++ mo)) (min ((lk ++ mo).length + 1) 24) (cvs ns) ∧ bcv yl = (bvTo (s0 :: (lk ++ mo)) (min ((lk ++ mo).length + 1) 24)).map BV.w ∧ ∀ b ∈ yl, BtSm b ∧ b.v.w.f = 0) := by
        refine ⟨hG7, by rw [← hV7, List.map_map]; rfl, fun b hb => ⟨bts_small hV7 (by omega) b hb, ?_⟩⟩
        exact bvTo_f (l := s0 :: (lk ++ mo)) (k := min ((lk ++ mo).length + 1) 24) (by omega) b.v (by rw [← hV7]; exact List.mem_map.2 ⟨b, hb, rfl⟩)
      clear hG7 hV7 H2 hd7 ho7 hoff7 hnew7
      have hs6 := hb6.size
      have hs7 := hb7.size
      go_wp2_with fail
      go_meet
      case rel =>
        obtain ⟨r1, r2, r3, r4, r5⟩ := HR.out
        exact ⟨w7.heap.size, na, nc, ns, ya, yc, yl, rfl, rfl, by omega, qX, hd8, ⟨⟨ho8.row.1, ho8.row.2.imp id (fun ⟨g, c, cur, e1, e2, r⟩ => ⟨g, c, cur, e1, Nat.le_trans hs6 e2, r⟩)⟩, ho8.each⟩, r1, r2, r3, r4, r5, HR2, hB7.trans (hA7.mono hB7.size)⟩
    | some ad =>
      by_cases h12 : l.length ≤ 12
      · obtain rfl : k = l.length := by omega
        have hnI : ¬ (12 : Int) < l.length := by omega
        have hkc : (l.length : Int) ≤ cap := by omega
        clear hk HNN0 h12
        go_wp2_with (at_builtin; first
          | (refine wpList_append_steps rfl _ _ rfl W2.heap.size v1 (0 + l.length) ([] ++ lk) rfl ho5 ma mo.length mc mo rfl rfl (hml2.below hb5) HNM.out (by omega) hg5.size ?_; intro v2 w6 ho6 hg6; obtain ⟨xa, xc, hxe⟩ := owns_shape ho6; subst hxe)
          | (refine wpList_append_steps rfl _ _ rfl W2.heap.size (.slice none 0 0) 0 [] rfl (World.ownsRow_nil _ _ _ _) (some ad) l.length cap lk rfl HLT.out hlk (fun h => by cases h) (by omega) (Nat.le_refl _) ?_; intro v1 w5 ho5 hg5; have hb5 : Below W2.heap.size W2 w5 := Below.grown (Below.refl _ _) hg5 (Nat.le_refl _) (fun q e => by cases e)))
        have hb6 : Below W2.heap.size W2 w6 := Below.grown hb5 hg6 hb5.size (fun q e => (ho5.lt q e).1)
        have hB6 := hB2.trans (hb6.mono hB2.size)
        have H2 := step_more ho6 HLT.out rfl hlk hml2 (by omega) hm1 (HT.out w6 hB6)
        refine H2.mono ?_
        rintro e w7 ⟨na, nc, ns, ya, yc, yl, he, hG7, hd7, hnew7, ho7, hoff7, hV7, hb7⟩
        subst he
        dsimp only
        have hA7 := (Below.refl w7.heap.size w7).alloc (Nat.le_refl _) (.cells #[.slice na ns.length nc] 51)
        have qX := heap_alloc_new w7 (.cells #[.slice na ns.length nc] 51)
        have hB7 := hb6.trans (hb7.mono hb6.size)
        have hd8 := hd7.below hA7
        have ho8 := ho7.below hA7
        have HR := grown_facts hG7 hV7
        have HR2 : Hid (GrownTo (s0 :: (lk ++ mo)) (min ((lk ++ mo).length + 1) 24) (cvs ns) ∧ bcv yl = (bvTo (s0 :: (lk ++ mo)) (min ((lk ++ mo).length + 1) 24)).map BV.w ∧ ∀ b ∈ yl, BtSm b ∧ b.v.w.f = 0) := by
          refine ⟨hG7, by rw [← hV7, List.map_map]; rfl, fun b hb => ⟨bts_small hV7 (by omega) b hb, ?_⟩⟩
          exact bvTo_f (l := s0 :: (lk ++ mo)) (k := min ((lk ++ mo).length + 1) 24) (by omega) b.v (by rw [← hV7]; exact List.mem_map.2 ⟨b, hb, rfl⟩)
        clear hG7 hV7 H2 hd7 ho7 hoff7 hnew7
        have hs6 := hb6.size
        have hs7 := hb7.size
        go_wp2_with fail
        go_meet
        case rel =>
          obtain ⟨r1, r2, r3, r4, r5⟩ := HR.out
          exact ⟨w7.heap.size, na, nc, ns, ya, yc, yl, rfl, rfl, by omega, qX, hd8, ⟨⟨ho8.row.1, ho8.row.2.imp id (fun ⟨g, c, cur, e1, e2, r⟩ => ⟨g, c, cur, e1, Nat.le_trans hs6 e2, r⟩)⟩, ho8.each⟩, r1, r2, r3, r4, r5, HR2, hB7.trans (hA7.mono hB7.size)⟩
      · obtain rfl : k = 12 := by omega
        have hnI : (12 : Int) < l.length := by omega
        have hkc : (12 : Int) ≤ cap := by omega
        clear hk HNN0 h12
        go_wp2_with (at_builtin; first
          | (refine wpList_append_steps rfl _ _ rfl W2.heap.size v1 (0 + 12) ([] ++ lk) rfl ho5 ma mo.length mc mo rfl rfl (hml2.below hb5) HNM.out (by omega) hg5.size ?_; intro v2 w6 ho6 hg6; obtain ⟨xa, xc, hxe⟩ := owns_shape ho6; subst hxe)
          | (refine wpList_append_steps rfl _ _ rfl W2.heap.size (.slice none 0 0) 0 [] rfl (World.ownsRow_nil _ _ _ _) (some ad) 12 cap lk rfl HLT.out hlk (fun h => by cases h) (by omega) (Nat.le_refl _) ?_; intro v1 w5 ho5 hg5; have hb5 : Below W2.heap.size W2 w5 := Below.grown (Below.refl _ _) hg5 (Nat.le_refl _) (fun q e => by cases e)))
        have hb6 : Below W2.heap.size W2 w6 := Below.grown hb5 hg6 hb5.size (fun q e => (ho5.lt q e).1)
        have hB6 := hB2.trans (hb6.mono hB2.size)
        have H2 := step_more ho6 HLT.out rfl hlk hml2 (by omega) hm1 (HT.out w6 hB6)
        refine H2.mono ?_
        rintro e w7 ⟨na, nc, ns, ya, yc, yl, he, hG7, hd7, hnew7, ho7, hoff7, hV7, hb7⟩
        subst he
        dsimp only
        have hA7 := (Below.refl w7.heap.size w7).alloc (Nat.le_refl _) (.cells #[.slice na ns.length nc] 51)
        have qX := heap_alloc_new w7 (.cells #[.slice na ns.length nc] 51)
        have hB7 := hb6.trans (hb7.mono hb6.size)
        have hd8 := hd7.below hA7
        have ho8 := ho7.below hA7
        have HR := grown_facts hG7 hV7
        have HR2 : Hid (GrownTo (s0 :: (lk ++ mo)) (min ((lk ++ mo).length + 1) 24) (cvs ns) ∧ bcv yl = (bvTo (s0 :: (lk ++ mo)) (min ((lk ++ mo).length + 1) 24)).map BV.w ∧ ∀ b ∈ yl, BtSm b ∧ b.v.w.f = 0) := by
          refine ⟨hG7, by rw [← hV7, List.map_map]; rfl, fun b hb => ⟨bts_small hV7 (by omega) b hb, ?_⟩⟩
          exact bvTo_f (l := s0 :: (lk ++ mo)) (k := min ((lk ++ mo).length + 1) 24) (by omega) b.v (by rw [← hV7]; exact List.mem_map.2 ⟨b, hb, rfl⟩)
        clear hG7 hV7 H2 hd7 ho7 hoff7 hnew7
        have hs6 := hb6.size
        have hs7 := hb7.size
        go_wp2_with fail
        go_meet
        case rel =>
          obtain ⟨r1, r2, r3, r4, r5⟩ := HR.out
          exact ⟨w7.heap.size, na, nc, ns, ya, yc, yl, rfl, rfl, by omega, qX, hd8, ⟨⟨ho8.row.1, ho8.row.2.imp id (fun ⟨g, c, cur, e1, e2, r⟩ => ⟨g, c, cur, e1, Nat.le_trans hs6 e2, r⟩)⟩, ho8.each⟩, r1, r2, r3, r4, r5, HR2, hB7.trans (hA7.mono hB7.size)⟩
  case rest =>
    obtain ⟨X, na, nc, ns, ya, yc, yl, rfl, rfl, hgX, qX, hdx, hox, hnp, hn24, hy60, hyp, HU2, HR2, hb3⟩ := hcut
    have hB3 := hB2.trans (hb3.mono hB2.size)
    have qD3 := (hb3.block _ (lt_of_heap qD)).trans qD
    have hd3 := hd2.below hb3
    have ho3 := ho2.below hb3
    have HKN : Hid (∀ c ∈ ks, HdAt wc c.hd) := by
      show ∀ c, _
      intro c hc
      obtain ⟨h1, h2⟩ := HU1.out c.v (List.mem_map.2 ⟨c, hc, rfl⟩)
      exact hd_at (hd3.each c hc) h1 h2
    have HNN : Hid (∀ c ∈ ns, HdAt wc c.hd) := by
      show ∀ c, _
      intro c hc
      obtain ⟨h1, h2⟩ := HU2.out c.v (List.mem_map.2 ⟨c, hc, rfl⟩)
      exact hd_at (hdx.each c hc) h1 h2
    have HCC : Hid (Coll (cvs ks ++ cvs ns) ∨ CollB (bcv bl ++ bcv yl)) := by
      obtain ⟨a1, a2, _⟩ := HR2.out
      have := HCO.out _ a1
      rw [← HE.out, ← HEV.out, ← a2] at this
      exact this
    have HBO : Hid (∀ V : World, Below wc.heap.size wc V → ∀ b ∈ bl ++ yl, BtOk V b ∧ BtSm b ∧ b.v.w.f = 0) := by
      show ∀ V, _
      intro V hV b hb
      rcases List.mem_append.1 hb with h | h
      · exact ⟨(ho3.each b h).below hV, HBS.out b h⟩
      · exact ⟨(hox.each b h).below hV, HR2.out.2.2 b h⟩
    obtain ⟨bb, bcc, hbe⟩ := own_some ho3.row hblp
    obtain ⟨yb, ycc, hye⟩ := own_some hox.row hyp
    simp at hbe hye
    obtain ⟨rfl, rfl⟩ := hbe
    obtain ⟨rfl, rfl⟩ := hye
    have hbl60 : bl.length ≤ 60 := hbl60'
    have d0 := cells_at qD3 0 _ rfl
    have x0 := cells_at qX 0 _ rfl
    obtain ⟨ih, hih, hh0, hh1, hh2⟩ := info_parts infoHd
    obtain ⟨ib, hib, hi0, hi1, hi2⟩ := info_parts infoBatch
    clear hl hl2 hlk HLT hnil hnk hc0 hk HC HE HU1 HU2 HCO HEV HR2
    go_upto_region 3 with fail
    obtain ⟨VR, hVR⟩ : ∃ VR, VR = wc := ⟨_, rfl⟩
    subst hVR
    go_cut [4] (fun v wx => v = .bool true ∧ Below VR.heap.size VR wx)
    case first =>
      have hV0 : Below VR.heap.size VR VR.drew := (Below.refl _ _).drew
      refine wp_region_held_drew (S := fun w' => w'.cell? ⟨D, 0, none⟩ = some (.slice ka ks.length kc) ∧ w'.cell? ⟨X, 0, none⟩ = some (.slice na ns.length nc)) (by kernel_rfl) ⟨(hV0.cell (p := ⟨D, 0, none⟩) (block_lt_of_cell d0)).trans d0, (hV0.cell (p := ⟨X, 0, none⟩) (block_lt_of_cell x0)).trans x0⟩ (fun hHeld => ?_)
      generalize VR.drew = V0 at hV0  hHeld ⊢
      refine take_dst (i := 0) (d := 26) (v := .agg #[.slice ka ks.length kc]) rfl rfl (by kernel_rfl) (by kernel_rfl) (by kernel_rfl) (fun _ _ _ h => h) (Or.inl ⟨by rfl, ?_⟩) hHeld ?_
      · (intro w0 hSw; (try dsimp only at hSw); go_simp)
      simp only [Act.put, List.setIfInBounds_toArray, List.set_cons_zero, List.set_cons_succ]
      refine take_dst (i := 2) (d := 28) (v := .agg #[.slice na ns.length nc]) rfl rfl (by kernel_rfl) (by kernel_rfl) (by kernel_rfl) (fun _ _ _ h => h) (Or.inl ⟨by rfl, ?_⟩) hHeld ?_
      · (intro w0 hSw; (try dsimp only at hSw); go_simp)
      simp only [Act.put, List.setIfInBounds_toArray, List.set_cons_zero, List.set_cons_succ]
      refine take_dst (i := 5) (d := 31) (v := .slice (some ⟨bb, 0, none⟩) bl.length bc) rfl rfl (by kernel_rfl) (by kernel_rfl) (by kernel_rfl) (fun _ _ _ h => h) (Or.inl ⟨by rfl, ?_⟩) hHeld ?_
      · (intro w0 hSw; (try dsimp only at hSw); go_simp)
      simp only [Act.put, List.setIfInBounds_toArray, List.set_cons_zero, List.set_cons_succ]
      refine take_dst (i := 7) (d := 33) (v := .slice (some ⟨yb, 0, none⟩) yl.length yc) rfl rfl (by kernel_rfl) (by kernel_rfl) (by kernel_rfl) (fun _ _ _ h => h) (Or.inl ⟨by rfl, ?_⟩) hHeld ?_
      · (intro w0 hSw; (try dsimp only at hSw); go_simp)
      simp only [Act.put, List.setIfInBounds_toArray, List.set_cons_zero, List.set_cons_succ]
      clear hHeld
      refine any_named (fun GO hGo hGi => ?_)
      refine act_named (fun A0 hA0 => ?_)
      have st_CNPBYO : Hid (∀ (V : World) (v1 : Value) (xb : Nat) (xm : Nat) (ta : Option Addr) (tc : Nat) (v4 : Value) (ra : Option Addr) (rc : Nat), Below VR.heap.size VR V → (V.ownsRow VR.heap.size 60 4 (.slice ta (ks.length + ns.length) tc) (ks.length + ns.length) (hdv (ks.map Ct.hd) ++ hdv (ns.map Ct.hd))) → (V.ownsRow VR.heap.size 42 3 (.slice ra (0 + bl.length + yl.length) rc) (0 + bl.length + yl.length) ([] ++ btv bl ++ btv yl)) → GO 0 #[true, true, true, true, true, true, true, true, true, true, true] (((((((A0.put (some 27) (v1)).put (some 29) (.slice (some ⟨xb, 0, none⟩) ns.length xm)).put (some 30) (.slice ta (ks.length + ns.length) tc)).put (some 32) (v4)).put (some 34) (.slice ra (0 + bl.length + yl.length) rc)).put (some 35) (.bool true)).put (some 4) (.bool true)) V) := by
        show ∀ V, _
        intro V v1 xb xm ta tc v4 ra rc hB h3 h5
        refine hGo.out _ _ _ _ ?_
        rw [← hA0.out]
        try simp only [Act.put, List.setIfInBounds_toArray, List.set_cons_zero, List.set_cons_succ]
        refine wpAnyH_done (by kernel_rfl) ?_ _
        go_wp2_with fail
        go_meet
        case rel => exact ⟨rfl, hB⟩
      have st_CNPBY : Hid (∀ (V : World) (v1 : Value) (xb : Nat) (xm : Nat) (ta : Option Addr) (tc : Nat) (v4 : Value) (ra : Option Addr) (rc : Nat), Below VR.heap.size VR V → (V.ownsRow VR.heap.size 60 4 (.slice ta (ks.length + ns.length) tc) (ks.length + ns.length) (hdv (ks.map Ct.hd) ++ hdv (ns.map Ct.hd))) → (V.ownsRow VR.heap.size 42 3 (.slice ra (0 + bl.length + yl.length) rc) (0 + bl.length + yl.length) ([] ++ btv bl ++ btv yl)) → GO 2 #[true, true, true, true, true, true, true, true, true, false, false] (((((A0.put (some 27) (v1)).put (some 29) (.slice (some ⟨xb, 0, none⟩) ns.length xm)).put (some 30) (.slice ta (ks.length + ns.length) tc)).put (some 32) (v4)).put (some 34) (.slice ra (0 + bl.length + yl.length) rc)) V) := by
        show ∀ V, _
        intro V v1 xb xm ta tc v4 ra rc hB h3 h5
        refine hGo.out _ _ _ _ ?_
        rw [← hA0.out]
        try simp only [Act.put, List.setIfInBounds_toArray, List.set_cons_zero, List.set_cons_succ]
        refine wpAnyH_ready (rs := [9]) (by kernel_rfl) (by simp) (AllReadyH.cons rfl (fun K hK => ?_) AllReadyH.nil)
        refine step_calls_dst rfl 35 rfl 25 [.tmp 30, .tmp 34] #[66, 22] rfl [.slice ta (ks.length + ns.length) tc, .slice ra (0 + bl.length + yl.length) rc] rfl (enters_of Tryd.func25 (by kernel_rfl) rfl) (fun v w' => v = .bool true ∧ Below V.heap.size V w') ((oneSum_two ks ns ta tc _ bl yl ra rc _ VR V rfl rfl hB h3 h5 HKN.out HNN.out (HBO.out V hB) (by omega) (by omega) HCC.out (HT.out V (hB3.trans (hB.mono hB3.size)))).mono (fun e w2 h => ⟨_, h.1, rfl, h.2⟩)) ?_
        rintro v W' ⟨rfl, hb⟩
        have hBn := hB.trans (hb.mono hB.size)
        refine hK.out _ _ ⟨(hBn.cell (p := ⟨D, 0, none⟩) (block_lt_of_cell d0)).trans d0, (hBn.cell (p := ⟨X, 0, none⟩) (block_lt_of_cell x0)).trans x0⟩ (fun hHeld => ?_)
        simp only [Act.put, List.setIfInBounds_toArray, List.set_cons_zero, List.set_cons_succ]
        refine take_dst (i := 10) (d := 4) (v := .bool true) rfl rfl (by kernel_rfl) (by kernel_rfl) (by kernel_rfl) (fun _ _ _ h => h) (Or.inl ⟨by rfl, ?_⟩) hHeld ?_
        · (intro w0 hSw; (try dsimp only at hSw); go_simp)
        simp only [Act.put, List.setIfInBounds_toArray, List.set_cons_zero, List.set_cons_succ]
        clear hHeld
        have h := st_CNPBYO.out W' v1 xb xm ta tc v4 ra rc hBn (owns_keep h3 hb) (owns_keep h5 hb)
        rw [← hA0.out] at h
        (try simp only [Act.put, List.setIfInBounds_toArray, List.set_cons_zero, List.set_cons_succ] at h)
        (try simp only [Act.put, List.setIfInBounds_toArray, List.set_cons_zero, List.set_cons_succ])
        exact hGi.out _ _ _ _ h
      have st_CNPB : Hid (∀ (V : World) (v1 : Value) (xb : Nat) (xm : Nat) (ta : Option Addr) (tc : Nat) (v4 : Value), Below VR.heap.size VR V → (V.ownsRow VR.heap.size 60 4 (.slice ta (ks.length + ns.length) tc) (ks.length + ns.length) (hdv (ks.map Ct.hd) ++ hdv (ns.map Ct.hd))) → (V.ownsRow VR.heap.size 42 3 v4 (0 + bl.length) ([] ++ btv bl)) → GO 3 #[true, true, true, true, true, true, true, true, false, false, false] ((((A0.put (some 27) (v1)).put (some 29) (.slice (some ⟨xb, 0, none⟩) ns.length xm)).put (some 30) (.slice ta (ks.length + ns.length) tc)).put (some 32) (v4)) V) := by
        show ∀ V, _
        intro V v1 xb xm ta tc v4 hB h3 h4
        refine hGo.out _ _ _ _ ?_
        rw [← hA0.out]
        try simp only [Act.put, List.setIfInBounds_toArray, List.set_cons_zero, List.set_cons_succ]
        refine wpAnyH_ready (rs := [8]) (by kernel_rfl) (by simp) (AllReadyH.cons rfl (fun K hK => ?_) AllReadyH.nil)
        have hoy := (hox.below hB).row
        refine step_append_at rfl _ _ 22 rfl VR.heap.size 42 ib (.agg #[.int .i64 0, .int .i64 0, .slice none 0 0]) 3 40 Tryd.underlying22 hib hi0 hi1 hi2 rfl (by decide) v4 (0 + bl.length) _ rfl h4 ⟨yb, 0, none⟩ yl.length yc (btv yl) rfl (btv_length _) (World.ownsRow.cells hoy rfl) (btv_ones _) (by unfold maxLen; omega) (by omega) hB.size ?_
        intro v5 W' ho5 G5
        obtain ⟨ra, rc, hve⟩ := owns_shape ho5
        subst hve
        have h5_n := ho5
        have hBn := hB.trans (G5.below hB.size (fun q e => (h4.lt q e).1))
        have h3' := owns_grew h3 h4 (by decide) G5
        refine hK.out _ _ ⟨(hBn.cell (p := ⟨D, 0, none⟩) (block_lt_of_cell d0)).trans d0, (hBn.cell (p := ⟨X, 0, none⟩) (block_lt_of_cell x0)).trans x0⟩ (fun hHeld => ?_)
        clear hHeld
        have h := st_CNPBY.out W' v1 xb xm ta tc v4 ra rc hBn h3' h5_n
        rw [← hA0.out] at h
        (try simp only [Act.put, List.setIfInBounds_toArray, List.set_cons_zero, List.set_cons_succ] at h)
        (try simp only [Act.put, List.setIfInBounds_toArray, List.set_cons_zero, List.set_cons_succ])
        exact hGi.out _ _ _ _ h
      have st_CNP : Hid (∀ (V : World) (v1 : Value) (xb : Nat) (xm : Nat) (ta : Option Addr) (tc : Nat), Below VR.heap.size VR V → (V.ownsRow VR.heap.size 60 4 (.slice ta (ks.length + ns.length) tc) (ks.length + ns.length) (hdv (ks.map Ct.hd) ++ hdv (ns.map Ct.hd))) → GO 4 #[true, true, true, true, true, true, false, true, false, false, false] (((A0.put (some 27) (v1)).put (some 29) (.slice (some ⟨xb, 0, none⟩) ns.length xm)).put (some 30) (.slice ta (ks.length + ns.length) tc)) V) := by
        show ∀ V, _
        intro V v1 xb xm ta tc hB h3
        refine hGo.out _ _ _ _ ?_
        rw [← hA0.out]
        try simp only [Act.put, List.setIfInBounds_toArray, List.set_cons_zero, List.set_cons_succ]
        refine wpAnyH_ready (rs := [6]) (by kernel_rfl) (by simp) (AllReadyH.cons rfl (fun K hK => ?_) AllReadyH.nil)
        have hob := (ho3.below hB).row
        refine step_append_at rfl _ _ 22 rfl VR.heap.size 42 ib (.agg #[.int .i64 0, .int .i64 0, .slice none 0 0]) 3 40 Tryd.underlying22 hib hi0 hi1 hi2 rfl (by decide) (.slice none 0 0) 0 [] rfl (World.ownsRow_nil _ _ _ _) ⟨bb, 0, none⟩ bl.length bc (btv bl) rfl (btv_length _) (World.ownsRow.cells hob rfl) (btv_ones _) (by unfold maxLen; omega) (by omega) hB.size ?_
        intro v4 W' ho4 G4
        have h4_n := ho4
        have hBn := hB.trans (G4.below hB.size (fun q e => by cases e))
        have h3' := owns_grew h3 (World.ownsRow_nil V VR.heap.size 42 3) (by decide) G4
        refine hK.out _ _ ⟨(hBn.cell (p := ⟨D, 0, none⟩) (block_lt_of_cell d0)).trans d0, (hBn.cell (p := ⟨X, 0, none⟩) (block_lt_of_cell x0)).trans x0⟩ (fun hHeld => ?_)
        clear hHeld
        have h := st_CNPB.out W' v1 xb xm ta tc v4 hBn h3' h4_n
        rw [← hA0.out] at h
        (try simp only [Act.put, List.setIfInBounds_toArray, List.set_cons_zero, List.set_cons_succ] at h)
        (try simp only [Act.put, List.setIfInBounds_toArray, List.set_cons_zero, List.set_cons_succ])
        exact hGi.out _ _ _ _ h
      have st_CN : Hid (∀ (V : World) (v1 : Value) (xb : Nat) (xm : Nat), Below VR.heap.size VR V → (V.ownsRow VR.heap.size 60 4 v1 ks.length (hdv (ks.map Ct.hd))) → (V.ownsRow VR.heap.size 60 4 (.slice (some ⟨xb, 0, none⟩) ns.length xm) ns.length (hdv (ns.map Ct.hd))) → GO 5 #[true, true, true, true, false, true, false, true, false, false, false] ((A0.put (some 27) (v1)).put (some 29) (.slice (some ⟨xb, 0, none⟩) ns.length xm)) V) := by
        show ∀ V, _
        intro V v1 xb xm hB h1 h2
        refine hGo.out _ _ _ _ ?_
        rw [← hA0.out]
        try simp only [Act.put, List.setIfInBounds_toArray, List.set_cons_zero, List.set_cons_succ]
        refine wpAnyH_ready (rs := [4]) (by kernel_rfl) (by simp) (AllReadyH.cons rfl (fun K hK => ?_) AllReadyH.nil)
        refine step_append_at rfl _ _ 66 rfl VR.heap.size 60 ih (.agg #[.int .i64 0, .int .i64 0, .slice none 0 0, .slice none 0 0]) 4 64 Tryd.underlying66 hih hh0 hh1 hh2 rfl (by decide) v1 ks.length _ rfl h1 ⟨xb, 0, none⟩ ns.length xm (hdv (ns.map Ct.hd)) rfl (by rw [hdv_length]; simp) (World.ownsRow.cells h2 rfl) (hdv_ones _) (by unfold maxLen; omega) (by omega) hB.size ?_
        intro v3 W' ho3' G3
        obtain ⟨ta, tc, hve⟩ := owns_shape ho3'
        subst hve
        have h3_n := ho3'
        have hBn := hB.trans (G3.below hB.size (fun q e => (h1.lt q e).1))
        refine hK.out _ _ ⟨(hBn.cell (p := ⟨D, 0, none⟩) (block_lt_of_cell d0)).trans d0, (hBn.cell (p := ⟨X, 0, none⟩) (block_lt_of_cell x0)).trans x0⟩ (fun hHeld => ?_)
        clear hHeld
        have h := st_CNP.out W' v1 xb xm ta tc hBn h3_n
        rw [← hA0.out] at h
        (try simp only [Act.put, List.setIfInBounds_toArray, List.set_cons_zero, List.set_cons_succ] at h)
        (try simp only [Act.put, List.setIfInBounds_toArray, List.set_cons_zero, List.set_cons_succ])
        exact hGi.out _ _ _ _ h
      have st_C : Hid (∀ (V : World) (v1 : Value), Below VR.heap.size VR V → (V.ownsRow VR.heap.size 60 4 v1 ks.length (hdv (ks.map Ct.hd))) → GO 6 #[true, true, true, false, false, true, false, true, false, false, false] (A0.put (some 27) (v1)) V) := by
        show ∀ V, _
        intro V v1 hB h1
        refine hGo.out _ _ _ _ ?_
        rw [← hA0.out]
        try simp only [Act.put, List.setIfInBounds_toArray, List.set_cons_zero, List.set_cons_succ]
        refine wpAnyH_ready (rs := [3]) (by kernel_rfl) (by simp) (AllReadyH.cons rfl (fun K hK => ?_) AllReadyH.nil)
        refine step_calls_dst rfl 29 rfl 40 [.tmp 28] #[51] rfl [.agg #[.slice na ns.length nc]] rfl (enters_of Tryd.func40 (by kernel_rfl) rfl) (fun v w' => (∃ xb xm, v = .slice (some ⟨xb, 0, none⟩) ns.length xm ∧ w'.ownsRow VR.heap.size 60 4 (.slice (some ⟨xb, 0, none⟩) ns.length xm) ns.length (hdv (ns.map Ct.hd))) ∧ Below V.heap.size V w') ((headers_any ns na _ nc V rfl (by omega) (hdx.below hB)).mono (fun e w2 h => by obtain ⟨v, he, ho⟩ := h.out; obtain ⟨xb, xm, rfl⟩ := own_some ho hnp; exact ⟨_, he, ⟨xb, xm, rfl, own_wide ho hB.size⟩, h.below⟩)) ?_
        rintro v W' ⟨⟨xb, xm, rfl, h2_n⟩, hb⟩
        have hBn := hB.trans (hb.mono hB.size)
        refine hK.out _ _ ⟨(hBn.cell (p := ⟨D, 0, none⟩) (block_lt_of_cell d0)).trans d0, (hBn.cell (p := ⟨X, 0, none⟩) (block_lt_of_cell x0)).trans x0⟩ (fun hHeld => ?_)
        clear hHeld
        have h := st_CN.out W' v1 xb xm hBn (owns_keep h1 hb) h2_n
        rw [← hA0.out] at h
        (try simp only [Act.put, List.setIfInBounds_toArray, List.set_cons_zero, List.set_cons_succ] at h)
        (try simp only [Act.put, List.setIfInBounds_toArray, List.set_cons_zero, List.set_cons_succ])
        exact hGi.out _ _ _ _ h
      have st_0 : Hid (∀ (V : World), Below VR.heap.size VR V → GO 7 #[true, false, true, false, false, true, false, true, false, false, false] A0 V) := by
        show ∀ V, _
        intro V  hB 
        refine hGo.out _ _ _ _ ?_
        rw [← hA0.out]
        try simp only [Act.put, List.setIfInBounds_toArray, List.set_cons_zero, List.set_cons_succ]
        refine wpAnyH_ready (rs := [1]) (by kernel_rfl) (by simp) (AllReadyH.cons rfl (fun K hK => ?_) AllReadyH.nil)
        refine step_calls_dst rfl 27 rfl 40 [.tmp 26] #[51] rfl [.agg #[.slice ka ks.length kc]] rfl (enters_of Tryd.func40 (by kernel_rfl) rfl) (fun v w' => w'.ownsRow VR.heap.size 60 4 v ks.length (hdv (ks.map Ct.hd)) ∧ Below V.heap.size V w') ((headers_any ks ka _ kc V rfl (by omega) (hd3.below hB)).mono (fun e w2 h => by obtain ⟨v, he, ho⟩ := h.out; exact ⟨v, he, own_wide ho hB.size, h.below⟩)) ?_
        rintro v W' ⟨h1_n, hb⟩
        have hBn := hB.trans (hb.mono hB.size)
        obtain ⟨v1, hv1e⟩ : ∃ v1, v1 = v := ⟨_, rfl⟩
        subst hv1e
        refine hK.out _ _ ⟨(hBn.cell (p := ⟨D, 0, none⟩) (block_lt_of_cell d0)).trans d0, (hBn.cell (p := ⟨X, 0, none⟩) (block_lt_of_cell x0)).trans x0⟩ (fun hHeld => ?_)
        clear hHeld
        have h := st_C.out W' v1 hBn h1_n
        rw [← hA0.out] at h
        (try simp only [Act.put, List.setIfInBounds_toArray, List.set_cons_zero, List.set_cons_succ] at h)
        (try simp only [Act.put, List.setIfInBounds_toArray, List.set_cons_zero, List.set_cons_succ])
        exact hGi.out _ _ _ _ h
      exact st_0.out V0 hV0 
    case rest =>
      obtain ⟨rfl, hb9⟩ := hcut
      have hB9 := hB3.trans (hb9.mono hB3.size)
      go_wp2_with fail
      go_ret
      exact ⟨rfl, hB9⟩
end Go.Proofs.YtbmodfegcmaieaaDoor
