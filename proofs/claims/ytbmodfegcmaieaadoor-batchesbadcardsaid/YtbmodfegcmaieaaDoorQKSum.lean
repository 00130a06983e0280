/- sheaveskeep.grownSum, of steps that make two unlike headers of one digest. -/
import Derived.Test.YtbmodfegcmaieaaDoorGKGrown
import Derived.Test.YtbmodfegcmaieaaDoorQKHeads
namespace Go.Proofs.YtbmodfegcmaieaaDoor
open Go.RowKit

/-- Do two certificates' headers differ? -/
def unlikeC (x y : CV) : Prop := ¬ (x.au = y.au ∧ x.rd = y.rd ∧ x.bl = y.bl ∧ x.pl = y.pl)
set_option maxRecDepth 100000 in
theorem hdv_app (a b : List Hd) : hdv (a ++ b) = hdv a ++ hdv b := by
  induction a with
  | nil => rfl
  | cons x r ih => simp [hdv, ih]
set_option maxRecDepth 100000 in
theorem hdv_ones (l : List Hd) : ∀ u ∈ hdv l, u.oneCell' = true := by
  induction l with
  | nil => intro u hu; cases hu
  | cons x r ih =>
    intro u hu
    rcases List.mem_append.1 hu with h | h
    · exact hd_one x u h
    · exact ih u h
set_option maxRecDepth 100000 in
theorem btv_ones (l : List Bt) : ∀ u ∈ btv l, u.oneCell' = true := by
  induction l with
  | nil => intro u hu; cases hu
  | cons x r ih =>
    intro u hu
    rcases List.mem_append.1 hu with h | h
    · exact bt_one x u h
    · exact ih u h
set_option maxRecDepth 100000 in
theorem own_some {w : World} {B n : Nat} {e : TypeId} {sz : Nat} {v : Value} {xs : List Value} (h : w.ownsRow B e sz v n xs) (hn : 0 < n) : ∃ g cap, v = .slice (some ⟨g, 0, none⟩) n cap := by
  rcases h.2 with ⟨_, h0⟩ | ⟨g, cap, cur, rfl, _⟩
  · omega
  · exact ⟨g, cap, rfl⟩
set_option maxRecDepth 100000 in
theorem own_wide {w : World} {B B' n : Nat} {e : TypeId} {sz : Nat} {v : Value} {xs : List Value} (h : w.ownsRow B e sz v n xs) (hB : B' ≤ B) : w.ownsRow B' e sz v n xs := ⟨h.1, h.2.imp id (fun ⟨g, c, cur, e1, e2, r⟩ => ⟨g, c, cur, e1, Nat.le_trans hB e2, r⟩)⟩
set_option maxRecDepth 100000 in
theorem oneSum_grown (ks ns : List Ct) (ta : Option Addr) (tc m : Nat) (v5 : Value) (W V : World) (I K : Nat) (hm : m = ks.length + ns.length) (hWV : Below W.heap.size W V) (h3 : V.ownsRow W.heap.size 60 4 (.slice ta m tc) m (hdv (ks.map Ct.hd) ++ hdv (ns.map Ct.hd))) (hk : ∀ c ∈ ks, HdAt W c.hd) (hn : ∀ c ∈ ns, HdAt W c.hd) (hlen : m ≤ 1000) (hK : K < I) (hI : I < ks.length) (hD : (cvAt (cvs ks) I).d = (cvAt (cvs ks) K).d) (hU : unlikeC (cvAt (cvs ks) I) (cvAt (cvs ks) K)) (hT : Tabs V) :
    Calls Tryd.prog 25 #[.slice ta m tc, v5] V fun e w' => e = .returned (.bool true) ∧ Below V.heap.size V w' := by
  have hall : ∀ c ∈ ks.map Ct.hd ++ ns.map Ct.hd, HdAt W c := by
    intro c hc
    rcases List.mem_append.1 hc with h | h
    · obtain ⟨x, hx, rfl⟩ := List.mem_map.1 h; exact hk x hx
    · obtain ⟨x, hx, rfl⟩ := List.mem_map.1 h; exact hn x hx
  rw [← hdv_app] at h3
  obtain ⟨ra, rc, hv, hl, hH⟩ := hs_of_owns h3 (fun c hc => ⟨(hall c hc).below hWV, fun b hb hv => by have := (hall c hc).block_lt b hb; have := (h3.lt b hv).1; omega⟩)
  simp at hv
  obtain ⟨rfl, rfl⟩ := hv
  have hat : ∀ j, j < ks.length → hdAt (ks.map Ct.hd ++ ns.map Ct.hd) j = (ks.getD j ⟨0, 0, none, 0, [], none, 0, [], none, 0, []⟩).hd := fun j hj => by
    rw [hdAt_get _ j (by simp; omega)]
    simp [hj]
  have hcv : ∀ j, j < ks.length → cvAt (cvs ks) j = (ks.getD j ⟨0, 0, none, 0, [], none, 0, [], none, 0, []⟩).v := fun j hj => by
    rw [cvAt_get ks j hj]; simp [hj]
  rw [hcv I hI, hcv K (by omega)] at hD hU
  refine oneSum_true _ ta m tc v5 V I K (by simp [hm]) (by simp; omega) hK (by simp; omega) hH ?_ ?_ hT
  · rw [hat I hI, hat K (by omega)]
    rw [← Ct.d_v, ← Ct.d_v] at hD
    exact hD
  · rw [hat I hI, hat K (by omega)]
    exact hU
set_option maxRecDepth 100000 in
theorem step_grown {w : World} {B k : Nat} {xa : Option Addr} {xc : Nat} {lk : List Stp} {W : World} {sa : Option Addr} (ho : w.ownsRow B 86 3 (.slice xa (0 + k + 0) xc) (0 + k + 0) (stv ([] ++ lk ++ []))) (hk : k = lk.length) (hl : StepsAt W sa lk) (h12 : k ≤ 12) (hT : Tabs w) :
    Calls Tryd.prog 33 #[.slice xa k xc] w fun e w' => GrownIs w w' e (s0 :: lk) (min (lk.length + 1) 24) := by
  simp only [Nat.zero_add, Nat.add_zero, List.nil_append, List.append_nil] at ho
  obtain ⟨xa', xc', e, h⟩ := steps_of_owns ho hl.each
  simp at e
  obtain ⟨rfl, _, rfl⟩ := e
  refine grown_any lk xa k xc w hk h (fun e => ?_) (by omega) hT
  subst e
  rcases ho.2 with ⟨e, hn⟩ | ⟨g, cap, cur, e, _⟩
  · cases e; exact ⟨rfl, rfl⟩
  · cases e
set_option maxRecDepth 100000 in
theorem grown_facts {l : List Stp} {ns : List Ct} {yl : List Bt} (hG : GrownTo (s0 :: l) (min (l.length + 1) 24) (cvs ns)) (hV : yl.map (·.v) = bvTo (s0 :: l) (min (l.length + 1) 24)) : Hid (0 < ns.length ∧ ns.length ≤ 24 ∧ yl.length ≤ 60 ∧ 0 < yl.length ∧ Hid (∀ x ∈ cvs ns, x.f = 0 ∧ U8C x)) := by
  refine ⟨?_, ?_, ?_, ?_, ?_⟩
  · have := grown_some (by omega) hG; rw [cvs_length] at this; exact this
  · have := hG.len; rw [cvs_length] at this; omega
  · have h1 := congrArg List.length hV
    have h2 := bvTo_length (s0 :: l) (min (l.length + 1) 24)
    rw [List.length_map] at h1; omega
  · have h1 := congrArg List.length hV
    rw [List.length_map] at h1
    rw [h1]
    obtain ⟨m, hm⟩ : ∃ m, min (l.length + 1) 24 = m + 1 := ⟨min (l.length + 1) 24 - 1, by omega⟩
    rw [hm]
    clear hm hG hV h1
    induction m with
    | zero => exact (show 0 < (bvTo (s0 :: l) 1).length by rw [bvTo, List.length_append, sBs_length]; show 0 < 0 + 1; decide)
    | succ m ih => rw [bvTo, List.length_append]; omega
  · show ∀ x, _
    intro x hx
    refine ⟨?_, hG.u8 x hx⟩
    obtain ⟨j, hj, rfl⟩ := List.getElem_of_mem hx
    have h2 := dagF_f hG.dag j hj
    have e : cvAt (cvs ns) j = (cvs ns)[j] := by simp [cvAt, hj]
    rw [e] at h2; exact h2
set_option maxRecDepth 100000 in
set_option maxHeartbeats 4000000 in
theorem grownSum_true (l : List Stp) (sa : Option Addr) (cap : Nat) (w : World) (c : List CV) (I K : Nat) (hl : StepsAt w sa l) (hcl : l.length ≤ cap) (hc0 : sa = none → cap = 0) (hc1 : l.length * 24 ≤ 140737488351232) (hG : GrownTo (s0 :: l) (min (l.length + 1) 24) c) (hK : K < I) (hI : I < c.length) (hD : (cvAt c I).d = (cvAt c K).d) (hU : unlikeC (cvAt c I) (cvAt c K)) (hT : Tabs w) :
    Calls Tryd.prog 17 #[.slice sa l.length cap, .slice none 0 0] w fun e w' => e = .returned (.bool true) ∧ Below w.heap.size w w' := by
  have hnil : sa = none → l.length = 0 ∧ cap = 0 := fun h => by have := hc0 h; omega
  have H := grown_any l sa _ cap w rfl hl hnil hc1 hT
  have HT : Hid (∀ W : World, Below w.heap.size w W → Tabs W) := by
    show ∀ W, _
    exact fun W hW => hT.below hW
  have HC : Hid _ := hG
  have HKI : Hid (K < I ∧ I < c.length ∧ (cvAt c I).d = (cvAt c K).d ∧ unlikeC (cvAt c I) (cvAt c K)) := ⟨hK, hI, hD, hU⟩
  clear hT hG hK hI hD hU
  go_enter Tryd.func17, Tryd.ntmps17
  go_wp2_with fail
  refine H.mono ?_
  rintro e w1 ⟨ka, kc, ks, ba, bc, bl, he, hG, hd, hnew, ho, hoff, hV, hb1⟩
  subst he
  dsimp only
  have HE : Hid (cvs ks = c) := hG.one HC.out
  have hle : ks.length ≤ 24 := by have := hG.len; rw [cvs_length] at this; omega
  have hbl60' : bl.length ≤ 60 := (grown_facts hG hV).out.2.2.1
  have hblp : 0 < bl.length := (grown_facts hG hV).out.2.2.2.1
  have hA1 := (Below.refl w1.heap.size w1).alloc (Nat.le_refl _) (.cells #[.slice ka ks.length kc] 51)
  have qD := heap_alloc_new w1 (.cells #[.slice ka ks.length kc] 51)
  have hd2 := hd.below hA1
  have ho2 := ho.below hA1
  have hB2 := hb1.trans (hA1.mono hb1.size)
  have hl2 := hl.below hB2
  have HU1 : Hid (∀ x ∈ cvs ks, x.f = 0 ∧ U8C x) := by
    show ∀ x, _
    intro x hx
    refine ⟨?_, hG.u8 x hx⟩
    obtain ⟨j, hj, rfl⟩ := List.getElem_of_mem hx
    have h2 := dagF_f hG.dag j hj
    have e : cvAt (cvs ks) j = (cvs ks)[j] := by simp [cvAt, hj]
    rw [e] at h2; exact h2
  clear hG hV ho hoff hnew hd H
  go_upto_region 2 with fail
  generalize w1.alloc (.cells #[.slice ka ks.length kc] 51) = W2 at hA1 qD hd2 ho2 hB2 hl2 ⊢
  clear hA1
  have hgD : w.heap.size ≤ w1.heap.size := hb1.size
  clear hb1
  generalize w1.heap.size = D at qD hgD ⊢
  obtain ⟨k, hk⟩ : ∃ k : Nat, k = min l.length 12 := ⟨_, rfl⟩
  have hkl : k ≤ l.length := by omega
  have HLT : Hid (k = (l.take k).length) := by show _ = _; rw [List.length_take]; omega
  have hlk : StepsAt W2 sa (l.take k) := by
    refine ⟨?_, fun s hs => hl2.each s (List.mem_of_mem_take hs)⟩
    rcases hl2.cells with h | ⟨sb, so, e, h⟩
    · left; rw [h]; simp
    · refine .inr ⟨sb, so, e, fun j hj => ?_⟩
      have hj2 : j < l.length := by rw [List.length_take] at hj; omega
      simpa using h j hj2
  generalize l.take k = lk at hlk HLT
  have hnk : sa = none → k = 0 ∧ cap = 0 := fun h => by have := hnil h; omega
  have hk24 : k ≤ 12 := by omega
  go_cut [7, 8] (fun u v wx => ∃ (X : Nat) (na : Option Addr) (nc : Nat) (ns : List Ct) (ya : Option Addr) (yc : Nat) (yl : List Bt), u = .pointer (some ⟨X, 0, none⟩) ∧ v = .slice ya yl.length yc ∧ W2.heap.size ≤ X ∧ wx.heap[X]? = some (.cells #[.slice na ns.length nc] 51 (0, 0)) ∧ DagAt wx na nc ns ∧ BtsOwn wx W2.heap.size (.slice ya yl.length yc) yl ∧ 0 < ns.length ∧ ns.length ≤ 24 ∧ yl.length ≤ 60 ∧ 0 < yl.length ∧ Hid (∀ x ∈ cvs ns, x.f = 0 ∧ U8C x) ∧ Below W2.heap.size W2 wx)
  case first =>
    have HNN0 : Hid (sa = none → k = 0 ∧ cap = 0) := hnk
    clear hnk hnil hc0 hl hl2
    cases sa with
    | none =>
      have hl12 : l.length ≤ 12 := by have := (HNN0.out rfl).1; omega
      obtain rfl : k = l.length := by omega
      have HNN : Hid ((none : Option Addr) = none → l.length = 0 ∧ cap = 0) := HNN0.out
      have hnI : ¬ (12 : Int) < l.length := by omega
      have hkc : (l.length : Int) ≤ cap := by omega
      clear hk HNN0 hl12
      go_wp2_with (at_builtin; first
        | (refine wpList_append_steps rfl _ _ rfl W2.heap.size v1 (0 + l.length) ([] ++ lk) rfl ho5 none 0 0 [] rfl rfl ⟨.inl rfl, fun s hs => by cases hs⟩ (fun _ => ⟨rfl, rfl⟩) (by omega) hg5.size ?_; intro v2 w6 ho6 hg6; obtain ⟨xa, xc, hxe⟩ := owns_shape ho6; subst hxe)
        | (refine wpList_append_steps rfl _ _ rfl W2.heap.size (.slice none 0 0) 0 [] rfl (World.ownsRow_nil _ _ _ _) none l.length cap lk rfl HLT.out hlk HNN.out (by omega) (Nat.le_refl _) ?_; intro v1 w5 ho5 hg5))
      have hb5 : Below W2.heap.size W2 w5 := Below.grown (Below.refl _ _) hg5 (Nat.le_refl _) (fun q e => by cases e)
      have hb6 : Below W2.heap.size W2 w6 := Below.grown hb5 hg6 hb5.size (fun q e => (ho5.lt q e).1)
      have hB6 := hB2.trans (hb6.mono hB2.size)
      have H2 := step_grown ho6 HLT.out hlk (by omega) (HT.out w6 hB6)
      refine H2.mono ?_
      rintro e w7 ⟨na, nc, ns, ya, yc, yl, he, hG7, hd7, hnew7, ho7, hoff7, hV7, hb7⟩
      subst he
      dsimp only
      have hA7 := (Below.refl w7.heap.size w7).alloc (Nat.le_refl _) (.cells #[.slice na ns.length nc] 51)
      have qX := heap_alloc_new w7 (.cells #[.slice na ns.length nc] 51)
      have hB7 := hb6.trans (hb7.mono hb6.size)
      have hd8 := hd7.below hA7
      have ho8 := ho7.below hA7
      have HR := grown_facts hG7 hV7
      clear hG7 hV7 H2 hd7 ho7 hoff7 hnew7
      have hs6 := hb6.size
      have hs7 := hb7.size
      go_wp2_with fail
      go_meet
      case rel =>
        obtain ⟨r1, r2, r3, r4, r5⟩ := HR.out
        exact ⟨w7.heap.size, na, nc, ns, ya, yc, yl, rfl, rfl, by omega, qX, hd8, ⟨⟨ho8.row.1, ho8.row.2.imp id (fun ⟨g, c, cur, e1, e2, r⟩ => ⟨g, c, cur, e1, Nat.le_trans hs6 e2, r⟩)⟩, ho8.each⟩, r1, r2, r3, r4, r5, hB7.trans (hA7.mono hB7.size)⟩
    | some ad =>
      by_cases h12 : l.length ≤ 12
      · obtain rfl : k = l.length := by omega
        have hnI : ¬ (12 : Int) < l.length := by omega
        have hkc : (l.length : Int) ≤ cap := by omega
        clear hk HNN0 h12
        go_wp2_with (at_builtin; first
          | (refine wpList_append_steps rfl _ _ rfl W2.heap.size v1 (0 + l.length) ([] ++ lk) rfl ho5 none 0 0 [] rfl rfl ⟨.inl rfl, fun s hs => by cases hs⟩ (fun _ => ⟨rfl, rfl⟩) (by omega) hg5.size ?_; intro v2 w6 ho6 hg6; obtain ⟨xa, xc, hxe⟩ := owns_shape ho6; subst hxe)
          | (refine wpList_append_steps rfl _ _ rfl W2.heap.size (.slice none 0 0) 0 [] rfl (World.ownsRow_nil _ _ _ _) (some ad) l.length cap lk rfl HLT.out hlk (fun h => by cases h) (by omega) (Nat.le_refl _) ?_; intro v1 w5 ho5 hg5))
        have hb5 : Below W2.heap.size W2 w5 := Below.grown (Below.refl _ _) hg5 (Nat.le_refl _) (fun q e => by cases e)
        have hb6 : Below W2.heap.size W2 w6 := Below.grown hb5 hg6 hb5.size (fun q e => (ho5.lt q e).1)
        have hB6 := hB2.trans (hb6.mono hB2.size)
        have H2 := step_grown ho6 HLT.out hlk (by omega) (HT.out w6 hB6)
        refine H2.mono ?_
        rintro e w7 ⟨na, nc, ns, ya, yc, yl, he, hG7, hd7, hnew7, ho7, hoff7, hV7, hb7⟩
        subst he
        dsimp only
        have hA7 := (Below.refl w7.heap.size w7).alloc (Nat.le_refl _) (.cells #[.slice na ns.length nc] 51)
        have qX := heap_alloc_new w7 (.cells #[.slice na ns.length nc] 51)
        have hB7 := hb6.trans (hb7.mono hb6.size)
        have hd8 := hd7.below hA7
        have ho8 := ho7.below hA7
        have HR := grown_facts hG7 hV7
        clear hG7 hV7 H2 hd7 ho7 hoff7 hnew7
        have hs6 := hb6.size
        have hs7 := hb7.size
        go_wp2_with fail
        go_meet
        case rel =>
          obtain ⟨r1, r2, r3, r4, r5⟩ := HR.out
          exact ⟨w7.heap.size, na, nc, ns, ya, yc, yl, rfl, rfl, by omega, qX, hd8, ⟨⟨ho8.row.1, ho8.row.2.imp id (fun ⟨g, c, cur, e1, e2, r⟩ => ⟨g, c, cur, e1, Nat.le_trans hs6 e2, r⟩)⟩, ho8.each⟩, r1, r2, r3, r4, r5, hB7.trans (hA7.mono hB7.size)⟩
      · obtain rfl : k = 12 := by omega
        have hnI : (12 : Int) < l.length := by omega
        have hkc : (12 : Int) ≤ cap := by omega
        clear hk HNN0 h12
        go_wp2_with (at_builtin; first
          | (refine wpList_append_steps rfl _ _ rfl W2.heap.size v1 (0 + 12) ([] ++ lk) rfl ho5 none 0 0 [] rfl rfl ⟨.inl rfl, fun s hs => by cases hs⟩ (fun _ => ⟨rfl, rfl⟩) (by omega) hg5.size ?_; intro v2 w6 ho6 hg6; obtain ⟨xa, xc, hxe⟩ := owns_shape ho6; subst hxe)
          | (refine wpList_append_steps rfl _ _ rfl W2.heap.size (.slice none 0 0) 0 [] rfl (World.ownsRow_nil _ _ _ _) (some ad) 12 cap lk rfl HLT.out hlk (fun h => by cases h) (by omega) (Nat.le_refl _) ?_; intro v1 w5 ho5 hg5))
        have hb5 : Below W2.heap.size W2 w5 := Below.grown (Below.refl _ _) hg5 (Nat.le_refl _) (fun q e => by cases e)
        have hb6 : Below W2.heap.size W2 w6 := Below.grown hb5 hg6 hb5.size (fun q e => (ho5.lt q e).1)
        have hB6 := hB2.trans (hb6.mono hB2.size)
        have H2 := step_grown ho6 HLT.out hlk (by omega) (HT.out w6 hB6)
        refine H2.mono ?_
        rintro e w7 ⟨na, nc, ns, ya, yc, yl, he, hG7, hd7, hnew7, ho7, hoff7, hV7, hb7⟩
        subst he
        dsimp only
        have hA7 := (Below.refl w7.heap.size w7).alloc (Nat.le_refl _) (.cells #[.slice na ns.length nc] 51)
        have qX := heap_alloc_new w7 (.cells #[.slice na ns.length nc] 51)
        have hB7 := hb6.trans (hb7.mono hb6.size)
        have hd8 := hd7.below hA7
        have ho8 := ho7.below hA7
        have HR := grown_facts hG7 hV7
        clear hG7 hV7 H2 hd7 ho7 hoff7 hnew7
        have hs6 := hb6.size
        have hs7 := hb7.size
        go_wp2_with fail
        go_meet
        case rel =>
          obtain ⟨r1, r2, r3, r4, r5⟩ := HR.out
          exact ⟨w7.heap.size, na, nc, ns, ya, yc, yl, rfl, rfl, by omega, qX, hd8, ⟨⟨ho8.row.1, ho8.row.2.imp id (fun ⟨g, c, cur, e1, e2, r⟩ => ⟨g, c, cur, e1, Nat.le_trans hs6 e2, r⟩)⟩, ho8.each⟩, r1, r2, r3, r4, r5, hB7.trans (hA7.mono hB7.size)⟩
  case rest =>
    obtain ⟨X, na, nc, ns, ya, yc, yl, rfl, rfl, gX, qX, hdx, hox, hnp, hn24, hy60, hyp, HU2, hb3⟩ := hcut
    have hB3 := hB2.trans (hb3.mono hB2.size)
    have qD3 := (hb3.block _ (lt_of_heap qD)).trans qD
    have hd3 := hd2.below hb3
    have ho3 := ho2.below hb3
    have HKN : Hid (∀ c ∈ ks, HdAt wc c.hd) := by
      show ∀ c, _
      intro c hc
      obtain ⟨h1, h2⟩ := HU1.out c.v (List.mem_map.2 ⟨c, hc, rfl⟩)
      exact hd_at (hd3.each c hc) h1 h2
    have HNN : Hid (∀ c ∈ ns, HdAt wc c.hd) := by
      show ∀ c, _
      intro c hc
      obtain ⟨h1, h2⟩ := HU2.out c.v (List.mem_map.2 ⟨c, hc, rfl⟩)
      exact hd_at (hdx.each c hc) h1 h2
    have HKI2 : Hid (K < I ∧ I < ks.length ∧ (cvAt (cvs ks) I).d = (cvAt (cvs ks) K).d ∧ unlikeC (cvAt (cvs ks) I) (cvAt (cvs ks) K)) := by
      obtain ⟨a1, a2, a3, a4⟩ := HKI.out
      rw [HE.out]
      refine ⟨a1, ?_, a3, a4⟩
      rw [← cvs_length, HE.out]; exact a2
    obtain ⟨bb, bcc, hbe⟩ := own_some ho3.row hblp
    obtain ⟨yb, ycc, hye⟩ := own_some hox.row hyp
    simp at hbe hye
    obtain ⟨rfl, rfl⟩ := hbe
    obtain ⟨rfl, rfl⟩ := hye
    have hbl60 : bl.length ≤ 60 := hbl60'
    have d0 := cells_at qD3 0 _ rfl
    have x0 := cells_at qX 0 _ rfl
    obtain ⟨ih, hih, hh0, hh1, hh2⟩ := info_parts infoHd
    obtain ⟨ib, hib, hi0, hi1, hi2⟩ := info_parts infoBatch
    clear hl hl2 hlk HLT hnil hnk hc0 hk HC HKI HE HU1 HU2
    go_upto_region 3 with fail
    obtain ⟨VR, hVR⟩ : ∃ VR, VR = wc := ⟨_, rfl⟩
    subst hVR
    go_cut [4] (fun v wx => v = .bool true ∧ Below VR.heap.size VR wx)
    case first =>
      have hV0 : Below VR.heap.size VR VR.drew := (Below.refl _ _).drew
      refine wp_region_held_drew (S := fun w' => w'.cell? ⟨D, 0, none⟩ = some (.slice ka ks.length kc) ∧ w'.cell? ⟨X, 0, none⟩ = some (.slice na ns.length nc)) (by kernel_rfl) ⟨(hV0.cell (p := ⟨D, 0, none⟩) (block_lt_of_cell d0)).trans d0, (hV0.cell (p := ⟨X, 0, none⟩) (block_lt_of_cell x0)).trans x0⟩ (fun hHeld => ?_)
      generalize VR.drew = V0 at hV0 hHeld ⊢
      refine take_dst (i := 0) (d := 26) (v := .agg #[.slice ka ks.length kc]) rfl rfl (by kernel_rfl) (by kernel_rfl) (by kernel_rfl) (fun _ _ _ h => h) (Or.inl ⟨by rfl, ?_⟩) hHeld ?_
      · (intro w0 hSw; (try dsimp only at hSw); go_simp)
      simp only [Act.put, List.setIfInBounds_toArray, List.set_cons_zero, List.set_cons_succ]
      refine take_dst (i := 2) (d := 28) (v := .agg #[.slice na ns.length nc]) rfl rfl (by kernel_rfl) (by kernel_rfl) (by kernel_rfl) (fun _ _ _ h => h) (Or.inl ⟨by rfl, ?_⟩) hHeld ?_
      · (intro w0 hSw; (try dsimp only at hSw); go_simp)
      simp only [Act.put, List.setIfInBounds_toArray, List.set_cons_zero, List.set_cons_succ]
      refine take_dst (i := 5) (d := 31) (v := .slice (some ⟨bb, 0, none⟩) bl.length bc) rfl rfl (by kernel_rfl) (by kernel_rfl) (by kernel_rfl) (fun _ _ _ h => h) (Or.inl ⟨by rfl, ?_⟩) hHeld ?_
      · (intro w0 hSw; (try dsimp only at hSw); go_simp)
      simp only [Act.put, List.setIfInBounds_toArray, List.set_cons_zero, List.set_cons_succ]
      refine take_dst (i := 7) (d := 33) (v := .slice (some ⟨yb, 0, none⟩) yl.length yc) rfl rfl (by kernel_rfl) (by kernel_rfl) (by kernel_rfl) (fun _ _ _ h => h) (Or.inl ⟨by rfl, ?_⟩) hHeld ?_
      · (intro w0 hSw; (try dsimp only at hSw); go_simp)
      simp only [Act.put, List.setIfInBounds_toArray, List.set_cons_zero, List.set_cons_succ]
      clear hHeld
      refine any_named (fun GO hGo hGi => ?_)
      refine act_named (fun A0 hA0 => ?_)
      have st_CNPBYO : Hid (∀ (V : World) (v1 : Value) (xb : Nat) (xm : Nat) (ta : Option Addr) (tc : Nat) (v4 : Value) (v5 : Value), Below VR.heap.size VR V → (V.ownsRow VR.heap.size 60 4 (.slice ta (ks.length + ns.length) tc) (ks.length + ns.length) (hdv (ks.map Ct.hd) ++ hdv (ns.map Ct.hd))) → GO 0 #[true, true, true, true, true, true, true, true, true, true, true] (((((((A0.put (some 27) (v1)).put (some 29) (.slice (some ⟨xb, 0, none⟩) ns.length xm)).put (some 30) (.slice ta (ks.length + ns.length) tc)).put (some 32) (v4)).put (some 34) (v5)).put (some 35) (.bool true)).put (some 4) (.bool true)) V) := by
        show ∀ V, _
        intro V v1 xb xm ta tc v4 v5 hB h3
        refine hGo.out _ _ _ _ ?_
        rw [← hA0.out]
        try simp only [Act.put, List.setIfInBounds_toArray, List.set_cons_zero, List.set_cons_succ]
        refine wpAnyH_done (by kernel_rfl) ?_ _
        go_wp2_with fail
        go_meet
        case rel => exact ⟨rfl, hB⟩
      have st_CNPBY : Hid (∀ (V : World) (v1 : Value) (xb : Nat) (xm : Nat) (ta : Option Addr) (tc : Nat) (v4 : Value) (v5 : Value), Below VR.heap.size VR V → (V.ownsRow VR.heap.size 60 4 (.slice ta (ks.length + ns.length) tc) (ks.length + ns.length) (hdv (ks.map Ct.hd) ++ hdv (ns.map Ct.hd))) → GO 2 #[true, true, true, true, true, true, true, true, true, false, false] (((((A0.put (some 27) (v1)).put (some 29) (.slice (some ⟨xb, 0, none⟩) ns.length xm)).put (some 30) (.slice ta (ks.length + ns.length) tc)).put (some 32) (v4)).put (some 34) (v5)) V) := by
        show ∀ V, _
        intro V v1 xb xm ta tc v4 v5 hB h3
        refine hGo.out _ _ _ _ ?_
        rw [← hA0.out]
        try simp only [Act.put, List.setIfInBounds_toArray, List.set_cons_zero, List.set_cons_succ]
        refine wpAnyH_ready (rs := [9]) (by kernel_rfl) (by simp) (AllReadyH.cons rfl (fun K hK => ?_) AllReadyH.nil)
        refine step_calls_dst rfl 35 rfl 25 [.tmp 30, .tmp 34] #[66, 22] rfl [.slice ta (ks.length + ns.length) tc, v5] rfl (enters_of Tryd.func25 (by kernel_rfl) rfl) (fun v w' => v = .bool true ∧ Below V.heap.size V w') ((oneSum_grown ks ns ta tc _ v5 VR V I _ rfl hB h3 HKN.out HNN.out (by omega) HKI2.out.1 HKI2.out.2.1 HKI2.out.2.2.1 HKI2.out.2.2.2 (HT.out V (hB3.trans (hB.mono hB3.size)))).mono (fun e w2 h => ⟨_, h.1, rfl, h.2⟩)) ?_
        rintro v W' ⟨rfl, hb⟩
        have hBn := hB.trans (hb.mono hB.size)
        refine hK.out _ _ ⟨(hBn.cell (p := ⟨D, 0, none⟩) (block_lt_of_cell d0)).trans d0, (hBn.cell (p := ⟨X, 0, none⟩) (block_lt_of_cell x0)).trans x0⟩ (fun hHeld => ?_)
        simp only [Act.put, List.setIfInBounds_toArray, List.set_cons_zero, List.set_cons_succ]
        refine take_dst (i := 10) (d := 4) (v := .bool true) rfl rfl (by kernel_rfl) (by kernel_rfl) (by kernel_rfl) (fun _ _ _ h => h) (Or.inl ⟨by rfl, ?_⟩) hHeld ?_
        · (intro w0 hSw; (try dsimp only at hSw); go_simp)
        simp only [Act.put, List.setIfInBounds_toArray, List.set_cons_zero, List.set_cons_succ]
        clear hHeld
        have h := st_CNPBYO.out W' v1 xb xm ta tc v4 v5 hBn (owns_keep h3 hb)
        rw [← hA0.out] at h
        (try simp only [Act.put, List.setIfInBounds_toArray, List.set_cons_zero, List.set_cons_succ] at h)
        (try simp only [Act.put, List.setIfInBounds_toArray, List.set_cons_zero, List.set_cons_succ])
        exact hGi.out _ _ _ _ h
      have st_CNPB : Hid (∀ (V : World) (v1 : Value) (xb : Nat) (xm : Nat) (ta : Option Addr) (tc : Nat) (v4 : Value), Below VR.heap.size VR V → (V.ownsRow VR.heap.size 60 4 (.slice ta (ks.length + ns.length) tc) (ks.length + ns.length) (hdv (ks.map Ct.hd) ++ hdv (ns.map Ct.hd))) → (V.ownsRow VR.heap.size 42 3 v4 (0 + bl.length) ([] ++ btv bl)) → GO 3 #[true, true, true, true, true, true, true, true, false, false, false] ((((A0.put (some 27) (v1)).put (some 29) (.slice (some ⟨xb, 0, none⟩) ns.length xm)).put (some 30) (.slice ta (ks.length + ns.length) tc)).put (some 32) (v4)) V) := by
        show ∀ V, _
        intro V v1 xb xm ta tc v4 hB h3 h4
        refine hGo.out _ _ _ _ ?_
        rw [← hA0.out]
        try simp only [Act.put, List.setIfInBounds_toArray, List.set_cons_zero, List.set_cons_succ]
        refine wpAnyH_ready (rs := [8]) (by kernel_rfl) (by simp) (AllReadyH.cons rfl (fun K hK => ?_) AllReadyH.nil)
        have hoy := (hox.below hB).row
        refine step_append_at rfl _ _ 22 rfl VR.heap.size 42 ib (.agg #[.int .i64 0, .int .i64 0, .slice none 0 0]) 3 40 Tryd.underlying22 hib hi0 hi1 hi2 rfl (by decide) v4 (0 + bl.length) _ rfl h4 ⟨yb, 0, none⟩ yl.length yc (btv yl) rfl (btv_length _) (World.ownsRow.cells hoy rfl) (btv_ones _) (by unfold maxLen; omega) (by omega) hB.size ?_
        intro v5 W' ho5 G5
        have hBn := hB.trans (G5.below hB.size (fun q e => (h4.lt q e).1))
        have h3' := owns_grew h3 h4 (by decide) G5
        refine hK.out _ _ ⟨(hBn.cell (p := ⟨D, 0, none⟩) (block_lt_of_cell d0)).trans d0, (hBn.cell (p := ⟨X, 0, none⟩) (block_lt_of_cell x0)).trans x0⟩ (fun hHeld => ?_)
        clear hHeld
        have h := st_CNPBY.out W' v1 xb xm ta tc v4 v5 hBn h3'
        rw [← hA0.out] at h
        (try simp only [Act.put, List.setIfInBounds_toArray, List.set_cons_zero, List.set_cons_succ] at h)
        (try simp only [Act.put, List.setIfInBounds_toArray, List.set_cons_zero, List.set_cons_succ])
        exact hGi.out _ _ _ _ h
      have st_CNP : Hid (∀ (V : World) (v1 : Value) (xb : Nat) (xm : Nat) (ta : Option Addr) (tc : Nat), Below VR.heap.size VR V → (V.ownsRow VR.heap.size 60 4 (.slice ta (ks.length + ns.length) tc) (ks.length + ns.length) (hdv (ks.map Ct.hd) ++ hdv (ns.map Ct.hd))) → GO 4 #[true, true, true, true, true, true, false, true, false, false, false] (((A0.put (some 27) (v1)).put (some 29) (.slice (some ⟨xb, 0, none⟩) ns.length xm)).put (some 30) (.slice ta (ks.length + ns.length) tc)) V) := by
        show ∀ V, _
        intro V v1 xb xm ta tc hB h3
        refine hGo.out _ _ _ _ ?_
        rw [← hA0.out]
        try simp only [Act.put, List.setIfInBounds_toArray, List.set_cons_zero, List.set_cons_succ]
        refine wpAnyH_ready (rs := [6]) (by kernel_rfl) (by simp) (AllReadyH.cons rfl (fun K hK => ?_) AllReadyH.nil)
        have hob := (ho3.below hB).row
        refine step_append_at rfl _ _ 22 rfl VR.heap.size 42 ib (.agg #[.int .i64 0, .int .i64 0, .slice none 0 0]) 3 40 Tryd.underlying22 hib hi0 hi1 hi2 rfl (by decide) (.slice none 0 0) 0 [] rfl (World.ownsRow_nil _ _ _ _) ⟨bb, 0, none⟩ bl.length bc (btv bl) rfl (btv_length _) (World.ownsRow.cells hob rfl) (btv_ones _) (by unfold maxLen; omega) (by omega) hB.size ?_
        intro v4 W' ho4 G4
        have h4_n := ho4
        have hBn := hB.trans (G4.below hB.size (fun q e => by cases e))
        have h3' := owns_grew h3 (World.ownsRow_nil V VR.heap.size 42 3) (by decide) G4
        refine hK.out _ _ ⟨(hBn.cell (p := ⟨D, 0, none⟩) (block_lt_of_cell d0)).trans d0, (hBn.cell (p := ⟨X, 0, none⟩) (block_lt_of_cell x0)).trans x0⟩ (fun hHeld => ?_)
        clear hHeld
        have h := st_CNPB.out W' v1 xb xm ta tc v4 hBn h3' h4_n
        rw [← hA0.out] at h
        (try simp only [Act.put, List.setIfInBounds_toArray, List.set_cons_zero, List.set_cons_succ] at h)
        (try simp only [Act.put, List.setIfInBounds_toArray, List.set_cons_zero, List.set_cons_succ])
        exact hGi.out _ _ _ _ h
      have st_CN : Hid (∀ (V : World) (v1 : Value) (xb : Nat) (xm : Nat), Below VR.heap.size VR V → (V.ownsRow VR.heap.size 60 4 v1 ks.length (hdv (ks.map Ct.hd))) → (V.ownsRow VR.heap.size 60 4 (.slice (some ⟨xb, 0, none⟩) ns.length xm) ns.length (hdv (ns.map Ct.hd))) → GO 5 #[true, true, true, true, false, true, false, true, false, false, false] ((A0.put (some 27) (v1)).put (some 29) (.slice (some ⟨xb, 0, none⟩) ns.length xm)) V) := by
        show ∀ V, _
        intro V v1 xb xm hB h1 h2
        refine hGo.out _ _ _ _ ?_
        rw [← hA0.out]
        try simp only [Act.put, List.setIfInBounds_toArray, List.set_cons_zero, List.set_cons_succ]
        refine wpAnyH_ready (rs := [4]) (by kernel_rfl) (by simp) (AllReadyH.cons rfl (fun K hK => ?_) AllReadyH.nil)
        refine step_append_at rfl _ _ 66 rfl VR.heap.size 60 ih (.agg #[.int .i64 0, .int .i64 0, .slice none 0 0, .slice none 0 0]) 4 64 Tryd.underlying66 hih hh0 hh1 hh2 rfl (by decide) v1 ks.length _ rfl h1 ⟨xb, 0, none⟩ ns.length xm (hdv (ns.map Ct.hd)) rfl (by rw [hdv_length]; simp) (World.ownsRow.cells h2 rfl) (hdv_ones _) (by unfold maxLen; omega) (by omega) hB.size ?_
        intro v3 W' ho3' G3
        obtain ⟨ta, tc, hve⟩ := owns_shape ho3'
        subst hve
        have h3_n := ho3'
        have hBn := hB.trans (G3.below hB.size (fun q e => (h1.lt q e).1))
        refine hK.out _ _ ⟨(hBn.cell (p := ⟨D, 0, none⟩) (block_lt_of_cell d0)).trans d0, (hBn.cell (p := ⟨X, 0, none⟩) (block_lt_of_cell x0)).trans x0⟩ (fun hHeld => ?_)
        clear hHeld
        have h := st_CNP.out W' v1 xb xm ta tc hBn h3_n
        rw [← hA0.out] at h
        (try simp only [Act.put, List.setIfInBounds_toArray, List.set_cons_zero, List.set_cons_succ] at h)
        (try simp only [Act.put, List.setIfInBounds_toArray, List.set_cons_zero, List.set_cons_succ])
        exact hGi.out _ _ _ _ h
      have st_C : Hid (∀ (V : World) (v1 : Value), Below VR.heap.size VR V → (V.ownsRow VR.heap.size 60 4 v1 ks.length (hdv (ks.map Ct.hd))) → GO 6 #[true, true, true, false, false, true, false, true, false, false, false] (A0.put (some 27) (v1)) V) := by
        show ∀ V, _
        intro V v1 hB h1
        refine hGo.out _ _ _ _ ?_
        rw [← hA0.out]
        try simp only [Act.put, List.setIfInBounds_toArray, List.set_cons_zero, List.set_cons_succ]
        refine wpAnyH_ready (rs := [3]) (by kernel_rfl) (by simp) (AllReadyH.cons rfl (fun K hK => ?_) AllReadyH.nil)
        refine step_calls_dst rfl 29 rfl 40 [.tmp 28] #[51] rfl [.agg #[.slice na ns.length nc]] rfl (enters_of Tryd.func40 (by kernel_rfl) rfl) (fun v w' => (∃ xb xm, v = .slice (some ⟨xb, 0, none⟩) ns.length xm ∧ w'.ownsRow VR.heap.size 60 4 (.slice (some ⟨xb, 0, none⟩) ns.length xm) ns.length (hdv (ns.map Ct.hd))) ∧ Below V.heap.size V w') ((headers_any ns na _ nc V rfl (by omega) (hdx.below hB)).mono (fun e w2 h => by obtain ⟨v, he, ho⟩ := h.out; obtain ⟨xb, xm, rfl⟩ := own_some ho hnp; exact ⟨_, he, ⟨xb, xm, rfl, own_wide ho hB.size⟩, h.below⟩)) ?_
        rintro v W' ⟨⟨xb, xm, rfl, h2_n⟩, hb⟩
        have hBn := hB.trans (hb.mono hB.size)
        refine hK.out _ _ ⟨(hBn.cell (p := ⟨D, 0, none⟩) (block_lt_of_cell d0)).trans d0, (hBn.cell (p := ⟨X, 0, none⟩) (block_lt_of_cell x0)).trans x0⟩ (fun hHeld => ?_)
        clear hHeld
        have h := st_CN.out W' v1 xb xm hBn (owns_keep h1 hb) h2_n
        rw [← hA0.out] at h
        (try simp only [Act.put, List.setIfInBounds_toArray, List.set_cons_zero, List.set_cons_succ] at h)
        (try simp only [Act.put, List.setIfInBounds_toArray, List.set_cons_zero, List.set_cons_succ])
        exact hGi.out _ _ _ _ h
      have st_0 : Hid (∀ (V : World), Below VR.heap.size VR V → GO 7 #[true, false, true, false, false, true, false, true, false, false, false] A0 V) := by
        show ∀ V, _
        intro V  hB 
        refine hGo.out _ _ _ _ ?_
        rw [← hA0.out]
        try simp only [Act.put, List.setIfInBounds_toArray, List.set_cons_zero, List.set_cons_succ]
        refine wpAnyH_ready (rs := [1]) (by kernel_rfl) (by simp) (AllReadyH.cons rfl (fun K hK => ?_) AllReadyH.nil)
        refine step_calls_dst rfl 27 rfl 40 [.tmp 26] #[51] rfl [.agg #[.slice ka ks.length kc]] rfl (enters_of Tryd.func40 (by kernel_rfl) rfl) (fun v w' => w'.ownsRow VR.heap.size 60 4 v ks.length (hdv (ks.map Ct.hd)) ∧ Below V.heap.size V w') ((headers_any ks ka _ kc V rfl (by omega) (hd3.below hB)).mono (fun e w2 h => by obtain ⟨v, he, ho⟩ := h.out; exact ⟨v, he, own_wide ho hB.size, h.below⟩)) ?_
        rintro v W' ⟨h1_n, hb⟩
        have hBn := hB.trans (hb.mono hB.size)
        obtain ⟨v1, hv1e⟩ : ∃ v1, v1 = v := ⟨_, rfl⟩
        subst hv1e
        refine hK.out _ _ ⟨(hBn.cell (p := ⟨D, 0, none⟩) (block_lt_of_cell d0)).trans d0, (hBn.cell (p := ⟨X, 0, none⟩) (block_lt_of_cell x0)).trans x0⟩ (fun hHeld => ?_)
        clear hHeld
        have h := st_C.out W' v1 hBn h1_n
        rw [← hA0.out] at h
        (try simp only [Act.put, List.setIfInBounds_toArray, List.set_cons_zero, List.set_cons_succ] at h)
        (try simp only [Act.put, List.setIfInBounds_toArray, List.set_cons_zero, List.set_cons_succ])
        exact hGi.out _ _ _ _ h
      exact st_0.out V0 hV0
    case rest =>
      obtain ⟨rfl, hb9⟩ := hcut
      have hB9 := hB3.trans (hb9.mono hB3.size)
      go_wp2_with fail
      go_ret
      exact ⟨rfl, hB9⟩
end Go.Proofs.YtbmodfegcmaieaaDoor
