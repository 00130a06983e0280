/- What the reading of an argument that is a slice of bytes gives the walks. -/
import Derived.Test.YtbmodfegcmaieaaDoorQDagP
import Derived.Test.YtbmodfegcmaieaaDoorQKSumB
import Derived.Test.YtbmodfegcmaieaaDoorBlockGrowsM12
import Derived.Test.YtbmodfegcmaieaaDoorGKGrown
import Derived.Test.YtbmodfegcmaieaaDoorRows
import Derived.Test.YtbmodfegcmaieaaDoorGK
import Derived.Test.YtbmodfegcmaieaaDoorGSteps
import Derived.Lib.LaidTab
import Derived.OpenShut
import Derived.Stop.LaidErr
import Derived.Test.YtbmodfegcmaieaaDoorGTagged
import Derived.ProofKit
namespace Go.Proofs.YtbmodfegcmaieaaDoor
open Go.RowKit

/-- The authors, of the first n, that have a certificate of that round. -/
def dgA (l : List CV) (rd : Int) : Nat → List Nat
  | 0 => []
  | n + 1 => if 0 ≤ cOf l n rd then dgA l rd n ++ [n] else dgA l rd n
set_option maxRecDepth 100000 in
theorem dgA_map (l : List CV) (rd : Int) (n : Nat) : dgTo l rd n = (dgA l rd n).map (fun (a : Nat) => (cvAt l (cOf l (a : Int) rd).toNat).d) := by
  induction n with
  | zero => rfl
  | succ n ih =>
    rw [dgTo, dgA]
    split
    · rw [ih, List.map_append]; rfl
    · exact ih
set_option maxRecDepth 100000 in
theorem dgA_lt (l : List CV) (rd : Int) (n : Nat) : ∀ a ∈ dgA l rd n, a < n ∧ 0 ≤ cOf l a rd := by
  induction n with
  | zero => intro a ha; cases ha
  | succ n ih =>
    intro a ha
    rw [dgA] at ha
    split at ha
    · rename_i h
      rcases List.mem_append.1 ha with g | g
      · have := ih a g; exact ⟨by omega, this.2⟩
      · obtain rfl : a = n := by simpa using g
        exact ⟨by omega, h⟩
    · have := ih a ha; exact ⟨by omega, this.2⟩
set_option maxRecDepth 100000 in
theorem dgA_rise (l : List CV) (rd : Int) (n : Nat) : (dgA l rd n).Pairwise (· < ·) := by
  induction n with
  | zero => exact List.Pairwise.nil
  | succ n ih =>
    rw [dgA]
    split
    · rw [List.pairwise_append]
      refine ⟨ih, List.pairwise_singleton _ _, fun a ha b hb => ?_⟩
      have hbn : b = n := by simpa using hb
      rw [hbn]
      exact (dgA_lt l rd n a ha).1
    · exact ih
set_option maxRecDepth 100000 in
/-- The m'th digest of a round is that of a certificate of that round, by the m'th author. -/
theorem dgF_at {l : List CV} {rd : Int} {m : Nat} (hm : m < (dgF l rd).length) : ∃ i, i < l.length ∧ (dgF l rd).getD m [] = (cvAt l i).d ∧ (cvAt l i).rd = rd ∧ (cvAt l i).au = ((dgA l rd 4).getD m 0 : Int) := by
  have hl : (dgF l rd).length = (dgA l rd 4).length := by rw [dgF, dgA_map, List.length_map]
  have hm2 : m < (dgA l rd 4).length := by omega
  have ha := dgA_lt l rd 4 _ (List.getElem_mem hm2)
  have hb := cOf_bounds l ((dgA l rd 4)[m] : Int) rd
  have hy := fidx_yes (cHit l ((dgA l rd 4)[m] : Int) rd) l.length ha.2
  simp only [cHit, decide_eq_true_eq] at hy
  refine ⟨(cOf l ((dgA l rd 4)[m] : Int) rd).toNat, by have := ha.2; omega, ?_, hy.2, ?_⟩
  · rw [dgF, dgA_map]; simp [hm2]
  · rw [show (dgA l rd 4).getD m 0 = (dgA l rd 4)[m] by simp [hm2]]
    exact hy.1
/-- The author ahead of the m'th; -1: there is none. -/
def prevA (l : List CV) (rd : Int) (m : Nat) : Int := if m = 0 then -1 else ((dgA l rd 4).getD (m - 1) 0 : Int)
set_option maxRecDepth 100000 in
theorem prevA_lt {l : List CV} {rd : Int} {m : Nat} (hm : m < (dgF l rd).length) : prevA l rd m < ((dgA l rd 4).getD m 0 : Int) := by
  have hl : (dgF l rd).length = (dgA l rd 4).length := by rw [dgF, dgA_map, List.length_map]
  rw [prevA]
  split
  · omega
  · have hm2 : m < (dgA l rd 4).length := by omega
    have hp := List.pairwise_iff_getElem.1 (dgA_rise l rd 4) (m - 1) m (by omega) hm2 (by omega)
    rw [show (dgA l rd 4).getD (m - 1) 0 = (dgA l rd 4)[m - 1] by simp [show m - 1 < (dgA l rd 4).length by omega], show (dgA l rd 4).getD m 0 = (dgA l rd 4)[m] by simp [hm2]]
    exact_mod_cast hp
end Go.Proofs.YtbmodfegcmaieaaDoor

namespace Go.Proofs.YtbmodfegcmaieaaDoor
open Go.RowKit

set_option maxRecDepth 100000 in
/-- The batches of a grown dag, as Block reads them. -/
theorem bws_bc (bl : List Bt) : bws (bl.map Bt.bc) = bcv bl := by simp [bws, bcv, Bt.bc]
/-- What is told of the batches of a grown dag. -/
structure BatG (l : List CV) (bl : List BW) : Prop where
  ok : bsF bl = 0 ∨ CollB bl
  has : ∀ c ∈ l, ∀ d ∈ c.bl, hasB bl d = true
  f : ∀ b ∈ bl, b.f = 0
  nums : bl.Pairwise (fun a b => a.nu < b.nu)
  len : bl.length ≤ 60
set_option maxRecDepth 100000 in
theorem batG_of {l : List Stp} {k : Nat} {c : List CV} (hG : GrownTo l k c) (hk : k ≤ 24) : BatG c ((bvTo l k).map BV.w) := by
  have hf : ∀ b ∈ (bvTo l k).map BV.w, b.f = 0 := fun b hb => by
    obtain ⟨x, hx, rfl⟩ := List.mem_map.1 hb
    exact bvTo_f (by omega) x hx
  have hn : ((bvTo l k).map BV.w).Pairwise (fun a b => a.nu < b.nu) := by
    rw [List.pairwise_map]; exact bvTo_nums l k
  have hl : ((bvTo l k).map BV.w).length ≤ 60 := by rw [List.length_map]; have := bvTo_length l k; omega
  refine ⟨bsF_or_coll (by omega) hf hn, fun x hx d hd => ?_, hf, hn, hl⟩
  obtain ⟨b, hb, rfl⟩ := hG.batches x hx d hd
  exact List.any_eq_true.2 ⟨b.w, List.mem_map.2 ⟨b, hb, rfl⟩, by simp [BV.w_d]⟩
/-- What Block answers for a digest of the dag. -/
def BlkR (w : World) (l : List CV) (bl : List BW) (k : List Int) (xa : Option Addr) (N : Nat) (ec : Int) : Prop :=
  (ec = 0 ∧ bsF bl = 0 ∧ ∃ hs t, HistIs l k hs ∧ txsH bl (hisB hs) = some t ∧ N = (onceS [] t).length ∧ StrsAt w xa (onceS [] t)) ∨ (ec = 12 ∧ CollB bl ∧ N = 0)
set_option maxRecDepth 100000 in
theorem BlkR.below {w w' : World} {l : List CV} {bl : List BW} {k : List Int} {xa : Option Addr} {N : Nat} {ec : Int} (h : BlkR w l bl k xa N ec) (hb : Below w.heap.size w w') : BlkR w' l bl k xa N ec := by
  rcases h with ⟨h1, h2, hs, t, h3, h4, h5, h6⟩ | h
  · exact .inl ⟨h1, h2, hs, t, h3, h4, h5, h6.below hb⟩
  · exact .inr h
set_option maxRecDepth 100000 in
theorem hisB_has {l : List CV} {bl : List BW} (hG : BatG l bl) {k : List Int} {hs : List CV} (H : HistIs l k hs) : ∃ t, txsH bl (hisB hs) = some t := by
  refine txsH_some (fun d hd => ?_)
  obtain ⟨c, hc, hd2⟩ := hisB_mem.1 hd
  obtain ⟨j, h1, _, h3⟩ := (H.mem _).1 hc
  rw [bOf_some]
  exact hG.has _ (cvAt_mem h1) _ (by rw [← h3]; exact hd2)
set_option maxRecDepth 100000 in
theorem once_small {l : List CV} (hF : dagF l = 0) (h24 : l.length ≤ 24) {bl : List BW} (hB : bsF bl = 0) {k : List Int} {hs : List CV} (H : HistIs l k hs) {t : List ByteArray} (ht : txsH bl (hisB hs) = some t) : (onceS [] t).length ≤ 288 ∧ ∀ s ∈ onceS [] t, s.size ≤ 20 := by
  obtain ⟨h1, h2⟩ := txsH_small hB ht
  have h3 := hisB_length (hs := hs) (fun c hc => by
    obtain ⟨j, j1, _, j3⟩ := (H.mem _).1 hc
    rw [j3]; exact (f_small (dagF_f hF j j1)).1)
  have h4 := hist_len H
  have h5 := onceS_len t []
  simp only [List.length_nil, Nat.zero_add] at h5
  exact ⟨by omega, fun s hs => h2 s ((onceS_iff t s).1 hs)⟩
set_option maxRecDepth 100000 in
theorem blk_at (ks : List Ct) (ka : Option Addr) (kc i : Nat) (bl : List Bc) (ba : Option Addr) (bn bc : Nat) (p : Part) (w : World) (hF : dagF (cvs ks) = 0) (h24 : ks.length ≤ 24) (hi : i < ks.length) (hd : DagAt w ka kc ks) (hbn : bn = bl.length) (hb : BcsAt w ba bl) (hG : BatG (cvs ks) (bws bl)) (hp : SliceAt w p.sa p.cap p.bs) (hpd : p.bs = (cvAt (cvs ks) i).d) (h32 : p.bs.length = 32) (hT : Tabs w) :
    Calls Tryd.prog 41 #[.agg #[.slice ka ks.length kc], .slice ba bn bc, .slice p.sa 32 p.cap] w fun e w' => (∃ (xa : Option Addr) (N xc : Nat) (ec : Int), e = .returned (.tuple #[.slice xa N xc, .int .i64 ec]) ∧ BlkR w' (cvs ks) (bws bl) (cvAt (cvs ks) i).d xa N ec ∧ N ≤ 288) ∧ Below w.heap.size w w' := by
  refine (block_any ks ka _ kc bl ba bn bc p.bs p.sa 32 p.cap w rfl hbn h32.symm hd hb hp hT).mono ?_
  intro e w' hO
  have hps := (pOf_self (l := cvs ks) (i := i) (by rw [cvs_length]; exact hi)).1
  rw [hpd] at hO
  refine ⟨?_, hO.below⟩
  rcases hO.out with ⟨ec, _, h | h⟩ | ⟨_, _, ⟨h12, he⟩ | ⟨h0, hs, hH, ⟨hno, _⟩ | ⟨t, v, ht, he, ho⟩⟩⟩
  · rw [hF] at h; cases h.1
  · omega
  · refine ⟨none, 0, 0, 12, he, .inr ⟨rfl, ?_, rfl⟩, by omega⟩
    rcases hG.ok with g | g
    · rw [g] at h12; cases h12
    · exact g
  · obtain ⟨t, ht⟩ := hisB_has hG hH
    rw [ht] at hno; cases hno
  · have hsm := once_small hF (by rw [cvs_length]; exact h24) h0 hH ht
    obtain ⟨xa, xc, rfl, hst⟩ := strs_of_owns ho (fun s hs => by have := hsm.2 s hs; unfold maxLen; omega)
    exact ⟨xa, _, xc, 0, he, .inl ⟨rfl, h0, hs, t, hH, ht, rfl, hst⟩, hsm.1⟩
set_option maxRecDepth 100000 in
theorem parentsF_one {rd : Int} {n : Nat} (h : parentsF rd n = 0) : (rd = 1 → n = 0) ∧ (1 < rd → 3 ≤ n) := by
  unfold parentsF at h
  split at h
  · cases h
  · rename_i g
    simp only [not_or, not_and, Nat.not_lt] at g
    exact ⟨fun e => by have := g.1 e; omega, fun e => by have := g.2 e; omega⟩
set_option maxRecDepth 100000 in
theorem f_parents {c : CV} (h : c.f = 0) : parentsF c.rd c.pl.length = 0 := by
  have h1 := certF_head (vl := c.vl) h
  unfold headerF at h1
  split at h1
  · cases h1
  · split at h1
    · cases h1
    · split at h1
      · contradiction
      · split at h1
        · contradiction
        · rw [show (pz c.pl).length = c.pl.length by simp [pz]] at h1; exact h1
set_option maxRecDepth 100000 in
/-- The first certificate of a dag is of the first round. -/
theorem dag_first {l : List CV} (h : dagF l = 0) (hl : 0 < l.length) : (cvAt l 0).rd = 1 := by
  have hp := parentsF_one (f_parents (dagF_f h 0 hl))
  by_cases h1 : (cvAt l 0).rd = 1
  · exact h1
  · have hr := (f_round (dagF_f h 0 hl)).1
    have := hp.2 (by omega)
    have h2 := (dag_parent h hl (k := 0) (by omega)).1
    have h3 := pOf_bounds (l.take 0) ((cvAt l 0).pl.getD 0 [])
    have e : (l.take 0).length = 0 := by simp
    rw [e] at h3
    omega
set_option maxRecDepth 100000 in
theorem dgA_mem {l : List CV} {rd : Int} {a : Nat} : ∀ n, a < n → 0 ≤ cOf l a rd → a ∈ dgA l rd n
  | 0, h, _ => by omega
  | n + 1, h, hc => by
    rw [dgA]
    rcases Nat.lt_or_ge a n with g | g
    · have := dgA_mem n g hc
      split
      · exact List.mem_append.2 (.inl this)
      · exact this
    · obtain rfl : a = n := by omega
      rw [if_pos hc]; simp
set_option maxRecDepth 100000 in
theorem dgF_first {l : List CV} (h : dagF l = 0) (hl : 0 < l.length) : 0 < (dgF l 1).length := by
  have h1 := dag_first h hl
  have ha := f_author (dagF_f h 0 hl)
  have hc := cOf_at hl
  rw [h1] at hc
  have e : (cvAt l 0).au = (((cvAt l 0).au.toNat : Nat) : Int) := by omega
  rw [e] at hc
  have := dgA_mem (l := l) (rd := 1) 4 (by omega) hc
  rw [dgF, dgA_map, List.length_map]
  exact List.length_pos_of_mem this
set_option maxRecDepth 100000 in
/-- What stands on nothing has itself alone as its history. -/
theorem hist_alone {l : List CV} (h : dagF l = 0) (ho : OneD l) {n : Nat} (hn : n < l.length) (hr : (cvAt l n).rd = 1) {hs : List CV} (H : HistIs l (cvAt l n).d hs) : hs = [cvAt l n] := by
  refine up_ext (fun c => ?_) H.up (List.pairwise_singleton _ _)
  rw [H.mem]
  constructor
  · rintro ⟨j, j1, j2, rfl⟩
    rcases sel_round h ho hn (l.length - j) j (by omega) j1 j2 with g | g
    · subst g; simp
    · have := (f_round (dagF_f h j j1)).1
      omega
  · intro hc
    obtain rfl : c = cvAt l n := by simpa using hc
    exact ⟨n, hn, sel_self hn, rfl⟩
set_option maxRecDepth 100000 in
theorem coll_left {c : List CV} (x : List CV) (h : Coll c) : Coll (c ++ x) := by
  obtain ⟨K, I, h1, h2, h3, h4⟩ := h
  have e : ∀ j, j < c.length → cvAt (c ++ x) j = cvAt c j := fun j hj => by simp [cvAt, List.getD, List.getElem?_append_left hj]
  refine ⟨K, I, h1, by rw [List.length_append]; omega, ?_, ?_⟩
  · rw [e I h2, e K (by omega)]; exact h3
  · rw [e I h2, e K (by omega)]; exact h4
set_option maxRecDepth 100000 in
theorem collB_left {c : List BW} (x : List BW) (h : CollB c) : CollB (c ++ x) := by
  obtain ⟨K, I, h1, h2, h3, h4⟩ := h
  have e : ∀ j, j < c.length → (c ++ x).getD j ⟨0, 0, []⟩ = c.getD j ⟨0, 0, []⟩ := fun j hj => by simp [List.getD, List.getElem?_append_left hj]
  refine ⟨K, I, h1, by rw [List.length_append]; omega, ?_, ?_⟩
  · rw [e I h2, e K (by omega)]; exact h3
  · rw [e I h2, e K (by omega)]; exact h4
end Go.Proofs.YtbmodfegcmaieaaDoor

namespace Go.Proofs.YtbmodfegcmaieaaDoor
open Go.RowKit

set_option maxRecDepth 100000 in
theorem hist_sub {l : List CV} (h : dagF l = 0) (ho : OneD l) {k : List Int} {n : Nat} (hn : n < l.length) (hs : sel l k n) {h1 h2 : List CV} (H1 : HistIs l (cvAt l n).d h1) (H2 : HistIs l k h2) : ∀ c ∈ h1, c ∈ h2 := by
  intro c hc
  obtain ⟨i, i1, i2, rfl⟩ := (H1.mem _).1 hc
  exact (H2.mem _).2 ⟨i, i1, sel_trans h ho hn hs (l.length - i) i (by omega) i1 i2, rfl⟩
set_option maxRecDepth 100000 in
theorem blk_sub {bl : List BW} {h1 h2 : List CV} (h : ∀ c ∈ h1, c ∈ h2) {t1 t2 : List ByteArray} (e1 : txsH bl (hisB h1) = some t1) (e2 : txsH bl (hisB h2) = some t2) : ∀ s ∈ onceS [] t1, s ∈ onceS [] t2 := by
  intro s hs
  rw [onceS_iff] at hs ⊢
  obtain ⟨d, hd, b, hb, hsb⟩ := (txsH_mem e1 s).1 hs
  obtain ⟨c, hc, hdc⟩ := hisB_mem.1 hd
  exact (txsH_mem e2 s).2 ⟨d, hisB_mem.2 ⟨c, h c hc, hdc⟩, b, hb, hsb⟩
set_option maxRecDepth 100000 in
theorem str_eq (x y : ByteArray) : (x.toList == y.toList) = decide (x = y) := by
  rw [Bool.eq_iff_iff]
  simp only [beq_iff_eq, decide_eq_true_eq]
  exact ⟨fun h => ba_ext h, fun h => by rw [h]⟩
set_option maxRecDepth 100000 in
/-- Where a parent of the n'th one stands. -/
theorem parent_of {l : List CV} (h : dagF l = 0) (hu : ∀ x ∈ l, U8C x) {n : Nat} (hn : n < l.length) {p : List Int} (hp : p ∈ (cvAt l n).pl) : ∃ q, q < n ∧ (cvAt l q).d = p := by
  obtain ⟨q, q1, q2, _⟩ := parent_at h hn hp
  exact ⟨q, q1, bstr_inj (CV.d_u8 _) ((hu _ (cvAt_mem hn)).2 p hp) q2⟩
set_option maxRecDepth 100000 in
theorem inO_take {s : ByteArray} {ss : List ByteArray} {k : Nat} (hk : k < ss.length) : inO s (ss.take (k + 1)) = (inO s (ss.take k) || decide (ss[k] = s)) := by
  rw [inO, List.take_succ_eq_append_getElem hk, List.any_append, List.any_cons, List.any_nil, Bool.or_false]
  rfl
end Go.Proofs.YtbmodfegcmaieaaDoor

namespace Go.Proofs.YtbmodfegcmaieaaDoor
open Go.RowKit

set_option maxRecDepth 100000 in
set_option maxHeartbeats 4000000 in
theorem blockGrows_any (sa : Option Addr) (cap : Nat) (l : List Stp) (n : Int) (w : World) (hl : StepsAt w sa l) (hcl : l.length ≤ cap) (hc0 : sa = none → cap = 0) (hc1 : l.length * 24 ≤ 140737488351232) (hn1 : -9223372036854775808 ≤ n) (hn2 : n ≤ 9223372036854775807) (hT : Tabs w) :
    Calls Tryd.prog 23 #[.slice sa l.length cap, .int .i64 n] w fun e w' => ∃ cc, GrownTo (s0 :: l) (min (l.length + 1) 24) cc ∧ (e = .returned (.bool true) ∨ (e = .returned (.bool false) ∧ (Coll cc ∨ CollB ((bvTo (s0 :: l) (min (l.length + 1) 24)).map BV.w)))) ∧ Below w.heap.size w w' := by
  have hnil : sa = none → l.length = 0 ∧ cap = 0 := fun h => by have := hc0 h; omega
  have H := grown_any l sa _ cap w rfl hl hnil hc1 hT
  have HT : Hid (∀ W : World, Below w.heap.size w W → Tabs W) := by
    show ∀ W, _
    exact fun W hW => hT.below hW
  clear hT hnil hc0 hc1 hcl
  go_enter Tryd.func23, Tryd.ntmps23
  go_wp2_with fail
  refine H.mono ?_
  rintro e w1 ⟨ka, kc, ks, ba, bc, bl, he, hG, hd, hnew, ho, hoff, hV, hb1⟩
  subst he
  dsimp only
  have hpos : 0 < ks.length := by have := grown_some (by omega) hG; rw [cvs_length] at this; exact this
  have HD : Hid (dagF (cvs ks) = 0) := hG.dag
  have HG : Hid (GrownTo (s0 :: l) (min (l.length + 1) 24) (cvs ks)) := hG
  have hle : ks.length ≤ 24 := by have := hG.len; rw [cvs_length] at this; omega
  have hA1 := (Below.refl w1.heap.size w1).alloc (Nat.le_refl _) (.cells #[.slice ka ks.length kc] 51)
  have qD := heap_alloc_new w1 (.cells #[.slice ka ks.length kc] 51)
  have hd2 := hd.below hA1
  have hB2 := hb1.trans (hA1.mono hb1.size)
  have hgD : w.heap.size ≤ w1.heap.size := hb1.size
  have hdlt : ∀ b, DagIn ka ks b → b < w1.heap.size := fun b hb => by
    rcases hb with ⟨so, e⟩ | ⟨c', hc', hq⟩
    · exact dag_row_lt hd hpos b so e
    · exact (hd.each c' hc').block_lt b hq
  have HBW : Hid (bcv bl = (bvTo (s0 :: l) (min (l.length + 1) 24)).map BV.w) := by
    show _ = _
    rw [← hV, List.map_map]; rfl
  have HBG : Hid (BatG (cvs ks) (bws (bl.map Bt.bc))) := by
    show BatG _ _
    rw [bws_bc, HBW.out]; exact batG_of hG (by omega)
  have HBE : Hid (bws (bl.map Bt.bc) = (bvTo (s0 :: l) (min (l.length + 1) 24)).map BV.w) := by
    show _ = _
    rw [bws_bc, HBW.out]
  have hBc : BcsAt w1 ba (bl.map Bt.bc) := by
    obtain ⟨xa, xc, hv, hAt, _, _, _⟩ := bts_of_owns ho
    simp at hv
    obtain ⟨rfl, rfl⟩ := hv
    exact bcs_of_bts hAt (bts_small hV (by omega))
  have hbl60 : bl.length ≤ 60 := (grown_facts hG hV).out.2.2.1
  have hblp : 0 < bl.length := (grown_facts hG hV).out.2.2.2.1
  have HBL : Hid (bl.length = (bl.map Bt.bc).length) := by show _ = _; rw [List.length_map]
  have hBc2 := hBc.below hA1
  clear hBc
  generalize bl.map Bt.bc = cl at HBG HBE hBc2 HBL
  clear hG hV ho hoff hnew hd H hl
  have hposI : ¬ ((ks.length : Int) = 0) := by omega
  have HV : Hid (∀ x ∈ cvs ks, x.vl = [0, 1, 2]) := HG.out.voters
  have HU : Hid (∀ x ∈ cvs ks, U8C x) := HG.out.u8
  go_upto_region 4 with fail
  generalize w1.alloc (.cells #[.slice ka ks.length kc] 51) = W2 at hA1 qD hd2 hB2 hBc2 ⊢
  clear hA1
  generalize w1.heap.size = D at qD hgD hdlt ⊢
  obtain ⟨I, hEI⟩ : ∃ I : Nat, pk n ks.length = (I : Int) := ⟨(pk n ks.length).toNat, by have := (pk_bounds n ks.length (by omega)).1; omega⟩
  have hI : I < ks.length := by have := (pk_bounds n ks.length (by omega)).2; omega
  have HP : Hid (∀ V : World, Calls Tryd.prog 35 #[.int .i64 n, .int .i64 ks.length] V fun e w' => e = .returned (.int .i64 I) ∧ V = w') := by
    show ∀ V, _
    intro V
    rw [← hEI]
    exact picked_any n ks.length V hn1 hn2 (by omega) (by omega)
  obtain ⟨kb, ko, rfl, hcc⟩ : ∃ kb ko, ka = some ⟨kb, ko, none⟩ ∧ _ := by
    rcases hd2.certs.cells with h | h
    · rw [h] at hpos; simp at hpos
    · exact h
  obtain ⟨c0, c1, c2, c3, c4⟩ := hcc I hI
  have hCt := hd2.each (ks[I]) (List.getElem_mem hI)
  have HCE : Hid (cvAt (cvs ks) I = (ks[I]).v) := cvAt_get ks I hI
  clear hcc hEI
  generalize ks[I] = c at c0 c1 c2 c3 c4 hCt HCE
  have hIlI : (I : Int) < ks.length := by omega
  have e0 := cells_at qD 0 _ rfl
  obtain ⟨VR, hVR⟩ : ∃ VR, VR = W2 := ⟨_, rfl⟩
  subst hVR
  go_cut [7] (fun v wx => ∃ X, v = .pointer (some ⟨X, 0, none⟩) ∧ VR.heap.size ≤ X ∧ wx.heap[X]? = some (.cells #[.int .i64 c.au, .int .i64 c.rd, .slice c.ba c.bl.length c.bc, .slice c.pa c.pl.length c.pc, .slice c.va c.vl.length c.vc] 63 (0, 0)) ∧ Below VR.heap.size VR wx)
  case first =>
    have hV0 : Below VR.heap.size VR VR.drew := (Below.refl _ _).drew
    refine wp_region_held_drew (S := fun w' => w'.cell? ⟨D, 0, none⟩ = some (.slice (some ⟨kb, ko, none⟩) ks.length kc) ∧ w'.cell? ⟨kb, ko + I * 5, none⟩ = some (.int .i64 c.au) ∧ w'.cell? ⟨kb, ko + I * 5 + 1, none⟩ = some (.int .i64 c.rd) ∧ w'.cell? ⟨kb, ko + I * 5 + 2, none⟩ = some (.slice c.ba c.bl.length c.bc) ∧ w'.cell? ⟨kb, ko + I * 5 + 3, none⟩ = some (.slice c.pa c.pl.length c.pc) ∧ w'.cell? ⟨kb, ko + I * 5 + 4, none⟩ = some (.slice c.va c.vl.length c.vc)) (by kernel_rfl) ⟨(hV0.cell (p := ⟨D, 0, none⟩) (block_lt_of_cell e0)).trans e0, (hV0.cell (p := ⟨kb, ko + I * 5, none⟩) (block_lt_of_cell c0)).trans c0, (hV0.cell (p := ⟨kb, ko + I * 5 + 1, none⟩) (block_lt_of_cell c1)).trans c1, (hV0.cell (p := ⟨kb, ko + I * 5 + 2, none⟩) (block_lt_of_cell c2)).trans c2, (hV0.cell (p := ⟨kb, ko + I * 5 + 3, none⟩) (block_lt_of_cell c3)).trans c3, (hV0.cell (p := ⟨kb, ko + I * 5 + 4, none⟩) (block_lt_of_cell c4)).trans c4⟩ (fun hHeld => ?_)
    generalize VR.drew = V0 at hV0  hHeld ⊢
    refine take_dst (i := 0) (d := 27) (v := .pointer (some ⟨D, 0, none⟩)) rfl rfl (by kernel_rfl) (by kernel_rfl) (by kernel_rfl) (fun _ _ _ h => h) (Or.inl ⟨by rfl, ?_⟩) hHeld ?_
    · (intro w0 hSw; (try dsimp only at hSw); go_simp)
    simp only [Act.put, List.setIfInBounds_toArray, List.set_cons_zero, List.set_cons_succ]
    refine take_dst (i := 1) (d := 28) (v := .slice (some ⟨kb, ko, none⟩) ks.length kc) rfl rfl (by kernel_rfl) (by kernel_rfl) (by kernel_rfl) (fun _ _ _ h => h) (Or.inl ⟨by rfl, ?_⟩) hHeld ?_
    · (intro w0 hSw; (try dsimp only at hSw); go_simp)
    simp only [Act.put, List.setIfInBounds_toArray, List.set_cons_zero, List.set_cons_succ]
    refine take_dst (i := 2) (d := 29) (v := .int .i64 n) rfl rfl (by kernel_rfl) (by kernel_rfl) (by kernel_rfl) (fun _ _ _ h => h) (Or.inl ⟨by rfl, ?_⟩) hHeld ?_
    · (intro w0 hSw; (try dsimp only at hSw); go_simp)
    simp only [Act.put, List.setIfInBounds_toArray, List.set_cons_zero, List.set_cons_succ]
    refine take_dst (i := 3) (d := 30) (v := .pointer (some ⟨D, 0, none⟩)) rfl rfl (by kernel_rfl) (by kernel_rfl) (by kernel_rfl) (fun _ _ _ h => h) (Or.inl ⟨by rfl, ?_⟩) hHeld ?_
    · (intro w0 hSw; (try dsimp only at hSw); go_simp)
    simp only [Act.put, List.setIfInBounds_toArray, List.set_cons_zero, List.set_cons_succ]
    refine take_dst (i := 4) (d := 31) (v := .slice (some ⟨kb, ko, none⟩) ks.length kc) rfl rfl (by kernel_rfl) (by kernel_rfl) (by kernel_rfl) (fun _ _ _ h => h) (Or.inl ⟨by rfl, ?_⟩) hHeld ?_
    · (intro w0 hSw; (try dsimp only at hSw); go_simp)
    simp only [Act.put, List.setIfInBounds_toArray, List.set_cons_zero, List.set_cons_succ]
    refine take_dst (i := 5) (d := 32) (v := .int .i64 (ks.length : Int)) rfl rfl (by kernel_rfl) (by kernel_rfl) (by kernel_rfl) (fun _ _ _ h => h) (Or.inl ⟨by rfl, ?_⟩) hHeld ?_
    · (intro w0 hSw; (try dsimp only at hSw); go_simp)
    simp only [Act.put, List.setIfInBounds_toArray, List.set_cons_zero, List.set_cons_succ]
    clear hHeld
    refine any_named (fun GO hGo hGi => ?_)
    refine act_named (fun A0 hA0 => ?_)
    have st_CXS : Hid (∀ (V : World) (bX : Nat), Below VR.heap.size VR V → (VR.heap.size ≤ bX) → (V.heap[bX]? = some (.cells #[.int .i64 c.au, .int .i64 c.rd, .slice c.ba c.bl.length c.bc, .slice c.pa c.pl.length c.pc, .slice c.va c.vl.length c.vc] 63 (0, 0))) → GO 0 #[true, true, true, true, true, true, true, true, true, true, true] ((((A0.put (some 33) (.int .i64 (I : Int))).put (some 34) (.pointer (some ⟨kb, ko + I * 5, none⟩))).put (some 35) (.agg #[.int .i64 c.au, .int .i64 c.rd, .slice c.ba c.bl.length c.bc, .slice c.pa c.pl.length c.pc, .slice c.va c.vl.length c.vc])).put (some 7) (.pointer (some ⟨bX, 0, none⟩))) V) := by
      show ∀ V, _
      intro V bX hB gX qS
      refine hGo.out _ _ _ _ ?_
      rw [← hA0.out]
      try simp only [Act.put, List.setIfInBounds_toArray, List.set_cons_zero, List.set_cons_succ]
      refine wpAnyH_done (by kernel_rfl) ?_ _
      go_wp2_with fail
      go_meet
      case rel => exact ⟨bX, rfl, gX, qS, hB⟩
    have st_CX : Hid (∀ (V : World) (bX : Nat), Below VR.heap.size VR V → (V.heap[bX]? = some (.cells #[.int .i64 0, .int .i64 0, .slice none 0 0, .slice none 0 0, .slice none 0 0] 63 (0, 0))) → (VR.heap.size ≤ bX) → GO 1 #[true, true, true, true, true, true, true, true, true, true, false] ((((A0.put (some 33) (.int .i64 (I : Int))).put (some 34) (.pointer (some ⟨kb, ko + I * 5, none⟩))).put (some 35) (.agg #[.int .i64 c.au, .int .i64 c.rd, .slice c.ba c.bl.length c.bc, .slice c.pa c.pl.length c.pc, .slice c.va c.vl.length c.vc])).put (some 7) (.pointer (some ⟨bX, 0, none⟩))) V) := by
      show ∀ V, _
      intro V bX hB qX gX
      refine hGo.out _ _ _ _ ?_
      rw [← hA0.out]
      try simp only [Act.put, List.setIfInBounds_toArray, List.set_cons_zero, List.set_cons_succ]
      refine wpAnyH_ready (rs := [10]) (by kernel_rfl) (by simp) (AllReadyH.cons rfl (fun K hK => ?_) AllReadyH.nil)
      have c0_ := cells_at qX 0 _ rfl
      have f0_ := frozen_at qX 0
      have c1_ := cells_at qX 1 _ rfl
      have f1_ := frozen_at qX 1
      have c2_ := cells_at qX 2 _ rfl
      have f2_ := frozen_at qX 2
      have c3_ := cells_at qX 3 _ rfl
      have f3_ := frozen_at qX 3
      have c4_ := cells_at qX 4 _ rfl
      have f4_ := frozen_at qX 4
      refine step_store rfl rfl (((((V.setCell ⟨bX, 0, none⟩ (.int .i64 c.au)).setCell ⟨bX, 1, none⟩ (.int .i64 c.rd)).setCell ⟨bX, 2, none⟩ (.slice c.ba c.bl.length c.bc)).setCell ⟨bX, 3, none⟩ (.slice c.pa c.pl.length c.pc)).setCell ⟨bX, 4, none⟩ (.slice c.va c.vl.length c.vc)) (by go_simp) ?_
      have hBn := (((((hB.setCell (p := ⟨bX, 0, none⟩) gX (.int .i64 c.au)).setCell (p := ⟨bX, 1, none⟩) gX (.int .i64 c.rd)).setCell (p := ⟨bX, 2, none⟩) gX (.slice c.ba c.bl.length c.bc)).setCell (p := ⟨bX, 3, none⟩) gX (.slice c.pa c.pl.length c.pc)).setCell (p := ⟨bX, 4, none⟩) gX (.slice c.va c.vl.length c.vc))
      have qS_n : (((((V.setCell ⟨bX, 0, none⟩ (.int .i64 c.au)).setCell ⟨bX, 1, none⟩ (.int .i64 c.rd)).setCell ⟨bX, 2, none⟩ (.slice c.ba c.bl.length c.bc)).setCell ⟨bX, 3, none⟩ (.slice c.pa c.pl.length c.pc)).setCell ⟨bX, 4, none⟩ (.slice c.va c.vl.length c.vc)).heap[bX]? = some (.cells #[.int .i64 c.au, .int .i64 c.rd, .slice c.ba c.bl.length c.bc, .slice c.pa c.pl.length c.pc, .slice c.va c.vl.length c.vc] 63 (0, 0)) := by simpa using (heap_setCell_same _ _ 4 _ _ (.slice c.va c.vl.length c.vc) (heap_setCell_same _ _ 3 _ _ (.slice c.pa c.pl.length c.pc) (heap_setCell_same _ _ 2 _ _ (.slice c.ba c.bl.length c.bc) (heap_setCell_same _ _ 1 _ _ (.int .i64 c.rd) (heap_setCell_same _ _ 0 _ _ (.int .i64 c.au) qX)))))
      generalize (((((V.setCell ⟨bX, 0, none⟩ (.int .i64 c.au)).setCell ⟨bX, 1, none⟩ (.int .i64 c.rd)).setCell ⟨bX, 2, none⟩ (.slice c.ba c.bl.length c.bc)).setCell ⟨bX, 3, none⟩ (.slice c.pa c.pl.length c.pc)).setCell ⟨bX, 4, none⟩ (.slice c.va c.vl.length c.vc)) = W' at hBn qS_n ⊢
      refine hK.out _ _ ⟨(hBn.cell (p := ⟨D, 0, none⟩) (block_lt_of_cell e0)).trans e0, (hBn.cell (p := ⟨kb, ko + I * 5, none⟩) (block_lt_of_cell c0)).trans c0, (hBn.cell (p := ⟨kb, ko + I * 5 + 1, none⟩) (block_lt_of_cell c1)).trans c1, (hBn.cell (p := ⟨kb, ko + I * 5 + 2, none⟩) (block_lt_of_cell c2)).trans c2, (hBn.cell (p := ⟨kb, ko + I * 5 + 3, none⟩) (block_lt_of_cell c3)).trans c3, (hBn.cell (p := ⟨kb, ko + I * 5 + 4, none⟩) (block_lt_of_cell c4)).trans c4⟩ (fun hHeld => ?_)
      clear hHeld
      have h := st_CXS.out W' bX hBn gX qS_n
      rw [← hA0.out] at h
      (try simp only [Act.put, List.setIfInBounds_toArray, List.set_cons_zero, List.set_cons_succ] at h)
      (try simp only [List.setIfInBounds_toArray, List.set_cons_zero, List.set_cons_succ])
      exact hGi.out _ _ _ _ h
    have st_C : Hid (∀ (V : World), Below VR.heap.size VR V → GO 2 #[true, true, true, true, true, true, true, true, true, false, false] (((A0.put (some 33) (.int .i64 (I : Int))).put (some 34) (.pointer (some ⟨kb, ko + I * 5, none⟩))).put (some 35) (.agg #[.int .i64 c.au, .int .i64 c.rd, .slice c.ba c.bl.length c.bc, .slice c.pa c.pl.length c.pc, .slice c.va c.vl.length c.vc])) V) := by
      show ∀ V, _
      intro V  hB 
      refine hGo.out _ _ _ _ ?_
      rw [← hA0.out]
      try simp only [Act.put, List.setIfInBounds_toArray, List.set_cons_zero, List.set_cons_succ]
      refine wpAnyH_ready (rs := [9]) (by kernel_rfl) (by simp) (AllReadyH.cons rfl (fun K hK => ?_) AllReadyH.nil)
      refine step_run rfl 7 rfl (.pointer (some ⟨V.heap.size, 0, none⟩)) (V.alloc (.cells #[.int .i64 0, .int .i64 0, .slice none 0 0, .slice none 0 0, .slice none 0 0] 63)) (by go_simp) ?_
      have hA : Below V.heap.size V (V.alloc (.cells #[.int .i64 0, .int .i64 0, .slice none 0 0, .slice none 0 0, .slice none 0 0] 63)) := (Below.refl _ _).alloc (Nat.le_refl _) _
      have hBn := hB.trans (hA.mono hB.size)
      have qX_n := heap_alloc_new V (.cells #[.int .i64 0, .int .i64 0, .slice none 0 0, .slice none 0 0, .slice none 0 0] 63)
      have gX_n := hB.size
      generalize hW' : V.alloc (.cells #[.int .i64 0, .int .i64 0, .slice none 0 0, .slice none 0 0, .slice none 0 0] 63) = W' at hA hBn qX_n ⊢
      clear hW'
      obtain ⟨bX, hx_e⟩ : ∃ bX, bX = V.heap.size := ⟨_, rfl⟩
      rw [← hx_e] at qX_n gX_n ⊢
      have hA' := hA
      clear hx_e
      refine hK.out _ _ ⟨(hBn.cell (p := ⟨D, 0, none⟩) (block_lt_of_cell e0)).trans e0, (hBn.cell (p := ⟨kb, ko + I * 5, none⟩) (block_lt_of_cell c0)).trans c0, (hBn.cell (p := ⟨kb, ko + I * 5 + 1, none⟩) (block_lt_of_cell c1)).trans c1, (hBn.cell (p := ⟨kb, ko + I * 5 + 2, none⟩) (block_lt_of_cell c2)).trans c2, (hBn.cell (p := ⟨kb, ko + I * 5 + 3, none⟩) (block_lt_of_cell c3)).trans c3, (hBn.cell (p := ⟨kb, ko + I * 5 + 4, none⟩) (block_lt_of_cell c4)).trans c4⟩ (fun hHeld => ?_)
      clear hHeld
      have h := st_CX.out W' bX hBn qX_n gX_n
      rw [← hA0.out] at h
      (try simp only [Act.put, List.setIfInBounds_toArray, List.set_cons_zero, List.set_cons_succ] at h)
      (try simp only [Act.put, List.setIfInBounds_toArray, List.set_cons_zero, List.set_cons_succ])
      exact hGi.out _ _ _ _ h
    have st_X : Hid (∀ (V : World) (bX : Nat), Below VR.heap.size VR V → (V.heap[bX]? = some (.cells #[.int .i64 0, .int .i64 0, .slice none 0 0, .slice none 0 0, .slice none 0 0] 63 (0, 0))) → (VR.heap.size ≤ bX) → GO 4 #[true, true, true, true, true, true, false, false, false, true, false] (A0.put (some 7) (.pointer (some ⟨bX, 0, none⟩))) V) := by
      show ∀ V, _
      intro V bX hB qX gX
      refine hGo.out _ _ _ _ ?_
      rw [← hA0.out]
      try simp only [Act.put, List.setIfInBounds_toArray, List.set_cons_zero, List.set_cons_succ]
      refine wpAnyH_ready (rs := [6]) (by kernel_rfl) (by simp) (AllReadyH.cons rfl (fun K hK => ?_) AllReadyH.nil)
      refine step_calls_dst rfl 33 rfl 35 [.tmp 29, .tmp 32] #[3, 3] rfl [.int .i64 n, .int .i64 (ks.length : Int)] rfl (enters_of Tryd.func35 (by kernel_rfl) rfl) (fun v w' => v = .int .i64 (I : Int) ∧ V = w') ((HP.out V).mono (fun e w2 h => ⟨_, h.1, rfl, h.2⟩)) ?_
      rintro v W' ⟨rfl, hwq⟩
      subst hwq
      refine hK.out _ _ ⟨(hB.cell (p := ⟨D, 0, none⟩) (block_lt_of_cell e0)).trans e0, (hB.cell (p := ⟨kb, ko + I * 5, none⟩) (block_lt_of_cell c0)).trans c0, (hB.cell (p := ⟨kb, ko + I * 5 + 1, none⟩) (block_lt_of_cell c1)).trans c1, (hB.cell (p := ⟨kb, ko + I * 5 + 2, none⟩) (block_lt_of_cell c2)).trans c2, (hB.cell (p := ⟨kb, ko + I * 5 + 3, none⟩) (block_lt_of_cell c3)).trans c3, (hB.cell (p := ⟨kb, ko + I * 5 + 4, none⟩) (block_lt_of_cell c4)).trans c4⟩ (fun hHeld => ?_)
      simp only [Act.put, List.setIfInBounds_toArray, List.set_cons_zero, List.set_cons_succ]
      refine take_dst (i := 7) (d := 34) (v := .pointer (some ⟨kb, ko + I * 5, none⟩)) rfl rfl (by kernel_rfl) (by kernel_rfl) (by kernel_rfl) (fun _ _ _ h => h) (Or.inl ⟨by rfl, ?_⟩) hHeld ?_
      · (intro w0 hSw; (try dsimp only at hSw); go_simp)
      simp only [Act.put, List.setIfInBounds_toArray, List.set_cons_zero, List.set_cons_succ]
      refine take_dst (i := 8) (d := 35) (v := .agg #[.int .i64 c.au, .int .i64 c.rd, .slice c.ba c.bl.length c.bc, .slice c.pa c.pl.length c.pc, .slice c.va c.vl.length c.vc]) rfl rfl (by kernel_rfl) (by kernel_rfl) (by kernel_rfl) (fun _ _ _ h => h) (Or.inl ⟨by rfl, ?_⟩) hHeld ?_
      · (intro w0 hSw; (try dsimp only at hSw); go_simp)
      simp only [Act.put, List.setIfInBounds_toArray, List.set_cons_zero, List.set_cons_succ]
      clear hHeld
      have h := st_CX.out V bX hB qX gX
      rw [← hA0.out] at h
      (try simp only [Act.put, List.setIfInBounds_toArray, List.set_cons_zero, List.set_cons_succ] at h)
      (try simp only [Act.put, List.setIfInBounds_toArray, List.set_cons_zero, List.set_cons_succ])
      exact hGi.out _ _ _ _ h
    have st_0 : Hid (∀ (V : World), Below VR.heap.size VR V → GO 5 #[true, true, true, true, true, true, false, false, false, false, false] A0 V) := by
      show ∀ V, _
      intro V  hB 
      refine hGo.out _ _ _ _ ?_
      rw [← hA0.out]
      try simp only [Act.put, List.setIfInBounds_toArray, List.set_cons_zero, List.set_cons_succ]
      refine wpAnyH_ready (rs := [6, 9]) (by kernel_rfl) (by simp) (AllReadyH.cons rfl (fun K hK => ?_) (AllReadyH.cons rfl (fun K hK => ?_) AllReadyH.nil))
      · skip
        refine step_calls_dst rfl 33 rfl 35 [.tmp 29, .tmp 32] #[3, 3] rfl [.int .i64 n, .int .i64 (ks.length : Int)] rfl (enters_of Tryd.func35 (by kernel_rfl) rfl) (fun v w' => v = .int .i64 (I : Int) ∧ V = w') ((HP.out V).mono (fun e w2 h => ⟨_, h.1, rfl, h.2⟩)) ?_
        rintro v W' ⟨rfl, hwq⟩
        subst hwq
        refine hK.out _ _ ⟨(hB.cell (p := ⟨D, 0, none⟩) (block_lt_of_cell e0)).trans e0, (hB.cell (p := ⟨kb, ko + I * 5, none⟩) (block_lt_of_cell c0)).trans c0, (hB.cell (p := ⟨kb, ko + I * 5 + 1, none⟩) (block_lt_of_cell c1)).trans c1, (hB.cell (p := ⟨kb, ko + I * 5 + 2, none⟩) (block_lt_of_cell c2)).trans c2, (hB.cell (p := ⟨kb, ko + I * 5 + 3, none⟩) (block_lt_of_cell c3)).trans c3, (hB.cell (p := ⟨kb, ko + I * 5 + 4, none⟩) (block_lt_of_cell c4)).trans c4⟩ (fun hHeld => ?_)
        simp only [Act.put, List.setIfInBounds_toArray, List.set_cons_zero, List.set_cons_succ]
        refine take_dst (i := 7) (d := 34) (v := .pointer (some ⟨kb, ko + I * 5, none⟩)) rfl rfl (by kernel_rfl) (by kernel_rfl) (by kernel_rfl) (fun _ _ _ h => h) (Or.inl ⟨by rfl, ?_⟩) hHeld ?_
        · (intro w0 hSw; (try dsimp only at hSw); go_simp)
        simp only [Act.put, List.setIfInBounds_toArray, List.set_cons_zero, List.set_cons_succ]
        refine take_dst (i := 8) (d := 35) (v := .agg #[.int .i64 c.au, .int .i64 c.rd, .slice c.ba c.bl.length c.bc, .slice c.pa c.pl.length c.pc, .slice c.va c.vl.length c.vc]) rfl rfl (by kernel_rfl) (by kernel_rfl) (by kernel_rfl) (fun _ _ _ h => h) (Or.inl ⟨by rfl, ?_⟩) hHeld ?_
        · (intro w0 hSw; (try dsimp only at hSw); go_simp)
        simp only [Act.put, List.setIfInBounds_toArray, List.set_cons_zero, List.set_cons_succ]
        clear hHeld
        have h := st_C.out V hB
        rw [← hA0.out] at h
        (try simp only [Act.put, List.setIfInBounds_toArray, List.set_cons_zero, List.set_cons_succ] at h)
        (try simp only [Act.put, List.setIfInBounds_toArray, List.set_cons_zero, List.set_cons_succ])
        exact hGi.out _ _ _ _ h
      · skip
        refine step_run rfl 7 rfl (.pointer (some ⟨V.heap.size, 0, none⟩)) (V.alloc (.cells #[.int .i64 0, .int .i64 0, .slice none 0 0, .slice none 0 0, .slice none 0 0] 63)) (by go_simp) ?_
        have hA : Below V.heap.size V (V.alloc (.cells #[.int .i64 0, .int .i64 0, .slice none 0 0, .slice none 0 0, .slice none 0 0] 63)) := (Below.refl _ _).alloc (Nat.le_refl _) _
        have hBn := hB.trans (hA.mono hB.size)
        have qX_n := heap_alloc_new V (.cells #[.int .i64 0, .int .i64 0, .slice none 0 0, .slice none 0 0, .slice none 0 0] 63)
        have gX_n := hB.size
        generalize hW' : V.alloc (.cells #[.int .i64 0, .int .i64 0, .slice none 0 0, .slice none 0 0, .slice none 0 0] 63) = W' at hA hBn qX_n ⊢
        clear hW'
        obtain ⟨bX, hx_e⟩ : ∃ bX, bX = V.heap.size := ⟨_, rfl⟩
        rw [← hx_e] at qX_n gX_n ⊢
        have hA' := hA
        clear hx_e
        refine hK.out _ _ ⟨(hBn.cell (p := ⟨D, 0, none⟩) (block_lt_of_cell e0)).trans e0, (hBn.cell (p := ⟨kb, ko + I * 5, none⟩) (block_lt_of_cell c0)).trans c0, (hBn.cell (p := ⟨kb, ko + I * 5 + 1, none⟩) (block_lt_of_cell c1)).trans c1, (hBn.cell (p := ⟨kb, ko + I * 5 + 2, none⟩) (block_lt_of_cell c2)).trans c2, (hBn.cell (p := ⟨kb, ko + I * 5 + 3, none⟩) (block_lt_of_cell c3)).trans c3, (hBn.cell (p := ⟨kb, ko + I * 5 + 4, none⟩) (block_lt_of_cell c4)).trans c4⟩ (fun hHeld => ?_)
        clear hHeld
        have h := st_X.out W' bX hBn qX_n gX_n
        rw [← hA0.out] at h
        (try simp only [Act.put, List.setIfInBounds_toArray, List.set_cons_zero, List.set_cons_succ] at h)
        (try simp only [Act.put, List.setIfInBounds_toArray, List.set_cons_zero, List.set_cons_succ])
        exact hGi.out _ _ _ _ h
    exact st_0.out V0 hV0 
  case rest =>
    obtain ⟨X, rfl, gX, qX, hb3⟩ := hcut
    have hB3 := hB2.trans (hb3.mono hB2.size)
    have qD3 := (hb3.block _ (lt_of_heap qD)).trans qD
    have hd3 := hd2.below hb3
    have hCt3 := hCt.below hb3
    have hBc3 := hBc2.below hb3
    have HFC : Hid (headerF c.au c.rd c.bl c.pl = 0) := by
      show _ = _
      rw [Ct.hf_v, ← HCE.out]
      exact certF_head (vl := (cvAt (cvs ks) I).vl) (dagF_f HD.out I (by rw [cvs_length]; exact hI))
    have x0 := cells_at qX 0 _ rfl
    have x1 := cells_at qX 1 _ rfl
    have x2 := cells_at qX 2 _ rfl
    have x3 := cells_at qX 3 _ rfl
    have HHD := headerDigest_hat hCt3.hat HFC.out (HT.out wc hB3)
    clear c0 c1 c2 c3 c4 hd2 qD hCt e0 hBc2 HP hdlt
    go_wp2_with fail
    refine HHD.mono ?_
    rintro e w4 ⟨kd, he, hgk, hb4, hsk⟩
    subst he
    dsimp only
    have HKD : Hid (hDig c.au c.rd c.bl c.pl = (cvAt (cvs ks) I).d) := by show _ = _; rw [Ct.d_v, HCE.out]
    rw [HKD.out] at hsk
    have hb34 := hb3.trans (hb4.mono hb3.size)
    have hB4 := hB3.trans (hb4.mono hB3.size)
    have qD4 := (hb4.block _ (lt_of_heap qD3)).trans qD3
    have qX4 := (hb4.block _ (lt_of_heap qX)).trans qX
    have hd4 := hd3.below hb4
    have hCt4 := hCt3.below hb4
    have hBc4 := hBc3.below hb4
    clear HHD x0 x1 x2 x3 hd3 hCt3 hBc3 qD3 qX
    have HBL1 := blk_at ks (some ⟨kb, ko, none⟩) kc I cl ba _ bc ⟨some ⟨kd, 0, none⟩, 32, (cvAt (cvs ks) I).d⟩ w4 HD.out hle hI hd4 HBL.out hBc4 HBG.out hsk rfl (CV.d_length _) (HT.out w4 hB4)
    have d4 := cells_at qD4 0 _ rfl
    go_wp2_with fail
    refine HBL1.mono ?_
    rintro e w5 ⟨⟨aa, AN, ac, aec, he, hAR, hAN⟩, hb5⟩
    subst he
    dsimp only
    have hB5 := hB4.trans (hb5.mono hB4.size)
    have qD5 := (hb5.block _ (lt_of_heap qD4)).trans qD4
    have qX5 := (hb5.block _ (lt_of_heap qX4)).trans qX4
    have hd5 := hd4.below hb5
    have hCt5 := hCt4.below hb5
    have hBc5 := hBc4.below hb5
    clear HBL1 d4 hd4 hCt4 hBc4 qD4 qX4
    rcases hAR with ⟨rfl, hbs0, h2, t2, hH2, ht2, hANe, hSA⟩ | ⟨rfl, hcb, _⟩
    case inr =>
      have HCO : Hid (Coll (cvs ks) ∨ CollB ((bvTo (s0 :: l) (min (l.length + 1) 24)).map BV.w)) := by
        right
        rw [← HBE.out]; exact hcb
      clear hcb
      go_wp2_with fail
      go_ret
      exact ⟨cvs ks, HG.out, .inr ⟨rfl, HCO.out⟩, hB5⟩
    case inl =>
      have HA2 : Hid (HistIs (cvs ks) (cvAt (cvs ks) I).d h2 ∧ txsH (bws cl) (hisB h2) = some t2 ∧ AN = (onceS [] t2).length) := ⟨hH2, ht2, hANe⟩
      clear hbs0 hH2 ht2 hANe
      have hpl4 : c.pl.length ≤ 4 := (headerF_ok HFC.out).2.2.2.1
      generalize hO2 : onceS [] t2 = A2 at hSA
      have HO2 : Hid (onceS [] t2 = A2) := hO2
      clear hO2
      go_upto_region 10 with fail
      go_wp2_with fail
      go_loopw [12] (fun j wr => ∃ m : Nat, m ≤ c.pl.length ∧ j = .int .i64 m ∧ Below w5.heap.size w5 wr) (fun j _ => c.pl.length - (intOf j).toNat)
      case atStart => exact ⟨0, Nat.zero_le _, rfl, Below.refl _ _⟩
      case round =>
        obtain ⟨m, hm, rfl, hb6⟩ := hrel
        have hB6 := hB5.trans (hb6.mono hB5.size)
        have qX6 := (hb6.block _ (lt_of_heap qX5)).trans qX5
        have x3 := cells_at qX6 3 _ rfl
        by_cases hlt : m < c.pl.length
        · have hltI : (m : Int) < c.pl.length := by omega
          obtain ⟨pb, po, hpe, hpc⟩ : ∃ pb po, c.pa = some ⟨pb, po, none⟩ ∧ ∀ j (g : j < c.pl.length), w5.cell? ⟨pb, po + j, none⟩ = some (.slice (c.pl[j]).sa (c.pl[j]).bs.length (c.pl[j]).cap) := by
            rcases hCt5.hat.lp.parts.cells with g | g
            · rw [g] at hlt; simp at hlt
            · exact g
          have m0 := hpc m hlt
          have hSq := hCt5.hat.lp.parts.each (c.pl[m]) (List.getElem_mem hlt)
          have HPL : Hid ((c.pl[m]).bs ∈ (cvAt (cvs ks) I).pl) := by
            show _ ∈ _
            rw [HCE.out]
            exact List.mem_map.2 ⟨_, List.getElem_mem hlt, rfl⟩
          clear hpc
          generalize c.pl[m] = y at m0 hSq HPL
          obtain ⟨J, hJI, hJd⟩ := parent_of HD.out HU.out (by rw [cvs_length]; exact hI) HPL.out
          have hJ : J < ks.length := by omega
          have HJD : Hid (y.bs = (cvAt (cvs ks) J).d) := hJd.symm
          have h32 : y.bs.length = 32 := by rw [HJD.out, CV.d_length]
          clear hJd
          rw [h32] at m0
          have hpbl : pb < w5.heap.size := block_lt_of_cell m0
          have qD6 := (hb6.block _ (lt_of_heap qD5)).trans qD5
          have hd6 := hd5.below hb6
          have hBc6 := hBc5.below hb6
          have hS6 := hSq.below hb6
          have e0 := cells_at qD6 0 _ rfl
          have e1 := (hb6.cell (p := ⟨pb, po + m, none⟩) hpbl).trans m0
          have x3' : wr.cell? ⟨X, 3, none⟩ = some (.slice (some ⟨pb, po, none⟩) c.pl.length c.pc) := by rw [← hpe]; exact x3
          obtain ⟨VR, hVR⟩ : ∃ VR, VR = wr := ⟨_, rfl⟩
          subst hVR
          have HBK : Hid (∀ V : World, Below VR.heap.size VR V → Calls Tryd.prog 41 #[.agg #[.slice (some ⟨kb, ko, none⟩) ks.length kc], .slice ba bl.length bc, .slice y.sa 32 y.cap] V fun e w' => (∃ (xa : Option Addr) (N xc : Nat) (ec : Int), e = .returned (.tuple #[.slice xa N xc, .int .i64 ec]) ∧ BlkR w' (cvs ks) (bws cl) (cvAt (cvs ks) J).d xa N ec ∧ N ≤ 288) ∧ Below V.heap.size V w') := by
            show ∀ V, _
            intro V hV
            exact blk_at ks (some ⟨kb, ko, none⟩) kc J cl ba _ bc y V HD.out hle hJ (hd6.below hV) HBL.out (hBc6.below hV) HBG.out (hS6.below hV) HJD.out h32 (HT.out V (hB6.trans (hV.mono hB6.size)))
          go_upto_region 12 with fail
          go_cut [13, 14] from 55 to 102 (fun u v wx => ∃ (xa : Option Addr) (N xc : Nat) (ec : Int), u = .slice xa N xc ∧ v = .int .i64 ec ∧ BlkR wx (cvs ks) (bws cl) (cvAt (cvs ks) J).d xa N ec ∧ N ≤ 288 ∧ Below VR.heap.size VR wx)
          case first =>
            have hV0 : Below VR.heap.size VR VR.drew := (Below.refl _ _).drew
            refine wp_region_held_drew (S := fun w' => w'.cell? ⟨D, 0, none⟩ = some (.slice (some ⟨kb, ko, none⟩) ks.length kc) ∧ w'.cell? ⟨X, 3, none⟩ = some (.slice (some ⟨pb, po, none⟩) c.pl.length c.pc) ∧ w'.cell? ⟨pb, po + m, none⟩ = some (.slice y.sa 32 y.cap)) (by kernel_rfl) ⟨(hV0.cell (p := ⟨D, 0, none⟩) (block_lt_of_cell e0)).trans e0, (hV0.cell (p := ⟨X, 3, none⟩) (block_lt_of_cell x3')).trans x3', (hV0.cell (p := ⟨pb, po + m, none⟩) (block_lt_of_cell e1)).trans e1⟩ (fun hHeld => ?_)
            generalize VR.drew = V0 at hV0  hHeld ⊢
            refine take_dst (i := 0) (d := 64) (v := .agg #[.slice (some ⟨kb, ko, none⟩) ks.length kc]) rfl rfl (by kernel_rfl) (by kernel_rfl) (by kernel_rfl) (fun _ _ _ h => h) (Or.inl ⟨by rfl, ?_⟩) hHeld ?_
            · (intro w0 hSw; (try dsimp only at hSw); go_simp)
            simp only [Act.put, List.setIfInBounds_toArray, List.set_cons_zero, List.set_cons_succ]
            refine take_dst (i := 1) (d := 65) (v := .slice ba bl.length bc) rfl rfl (by kernel_rfl) (by kernel_rfl) (by kernel_rfl) (fun _ _ _ h => h) (Or.inl ⟨by rfl, ?_⟩) hHeld ?_
            · (intro w0 hSw; (try dsimp only at hSw); go_simp)
            simp only [Act.put, List.setIfInBounds_toArray, List.set_cons_zero, List.set_cons_succ]
            refine take_dst (i := 2) (d := 66) (v := .pointer (some ⟨X, 0, none⟩)) rfl rfl (by kernel_rfl) (by kernel_rfl) (by kernel_rfl) (fun _ _ _ h => h) (Or.inl ⟨by rfl, ?_⟩) hHeld ?_
            · (intro w0 hSw; (try dsimp only at hSw); go_simp)
            simp only [Act.put, List.setIfInBounds_toArray, List.set_cons_zero, List.set_cons_succ]
            refine take_dst (i := 3) (d := 67) (v := .pointer (some ⟨X, 3, none⟩)) rfl rfl (by kernel_rfl) (by kernel_rfl) (by kernel_rfl) (fun _ _ _ h => h) (Or.inl ⟨by rfl, ?_⟩) hHeld ?_
            · (intro w0 hSw; (try dsimp only at hSw); go_simp)
            simp only [Act.put, List.setIfInBounds_toArray, List.set_cons_zero, List.set_cons_succ]
            refine take_dst (i := 4) (d := 68) (v := .slice (some ⟨pb, po, none⟩) c.pl.length c.pc) rfl rfl (by kernel_rfl) (by kernel_rfl) (by kernel_rfl) (fun _ _ _ h => h) (Or.inl ⟨by rfl, ?_⟩) hHeld ?_
            · (intro w0 hSw; (try dsimp only at hSw); go_simp)
            simp only [Act.put, List.setIfInBounds_toArray, List.set_cons_zero, List.set_cons_succ]
            refine take_dst (i := 5) (d := 69) (v := .int .i64 (m : Int)) rfl rfl (by kernel_rfl) (by kernel_rfl) (by kernel_rfl) (fun _ _ _ h => h) (Or.inl ⟨by rfl, ?_⟩) hHeld ?_
            · (intro w0 hSw; (try dsimp only at hSw); go_simp)
            simp only [Act.put, List.setIfInBounds_toArray, List.set_cons_zero, List.set_cons_succ]
            refine take_dst (i := 6) (d := 70) (v := .pointer (some ⟨pb, po + m, none⟩)) rfl rfl (by kernel_rfl) (by kernel_rfl) (by kernel_rfl) (fun _ _ _ h => h) (Or.inl ⟨by rfl, ?_⟩) hHeld ?_
            · (intro w0 hSw; (try dsimp only at hSw); go_simp)
            simp only [Act.put, List.setIfInBounds_toArray, List.set_cons_zero, List.set_cons_succ]
            refine take_dst (i := 7) (d := 71) (v := .slice y.sa 32 y.cap) rfl rfl (by kernel_rfl) (by kernel_rfl) (by kernel_rfl) (fun _ _ _ h => h) (Or.inl ⟨by rfl, ?_⟩) hHeld ?_
            · (intro w0 hSw; (try dsimp only at hSw); go_simp)
            simp only [Act.put, List.setIfInBounds_toArray, List.set_cons_zero, List.set_cons_succ]
            clear hHeld
            refine any_named (fun GO hGo hGi => ?_)
            refine act_named (fun A0 hA0 => ?_)
            have st_K : Hid (∀ (V : World) (xa : Option Addr) (N : Nat) (xc : Nat) (ec : Int), Below VR.heap.size VR V → (BlkR V (cvs ks) (bws cl) (cvAt (cvs ks) J).d xa N ec) → (N ≤ 288) → GO 0 #[true, true, true, true, true, true, true, true, true, true, true, true, true, true] ((((((A0.put (some 72) (.tuple #[.slice xa N xc, .int .i64 ec])).put (some 63) (.tuple #[.slice xa N xc, .int .i64 ec])).put (some 73) (.slice xa N xc)).put (some 74) (.int .i64 ec)).put (some 13) (.slice xa N xc)).put (some 14) (.int .i64 ec)) V) := by
              show ∀ V, _
              intro V xa N xc ec hB hBR hN
              refine hGo.out _ _ _ _ ?_
              rw [← hA0.out]
              try simp only [Act.put, List.setIfInBounds_toArray, List.set_cons_zero, List.set_cons_succ]
              refine wpAnyH_done (by kernel_rfl) ?_ _
              go_wp2_with fail
              go_meet
              case rel => exact ⟨xa, N, xc, ec, rfl, rfl, hBR, hN, hB⟩
            have st_0 : Hid (∀ (V : World), Below VR.heap.size VR V → GO 6 #[true, true, true, true, true, true, true, true, false, false, false, false, false, false] A0 V) := by
              show ∀ V, _
              intro V  hB 
              refine hGo.out _ _ _ _ ?_
              rw [← hA0.out]
              try simp only [Act.put, List.setIfInBounds_toArray, List.set_cons_zero, List.set_cons_succ]
              refine wpAnyH_ready (rs := [8]) (by kernel_rfl) (by simp) (AllReadyH.cons rfl (fun K hK => ?_) AllReadyH.nil)
              refine step_calls_dst rfl 72 rfl 41 [.tmp 64, .tmp 65, .tmp 71] #[51, 22, 46] rfl [.agg #[.slice (some ⟨kb, ko, none⟩) ks.length kc], .slice ba bl.length bc, .slice y.sa 32 y.cap] rfl (enters_of Tryd.func41 (by kernel_rfl) rfl) (fun v w' => (∃ (xa : Option Addr) (N xc : Nat) (ec : Int), v = .tuple #[.slice xa N xc, .int .i64 ec] ∧ BlkR w' (cvs ks) (bws cl) (cvAt (cvs ks) J).d xa N ec ∧ N ≤ 288) ∧ Below V.heap.size V w') ((HBK.out V hB).mono (fun e w2 h => by obtain ⟨⟨ya, M, yc, yd, h1, h2, h3⟩, h5⟩ := h; exact ⟨_, h1, ⟨ya, M, yc, yd, rfl, h2, h3⟩, h5⟩)) ?_
              rintro v W' ⟨⟨xa, N, xc, ec, rfl, hBR_n, hN_n⟩, hb⟩
              have hBn := hB.trans (hb.mono hB.size)
              refine hK.out _ _ ⟨(hBn.cell (p := ⟨D, 0, none⟩) (block_lt_of_cell e0)).trans e0, (hBn.cell (p := ⟨X, 3, none⟩) (block_lt_of_cell x3')).trans x3', (hBn.cell (p := ⟨pb, po + m, none⟩) (block_lt_of_cell e1)).trans e1⟩ (fun hHeld => ?_)
              simp only [Act.put, List.setIfInBounds_toArray, List.set_cons_zero, List.set_cons_succ]
              refine take_dst (i := 9) (d := 63) (v := .tuple #[.slice xa N xc, .int .i64 ec]) rfl rfl (by kernel_rfl) (by kernel_rfl) (by kernel_rfl) (fun _ _ _ h => h) (Or.inl ⟨by rfl, ?_⟩) hHeld ?_
              · (intro w0 hSw; (try dsimp only at hSw); go_simp)
              simp only [Act.put, List.setIfInBounds_toArray, List.set_cons_zero, List.set_cons_succ]
              refine take_dst (i := 10) (d := 73) (v := .slice xa N xc) rfl rfl (by kernel_rfl) (by kernel_rfl) (by kernel_rfl) (fun _ _ _ h => h) (Or.inl ⟨by rfl, ?_⟩) hHeld ?_
              · (intro w0 hSw; (try dsimp only at hSw); go_simp)
              simp only [Act.put, List.setIfInBounds_toArray, List.set_cons_zero, List.set_cons_succ]
              refine take_dst (i := 11) (d := 74) (v := .int .i64 ec) rfl rfl (by kernel_rfl) (by kernel_rfl) (by kernel_rfl) (fun _ _ _ h => h) (Or.inl ⟨by rfl, ?_⟩) hHeld ?_
              · (intro w0 hSw; (try dsimp only at hSw); go_simp)
              simp only [Act.put, List.setIfInBounds_toArray, List.set_cons_zero, List.set_cons_succ]
              refine take_dst (i := 12) (d := 13) (v := .slice xa N xc) rfl rfl (by kernel_rfl) (by kernel_rfl) (by kernel_rfl) (fun _ _ _ h => h) (Or.inl ⟨by rfl, ?_⟩) hHeld ?_
              · (intro w0 hSw; (try dsimp only at hSw); go_simp)
              simp only [Act.put, List.setIfInBounds_toArray, List.set_cons_zero, List.set_cons_succ]
              refine take_dst (i := 13) (d := 14) (v := .int .i64 ec) rfl rfl (by kernel_rfl) (by kernel_rfl) (by kernel_rfl) (fun _ _ _ h => h) (Or.inl ⟨by rfl, ?_⟩) hHeld ?_
              · (intro w0 hSw; (try dsimp only at hSw); go_simp)
              simp only [Act.put, List.setIfInBounds_toArray, List.set_cons_zero, List.set_cons_succ]
              clear hHeld
              have h := st_K.out W' xa N xc ec hBn hBR_n hN_n
              rw [← hA0.out] at h
              (try simp only [Act.put, List.setIfInBounds_toArray, List.set_cons_zero, List.set_cons_succ] at h)
              (try simp only [Act.put, List.setIfInBounds_toArray, List.set_cons_zero, List.set_cons_succ])
              exact hGi.out _ _ _ _ h
            exact st_0.out V0 hV0 
          case rest =>
            obtain ⟨xa, N, xc, ec, rfl, rfl, hBR, hN, hb7⟩ := hcut
            have hb57 := hb6.trans (hb7.mono hb6.size)
            have hB7 := hB6.trans (hb7.mono hB6.size)
            have hSA7 := hSA.below hb57
            clear e0 e1 x3' x3 HBK
            rcases hBR with ⟨rfl, _, h1, t1, hH1, ht1, hNe, hSP⟩ | ⟨rfl, hcb, _⟩
            case inr =>
              have HCO : Hid (Coll (cvs ks) ∨ CollB ((bvTo (s0 :: l) (min (l.length + 1) 24)).map BV.w)) := by
                right
                rw [← HBE.out]; exact hcb
              clear hcb
              go_wp2_with fail
              go_ret
              exact ⟨cvs ks, HG.out, .inr ⟨rfl, HCO.out⟩, hB7⟩
            case inl =>
              have HSUB : Hid (Coll (cvs ks) ∨ ∀ s ∈ onceS [] t1, s ∈ A2) := by
                rcases coll_or HD.out with o | o
                · right
                  obtain ⟨p1, p2, _⟩ := HA2.out
                  have hsel := (sel_parent HD.out o (k := (cvAt (cvs ks) I).d) (i := I) (q := J) (by rw [cvs_length]; exact hI) (by rw [cvs_length]; exact hJ) (sel_self (by rw [cvs_length]; exact hI)) HPL.out (by rw [HJD.out])).2.1
                  rw [← HO2.out]
                  exact blk_sub (hist_sub HD.out o (by rw [cvs_length]; exact hJ) hsel hH1 p1) ht1 p2
                · exact .inl o
              have HNE : Hid (N = (onceS [] t1).length) := hNe
              clear hH1 ht1 hNe
              generalize onceS [] t1 = A1 at hSP HSUB HNE
              have HAL : Hid (AN = A2.length) := by
                obtain ⟨_, _, p3⟩ := HA2.out
                rw [HO2.out] at p3; exact p3
              obtain ⟨W7, hW7⟩ : ∃ W7, W7 = wc := ⟨_, rfl⟩
              subst hW7
              go_upto_region 16 with fail
              go_wp2_with fail
              go_loopw [15] (fun j wr => ∃ i : Nat, i ≤ N ∧ j = .int .i64 i ∧ Below W7.heap.size W7 wr) (fun j _ => N - (intOf j).toNat)
              case atStart => exact ⟨0, Nat.zero_le _, rfl, Below.refl _ _⟩
              case round =>
                obtain ⟨i, hi, rfl, hb8⟩ := hrel
                have hb58 := hb57.trans (hb8.mono hb57.size)
                have hB8 := hB7.trans (hb8.mono hB7.size)
                by_cases hli : i < N
                · have hliI : (i : Int) < N := by omega
                  have hi1 : i < A1.length := by have := HNE.out; omega
                  obtain ⟨tb, tq, hte, htc⟩ : ∃ tb tq, xa = some ⟨tb, tq, none⟩ ∧ ∀ j, j < A1.length → W7.cell? ⟨tb, tq + j, none⟩ = some (.string (A1.getD j ByteArray.empty)) := by
                    rcases hSP.cells with h | h
                    · rw [h] at hi1; simp at hi1
                    · exact h
                  have u0 := htc i hi1
                  have HIN : Hid (Coll (cvs ks) ∨ A1.getD i ByteArray.empty ∈ A2) := by
                    rcases HSUB.out with o | o
                    · exact .inl o
                    · exact .inr (o _ (by simp [hi1]))
                  clear htc
                  subst hte
                  generalize A1.getD i ByteArray.empty = str at u0 HIN
                  have htbl : tb < W7.heap.size := block_lt_of_cell u0
                  obtain ⟨W8, hW8⟩ : ∃ W8, W8 = wr := ⟨_, rfl⟩
                  subst hW8
                  go_upto_region 20 with fail
                  go_wp2_with fail
                  go_loopw [17, 16] (fun j v wr => ∃ (k : Nat) (B : Bool), k ≤ AN ∧ j = .int .i64 k ∧ v = .bool B ∧ Hid (B = inO str (A2.take k)) ∧ Below W8.heap.size W8 wr) (fun j _ _ => AN - (intOf j).toNat)
                  case atStart => exact ⟨0, false, Nat.zero_le _, rfl, rfl, (show _ = _ by simp [inO]), Below.refl _ _⟩
                  case round =>
                    obtain ⟨k, B, hk, rfl, rfl, HBI, hb9⟩ := hrel
                    have hb79 := hb8.trans (hb9.mono hb8.size)
                    have hb59 := hb58.trans (hb9.mono hb58.size)
                    have hB9 := hB8.trans (hb9.mono hB8.size)
                    by_cases hlk : k < AN
                    · have hlkI : (k : Int) < AN := by omega
                      have hk2 : k < A2.length := by have := HAL.out; omega
                      obtain ⟨ab, aq, hae, hac⟩ : ∃ ab aq, aa = some ⟨ab, aq, none⟩ ∧ ∀ j, j < A2.length → W7.cell? ⟨ab, aq + j, none⟩ = some (.string (A2.getD j ByteArray.empty)) := by
                        rcases hSA7.cells with h | h
                        · rw [h] at hk2; simp at hk2
                        · exact h
                      have v0 := hac k hk2
                      have habl : ab < W7.heap.size := block_lt_of_cell v0
                      have HTK : Hid (inO str (A2.take (k + 1)) = (inO str (A2.take k) || decide (A2.getD k ByteArray.empty = str))) := by
                        show _ = _
                        rw [inO_take hk2]
                        simp [hk2]
                      clear hac
                      subst hae
                      generalize A2.getD k ByteArray.empty = atr at v0 HTK
                      have g0 := (hb79.cell (p := ⟨tb, tq + i, none⟩) htbl).trans u0
                      have g1 := (hb79.cell (p := ⟨ab, aq + k, none⟩) habl).trans v0
                      obtain ⟨VR, hVR⟩ : ∃ VR, VR = wr := ⟨_, rfl⟩
                      subst hVR
                      go_upto_region 22 with fail
                      cases B with
                      | true =>
                        have HQ : Hid (true = inO str (A2.take (k + 1))) := by show _ = _; rw [HTK.out, ← HBI.out]; rfl
                        have hV0 : Below VR.heap.size VR VR.drew := (Below.refl _ _).drew
                        refine wp_region_held_drew (S := fun w' => True) (by kernel_rfl) ⟨⟩ (fun hHeld => ?_)
                        generalize VR.drew = V0 at hV0  hHeld ⊢
                        refine take_dst (i := 0) (d := 89) (v := .bool true) rfl rfl (by kernel_rfl) (by kernel_rfl) (by kernel_rfl) (fun _ _ _ h => h) (Or.inl ⟨by rfl, ?_⟩) hHeld ?_
                        · (intro w0 hSw; (try dsimp only at hSw); go_simp)
                        simp only [Act.put, List.setIfInBounds_toArray, List.set_cons_zero, List.set_cons_succ]
                        refine take_dst (i := 1) (d := 90) (v := .bool true) rfl rfl (by kernel_rfl) (by kernel_rfl) (by kernel_rfl) (fun _ _ _ h => h) (Or.inl ⟨by rfl, ?_⟩) hHeld ?_
                        · (intro w0 hSw; (try dsimp only at hSw); go_simp)
                        simp only [Act.put, List.setIfInBounds_toArray, List.set_cons_zero, List.set_cons_succ]
                        refine take_dst (i := 2) (d := 91) (v := undef) rfl rfl (by kernel_rfl) (by kernel_rfl) (by kernel_rfl) (fun _ _ _ h => h) (Or.inr ⟨by rfl, rfl⟩) hHeld ?_
                        simp only [Act.put, List.setIfInBounds_toArray, List.set_cons_zero, List.set_cons_succ]
                        refine take_dst (i := 3) (d := 92) (v := undef) rfl rfl (by kernel_rfl) (by kernel_rfl) (by kernel_rfl) (fun _ _ _ h => h) (Or.inr ⟨by rfl, rfl⟩) hHeld ?_
                        simp only [Act.put, List.setIfInBounds_toArray, List.set_cons_zero, List.set_cons_succ]
                        refine take_dst (i := 4) (d := 93) (v := undef) rfl rfl (by kernel_rfl) (by kernel_rfl) (by kernel_rfl) (fun _ _ _ h => h) (Or.inr ⟨by rfl, rfl⟩) hHeld ?_
                        simp only [Act.put, List.setIfInBounds_toArray, List.set_cons_zero, List.set_cons_succ]
                        refine take_dst (i := 5) (d := 94) (v := undef) rfl rfl (by kernel_rfl) (by kernel_rfl) (by kernel_rfl) (fun _ _ _ h => h) (Or.inr ⟨by rfl, rfl⟩) hHeld ?_
                        simp only [Act.put, List.setIfInBounds_toArray, List.set_cons_zero, List.set_cons_succ]
                        refine take_dst (i := 6) (d := 95) (v := undef) rfl rfl (by kernel_rfl) (by kernel_rfl) (by kernel_rfl) (fun _ _ _ h => h) (Or.inr ⟨by rfl, rfl⟩) hHeld ?_
                        simp only [Act.put, List.setIfInBounds_toArray, List.set_cons_zero, List.set_cons_succ]
                        refine take_dst (i := 7) (d := 96) (v := undef) rfl rfl (by kernel_rfl) (by kernel_rfl) (by kernel_rfl) (fun _ _ _ h => h) (Or.inr ⟨by rfl, rfl⟩) hHeld ?_
                        simp only [Act.put, List.setIfInBounds_toArray, List.set_cons_zero, List.set_cons_succ]
                        refine take_dst (i := 8) (d := 97) (v := undef) rfl rfl (by kernel_rfl) (by kernel_rfl) (by kernel_rfl) (fun _ _ _ h => h) (Or.inr ⟨by rfl, rfl⟩) hHeld ?_
                        simp only [Act.put, List.setIfInBounds_toArray, List.set_cons_zero, List.set_cons_succ]
                        refine take_dst (i := 9) (d := 98) (v := undef) rfl rfl (by kernel_rfl) (by kernel_rfl) (by kernel_rfl) (fun _ _ _ h => h) (Or.inr ⟨by rfl, rfl⟩) hHeld ?_
                        simp only [Act.put, List.setIfInBounds_toArray, List.set_cons_zero, List.set_cons_succ]
                        refine take_dst (i := 10) (d := 99) (v := undef) rfl rfl (by kernel_rfl) (by kernel_rfl) (by kernel_rfl) (fun _ _ _ h => h) (Or.inr ⟨by rfl, rfl⟩) hHeld ?_
                        simp only [Act.put, List.setIfInBounds_toArray, List.set_cons_zero, List.set_cons_succ]
                        refine take_dst (i := 11) (d := 100) (v := .bool true) rfl rfl (by kernel_rfl) (by kernel_rfl) (by kernel_rfl) (fun _ _ _ h => h) (Or.inl ⟨by rfl, ?_⟩) hHeld ?_
                        · (intro w0 hSw; (try dsimp only at hSw); go_simp)
                        simp only [Act.put, List.setIfInBounds_toArray, List.set_cons_zero, List.set_cons_succ]
                        refine take_dst (i := 12) (d := 16) (v := .bool true) rfl rfl (by kernel_rfl) (by kernel_rfl) (by kernel_rfl) (fun _ _ _ h => h) (Or.inl ⟨by rfl, ?_⟩) hHeld ?_
                        · (intro w0 hSw; (try dsimp only at hSw); go_simp)
                        simp only [Act.put, List.setIfInBounds_toArray, List.set_cons_zero, List.set_cons_succ]
                        clear hHeld
                        refine any_named (fun GO hGo hGi => ?_)
                        refine act_named (fun A0 hA0 => ?_)
                        have st_0 : Hid (∀ (V : World), Below VR.heap.size VR V → GO 0 #[true, true, true, true, true, true, true, true, true, true, true, true, true] A0 V) := by
                          show ∀ V, _
                          intro V  hB 
                          refine hGo.out _ _ _ _ ?_
                          rw [← hA0.out]
                          try simp only [Act.put, List.setIfInBounds_toArray, List.set_cons_zero, List.set_cons_succ]
                          refine wpAnyH_done (by kernel_rfl) ?_ _
                          go_wp2_with fail
                          go_roundw
                          case rel => exact ⟨k + 1, _, by omega, by go_num, rfl, HQ, hb9.trans (hB.mono hb9.size)⟩
                          case measure => simp [intOf]; omega
                        exact st_0.out V0 hV0 
                      | false =>
                        have HQ : Hid ((atr.toList == str.toList) = inO str (A2.take (k + 1))) := by show _ = _; rw [HTK.out, ← HBI.out, str_eq]; rfl
                        have hV0 : Below VR.heap.size VR VR.drew := (Below.refl _ _).drew
                        refine wp_region_held_drew (S := fun w' => w'.cell? ⟨tb, tq + i, none⟩ = some (.string str) ∧ w'.cell? ⟨ab, aq + k, none⟩ = some (.string atr)) (by kernel_rfl) ⟨(hV0.cell (p := ⟨tb, tq + i, none⟩) (block_lt_of_cell g0)).trans g0, (hV0.cell (p := ⟨ab, aq + k, none⟩) (block_lt_of_cell g1)).trans g1⟩ (fun hHeld => ?_)
                        generalize VR.drew = V0 at hV0  hHeld ⊢
                        refine take_dst (i := 0) (d := 89) (v := .bool false) rfl rfl (by kernel_rfl) (by kernel_rfl) (by kernel_rfl) (fun _ _ _ h => h) (Or.inl ⟨by rfl, ?_⟩) hHeld ?_
                        · (intro w0 hSw; (try dsimp only at hSw); go_simp)
                        simp only [Act.put, List.setIfInBounds_toArray, List.set_cons_zero, List.set_cons_succ]
                        refine take_dst (i := 1) (d := 90) (v := .bool false) rfl rfl (by kernel_rfl) (by kernel_rfl) (by kernel_rfl) (fun _ _ _ h => h) (Or.inl ⟨by rfl, ?_⟩) hHeld ?_
                        · (intro w0 hSw; (try dsimp only at hSw); go_simp)
                        simp only [Act.put, List.setIfInBounds_toArray, List.set_cons_zero, List.set_cons_succ]
                        refine take_dst (i := 2) (d := 91) (v := .slice (some ⟨ab, aq, none⟩) AN ac) rfl rfl (by kernel_rfl) (by kernel_rfl) (by kernel_rfl) (fun _ _ _ h => h) (Or.inl ⟨by rfl, ?_⟩) hHeld ?_
                        · (intro w0 hSw; (try dsimp only at hSw); go_simp)
                        simp only [Act.put, List.setIfInBounds_toArray, List.set_cons_zero, List.set_cons_succ]
                        refine take_dst (i := 3) (d := 92) (v := .int .i64 (k : Int)) rfl rfl (by kernel_rfl) (by kernel_rfl) (by kernel_rfl) (fun _ _ _ h => h) (Or.inl ⟨by rfl, ?_⟩) hHeld ?_
                        · (intro w0 hSw; (try dsimp only at hSw); go_simp)
                        simp only [Act.put, List.setIfInBounds_toArray, List.set_cons_zero, List.set_cons_succ]
                        refine take_dst (i := 4) (d := 93) (v := .pointer (some ⟨ab, aq + k, none⟩)) rfl rfl (by kernel_rfl) (by kernel_rfl) (by kernel_rfl) (fun _ _ _ h => h) (Or.inl ⟨by rfl, ?_⟩) hHeld ?_
                        · (intro w0 hSw; (try dsimp only at hSw); go_simp)
                        simp only [Act.put, List.setIfInBounds_toArray, List.set_cons_zero, List.set_cons_succ]
                        refine take_dst (i := 5) (d := 94) (v := .string atr) rfl rfl (by kernel_rfl) (by kernel_rfl) (by kernel_rfl) (fun _ _ _ h => h) (Or.inl ⟨by rfl, ?_⟩) hHeld ?_
                        · (intro w0 hSw; (try dsimp only at hSw); go_simp)
                        simp only [Act.put, List.setIfInBounds_toArray, List.set_cons_zero, List.set_cons_succ]
                        refine take_dst (i := 6) (d := 95) (v := .slice (some ⟨tb, tq, none⟩) N xc) rfl rfl (by kernel_rfl) (by kernel_rfl) (by kernel_rfl) (fun _ _ _ h => h) (Or.inl ⟨by rfl, ?_⟩) hHeld ?_
                        · (intro w0 hSw; (try dsimp only at hSw); go_simp)
                        simp only [Act.put, List.setIfInBounds_toArray, List.set_cons_zero, List.set_cons_succ]
                        refine take_dst (i := 7) (d := 96) (v := .int .i64 (i : Int)) rfl rfl (by kernel_rfl) (by kernel_rfl) (by kernel_rfl) (fun _ _ _ h => h) (Or.inl ⟨by rfl, ?_⟩) hHeld ?_
                        · (intro w0 hSw; (try dsimp only at hSw); go_simp)
                        simp only [Act.put, List.setIfInBounds_toArray, List.set_cons_zero, List.set_cons_succ]
                        refine take_dst (i := 8) (d := 97) (v := .pointer (some ⟨tb, tq + i, none⟩)) rfl rfl (by kernel_rfl) (by kernel_rfl) (by kernel_rfl) (fun _ _ _ h => h) (Or.inl ⟨by rfl, ?_⟩) hHeld ?_
                        · (intro w0 hSw; (try dsimp only at hSw); go_simp)
                        simp only [Act.put, List.setIfInBounds_toArray, List.set_cons_zero, List.set_cons_succ]
                        refine take_dst (i := 9) (d := 98) (v := .string str) rfl rfl (by kernel_rfl) (by kernel_rfl) (by kernel_rfl) (fun _ _ _ h => h) (Or.inl ⟨by rfl, ?_⟩) hHeld ?_
                        · (intro w0 hSw; (try dsimp only at hSw); go_simp)
                        simp only [Act.put, List.setIfInBounds_toArray, List.set_cons_zero, List.set_cons_succ]
                        refine take_dst (i := 10) (d := 99) (v := .bool (atr.toList == str.toList)) rfl rfl (by kernel_rfl) (by kernel_rfl) (by kernel_rfl) (fun _ _ _ h => h) (Or.inl ⟨by rfl, ?_⟩) hHeld ?_
                        · (intro w0 hSw; (try dsimp only at hSw); go_simp)
                        simp only [Act.put, List.setIfInBounds_toArray, List.set_cons_zero, List.set_cons_succ]
                        refine take_dst (i := 11) (d := 100) (v := .bool (atr.toList == str.toList)) rfl rfl (by kernel_rfl) (by kernel_rfl) (by kernel_rfl) (fun _ _ _ h => h) (Or.inl ⟨by rfl, ?_⟩) hHeld ?_
                        · (intro w0 hSw; (try dsimp only at hSw); go_simp)
                        simp only [Act.put, List.setIfInBounds_toArray, List.set_cons_zero, List.set_cons_succ]
                        refine take_dst (i := 12) (d := 16) (v := .bool (atr.toList == str.toList)) rfl rfl (by kernel_rfl) (by kernel_rfl) (by kernel_rfl) (fun _ _ _ h => h) (Or.inl ⟨by rfl, ?_⟩) hHeld ?_
                        · (intro w0 hSw; (try dsimp only at hSw); go_simp)
                        simp only [Act.put, List.setIfInBounds_toArray, List.set_cons_zero, List.set_cons_succ]
                        clear hHeld
                        refine any_named (fun GO hGo hGi => ?_)
                        refine act_named (fun A0 hA0 => ?_)
                        have st_0 : Hid (∀ (V : World), Below VR.heap.size VR V → GO 0 #[true, true, true, true, true, true, true, true, true, true, true, true, true] A0 V) := by
                          show ∀ V, _
                          intro V  hB 
                          refine hGo.out _ _ _ _ ?_
                          rw [← hA0.out]
                          try simp only [Act.put, List.setIfInBounds_toArray, List.set_cons_zero, List.set_cons_succ]
                          refine wpAnyH_done (by kernel_rfl) ?_ _
                          go_wp2_with fail
                          go_roundw
                          case rel => exact ⟨k + 1, _, by omega, by go_num, rfl, HQ, hb9.trans (hB.mono hb9.size)⟩
                          case measure => simp [intOf]; omega
                        exact st_0.out V0 hV0 
                    · obtain rfl : k = AN := by omega
                      cases B with
                      | false =>
                        have HCO : Hid (Coll (cvs ks) ∨ CollB ((bvTo (s0 :: l) (min (l.length + 1) 24)).map BV.w)) := by
                          rcases HIN.out with o | o
                          · exact .inl o
                          · exfalso
                            have h1 := HBI.out
                            rw [HAL.out, List.take_length] at h1
                            rw [inO_iff.2 o] at h1; cases h1
                        go_wp2_with fail
                        go_ret
                        exact ⟨cvs ks, HG.out, .inr ⟨rfl, HCO.out⟩, hB9⟩
                      | true =>
                        go_wp2_with fail
                        go_roundw
                        case rel => exact ⟨i + 1, by omega, by go_num, hb79⟩
                        case measure => simp [intOf]; omega
                · obtain rfl : i = N := by omega
                  go_wp2_with fail
                  go_roundw
                  case rel => exact ⟨m + 1, by omega, by go_num, hb58⟩
                  case measure => simp [intOf]; omega
        · obtain rfl : m = c.pl.length := by omega
          go_wp2_with fail
          go_ret
          exact ⟨cvs ks, HG.out, .inl rfl, hB6⟩
set_option maxRecDepth 100000 in
theorem blockGrows_walk (sa : Option Addr) (cap : Nat) (l : List Stp) (n : Int) (w : World) (hl : StepsAt w sa l) (hcl : l.length ≤ cap) (hc0 : sa = none → cap = 0) (hc1 : l.length * 24 ≤ 140737488351232) (hn1 : -9223372036854775808 ≤ n) (hn2 : n ≤ 9223372036854775807) (hT : Tabs w) :
    Calls Tryd.prog 10 #[.slice sa l.length cap, .int .i64 n] w fun e w' => e = .returned (.bool true) ∧ Below w.heap.size w w' := by
  have H := blockGrows_any sa cap l n w hl hcl hc0 hc1 hn1 hn2 hT
  go_enter Tryd.func10, Tryd.ntmps10
  go_wp2_with fail
  refine H.mono ?_
  rintro e w1 ⟨cc, hG, hor, hb1⟩
  rcases hor with he | ⟨he, hco⟩
  · subst he
    dsimp only
    go_wp2_with fail
    go_ret
    exact ⟨rfl, hb1⟩
  · subst he
    dsimp only
    have H2 := grownSum_all l [] sa cap none 0 w1 cc (hl.below hb1) hcl hc0 hc1 ⟨.inl rfl, fun s hs => by cases hs⟩ (Nat.le_refl _) (fun _ => rfl) (by decide) hG (fun cx _ => hco.imp (coll_left cx) (collB_left _)) (hT.below hb1)
    clear H hG hcl hc0 hc1 hco
    go_wp2_with fail
    refine H2.mono ?_
    rintro e w2 ⟨he, hb2⟩
    subst he
    dsimp only
    go_wp2_with fail
    go_ret
    exact ⟨rfl, hb1.trans (hb2.mono hb1.size)⟩
end Go.Proofs.YtbmodfegcmaieaaDoor

namespace Go.Proofs.YtbmodfegcmaieaaDoor
open Go.RowKit

set_option maxRecDepth 100000 in
/-- An array of arrays of integers that reads as a table of rows holds the rows' numbers, cell for cell. -/
theorem cells_of_tab2 {H : Type} {enc : TypeId × Value → H} {P : Program} {w : World} {base : Nat} {sp : Nat → Bool} {held : Bool} {fuel : Nat} {t e i : TypeId} {n m : Nat} {k : IntKind} {cs : List Value} {rows : List (List Int)} {p : List MemPlace}
    (ht : P.underlying t = some (.array n e)) (he : P.underlying e = some (.array m i)) (hi : P.underlying i = some (.int k)) (hci : P.cellsOf i = 1) (hce : P.cellsOf e = m) (hm : 0 < m)
    (h : DataW.trod enc P w base sp held fuel t cs = some (.agg (rows.map (Lib.tabData k)), p)) (q : Nat) (hq : q < n * m) : cs[q]? = ((rows.getD (q / m) []).map (Value.int k))[q % m]? := by
  obtain ⟨xs, f, rfl, hx, hl, hn, hr⟩ := DataW.trod_array ht h
  have hin : q / m < n := Nat.div_lt_of_lt_mul (by rw [Nat.mul_comm]; exact hq)
  have hrow := hr (q / m) hin
  have hxs : xs.map (·.1) = rows.map (Lib.tabData k) := by
    have := congrArg Prod.fst hx
    simpa using this.symm
  have hg : (xs.map (·.1))[q / m]? = some (xs[q / m]'(by omega)).1 := by simp [hn, hin]
  rw [hxs] at hg
  simp only [List.getElem?_map, Option.map_eq_some_iff] at hg
  obtain ⟨r, hr1, hr2⟩ := hg
  rw [List.getElem?_eq_getElem (by omega), hce] at hrow
  have hrow' : DataW.trod enc P w base sp held f e ((cs.drop (q / m * m)).take m) = some (Lib.tabData k r, (xs[q / m]'(by omega)).2) := by
    rw [hrow, hr2]
  have hc := Lib.cells_of_tab he hi hci hce hrow'
  have hj : q % m < m := Nat.mod_lt _ hm
  have e1 : ((cs.drop (q / m * m)).take m)[q % m]? = cs[q]? := by
    rw [List.getElem?_take, if_pos hj, List.getElem?_drop, Nat.mul_comm, Nat.div_add_mod]
  rw [← e1, hc]
  simp [List.getD, hr1]

set_option maxRecDepth 100000 in
theorem tFirst : (Tryd.prog.globals[0]?).map (·.type) = some 142 := by kernel_rfl
set_option maxRecDepth 100000 in
theorem tOrders : (Tryd.prog.globals[1]?).map (·.type) = some 172 := by kernel_rfl
set_option maxRecDepth 100000 in
theorem tLanes : (Tryd.prog.globals[2]?).map (·.type) = some 174 := by kernel_rfl
set_option maxRecDepth 100000 in
theorem cU32 : Tryd.prog.cellsOf 141 = 1 := by kernel_rfl
set_option maxRecDepth 100000 in
theorem c8U32 : Tryd.prog.cellsOf 142 = 8 := by kernel_rfl
set_option maxRecDepth 100000 in
theorem c16U8 : Tryd.prog.cellsOf 171 = 16 := by kernel_rfl
set_option maxRecDepth 100000 in
theorem c4U8 : Tryd.prog.cellsOf 173 = 4 := by kernel_rfl
def ordRows : List (List Int) := [[0, 1, 2, 3, 4, 5, 6, 7, 8, 9, 10, 11, 12, 13, 14, 15], [14, 10, 4, 8, 9, 15, 13, 6, 1, 12, 0, 2, 11, 7, 5, 3], [11, 8, 12, 0, 5, 2, 15, 13, 10, 14, 3, 6, 7, 1, 9, 4], [7, 9, 3, 1, 13, 12, 11, 14, 2, 6, 5, 10, 4, 0, 15, 8], [9, 0, 5, 7, 2, 4, 10, 15, 14, 1, 11, 12, 6, 8, 3, 13], [2, 12, 6, 10, 0, 11, 8, 3, 4, 13, 7, 5, 15, 14, 1, 9], [12, 5, 1, 15, 14, 13, 4, 10, 0, 7, 6, 3, 9, 2, 8, 11], [13, 11, 7, 14, 12, 1, 3, 9, 5, 0, 15, 4, 8, 6, 2, 10], [6, 15, 14, 9, 11, 3, 0, 8, 12, 2, 13, 7, 1, 4, 10, 5], [10, 2, 8, 4, 7, 6, 1, 5, 15, 11, 9, 14, 3, 12, 13, 0]]
def laneRows : List (List Int) := [[0, 4, 8, 12], [1, 5, 9, 13], [2, 6, 10, 14], [3, 7, 11, 15], [0, 5, 10, 15], [1, 6, 11, 12], [2, 7, 8, 13], [3, 4, 9, 14]]
set_option maxRecDepth 100000 in
theorem ordRows_flat : ∀ q, q < 160 → (ordRows.getD (q / 16) [])[q % 16]? = some ((ordF.getD q 0 : Nat) : Int) := by decide +kernel
set_option maxRecDepth 100000 in
theorem laneRows_flat : ∀ q, q < 32 → (laneRows.getD (q / 4) [])[q % 4]? = some ((laneF.getD q 0 : Nat) : Int) := by decide +kernel
set_option maxRecDepth 100000 in
theorem dFirst : Rows.laid_sheaves_blake_firstWords (H := Unit) = Lib.tabData .u32 fw := rfl
set_option maxRecDepth 100000 in
theorem dOrders : Rows.laid_sheaves_blake_orders (H := Unit) = .agg (ordRows.map (Lib.tabData .u8)) := rfl
set_option maxRecDepth 100000 in
theorem dLanes : Rows.laid_sheaves_blake_lanes (H := Unit) = .agg (laneRows.map (Lib.tabData .u8)) := rfl

set_option maxRecDepth 100000 in
theorem tabs_of_laid {W : World} {n1 n2 n3 : String} (gFirst : Tryd.prog.globalNamed n1 = some 0) (gOrders : Tryd.prog.globalNamed n2 = some 1) (gLanes : Tryd.prog.globalNamed n3 = some 2)
    (h : laidMetH Tryd.prog [(n1, Rows.laid_sheaves_blake_firstWords), (n2, Rows.laid_sheaves_blake_orders), (n3, Rows.laid_sheaves_blake_lanes)] W) : Tabs W := by
  have h1 : laidMet Tryd.prog [(n1, Rows.laid_sheaves_blake_firstWords), (n2, Rows.laid_sheaves_blake_orders), (n3, Rows.laid_sheaves_blake_lanes)] W := h
  clear h
  have h2 := h1.tail
  have h3 := h2.tail
  rw [dFirst] at h1
  rw [dOrders] at h2
  rw [dLanes] at h3
  have t1 := Lib.tabIs_of_head gFirst tFirst Tryd.underlying142 Tryd.underlying141 cU32 c8U32 h1
  refine ⟨fun i hi => t1.cell gFirst i hi, fun i hi => ?_, fun i hi => ?_⟩
  · obtain ⟨ps, ⟨g', t', cs, fuel, p, q, hg', ht', hvar, hd, _, _⟩, _⟩ := h2
    obtain rfl := Option.some.inj (gOrders.symm.trans hg')
    obtain rfl := Option.some.inj (tOrders.symm.trans ht')
    have hc := World.var?_cell gOrders hvar i
    have he := cells_of_tab2 Tryd.underlying172 Tryd.underlying171 Tryd.underlying5 cU8 c16U8 (by decide) hd i hi
    rw [hc]
    have := ordRows_flat i hi
    simp only [List.getElem?_map, this, Option.map_some] at he
    simpa using he
  · obtain ⟨ps, ⟨g', t', cs, fuel, p, q, hg', ht', hvar, hd, _, _⟩, _⟩ := h3
    obtain rfl := Option.some.inj (gLanes.symm.trans hg')
    obtain rfl := Option.some.inj (tLanes.symm.trans ht')
    have hc := World.var?_cell gLanes hvar i
    have he := cells_of_tab2 Tryd.underlying174 Tryd.underlying173 Tryd.underlying5 cU8 c4U8 (by decide) hd i hi
    rw [hc]
    have := laneRows_flat i hi
    simp only [List.getElem?_map, this, Option.map_some] at he
    simpa using he
end Go.Proofs.YtbmodfegcmaieaaDoor

namespace Go.Proofs.YtbmodfegcmaieaaDoor
open Go.ChangeShapes Go.WideShapes Go.ChangeAt Go.RowKit

/-- What the initialisers of the three tables lay, in the first blocks. -/
def layBlock (c : Array Value) : Obj → Obj
  | .cells _ t frozen => .cells c t frozen
  | o => o
def layTabs (w : World) : World :=
  { w with heap := ((w.heap.modify 0 (layBlock (ua fw))).modify 1 (layBlock (ub (ordF.map Int.ofNat)).toArray)).modify 2 (layBlock (ub (laneF.map Int.ofNat)).toArray) }
end Go.Proofs.YtbmodfegcmaieaaDoor
