/- The law sheaveskeep.HistoryOne answers true for every argument, and each argument reads behind the call as it read before: the tied card. Its conditions: the three tables of package blake hold what the program's text lays (the card ties that); the form's own reach. -/
import Derived.Test.YtbmodfegcmaieaaDoorQDagP
import Derived.Test.YtbmodfegcmaieaaDoorQKSumB
import Derived.Test.YtbmodfegcmaieaaDoorHistoryOneM12
import Derived.Test.YtbmodfegcmaieaaDoorGKGrown
import Derived.Test.YtbmodfegcmaieaaDoorRows
import Derived.Test.YtbmodfegcmaieaaDoorGK
import Derived.Test.YtbmodfegcmaieaaDoorGSteps
import Derived.Lib.LaidTab
import Derived.OpenShut
import Derived.Stop.LaidErr
import Derived.Test.YtbmodfegcmaieaaDoorGTagged
import Derived.ProofKit
import Derived.Test.YtbmodfegcmaieaaDoorCards
import Derived.Test.YtbmodfegcmaieaaDoorTie
import Derived.WalkKit
import Derived.Deep.DeepHandedRow
import Derived.SevenTiedAt
import Derived.Below
namespace Go.Proofs.YtbmodfegcmaieaaDoor
open Go.RowKit

/-- The authors, of the first n, that have a certificate of that round. -/
def dgA (l : List CV) (rd : Int) : Nat → List Nat
  | 0 => []
  | n + 1 => if 0 ≤ cOf l n rd then dgA l rd n ++ [n] else dgA l rd n
set_option maxRecDepth 100000 in
theorem dgA_map (l : List CV) (rd : Int) (n : Nat) : dgTo l rd n = (dgA l rd n).map (fun (a : Nat) => (cvAt l (cOf l (a : Int) rd).toNat).d) := by
  induction n with
  | zero => rfl
  | succ n ih =>
    rw [dgTo, dgA]
    split
    · rw [ih, List.map_append]; rfl
    · exact ih
set_option maxRecDepth 100000 in
theorem dgA_lt (l : List CV) (rd : Int) (n : Nat) : ∀ a ∈ dgA l rd n, a < n ∧ 0 ≤ cOf l a rd := by
  induction n with
  | zero => intro a ha; cases ha
  | succ n ih =>
    intro a ha
    rw [dgA] at ha
    split at ha
    · rename_i h
      rcases List.mem_append.1 ha with g | g
      · have := ih a g; exact ⟨by omega, this.2⟩
      · obtain rfl : a = n := by simpa using g
        exact ⟨by omega, h⟩
    · have := ih a ha; exact ⟨by omega, this.2⟩
set_option maxRecDepth 100000 in
theorem dgA_rise (l : List CV) (rd : Int) (n : Nat) : (dgA l rd n).Pairwise (· < ·) := by
  induction n with
  | zero => exact List.Pairwise.nil
  | succ n ih =>
    rw [dgA]
    split
    · rw [List.pairwise_append]
      refine ⟨ih, List.pairwise_singleton _ _, fun a ha b hb => ?_⟩
      have hbn : b = n := by simpa using hb
      rw [hbn]
      exact (dgA_lt l rd n a ha).1
    · exact ih
set_option maxRecDepth 100000 in
/-- The m'th digest of a round is that of a certificate of that round, by the m'th author. -/
theorem dgF_at {l : List CV} {rd : Int} {m : Nat} (hm : m < (dgF l rd).length) : ∃ i, i < l.length ∧ (dgF l rd).getD m [] = (cvAt l i).d ∧ (cvAt l i).rd = rd ∧ (cvAt l i).au = ((dgA l rd 4).getD m 0 : Int) := by
  have hl : (dgF l rd).length = (dgA l rd 4).length := by rw [dgF, dgA_map, List.length_map]
  have hm2 : m < (dgA l rd 4).length := by omega
  have ha := dgA_lt l rd 4 _ (List.getElem_mem hm2)
  have hb := cOf_bounds l ((dgA l rd 4)[m] : Int) rd
  have hy := fidx_yes (cHit l ((dgA l rd 4)[m] : Int) rd) l.length ha.2
  simp only [cHit, decide_eq_true_eq] at hy
  refine ⟨(cOf l ((dgA l rd 4)[m] : Int) rd).toNat, by have := ha.2; omega, ?_, hy.2, ?_⟩
  · rw [dgF, dgA_map]; simp [hm2]
  · rw [show (dgA l rd 4).getD m 0 = (dgA l rd 4)[m] by simp [hm2]]
    exact hy.1
/-- The author ahead of the m'th; -1: there is none. -/
def prevA (l : List CV) (rd : Int) (m : Nat) : Int := if m = 0 then -1 else ((dgA l rd 4).getD (m - 1) 0 : Int)
set_option maxRecDepth 100000 in
theorem prevA_lt {l : List CV} {rd : Int} {m : Nat} (hm : m < (dgF l rd).length) : prevA l rd m < ((dgA l rd 4).getD m 0 : Int) := by
  have hl : (dgF l rd).length = (dgA l rd 4).length := by rw [dgF, dgA_map, List.length_map]
  rw [prevA]
  split
  · omega
  · have hm2 : m < (dgA l rd 4).length := by omega
    have hp := List.pairwise_iff_getElem.1 (dgA_rise l rd 4) (m - 1) m (by omega) hm2 (by omega)
    rw [show (dgA l rd 4).getD (m - 1) 0 = (dgA l rd 4)[m - 1] by simp [show m - 1 < (dgA l rd 4).length by omega], show (dgA l rd 4).getD m 0 = (dgA l rd 4)[m] by simp [hm2]]
    exact_mod_cast hp
end Go.Proofs.YtbmodfegcmaieaaDoor

namespace Go.Proofs.YtbmodfegcmaieaaDoor
open Go.RowKit

set_option maxRecDepth 100000 in
/-- The batches of a grown dag, as Block reads them. -/
theorem bws_bc (bl : List Bt) : bws (bl.map Bt.bc) = bcv bl := by simp [bws, bcv, Bt.bc]
/-- What is told of the batches of a grown dag. -/
structure BatG (l : List CV) (bl : List BW) : Prop where
  ok : bsF bl = 0 ∨ CollB bl
  has : ∀ c ∈ l, ∀ d ∈ c.bl, hasB bl d = true
  f : ∀ b ∈ bl, b.f = 0
  nums : bl.Pairwise (fun a b => a.nu < b.nu)
  len : bl.length ≤ 60
set_option maxRecDepth 100000 in
theorem batG_of {l : List Stp} {k : Nat} {c : List CV} (hG : GrownTo l k c) (hk : k ≤ 24) : BatG c ((bvTo l k).map BV.w) := by
  have hf : ∀ b ∈ (bvTo l k).map BV.w, b.f = 0 := fun b hb => by
    obtain ⟨x, hx, rfl⟩ := List.mem_map.1 hb
    exact bvTo_f (by omega) x hx
  have hn : ((bvTo l k).map BV.w).Pairwise (fun a b => a.nu < b.nu) := by
    rw [List.pairwise_map]; exact bvTo_nums l k
  have hl : ((bvTo l k).map BV.w).length ≤ 60 := by rw [List.length_map]; have := bvTo_length l k; omega
  refine ⟨bsF_or_coll (by omega) hf hn, fun x hx d hd => ?_, hf, hn, hl⟩
  obtain ⟨b, hb, rfl⟩ := hG.batches x hx d hd
  exact List.any_eq_true.2 ⟨b.w, List.mem_map.2 ⟨b, hb, rfl⟩, by simp [BV.w_d]⟩
/-- What Block answers for a digest of the dag. -/
def BlkR (w : World) (l : List CV) (bl : List BW) (k : List Int) (xa : Option Addr) (N : Nat) (ec : Int) : Prop :=
  (ec = 0 ∧ bsF bl = 0 ∧ ∃ hs t, HistIs l k hs ∧ txsH bl (hisB hs) = some t ∧ N = (onceS [] t).length ∧ StrsAt w xa (onceS [] t)) ∨ (ec = 12 ∧ CollB bl ∧ N = 0)
set_option maxRecDepth 100000 in
theorem BlkR.below {w w' : World} {l : List CV} {bl : List BW} {k : List Int} {xa : Option Addr} {N : Nat} {ec : Int} (h : BlkR w l bl k xa N ec) (hb : Below w.heap.size w w') : BlkR w' l bl k xa N ec := by
  rcases h with ⟨h1, h2, hs, t, h3, h4, h5, h6⟩ | h
  · exact .inl ⟨h1, h2, hs, t, h3, h4, h5, h6.below hb⟩
  · exact .inr h
set_option maxRecDepth 100000 in
theorem hisB_has {l : List CV} {bl : List BW} (hG : BatG l bl) {k : List Int} {hs : List CV} (H : HistIs l k hs) : ∃ t, txsH bl (hisB hs) = some t := by
  refine txsH_some (fun d hd => ?_)
  obtain ⟨c, hc, hd2⟩ := hisB_mem.1 hd
  obtain ⟨j, h1, _, h3⟩ := (H.mem _).1 hc
  rw [bOf_some]
  exact hG.has _ (cvAt_mem h1) _ (by rw [← h3]; exact hd2)
set_option maxRecDepth 100000 in
theorem once_small {l : List CV} (hF : dagF l = 0) (h24 : l.length ≤ 24) {bl : List BW} (hB : bsF bl = 0) {k : List Int} {hs : List CV} (H : HistIs l k hs) {t : List ByteArray} (ht : txsH bl (hisB hs) = some t) : (onceS [] t).length ≤ 288 ∧ ∀ s ∈ onceS [] t, s.size ≤ 20 := by
  obtain ⟨h1, h2⟩ := txsH_small hB ht
  have h3 := hisB_length (hs := hs) (fun c hc => by
    obtain ⟨j, j1, _, j3⟩ := (H.mem _).1 hc
    rw [j3]; exact (f_small (dagF_f hF j j1)).1)
  have h4 := hist_len H
  have h5 := onceS_len t []
  simp only [List.length_nil, Nat.zero_add] at h5
  exact ⟨by omega, fun s hs => h2 s ((onceS_iff t s).1 hs)⟩
set_option maxRecDepth 100000 in
theorem blk_at (ks : List Ct) (ka : Option Addr) (kc i : Nat) (bl : List Bc) (ba : Option Addr) (bn bc : Nat) (p : Part) (w : World) (hF : dagF (cvs ks) = 0) (h24 : ks.length ≤ 24) (hi : i < ks.length) (hd : DagAt w ka kc ks) (hbn : bn = bl.length) (hb : BcsAt w ba bl) (hG : BatG (cvs ks) (bws bl)) (hp : SliceAt w p.sa p.cap p.bs) (hpd : p.bs = (cvAt (cvs ks) i).d) (h32 : p.bs.length = 32) (hT : Tabs w) :
    Calls Tryd.prog 41 #[.agg #[.slice ka ks.length kc], .slice ba bn bc, .slice p.sa 32 p.cap] w fun e w' => (∃ (xa : Option Addr) (N xc : Nat) (ec : Int), e = .returned (.tuple #[.slice xa N xc, .int .i64 ec]) ∧ BlkR w' (cvs ks) (bws bl) (cvAt (cvs ks) i).d xa N ec ∧ N ≤ 288) ∧ Below w.heap.size w w' := by
  refine (block_any ks ka _ kc bl ba bn bc p.bs p.sa 32 p.cap w rfl hbn h32.symm hd hb hp hT).mono ?_
  intro e w' hO
  have hps := (pOf_self (l := cvs ks) (i := i) (by rw [cvs_length]; exact hi)).1
  rw [hpd] at hO
  refine ⟨?_, hO.below⟩
  rcases hO.out with ⟨ec, _, h | h⟩ | ⟨_, _, ⟨h12, he⟩ | ⟨h0, hs, hH, ⟨hno, _⟩ | ⟨t, v, ht, he, ho⟩⟩⟩
  · rw [hF] at h; cases h.1
  · omega
  · refine ⟨none, 0, 0, 12, he, .inr ⟨rfl, ?_, rfl⟩, by omega⟩
    rcases hG.ok with g | g
    · rw [g] at h12; cases h12
    · exact g
  · obtain ⟨t, ht⟩ := hisB_has hG hH
    rw [ht] at hno; cases hno
  · have hsm := once_small hF (by rw [cvs_length]; exact h24) h0 hH ht
    obtain ⟨xa, xc, rfl, hst⟩ := strs_of_owns ho (fun s hs => by have := hsm.2 s hs; unfold maxLen; omega)
    exact ⟨xa, _, xc, 0, he, .inl ⟨rfl, h0, hs, t, hH, ht, rfl, hst⟩, hsm.1⟩
set_option maxRecDepth 100000 in
theorem parentsF_one {rd : Int} {n : Nat} (h : parentsF rd n = 0) : (rd = 1 → n = 0) ∧ (1 < rd → 3 ≤ n) := by
  unfold parentsF at h
  split at h
  · cases h
  · rename_i g
    simp only [not_or, not_and, Nat.not_lt] at g
    exact ⟨fun e => by have := g.1 e; omega, fun e => by have := g.2 e; omega⟩
set_option maxRecDepth 100000 in
theorem f_parents {c : CV} (h : c.f = 0) : parentsF c.rd c.pl.length = 0 := by
  have h1 := certF_head (vl := c.vl) h
  unfold headerF at h1
  split at h1
  · cases h1
  · split at h1
    · cases h1
    · split at h1
      · contradiction
      · split at h1
        · contradiction
        · rw [show (pz c.pl).length = c.pl.length by simp [pz]] at h1; exact h1
set_option maxRecDepth 100000 in
/-- The first certificate of a dag is of the first round. -/
theorem dag_first {l : List CV} (h : dagF l = 0) (hl : 0 < l.length) : (cvAt l 0).rd = 1 := by
  have hp := parentsF_one (f_parents (dagF_f h 0 hl))
  by_cases h1 : (cvAt l 0).rd = 1
  · exact h1
  · have hr := (f_round (dagF_f h 0 hl)).1
    have := hp.2 (by omega)
    have h2 := (dag_parent h hl (k := 0) (by omega)).1
    have h3 := pOf_bounds (l.take 0) ((cvAt l 0).pl.getD 0 [])
    have e : (l.take 0).length = 0 := by simp
    rw [e] at h3
    omega
set_option maxRecDepth 100000 in
theorem dgA_mem {l : List CV} {rd : Int} {a : Nat} : ∀ n, a < n → 0 ≤ cOf l a rd → a ∈ dgA l rd n
  | 0, h, _ => by omega
  | n + 1, h, hc => by
    rw [dgA]
    rcases Nat.lt_or_ge a n with g | g
    · have := dgA_mem n g hc
      split
      · exact List.mem_append.2 (.inl this)
      · exact this
    · obtain rfl : a = n := by omega
      rw [if_pos hc]; simp
set_option maxRecDepth 100000 in
theorem dgF_first {l : List CV} (h : dagF l = 0) (hl : 0 < l.length) : 0 < (dgF l 1).length := by
  have h1 := dag_first h hl
  have ha := f_author (dagF_f h 0 hl)
  have hc := cOf_at hl
  rw [h1] at hc
  have e : (cvAt l 0).au = (((cvAt l 0).au.toNat : Nat) : Int) := by omega
  rw [e] at hc
  have := dgA_mem (l := l) (rd := 1) 4 (by omega) hc
  rw [dgF, dgA_map, List.length_map]
  exact List.length_pos_of_mem this
set_option maxRecDepth 100000 in
/-- What stands on nothing has itself alone as its history. -/
theorem hist_alone {l : List CV} (h : dagF l = 0) (ho : OneD l) {n : Nat} (hn : n < l.length) (hr : (cvAt l n).rd = 1) {hs : List CV} (H : HistIs l (cvAt l n).d hs) : hs = [cvAt l n] := by
  refine up_ext (fun c => ?_) H.up (List.pairwise_singleton _ _)
  rw [H.mem]
  constructor
  · rintro ⟨j, j1, j2, rfl⟩
    rcases sel_round h ho hn (l.length - j) j (by omega) j1 j2 with g | g
    · subst g; simp
    · have := (f_round (dagF_f h j j1)).1
      omega
  · intro hc
    obtain rfl : c = cvAt l n := by simpa using hc
    exact ⟨n, hn, sel_self hn, rfl⟩
set_option maxRecDepth 100000 in
theorem coll_left {c : List CV} (x : List CV) (h : Coll c) : Coll (c ++ x) := by
  obtain ⟨K, I, h1, h2, h3, h4⟩ := h
  have e : ∀ j, j < c.length → cvAt (c ++ x) j = cvAt c j := fun j hj => by simp [cvAt, List.getD, List.getElem?_append_left hj]
  refine ⟨K, I, h1, by rw [List.length_append]; omega, ?_, ?_⟩
  · rw [e I h2, e K (by omega)]; exact h3
  · rw [e I h2, e K (by omega)]; exact h4
set_option maxRecDepth 100000 in
theorem collB_left {c : List BW} (x : List BW) (h : CollB c) : CollB (c ++ x) := by
  obtain ⟨K, I, h1, h2, h3, h4⟩ := h
  have e : ∀ j, j < c.length → (c ++ x).getD j ⟨0, 0, []⟩ = c.getD j ⟨0, 0, []⟩ := fun j hj => by simp [List.getD, List.getElem?_append_left hj]
  refine ⟨K, I, h1, by rw [List.length_append]; omega, ?_, ?_⟩
  · rw [e I h2, e K (by omega)]; exact h3
  · rw [e I h2, e K (by omega)]; exact h4
end Go.Proofs.YtbmodfegcmaieaaDoor

namespace Go.Proofs.YtbmodfegcmaieaaDoor
open Go.RowKit

set_option maxRecDepth 100000 in
set_option maxHeartbeats 4000000 in
theorem historyOne_any (sa : Option Addr) (cap : Nat) (l : List Stp) (w : World) (hl : StepsAt w sa l) (hcl : l.length ≤ cap) (hc0 : sa = none → cap = 0) (hc1 : l.length * 24 ≤ 140737488351232) (hT : Tabs w) :
    Calls Tryd.prog 22 #[.slice sa l.length cap] w fun e w' => ∃ cc, GrownTo (s0 :: l) (min (l.length + 1) 24) cc ∧ (e = .returned (.bool true) ∨ (e = .returned (.bool false) ∧ (Coll cc ∨ CollB ((bvTo (s0 :: l) (min (l.length + 1) 24)).map BV.w)))) ∧ Below w.heap.size w w' := by
  have hnil : sa = none → l.length = 0 ∧ cap = 0 := fun h => by have := hc0 h; omega
  have H := grown_any l sa _ cap w rfl hl hnil hc1 hT
  have HT : Hid (∀ W : World, Below w.heap.size w W → Tabs W) := by
    show ∀ W, _
    exact fun W hW => hT.below hW
  clear hT hnil hc0 hc1 hcl
  go_enter Tryd.func22, Tryd.ntmps22
  go_wp2_with fail
  refine H.mono ?_
  rintro e w1 ⟨ka, kc, ks, ba, bc, bl, he, hG, hd, hnew, ho, hoff, hV, hb1⟩
  subst he
  dsimp only
  have hpos : 0 < ks.length := by have := grown_some (by omega) hG; rw [cvs_length] at this; exact this
  have HD : Hid (dagF (cvs ks) = 0) := hG.dag
  have HG : Hid (GrownTo (s0 :: l) (min (l.length + 1) 24) (cvs ks)) := hG
  have hle : ks.length ≤ 24 := by have := hG.len; rw [cvs_length] at this; omega
  have hA1 := (Below.refl w1.heap.size w1).alloc (Nat.le_refl _) (.cells #[.slice ka ks.length kc] 51)
  have qD := heap_alloc_new w1 (.cells #[.slice ka ks.length kc] 51)
  have hd2 := hd.below hA1
  have hB2 := hb1.trans (hA1.mono hb1.size)
  have hgD : w.heap.size ≤ w1.heap.size := hb1.size
  have hdlt : ∀ b, DagIn ka ks b → b < w1.heap.size := fun b hb => by
    rcases hb with ⟨so, e⟩ | ⟨c', hc', hq⟩
    · exact dag_row_lt hd hpos b so e
    · exact (hd.each c' hc').block_lt b hq
  have HBW : Hid (bcv bl = (bvTo (s0 :: l) (min (l.length + 1) 24)).map BV.w) := by
    show _ = _
    rw [← hV, List.map_map]; rfl
  have HBG : Hid (BatG (cvs ks) (bws (bl.map Bt.bc))) := by
    show BatG _ _
    rw [bws_bc, HBW.out]; exact batG_of hG (by omega)
  have HBE : Hid (bws (bl.map Bt.bc) = (bvTo (s0 :: l) (min (l.length + 1) 24)).map BV.w) := by
    show _ = _
    rw [bws_bc, HBW.out]
  have hBc : BcsAt w1 ba (bl.map Bt.bc) := by
    obtain ⟨xa, xc, hv, hAt, _, _, _⟩ := bts_of_owns ho
    simp at hv
    obtain ⟨rfl, rfl⟩ := hv
    exact bcs_of_bts hAt (bts_small hV (by omega))
  have hbl60 : bl.length ≤ 60 := (grown_facts hG hV).out.2.2.1
  have hblp : 0 < bl.length := (grown_facts hG hV).out.2.2.2.1
  have HBL : Hid (bl.length = (bl.map Bt.bc).length) := by show _ = _; rw [List.length_map]
  have hBc2 := hBc.below hA1
  clear hBc
  generalize bl.map Bt.bc = cl at HBG HBE hBc2 HBL
  clear hG hV ho hoff hnew hd H hl
  have e0 := cells_at qD 0 _ rfl
  have HV : Hid (∀ x ∈ cvs ks, x.vl = [0, 1, 2]) := HG.out.voters
  go_wp2_with fail
  generalize w1.alloc (.cells #[.slice ka ks.length kc] 51) = W2 at hA1 qD hd2 hB2 hBc2 e0 ⊢
  clear hA1
  generalize w1.heap.size = D at qD e0 hgD hdlt ⊢
  refine (dagDigests_own ks ka _ kc 1 W2 rfl hd2 (HT.out W2 hB2)).mono ?_
  intro e w3 hO
  have hb3 := hO.below
  rcases hO.out with ⟨hz, _⟩ | ⟨_, da, dc, ds, he, hds, hLd, hFr⟩
  · rw [HD.out] at hz; cases hz
  subst he
  dsimp only
  have HDS : Hid _ := hds
  have hdl : 0 < ds.length := by
    have h1 := dgF_first HD.out (by rw [cvs_length]; exact hpos)
    rw [← hds, bss_length] at h1; exact h1
  have hd4 : ds.length ≤ 4 := by
    have h1 : ds.length = (dgF (cvs ks) 1).length := by rw [← hds, bss_length]
    rw [h1]; exact dgTo_length _ _ 4
  have hB3 := hB2.trans (hb3.mono hB2.size)
  have qD3 := (hb3.block _ (lt_of_heap qD)).trans qD
  have hd3 := hd2.below hb3
  have hBc3 := hBc2.below hb3
  clear hO hds hFr hd2 qD e0 hb3 hdlt hBc2
  obtain ⟨sb, so, hdae, hlc⟩ : ∃ sb so, da = some ⟨sb, so, none⟩ ∧ ∀ j (h : j < ds.length), w3.cell? ⟨sb, so + j, none⟩ = some (.slice (ds[j]).sa (ds[j]).bs.length (ds[j]).cap) := by
    rcases hLd.parts.cells with h | h
    · rw [h] at hdl; simp at hdl
    · exact h
  subst hdae
  have HLC : Hid _ := hlc
  have hsbl : sb < w3.heap.size := block_lt_of_cell (hlc 0 hdl)
  have hdn : ((ds.length : Int) == 0) = false := by rw [beq_eq_false_iff_ne]; omega
  clear hlc
  go_upto_region 6 with fail
  go_wp2_with fail
  go_loopw [7] (fun j wr => ∃ m : Nat, m ≤ ds.length ∧ j = .int .i64 m ∧ Below w3.heap.size w3 wr) (fun j _ => ds.length - (intOf j).toNat)
  case atStart => exact ⟨0, Nat.zero_le _, rfl, Below.refl _ _⟩
  case round =>
    obtain ⟨m, hm, rfl, hbr⟩ := hrel
    have hBr := hB3.trans (hbr.mono hB3.size)
    by_cases hlt : m < ds.length
    · have hltI : (m : Int) < ds.length := by omega
      obtain ⟨i, hi, hid, hir, _⟩ := dgF_at (l := cvs ks) (rd := 1) (m := m) (by rw [← HDS.out, bss_length]; exact hlt)
      rw [cvs_length] at hi
      have l0 := HLC.out m hlt
      have hSl := hLd.parts.each (ds[m]) (List.getElem_mem hlt)
      have HPD : Hid ((ds[m]).bs = (cvAt (cvs ks) i).d) := by
        show _ = _
        rw [← hid, ← HDS.out, bss_get ds m hlt]
      have HIR : Hid ((cvAt (cvs ks) i).rd = 1) := hir
      have h32 : (ds[m]).bs.length = 32 := by rw [HPD.out, CV.d_length]
      clear hid hir
      generalize ds[m] = p at l0 hSl HPD h32
      rw [h32] at l0
      have qDr := (hbr.block _ (lt_of_heap qD3)).trans qD3
      have hdr := hd3.below hbr
      have hBcr := hBc3.below hbr
      have hSr := hSl.below hbr
      have e0 := cells_at qDr 0 _ rfl
      have e1 := (hbr.cell (p := ⟨sb, so + m, none⟩) hsbl).trans l0
      obtain ⟨VR, hVR⟩ : ∃ VR, VR = wr := ⟨_, rfl⟩
      subst hVR
      have HHA : Hid (∀ V : World, Below VR.heap.size VR V → Calls Tryd.prog 36 #[.agg #[.slice ka ks.length kc], .slice p.sa 32 p.cap] V fun e w' => (∃ (ra : Option Addr) (rc : Nat) (qs : List Part), e = .returned (.tuple #[.slice ra qs.length rc, .int .i64 0]) ∧ ListAt w' ra rc qs ∧ (∃ hs, HisG (cvs ks) (cvAt (cvs ks) i).d qs hs) ∧ Fresh V.heap.size ra qs ∧ 0 < qs.length ∧ qs.length ≤ ks.length) ∧ Below V.heap.size V w') := by
        show ∀ V, _
        intro V hV
        exact his_at ks ka kc i p V HD.out hi (hdr.below hV) (hSr.below hV) HPD.out h32 (HT.out V (hBr.trans (hV.mono hBr.size)))
      go_upto_region 8 with fail
      go_cut [8, 9] from 31 to 100 (fun u v wx => ∃ (ra : Option Addr) (rc : Nat) (qs : List Part) (Q : Nat), u = .slice ra Q rc ∧ v = .int .i64 0 ∧ Hid (Q = qs.length) ∧ ListAt wx ra rc qs ∧ Hid (∃ hs, HisG (cvs ks) (cvAt (cvs ks) i).d qs hs) ∧ (0 < Q ∧ Q ≤ 24) ∧ Below VR.heap.size VR wx)
      case first =>
        have hV0 : Below VR.heap.size VR VR.drew := (Below.refl _ _).drew
        refine wp_region_held_drew (S := fun w' => w'.cell? ⟨D, 0, none⟩ = some (.slice ka ks.length kc) ∧ w'.cell? ⟨sb, so + m, none⟩ = some (.slice p.sa 32 p.cap)) (by kernel_rfl) ⟨(hV0.cell (p := ⟨D, 0, none⟩) (block_lt_of_cell e0)).trans e0, (hV0.cell (p := ⟨sb, so + m, none⟩) (block_lt_of_cell e1)).trans e1⟩ (fun hHeld => ?_)
        generalize VR.drew = V0 at hV0  hHeld ⊢
        refine take_dst (i := 0) (d := 38) (v := .agg #[.slice ka ks.length kc]) rfl rfl (by kernel_rfl) (by kernel_rfl) (by kernel_rfl) (fun _ _ _ h => h) (Or.inl ⟨by rfl, ?_⟩) hHeld ?_
        · (intro w0 hSw; (try dsimp only at hSw); go_simp)
        simp only [Act.put, List.setIfInBounds_toArray, List.set_cons_zero, List.set_cons_succ]
        refine take_dst (i := 1) (d := 39) (v := .slice (some ⟨sb, so, none⟩) ds.length dc) rfl rfl (by kernel_rfl) (by kernel_rfl) (by kernel_rfl) (fun _ _ _ h => h) (Or.inl ⟨by rfl, ?_⟩) hHeld ?_
        · (intro w0 hSw; (try dsimp only at hSw); go_simp)
        simp only [Act.put, List.setIfInBounds_toArray, List.set_cons_zero, List.set_cons_succ]
        refine take_dst (i := 2) (d := 40) (v := .int .i64 (m : Int)) rfl rfl (by kernel_rfl) (by kernel_rfl) (by kernel_rfl) (fun _ _ _ h => h) (Or.inl ⟨by rfl, ?_⟩) hHeld ?_
        · (intro w0 hSw; (try dsimp only at hSw); go_simp)
        simp only [Act.put, List.setIfInBounds_toArray, List.set_cons_zero, List.set_cons_succ]
        refine take_dst (i := 3) (d := 41) (v := .pointer (some ⟨sb, so + m, none⟩)) rfl rfl (by kernel_rfl) (by kernel_rfl) (by kernel_rfl) (fun _ _ _ h => h) (Or.inl ⟨by rfl, ?_⟩) hHeld ?_
        · (intro w0 hSw; (try dsimp only at hSw); go_simp)
        simp only [Act.put, List.setIfInBounds_toArray, List.set_cons_zero, List.set_cons_succ]
        refine take_dst (i := 4) (d := 42) (v := .slice p.sa 32 p.cap) rfl rfl (by kernel_rfl) (by kernel_rfl) (by kernel_rfl) (fun _ _ _ h => h) (Or.inl ⟨by rfl, ?_⟩) hHeld ?_
        · (intro w0 hSw; (try dsimp only at hSw); go_simp)
        simp only [Act.put, List.setIfInBounds_toArray, List.set_cons_zero, List.set_cons_succ]
        clear hHeld
        refine any_named (fun GO hGo hGi => ?_)
        refine act_named (fun A0 hA0 => ?_)
        have st_H : Hid (∀ (V : World) (ra : Option Addr) (rc : Nat) (qs : List Part), Below VR.heap.size VR V → (ListAt V ra rc qs) → (Hid (∃ hs, HisG (cvs ks) (cvAt (cvs ks) i).d qs hs)) → (0 < qs.length ∧ qs.length ≤ ks.length) → GO 0 #[true, true, true, true, true, true, true, true, true, true, true] ((((((A0.put (some 43) (.tuple #[.slice ra qs.length rc, .int .i64 0])).put (some 37) (.tuple #[.slice ra qs.length rc, .int .i64 0])).put (some 44) (.slice ra qs.length rc)).put (some 45) (.int .i64 0)).put (some 8) (.slice ra qs.length rc)).put (some 9) (.int .i64 0)) V) := by
          show ∀ V, _
          intro V ra rc qs hB hL HHG hqb
          refine hGo.out _ _ _ _ ?_
          rw [← hA0.out]
          try simp only [Act.put, List.setIfInBounds_toArray, List.set_cons_zero, List.set_cons_succ]
          refine wpAnyH_done (by kernel_rfl) ?_ _
          go_wp2_with fail
          go_meet
          case rel => exact ⟨ra, rc, qs, _, rfl, rfl, rfl, hL, HHG, ⟨hqb.1, by omega⟩, hB⟩
        have st_0 : Hid (∀ (V : World), Below VR.heap.size VR V → GO 6 #[true, true, true, true, true, false, false, false, false, false, false] A0 V) := by
          show ∀ V, _
          intro V  hB 
          refine hGo.out _ _ _ _ ?_
          rw [← hA0.out]
          try simp only [Act.put, List.setIfInBounds_toArray, List.set_cons_zero, List.set_cons_succ]
          refine wpAnyH_ready (rs := [5]) (by kernel_rfl) (by simp) (AllReadyH.cons rfl (fun K hK => ?_) AllReadyH.nil)
          refine step_calls_dst rfl 43 rfl 36 [.tmp 38, .tmp 42] #[51, 46] rfl [.agg #[.slice ka ks.length kc], .slice p.sa 32 p.cap] rfl (enters_of Tryd.func36 (by kernel_rfl) rfl) (fun v w' => (∃ (ra : Option Addr) (rc : Nat) (qs : List Part), v = .tuple #[.slice ra qs.length rc, .int .i64 0] ∧ ListAt w' ra rc qs ∧ Hid (∃ hs, HisG (cvs ks) (cvAt (cvs ks) i).d qs hs) ∧ (0 < qs.length ∧ qs.length ≤ ks.length)) ∧ Below V.heap.size V w') ((HHA.out V hB).mono (fun e w2 h => by obtain ⟨⟨xa, xc, xs, h1, h2, h3, _, h4⟩, h5⟩ := h; exact ⟨_, h1, ⟨xa, xc, xs, rfl, h2, h3, h4⟩, h5⟩)) ?_
          rintro v W' ⟨⟨ra, rc, qs, rfl, hL_n, HHG_n, hqb_n⟩, hb⟩
          have hBn := hB.trans (hb.mono hB.size)
          refine hK.out _ _ ⟨(hBn.cell (p := ⟨D, 0, none⟩) (block_lt_of_cell e0)).trans e0, (hBn.cell (p := ⟨sb, so + m, none⟩) (block_lt_of_cell e1)).trans e1⟩ (fun hHeld => ?_)
          simp only [Act.put, List.setIfInBounds_toArray, List.set_cons_zero, List.set_cons_succ]
          refine take_dst (i := 6) (d := 37) (v := .tuple #[.slice ra qs.length rc, .int .i64 0]) rfl rfl (by kernel_rfl) (by kernel_rfl) (by kernel_rfl) (fun _ _ _ h => h) (Or.inl ⟨by rfl, ?_⟩) hHeld ?_
          · (intro w0 hSw; (try dsimp only at hSw); go_simp)
          simp only [Act.put, List.setIfInBounds_toArray, List.set_cons_zero, List.set_cons_succ]
          refine take_dst (i := 7) (d := 44) (v := .slice ra qs.length rc) rfl rfl (by kernel_rfl) (by kernel_rfl) (by kernel_rfl) (fun _ _ _ h => h) (Or.inl ⟨by rfl, ?_⟩) hHeld ?_
          · (intro w0 hSw; (try dsimp only at hSw); go_simp)
          simp only [Act.put, List.setIfInBounds_toArray, List.set_cons_zero, List.set_cons_succ]
          refine take_dst (i := 8) (d := 45) (v := .int .i64 0) rfl rfl (by kernel_rfl) (by kernel_rfl) (by kernel_rfl) (fun _ _ _ h => h) (Or.inl ⟨by rfl, ?_⟩) hHeld ?_
          · (intro w0 hSw; (try dsimp only at hSw); go_simp)
          simp only [Act.put, List.setIfInBounds_toArray, List.set_cons_zero, List.set_cons_succ]
          refine take_dst (i := 9) (d := 8) (v := .slice ra qs.length rc) rfl rfl (by kernel_rfl) (by kernel_rfl) (by kernel_rfl) (fun _ _ _ h => h) (Or.inl ⟨by rfl, ?_⟩) hHeld ?_
          · (intro w0 hSw; (try dsimp only at hSw); go_simp)
          simp only [Act.put, List.setIfInBounds_toArray, List.set_cons_zero, List.set_cons_succ]
          refine take_dst (i := 10) (d := 9) (v := .int .i64 0) rfl rfl (by kernel_rfl) (by kernel_rfl) (by kernel_rfl) (fun _ _ _ h => h) (Or.inl ⟨by rfl, ?_⟩) hHeld ?_
          · (intro w0 hSw; (try dsimp only at hSw); go_simp)
          simp only [Act.put, List.setIfInBounds_toArray, List.set_cons_zero, List.set_cons_succ]
          clear hHeld
          have h := st_H.out W' ra rc qs hBn hL_n HHG_n hqb_n
          rw [← hA0.out] at h
          (try simp only [Act.put, List.setIfInBounds_toArray, List.set_cons_zero, List.set_cons_succ] at h)
          (try simp only [Act.put, List.setIfInBounds_toArray, List.set_cons_zero, List.set_cons_succ])
          exact hGi.out _ _ _ _ h
        exact st_0.out V0 hV0 
      case rest =>
        obtain ⟨ra, rc, qs, Q, rfl, rfl, HQ, hLq, HGE, hQb, hb4⟩ := hcut
        have hb34 := hbr.trans (hb4.mono hbr.size)
        have hB4 := hBr.trans (hb4.mono hBr.size)
        obtain ⟨hq1, hq2⟩ := hQb
        obtain ⟨hs, hGE⟩ := HGE.out
        have HHG : Hid _ := hGE
        clear hGE HGE e0 e1 HHA
        have HONE : Hid (OneD (cvs ks) → hs = [cvAt (cvs ks) i]) := by
          show _ → _
          intro ho
          exact hist_alone HD.out ho (by rw [cvs_length]; exact hi) HIR.out HHG.out.hist
        by_cases hQ1 : Q = 1
        · subst hQ1
          obtain ⟨qb, qo, hqe, hqc⟩ : ∃ qb qo, ra = some ⟨qb, qo, none⟩ ∧ ∀ j (h : j < qs.length), wc.cell? ⟨qb, qo + j, none⟩ = some (.slice (qs[j]).sa (qs[j]).bs.length (qs[j]).cap) := by
            rcases hLq.parts.cells with h | h
            · have := HQ.out; rw [h] at this; simp at this
            · exact h
          subst hqe
          have hq0 : 0 < qs.length := by have := HQ.out; omega
          have k0 := hqc 0 hq0
          rw [Nat.add_zero] at k0
          have hSq := hLq.parts.each (qs[0]) (List.getElem_mem hq0)
          have HQB : Hid ((qs[0]).bs = (cvAt hs 0).d) := HHG.out.bs hq0
          clear hqc
          generalize qs[0] = y at k0 hSq HQB
          obtain ⟨B, hBE⟩ : ∃ B, decide (txL y.bs = txL p.bs) = B := ⟨_, rfl⟩
          have HCB : Hid (B = true ∨ (Coll (cvs ks) ∨ CollB ((bvTo (s0 :: l) (min (l.length + 1) 24)).map BV.w))) := by
            rcases coll_or HD.out with o | o
            · left
              rw [← hBE, HQB.out, HPD.out, HONE.out o]
              simp [cvAt]
            · exact .inr (.inl o)
          have e1 := (hb34.cell (p := ⟨sb, so + m, none⟩) hsbl).trans l0
          have hS4 := hSl.below hb34
          obtain ⟨VR, hVR⟩ : ∃ VR, VR = wc := ⟨_, rfl⟩
          subst hVR
          have HSB : Hid (∀ V : World, Below VR.heap.size VR V → Calls Tryd.prog 37 #[.slice y.sa y.bs.length y.cap, .slice p.sa 32 p.cap] V fun e w' => e = .returned (.bool B) ∧ V = w') := by
            show ∀ V, _
            intro V hV
            rw [← hBE]
            exact same_tx y.bs p.bs y.sa p.sa _ _ y.cap p.cap V rfl h32.symm (hSq.below hV) (hS4.below hV)
          clear hBE
          go_upto_region 9 with fail
          go_cut [63] from 31 to 100 (fun v wx => v = .bool (!B) ∧ Below VR.heap.size VR wx)
          case first =>
            have hV0 : Below VR.heap.size VR VR.drew := (Below.refl _ _).drew
            refine wp_region_held_drew (S := fun w' => w'.cell? ⟨qb, qo, none⟩ = some (.slice y.sa y.bs.length y.cap) ∧ w'.cell? ⟨sb, so + m, none⟩ = some (.slice p.sa 32 p.cap)) (by kernel_rfl) ⟨(hV0.cell (p := ⟨qb, qo, none⟩) (block_lt_of_cell k0)).trans k0, (hV0.cell (p := ⟨sb, so + m, none⟩) (block_lt_of_cell e1)).trans e1⟩ (fun hHeld => ?_)
            generalize VR.drew = V0 at hV0  hHeld ⊢
            refine take_dst (i := 0) (d := 46) (v := .int .i64 0) rfl rfl (by kernel_rfl) (by kernel_rfl) (by kernel_rfl) (fun _ _ _ h => h) (Or.inl ⟨by rfl, ?_⟩) hHeld ?_
            · (intro w0 hSw; (try dsimp only at hSw); go_simp)
            simp only [Act.put, List.setIfInBounds_toArray, List.set_cons_zero, List.set_cons_succ]
            refine take_dst (i := 1) (d := 47) (v := .bool false) rfl rfl (by kernel_rfl) (by kernel_rfl) (by kernel_rfl) (fun _ _ _ h => h) (Or.inl ⟨by rfl, ?_⟩) hHeld ?_
            · (intro w0 hSw; (try dsimp only at hSw); go_simp)
            simp only [Act.put, List.setIfInBounds_toArray, List.set_cons_zero, List.set_cons_succ]
            refine take_dst (i := 2) (d := 48) (v := .bool false) rfl rfl (by kernel_rfl) (by kernel_rfl) (by kernel_rfl) (fun _ _ _ h => h) (Or.inl ⟨by rfl, ?_⟩) hHeld ?_
            · (intro w0 hSw; (try dsimp only at hSw); go_simp)
            simp only [Act.put, List.setIfInBounds_toArray, List.set_cons_zero, List.set_cons_succ]
            refine take_dst (i := 3) (d := 49) (v := .slice (some ⟨qb, qo, none⟩) 1 rc) rfl rfl (by kernel_rfl) (by kernel_rfl) (by kernel_rfl) (fun _ _ _ h => h) (Or.inl ⟨by rfl, ?_⟩) hHeld ?_
            · (intro w0 hSw; (try dsimp only at hSw); go_simp)
            simp only [Act.put, List.setIfInBounds_toArray, List.set_cons_zero, List.set_cons_succ]
            refine take_dst (i := 4) (d := 50) (v := .int .i64 1) rfl rfl (by kernel_rfl) (by kernel_rfl) (by kernel_rfl) (fun _ _ _ h => h) (Or.inl ⟨by rfl, ?_⟩) hHeld ?_
            · (intro w0 hSw; (try dsimp only at hSw); go_simp)
            simp only [Act.put, List.setIfInBounds_toArray, List.set_cons_zero, List.set_cons_succ]
            refine take_dst (i := 5) (d := 51) (v := .bool false) rfl rfl (by kernel_rfl) (by kernel_rfl) (by kernel_rfl) (fun _ _ _ h => h) (Or.inl ⟨by rfl, ?_⟩) hHeld ?_
            · (intro w0 hSw; (try dsimp only at hSw); go_simp)
            simp only [Act.put, List.setIfInBounds_toArray, List.set_cons_zero, List.set_cons_succ]
            refine take_dst (i := 6) (d := 52) (v := .bool false) rfl rfl (by kernel_rfl) (by kernel_rfl) (by kernel_rfl) (fun _ _ _ h => h) (Or.inl ⟨by rfl, ?_⟩) hHeld ?_
            · (intro w0 hSw; (try dsimp only at hSw); go_simp)
            simp only [Act.put, List.setIfInBounds_toArray, List.set_cons_zero, List.set_cons_succ]
            refine take_dst (i := 7) (d := 53) (v := .bool false) rfl rfl (by kernel_rfl) (by kernel_rfl) (by kernel_rfl) (fun _ _ _ h => h) (Or.inl ⟨by rfl, ?_⟩) hHeld ?_
            · (intro w0 hSw; (try dsimp only at hSw); go_simp)
            simp only [Act.put, List.setIfInBounds_toArray, List.set_cons_zero, List.set_cons_succ]
            refine take_dst (i := 8) (d := 54) (v := .slice (some ⟨qb, qo, none⟩) 1 rc) rfl rfl (by kernel_rfl) (by kernel_rfl) (by kernel_rfl) (fun _ _ _ h => h) (Or.inl ⟨by rfl, ?_⟩) hHeld ?_
            · (intro w0 hSw; (try dsimp only at hSw); go_simp)
            simp only [Act.put, List.setIfInBounds_toArray, List.set_cons_zero, List.set_cons_succ]
            refine take_dst (i := 9) (d := 55) (v := .pointer (some ⟨qb, qo, none⟩)) rfl rfl (by kernel_rfl) (by kernel_rfl) (by kernel_rfl) (fun _ _ _ h => h) (Or.inl ⟨by rfl, ?_⟩) hHeld ?_
            · (intro w0 hSw; (try dsimp only at hSw); go_simp)
            simp only [Act.put, List.setIfInBounds_toArray, List.set_cons_zero, List.set_cons_succ]
            refine take_dst (i := 10) (d := 56) (v := .slice y.sa y.bs.length y.cap) rfl rfl (by kernel_rfl) (by kernel_rfl) (by kernel_rfl) (fun _ _ _ h => h) (Or.inl ⟨by rfl, ?_⟩) hHeld ?_
            · (intro w0 hSw; (try dsimp only at hSw); go_simp)
            simp only [Act.put, List.setIfInBounds_toArray, List.set_cons_zero, List.set_cons_succ]
            refine take_dst (i := 11) (d := 57) (v := .slice (some ⟨sb, so, none⟩) ds.length dc) rfl rfl (by kernel_rfl) (by kernel_rfl) (by kernel_rfl) (fun _ _ _ h => h) (Or.inl ⟨by rfl, ?_⟩) hHeld ?_
            · (intro w0 hSw; (try dsimp only at hSw); go_simp)
            simp only [Act.put, List.setIfInBounds_toArray, List.set_cons_zero, List.set_cons_succ]
            refine take_dst (i := 12) (d := 58) (v := .int .i64 (m : Int)) rfl rfl (by kernel_rfl) (by kernel_rfl) (by kernel_rfl) (fun _ _ _ h => h) (Or.inl ⟨by rfl, ?_⟩) hHeld ?_
            · (intro w0 hSw; (try dsimp only at hSw); go_simp)
            simp only [Act.put, List.setIfInBounds_toArray, List.set_cons_zero, List.set_cons_succ]
            refine take_dst (i := 13) (d := 59) (v := .pointer (some ⟨sb, so + m, none⟩)) rfl rfl (by kernel_rfl) (by kernel_rfl) (by kernel_rfl) (fun _ _ _ h => h) (Or.inl ⟨by rfl, ?_⟩) hHeld ?_
            · (intro w0 hSw; (try dsimp only at hSw); go_simp)
            simp only [Act.put, List.setIfInBounds_toArray, List.set_cons_zero, List.set_cons_succ]
            refine take_dst (i := 14) (d := 60) (v := .slice p.sa 32 p.cap) rfl rfl (by kernel_rfl) (by kernel_rfl) (by kernel_rfl) (fun _ _ _ h => h) (Or.inl ⟨by rfl, ?_⟩) hHeld ?_
            · (intro w0 hSw; (try dsimp only at hSw); go_simp)
            simp only [Act.put, List.setIfInBounds_toArray, List.set_cons_zero, List.set_cons_succ]
            clear hHeld
            refine any_named (fun GO hGo hGi => ?_)
            refine act_named (fun A0 hA0 => ?_)
            have st_A : Hid (∀ (V : World), Below VR.heap.size VR V → GO 0 #[true, true, true, true, true, true, true, true, true, true, true, true, true, true, true, true, true, true] (((A0.put (some 61) (.bool B)).put (some 62) (.bool (!B))).put (some 63) (.bool (!B))) V) := by
              show ∀ V, _
              intro V  hB 
              refine hGo.out _ _ _ _ ?_
              rw [← hA0.out]
              try simp only [Act.put, List.setIfInBounds_toArray, List.set_cons_zero, List.set_cons_succ]
              refine wpAnyH_done (by kernel_rfl) ?_ _
              go_wp2_with fail
              go_meet
              case rel => exact ⟨rfl, hB⟩
            have st_0 : Hid (∀ (V : World), Below VR.heap.size VR V → GO 3 #[true, true, true, true, true, true, true, true, true, true, true, true, true, true, true, false, false, false] A0 V) := by
              show ∀ V, _
              intro V  hB 
              refine hGo.out _ _ _ _ ?_
              rw [← hA0.out]
              try simp only [Act.put, List.setIfInBounds_toArray, List.set_cons_zero, List.set_cons_succ]
              refine wpAnyH_ready (rs := [15]) (by kernel_rfl) (by simp) (AllReadyH.cons rfl (fun K hK => ?_) AllReadyH.nil)
              refine step_calls_on (by rfl) 61 rfl 37 [.tmp 56, .tmp 60] #[46, 46] rfl [.slice y.sa y.bs.length y.cap, .slice p.sa 32 p.cap] rfl (enters_of Tryd.func37 (by kernel_rfl) rfl) (fun v w' => v = .bool B ∧ V = w') ((HSB.out V hB).mono (fun e w2 h => ⟨_, h.1, rfl, h.2⟩)) ?_
              rintro v W' ⟨rfl, hwq⟩
              subst hwq
              refine hK.out _ _ ⟨(hB.cell (p := ⟨qb, qo, none⟩) (block_lt_of_cell k0)).trans k0, (hB.cell (p := ⟨sb, so + m, none⟩) (block_lt_of_cell e1)).trans e1⟩ (fun hHeld => ?_)
              simp only [Act.put, List.setIfInBounds_toArray, List.set_cons_zero, List.set_cons_succ]
              refine take_dst (i := 16) (d := 62) (v := .bool (!B)) rfl rfl (by kernel_rfl) (by kernel_rfl) (by kernel_rfl) (fun _ _ _ h => h) (Or.inl ⟨by rfl, ?_⟩) hHeld ?_
              · (intro w0 hSw; (try dsimp only at hSw); go_simp)
              simp only [Act.put, List.setIfInBounds_toArray, List.set_cons_zero, List.set_cons_succ]
              refine take_dst (i := 17) (d := 63) (v := .bool (!B)) rfl rfl (by kernel_rfl) (by kernel_rfl) (by kernel_rfl) (fun _ _ _ h => h) (Or.inl ⟨by rfl, ?_⟩) hHeld ?_
              · (intro w0 hSw; (try dsimp only at hSw); go_simp)
              simp only [Act.put, List.setIfInBounds_toArray, List.set_cons_zero, List.set_cons_succ]
              clear hHeld
              have h := st_A.out V hB
              rw [← hA0.out] at h
              (try simp only [Act.put, List.setIfInBounds_toArray, List.set_cons_zero, List.set_cons_succ] at h)
              (try simp only [Act.put, List.setIfInBounds_toArray, List.set_cons_zero, List.set_cons_succ])
              exact hGi.out _ _ _ _ h
            exact st_0.out V0 hV0 
          case rest =>
            obtain ⟨rfl, hb5⟩ := hcut
            have hb35 := hb34.trans (hb5.mono hb34.size)
            have hB5 := hB4.trans (hb5.mono hB4.size)
            clear k0 hSq HQB e1 hS4 HSB
            cases B with
            | false =>
              have HCO : Hid (Coll (cvs ks) ∨ CollB ((bvTo (s0 :: l) (min (l.length + 1) 24)).map BV.w)) := by
                rcases HCB.out with o | o
                · cases o
                · exact o
              go_wp2_with fail
              go_ret
              exact ⟨cvs ks, HG.out, .inr ⟨rfl, HCO.out⟩, hB5⟩
            | true =>
              clear HCB
              have qD5 := (hb35.block _ (lt_of_heap qD3)).trans qD3
              have hd5 := hd3.below hb35
              have hBc5 := hBc3.below hb35
              have hS5 := hSl.below hb35
              have e0 := cells_at qD5 0 _ rfl
              have e1 := (hb35.cell (p := ⟨sb, so + m, none⟩) hsbl).trans l0
              obtain ⟨VR, hVR⟩ : ∃ VR, VR = wc := ⟨_, rfl⟩
              subst hVR
              have HFD : Hid (∀ V : World, Below VR.heap.size VR V → Calls Tryd.prog 38 #[.agg #[.slice ka ks.length kc], .slice p.sa 32 p.cap] V fun e w' => (∃ c : Ct, e = .returned (.tuple #[.agg #[.int .i64 c.au, .int .i64 c.rd, .slice c.ba c.bl.length c.bc, .slice c.pa c.pl.length c.pc, .slice c.va c.vl.length c.vc], .int .i64 0]) ∧ CtAt w' c ∧ Hid ((c.v = cvAt (cvs ks) i ∨ (unlikeC (cvAt (cvs ks) i) c.v ∧ Coll (cvs ks))) ∧ c.v ∈ cvs ks) ∧ ∀ b, CtIn c b → V.heap.size ≤ b) ∧ Below V.heap.size V w') := by
                show ∀ V, _
                intro V hV
                exact find_at ks _ kc i p V HD.out HV.out hi (hd5.below hV) (hS5.below hV) HPD.out h32 (HT.out V (hB5.trans (hV.mono hB5.size)))
              go_upto_region 11 with fail
              go_cut [10, 11] from 31 to 100 (fun u v wx => ∃ (X : Nat) (c : Ct), u = .pointer (some ⟨X, 0, none⟩) ∧ v = .int .i64 0 ∧ wx.heap[X]? = some (.cells #[.int .i64 c.au, .int .i64 c.rd, .slice c.ba c.bl.length c.bc, .slice c.pa c.pl.length c.pc, .slice c.va c.vl.length c.vc] 63 (0, 0)) ∧ CtAt wx c ∧ Hid ((c.v = cvAt (cvs ks) i ∨ (unlikeC (cvAt (cvs ks) i) c.v ∧ Coll (cvs ks))) ∧ c.v ∈ cvs ks) ∧ Below VR.heap.size VR wx)
              case first =>
                have hV0 : Below VR.heap.size VR VR.drew := (Below.refl _ _).drew
                refine wp_region_held_drew (S := fun w' => w'.cell? ⟨D, 0, none⟩ = some (.slice ka ks.length kc) ∧ w'.cell? ⟨sb, so + m, none⟩ = some (.slice p.sa 32 p.cap)) (by kernel_rfl) ⟨(hV0.cell (p := ⟨D, 0, none⟩) (block_lt_of_cell e0)).trans e0, (hV0.cell (p := ⟨sb, so + m, none⟩) (block_lt_of_cell e1)).trans e1⟩ (fun hHeld => ?_)
                generalize VR.drew = V0 at hV0  hHeld ⊢
                refine take_dst (i := 0) (d := 65) (v := .agg #[.slice ka ks.length kc]) rfl rfl (by kernel_rfl) (by kernel_rfl) (by kernel_rfl) (fun _ _ _ h => h) (Or.inl ⟨by rfl, ?_⟩) hHeld ?_
                · (intro w0 hSw; (try dsimp only at hSw); go_simp)
                simp only [Act.put, List.setIfInBounds_toArray, List.set_cons_zero, List.set_cons_succ]
                refine take_dst (i := 1) (d := 66) (v := .slice (some ⟨sb, so, none⟩) ds.length dc) rfl rfl (by kernel_rfl) (by kernel_rfl) (by kernel_rfl) (fun _ _ _ h => h) (Or.inl ⟨by rfl, ?_⟩) hHeld ?_
                · (intro w0 hSw; (try dsimp only at hSw); go_simp)
                simp only [Act.put, List.setIfInBounds_toArray, List.set_cons_zero, List.set_cons_succ]
                refine take_dst (i := 2) (d := 67) (v := .int .i64 (m : Int)) rfl rfl (by kernel_rfl) (by kernel_rfl) (by kernel_rfl) (fun _ _ _ h => h) (Or.inl ⟨by rfl, ?_⟩) hHeld ?_
                · (intro w0 hSw; (try dsimp only at hSw); go_simp)
                simp only [Act.put, List.setIfInBounds_toArray, List.set_cons_zero, List.set_cons_succ]
                refine take_dst (i := 3) (d := 68) (v := .pointer (some ⟨sb, so + m, none⟩)) rfl rfl (by kernel_rfl) (by kernel_rfl) (by kernel_rfl) (fun _ _ _ h => h) (Or.inl ⟨by rfl, ?_⟩) hHeld ?_
                · (intro w0 hSw; (try dsimp only at hSw); go_simp)
                simp only [Act.put, List.setIfInBounds_toArray, List.set_cons_zero, List.set_cons_succ]
                refine take_dst (i := 4) (d := 69) (v := .slice p.sa 32 p.cap) rfl rfl (by kernel_rfl) (by kernel_rfl) (by kernel_rfl) (fun _ _ _ h => h) (Or.inl ⟨by rfl, ?_⟩) hHeld ?_
                · (intro w0 hSw; (try dsimp only at hSw); go_simp)
                simp only [Act.put, List.setIfInBounds_toArray, List.set_cons_zero, List.set_cons_succ]
                clear hHeld
                refine any_named (fun GO hGo hGi => ?_)
                refine act_named (fun A0 hA0 => ?_)
                have st_FXS : Hid (∀ (V : World) (c : Ct) (bX : Nat), Below VR.heap.size VR V → (CtAt V c) → (Hid ((c.v = cvAt (cvs ks) i ∨ (unlikeC (cvAt (cvs ks) i) c.v ∧ Coll (cvs ks))) ∧ c.v ∈ cvs ks)) → (VR.heap.size ≤ bX) → (V.heap[bX]? = some (.cells #[.int .i64 c.au, .int .i64 c.rd, .slice c.ba c.bl.length c.bc, .slice c.pa c.pl.length c.pc, .slice c.va c.vl.length c.vc] 63 (0, 0))) → (∀ b, CtIn c b → b ≠ bX) → GO 0 #[true, true, true, true, true, true, true, true, true, true, true, true] ((((((A0.put (some 70) (.tuple #[.agg #[.int .i64 c.au, .int .i64 c.rd, .slice c.ba c.bl.length c.bc, .slice c.pa c.pl.length c.pc, .slice c.va c.vl.length c.vc], .int .i64 0])).put (some 64) (.tuple #[.agg #[.int .i64 c.au, .int .i64 c.rd, .slice c.ba c.bl.length c.bc, .slice c.pa c.pl.length c.pc, .slice c.va c.vl.length c.vc], .int .i64 0])).put (some 71) (.agg #[.int .i64 c.au, .int .i64 c.rd, .slice c.ba c.bl.length c.bc, .slice c.pa c.pl.length c.pc, .slice c.va c.vl.length c.vc])).put (some 72) (.int .i64 0)).put (some 10) (.pointer (some ⟨bX, 0, none⟩))).put (some 11) (.int .i64 0)) V) := by
                  show ∀ V, _
                  intro V c bX hB hC HC gX qS hCX
                  refine hGo.out _ _ _ _ ?_
                  rw [← hA0.out]
                  try simp only [Act.put, List.setIfInBounds_toArray, List.set_cons_zero, List.set_cons_succ]
                  refine wpAnyH_done (by kernel_rfl) ?_ _
                  go_wp2_with fail
                  go_meet
                  case rel => exact ⟨bX, c, rfl, rfl, qS, hC, HC, hB⟩
                have st_FX : Hid (∀ (V : World) (c : Ct) (bX : Nat), Below VR.heap.size VR V → (CtAt V c) → (Hid ((c.v = cvAt (cvs ks) i ∨ (unlikeC (cvAt (cvs ks) i) c.v ∧ Coll (cvs ks))) ∧ c.v ∈ cvs ks)) → (V.heap[bX]? = some (.cells #[.int .i64 0, .int .i64 0, .slice none 0 0, .slice none 0 0, .slice none 0 0] 63 (0, 0))) → (VR.heap.size ≤ bX) → (∀ b, CtIn c b → b ≠ bX) → GO 2 #[true, true, true, true, true, true, true, true, true, true, false, false] (((((A0.put (some 70) (.tuple #[.agg #[.int .i64 c.au, .int .i64 c.rd, .slice c.ba c.bl.length c.bc, .slice c.pa c.pl.length c.pc, .slice c.va c.vl.length c.vc], .int .i64 0])).put (some 64) (.tuple #[.agg #[.int .i64 c.au, .int .i64 c.rd, .slice c.ba c.bl.length c.bc, .slice c.pa c.pl.length c.pc, .slice c.va c.vl.length c.vc], .int .i64 0])).put (some 71) (.agg #[.int .i64 c.au, .int .i64 c.rd, .slice c.ba c.bl.length c.bc, .slice c.pa c.pl.length c.pc, .slice c.va c.vl.length c.vc])).put (some 72) (.int .i64 0)).put (some 10) (.pointer (some ⟨bX, 0, none⟩))) V) := by
                  show ∀ V, _
                  intro V c bX hB hC HC qX gX hCX
                  refine hGo.out _ _ _ _ ?_
                  rw [← hA0.out]
                  try simp only [Act.put, List.setIfInBounds_toArray, List.set_cons_zero, List.set_cons_succ]
                  refine wpAnyH_ready (rs := [10]) (by kernel_rfl) (by simp) (AllReadyH.cons rfl (fun K hK => ?_) AllReadyH.nil)
                  have c0_ := cells_at qX 0 _ rfl
                  have f0_ := frozen_at qX 0
                  have c1_ := cells_at qX 1 _ rfl
                  have f1_ := frozen_at qX 1
                  have c2_ := cells_at qX 2 _ rfl
                  have f2_ := frozen_at qX 2
                  have c3_ := cells_at qX 3 _ rfl
                  have f3_ := frozen_at qX 3
                  have c4_ := cells_at qX 4 _ rfl
                  have f4_ := frozen_at qX 4
                  refine step_store rfl rfl (((((V.setCell ⟨bX, 0, none⟩ (.int .i64 c.au)).setCell ⟨bX, 1, none⟩ (.int .i64 c.rd)).setCell ⟨bX, 2, none⟩ (.slice c.ba c.bl.length c.bc)).setCell ⟨bX, 3, none⟩ (.slice c.pa c.pl.length c.pc)).setCell ⟨bX, 4, none⟩ (.slice c.va c.vl.length c.vc)) (by go_simp) ?_
                  have hBn := (((((hB.setCell (p := ⟨bX, 0, none⟩) gX (.int .i64 c.au)).setCell (p := ⟨bX, 1, none⟩) gX (.int .i64 c.rd)).setCell (p := ⟨bX, 2, none⟩) gX (.slice c.ba c.bl.length c.bc)).setCell (p := ⟨bX, 3, none⟩) gX (.slice c.pa c.pl.length c.pc)).setCell (p := ⟨bX, 4, none⟩) gX (.slice c.va c.vl.length c.vc))
                  have qS_n : (((((V.setCell ⟨bX, 0, none⟩ (.int .i64 c.au)).setCell ⟨bX, 1, none⟩ (.int .i64 c.rd)).setCell ⟨bX, 2, none⟩ (.slice c.ba c.bl.length c.bc)).setCell ⟨bX, 3, none⟩ (.slice c.pa c.pl.length c.pc)).setCell ⟨bX, 4, none⟩ (.slice c.va c.vl.length c.vc)).heap[bX]? = some (.cells #[.int .i64 c.au, .int .i64 c.rd, .slice c.ba c.bl.length c.bc, .slice c.pa c.pl.length c.pc, .slice c.va c.vl.length c.vc] 63 (0, 0)) := by simpa using (heap_setCell_same _ _ 4 _ _ (.slice c.va c.vl.length c.vc) (heap_setCell_same _ _ 3 _ _ (.slice c.pa c.pl.length c.pc) (heap_setCell_same _ _ 2 _ _ (.slice c.ba c.bl.length c.bc) (heap_setCell_same _ _ 1 _ _ (.int .i64 c.rd) (heap_setCell_same _ _ 0 _ _ (.int .i64 c.au) qX)))))
                  have hC_n := (ct_put (ct_put (ct_put (ct_put (ct_put hC bX 0 (.int .i64 c.au) hCX) bX 1 (.int .i64 c.rd) hCX) bX 2 (.slice c.ba c.bl.length c.bc) hCX) bX 3 (.slice c.pa c.pl.length c.pc) hCX) bX 4 (.slice c.va c.vl.length c.vc) hCX)
                  generalize (((((V.setCell ⟨bX, 0, none⟩ (.int .i64 c.au)).setCell ⟨bX, 1, none⟩ (.int .i64 c.rd)).setCell ⟨bX, 2, none⟩ (.slice c.ba c.bl.length c.bc)).setCell ⟨bX, 3, none⟩ (.slice c.pa c.pl.length c.pc)).setCell ⟨bX, 4, none⟩ (.slice c.va c.vl.length c.vc)) = W' at hBn qS_n hC_n ⊢
                  refine hK.out _ _ ⟨(hBn.cell (p := ⟨D, 0, none⟩) (block_lt_of_cell e0)).trans e0, (hBn.cell (p := ⟨sb, so + m, none⟩) (block_lt_of_cell e1)).trans e1⟩ (fun hHeld => ?_)
                  simp only [List.setIfInBounds_toArray, List.set_cons_zero, List.set_cons_succ]
                  refine take_dst (i := 11) (d := 11) (v := .int .i64 0) rfl rfl (by kernel_rfl) (by kernel_rfl) (by kernel_rfl) (fun _ _ _ h => h) (Or.inl ⟨by rfl, ?_⟩) hHeld ?_
                  · (intro w0 hSw; (try dsimp only at hSw); go_simp)
                  simp only [Act.put, List.setIfInBounds_toArray, List.set_cons_zero, List.set_cons_succ]
                  clear hHeld
                  have h := st_FXS.out W' c bX hBn hC_n HC gX qS_n hCX
                  rw [← hA0.out] at h
                  (try simp only [Act.put, List.setIfInBounds_toArray, List.set_cons_zero, List.set_cons_succ] at h)
                  (try simp only [Act.put, List.setIfInBounds_toArray, List.set_cons_zero, List.set_cons_succ])
                  exact hGi.out _ _ _ _ h
                have st_F : Hid (∀ (V : World) (c : Ct), Below VR.heap.size VR V → (CtAt V c) → (Hid ((c.v = cvAt (cvs ks) i ∨ (unlikeC (cvAt (cvs ks) i) c.v ∧ Coll (cvs ks))) ∧ c.v ∈ cvs ks)) → GO 3 #[true, true, true, true, true, true, true, true, true, false, false, false] ((((A0.put (some 70) (.tuple #[.agg #[.int .i64 c.au, .int .i64 c.rd, .slice c.ba c.bl.length c.bc, .slice c.pa c.pl.length c.pc, .slice c.va c.vl.length c.vc], .int .i64 0])).put (some 64) (.tuple #[.agg #[.int .i64 c.au, .int .i64 c.rd, .slice c.ba c.bl.length c.bc, .slice c.pa c.pl.length c.pc, .slice c.va c.vl.length c.vc], .int .i64 0])).put (some 71) (.agg #[.int .i64 c.au, .int .i64 c.rd, .slice c.ba c.bl.length c.bc, .slice c.pa c.pl.length c.pc, .slice c.va c.vl.length c.vc])).put (some 72) (.int .i64 0)) V) := by
                  show ∀ V, _
                  intro V c hB hC HC
                  refine hGo.out _ _ _ _ ?_
                  rw [← hA0.out]
                  try simp only [Act.put, List.setIfInBounds_toArray, List.set_cons_zero, List.set_cons_succ]
                  refine wpAnyH_ready (rs := [9]) (by kernel_rfl) (by simp) (AllReadyH.cons rfl (fun K hK => ?_) AllReadyH.nil)
                  refine step_run rfl 10 rfl (.pointer (some ⟨V.heap.size, 0, none⟩)) (V.alloc (.cells #[.int .i64 0, .int .i64 0, .slice none 0 0, .slice none 0 0, .slice none 0 0] 63)) (by go_simp) ?_
                  have hA : Below V.heap.size V (V.alloc (.cells #[.int .i64 0, .int .i64 0, .slice none 0 0, .slice none 0 0, .slice none 0 0] 63)) := (Below.refl _ _).alloc (Nat.le_refl _) _
                  have hBn := hB.trans (hA.mono hB.size)
                  have qX_n := heap_alloc_new V (.cells #[.int .i64 0, .int .i64 0, .slice none 0 0, .slice none 0 0, .slice none 0 0] 63)
                  have gX_n := hB.size
                  generalize hW' : V.alloc (.cells #[.int .i64 0, .int .i64 0, .slice none 0 0, .slice none 0 0, .slice none 0 0] 63) = W' at hA hBn qX_n ⊢
                  clear hW'
                  obtain ⟨bX, hx_e⟩ : ∃ bX, bX = V.heap.size := ⟨_, rfl⟩
                  rw [← hx_e] at qX_n gX_n ⊢
                  have hCX_n : ∀ b, CtIn c b → b ≠ bX := fun b hb' => by have := hC.block_lt b hb'; omega
                  have hA' := hA
                  clear hx_e
                  refine hK.out _ _ ⟨(hBn.cell (p := ⟨D, 0, none⟩) (block_lt_of_cell e0)).trans e0, (hBn.cell (p := ⟨sb, so + m, none⟩) (block_lt_of_cell e1)).trans e1⟩ (fun hHeld => ?_)
                  clear hHeld
                  have h := st_FX.out W' c bX hBn (hC.below hA') HC qX_n gX_n hCX_n
                  rw [← hA0.out] at h
                  (try simp only [Act.put, List.setIfInBounds_toArray, List.set_cons_zero, List.set_cons_succ] at h)
                  (try simp only [Act.put, List.setIfInBounds_toArray, List.set_cons_zero, List.set_cons_succ])
                  exact hGi.out _ _ _ _ h
                have st_X : Hid (∀ (V : World) (bX : Nat), Below VR.heap.size VR V → (V.heap[bX]? = some (.cells #[.int .i64 0, .int .i64 0, .slice none 0 0, .slice none 0 0, .slice none 0 0] 63 (0, 0))) → (VR.heap.size ≤ bX) → GO 6 #[true, true, true, true, true, false, false, false, false, true, false, false] (A0.put (some 10) (.pointer (some ⟨bX, 0, none⟩))) V) := by
                  show ∀ V, _
                  intro V bX hB qX gX
                  refine hGo.out _ _ _ _ ?_
                  rw [← hA0.out]
                  try simp only [Act.put, List.setIfInBounds_toArray, List.set_cons_zero, List.set_cons_succ]
                  refine wpAnyH_ready (rs := [5]) (by kernel_rfl) (by simp) (AllReadyH.cons rfl (fun K hK => ?_) AllReadyH.nil)
                  refine step_calls_dst rfl 70 rfl 38 [.tmp 65, .tmp 69] #[51, 46] rfl [.agg #[.slice ka ks.length kc], .slice p.sa 32 p.cap] rfl (enters_of Tryd.func38 (by kernel_rfl) rfl) (fun v w' => (∃ c : Ct, v = .tuple #[.agg #[.int .i64 c.au, .int .i64 c.rd, .slice c.ba c.bl.length c.bc, .slice c.pa c.pl.length c.pc, .slice c.va c.vl.length c.vc], .int .i64 0] ∧ CtAt w' c ∧ Hid ((c.v = cvAt (cvs ks) i ∨ (unlikeC (cvAt (cvs ks) i) c.v ∧ Coll (cvs ks))) ∧ c.v ∈ cvs ks) ∧ ∀ b, CtIn c b → V.heap.size ≤ b) ∧ Below V.heap.size V w') ((HFD.out V hB).mono (fun e w2 h => ⟨_, h.1.choose_spec.1, ⟨_, rfl, h.1.choose_spec.2⟩, h.2⟩)) ?_
                  rintro v W' ⟨⟨c, rfl, hC_n, HC_n, hfr⟩, hb⟩
                  have hBn := hB.trans (hb.mono hB.size)
                  have hCX_n : ∀ b, CtIn c b → b ≠ bX := fun b hb' => by have := hfr b hb'; have := lt_of_heap qX; omega
                  refine hK.out _ _ ⟨(hBn.cell (p := ⟨D, 0, none⟩) (block_lt_of_cell e0)).trans e0, (hBn.cell (p := ⟨sb, so + m, none⟩) (block_lt_of_cell e1)).trans e1⟩ (fun hHeld => ?_)
                  simp only [Act.put, List.setIfInBounds_toArray, List.set_cons_zero, List.set_cons_succ]
                  refine take_dst (i := 6) (d := 64) (v := .tuple #[.agg #[.int .i64 c.au, .int .i64 c.rd, .slice c.ba c.bl.length c.bc, .slice c.pa c.pl.length c.pc, .slice c.va c.vl.length c.vc], .int .i64 0]) rfl rfl (by kernel_rfl) (by kernel_rfl) (by kernel_rfl) (fun _ _ _ h => h) (Or.inl ⟨by rfl, ?_⟩) hHeld ?_
                  · (intro w0 hSw; (try dsimp only at hSw); go_simp)
                  simp only [Act.put, List.setIfInBounds_toArray, List.set_cons_zero, List.set_cons_succ]
                  refine take_dst (i := 7) (d := 71) (v := .agg #[.int .i64 c.au, .int .i64 c.rd, .slice c.ba c.bl.length c.bc, .slice c.pa c.pl.length c.pc, .slice c.va c.vl.length c.vc]) rfl rfl (by kernel_rfl) (by kernel_rfl) (by kernel_rfl) (fun _ _ _ h => h) (Or.inl ⟨by rfl, ?_⟩) hHeld ?_
                  · (intro w0 hSw; (try dsimp only at hSw); go_simp)
                  simp only [Act.put, List.setIfInBounds_toArray, List.set_cons_zero, List.set_cons_succ]
                  refine take_dst (i := 8) (d := 72) (v := .int .i64 0) rfl rfl (by kernel_rfl) (by kernel_rfl) (by kernel_rfl) (fun _ _ _ h => h) (Or.inl ⟨by rfl, ?_⟩) hHeld ?_
                  · (intro w0 hSw; (try dsimp only at hSw); go_simp)
                  simp only [Act.put, List.setIfInBounds_toArray, List.set_cons_zero, List.set_cons_succ]
                  clear hHeld
                  have h := st_FX.out W' c bX hBn hC_n HC_n ((hb.block _ (lt_of_heap qX)).trans qX) gX hCX_n
                  rw [← hA0.out] at h
                  (try simp only [Act.put, List.setIfInBounds_toArray, List.set_cons_zero, List.set_cons_succ] at h)
                  (try simp only [Act.put, List.setIfInBounds_toArray, List.set_cons_zero, List.set_cons_succ])
                  exact hGi.out _ _ _ _ h
                have st_0 : Hid (∀ (V : World), Below VR.heap.size VR V → GO 7 #[true, true, true, true, true, false, false, false, false, false, false, false] A0 V) := by
                  show ∀ V, _
                  intro V  hB 
                  refine hGo.out _ _ _ _ ?_
                  rw [← hA0.out]
                  try simp only [Act.put, List.setIfInBounds_toArray, List.set_cons_zero, List.set_cons_succ]
                  refine wpAnyH_ready (rs := [5, 9]) (by kernel_rfl) (by simp) (AllReadyH.cons rfl (fun K hK => ?_) (AllReadyH.cons rfl (fun K hK => ?_) AllReadyH.nil))
                  · skip
                    refine step_calls_dst rfl 70 rfl 38 [.tmp 65, .tmp 69] #[51, 46] rfl [.agg #[.slice ka ks.length kc], .slice p.sa 32 p.cap] rfl (enters_of Tryd.func38 (by kernel_rfl) rfl) (fun v w' => (∃ c : Ct, v = .tuple #[.agg #[.int .i64 c.au, .int .i64 c.rd, .slice c.ba c.bl.length c.bc, .slice c.pa c.pl.length c.pc, .slice c.va c.vl.length c.vc], .int .i64 0] ∧ CtAt w' c ∧ Hid ((c.v = cvAt (cvs ks) i ∨ (unlikeC (cvAt (cvs ks) i) c.v ∧ Coll (cvs ks))) ∧ c.v ∈ cvs ks) ∧ ∀ b, CtIn c b → V.heap.size ≤ b) ∧ Below V.heap.size V w') ((HFD.out V hB).mono (fun e w2 h => ⟨_, h.1.choose_spec.1, ⟨_, rfl, h.1.choose_spec.2⟩, h.2⟩)) ?_
                    rintro v W' ⟨⟨c, rfl, hC_n, HC_n, hfr⟩, hb⟩
                    have hBn := hB.trans (hb.mono hB.size)
                    refine hK.out _ _ ⟨(hBn.cell (p := ⟨D, 0, none⟩) (block_lt_of_cell e0)).trans e0, (hBn.cell (p := ⟨sb, so + m, none⟩) (block_lt_of_cell e1)).trans e1⟩ (fun hHeld => ?_)
                    simp only [Act.put, List.setIfInBounds_toArray, List.set_cons_zero, List.set_cons_succ]
                    refine take_dst (i := 6) (d := 64) (v := .tuple #[.agg #[.int .i64 c.au, .int .i64 c.rd, .slice c.ba c.bl.length c.bc, .slice c.pa c.pl.length c.pc, .slice c.va c.vl.length c.vc], .int .i64 0]) rfl rfl (by kernel_rfl) (by kernel_rfl) (by kernel_rfl) (fun _ _ _ h => h) (Or.inl ⟨by rfl, ?_⟩) hHeld ?_
                    · (intro w0 hSw; (try dsimp only at hSw); go_simp)
                    simp only [Act.put, List.setIfInBounds_toArray, List.set_cons_zero, List.set_cons_succ]
                    refine take_dst (i := 7) (d := 71) (v := .agg #[.int .i64 c.au, .int .i64 c.rd, .slice c.ba c.bl.length c.bc, .slice c.pa c.pl.length c.pc, .slice c.va c.vl.length c.vc]) rfl rfl (by kernel_rfl) (by kernel_rfl) (by kernel_rfl) (fun _ _ _ h => h) (Or.inl ⟨by rfl, ?_⟩) hHeld ?_
                    · (intro w0 hSw; (try dsimp only at hSw); go_simp)
                    simp only [Act.put, List.setIfInBounds_toArray, List.set_cons_zero, List.set_cons_succ]
                    refine take_dst (i := 8) (d := 72) (v := .int .i64 0) rfl rfl (by kernel_rfl) (by kernel_rfl) (by kernel_rfl) (fun _ _ _ h => h) (Or.inl ⟨by rfl, ?_⟩) hHeld ?_
                    · (intro w0 hSw; (try dsimp only at hSw); go_simp)
                    simp only [Act.put, List.setIfInBounds_toArray, List.set_cons_zero, List.set_cons_succ]
                    clear hHeld
                    have h := st_F.out W' c hBn hC_n HC_n
                    rw [← hA0.out] at h
                    (try simp only [Act.put, List.setIfInBounds_toArray, List.set_cons_zero, List.set_cons_succ] at h)
                    (try simp only [Act.put, List.setIfInBounds_toArray, List.set_cons_zero, List.set_cons_succ])
                    exact hGi.out _ _ _ _ h
                  · skip
                    refine step_run rfl 10 rfl (.pointer (some ⟨V.heap.size, 0, none⟩)) (V.alloc (.cells #[.int .i64 0, .int .i64 0, .slice none 0 0, .slice none 0 0, .slice none 0 0] 63)) (by go_simp) ?_
                    have hA : Below V.heap.size V (V.alloc (.cells #[.int .i64 0, .int .i64 0, .slice none 0 0, .slice none 0 0, .slice none 0 0] 63)) := (Below.refl _ _).alloc (Nat.le_refl _) _
                    have hBn := hB.trans (hA.mono hB.size)
                    have qX_n := heap_alloc_new V (.cells #[.int .i64 0, .int .i64 0, .slice none 0 0, .slice none 0 0, .slice none 0 0] 63)
                    have gX_n := hB.size
                    generalize hW' : V.alloc (.cells #[.int .i64 0, .int .i64 0, .slice none 0 0, .slice none 0 0, .slice none 0 0] 63) = W' at hA hBn qX_n ⊢
                    clear hW'
                    obtain ⟨bX, hx_e⟩ : ∃ bX, bX = V.heap.size := ⟨_, rfl⟩
                    rw [← hx_e] at qX_n gX_n ⊢
                    have hA' := hA
                    clear hx_e
                    refine hK.out _ _ ⟨(hBn.cell (p := ⟨D, 0, none⟩) (block_lt_of_cell e0)).trans e0, (hBn.cell (p := ⟨sb, so + m, none⟩) (block_lt_of_cell e1)).trans e1⟩ (fun hHeld => ?_)
                    clear hHeld
                    have h := st_X.out W' bX hBn qX_n gX_n
                    rw [← hA0.out] at h
                    (try simp only [Act.put, List.setIfInBounds_toArray, List.set_cons_zero, List.set_cons_succ] at h)
                    (try simp only [Act.put, List.setIfInBounds_toArray, List.set_cons_zero, List.set_cons_succ])
                    exact hGi.out _ _ _ _ h
                exact st_0.out V0 hV0 
              case rest =>
                obtain ⟨X, c, rfl, rfl, qX, hC, HCI, hb6⟩ := hcut
                have hb36 := hb35.trans (hb6.mono hb35.size)
                have hB6 := hB5.trans (hb6.mono hB5.size)
                clear e0 e1 HFD
                have qD6 := (hb36.block _ (lt_of_heap qD3)).trans qD3
                have hd6 := hd3.below hb36
                have hBc6 := hBc3.below hb36
                have hS6 := hSl.below hb36
                have e0 := cells_at qD6 0 _ rfl
                have e1 := (hb36.cell (p := ⟨sb, so + m, none⟩) hsbl).trans l0
                obtain ⟨VR, hVR⟩ : ∃ VR, VR = wc := ⟨_, rfl⟩
                subst hVR
                have HBK : Hid (∀ V : World, Below VR.heap.size VR V → Calls Tryd.prog 41 #[.agg #[.slice ka ks.length kc], .slice ba bl.length bc, .slice p.sa 32 p.cap] V fun e w' => (∃ (xa : Option Addr) (N xc : Nat) (ec : Int), e = .returned (.tuple #[.slice xa N xc, .int .i64 ec]) ∧ BlkR w' (cvs ks) (bws cl) (cvAt (cvs ks) i).d xa N ec ∧ N ≤ 288) ∧ Below V.heap.size V w') := by
                  show ∀ V, _
                  intro V hV
                  exact blk_at ks ka kc i cl ba _ bc p V HD.out hle hi (hd6.below hV) HBL.out (hBc6.below hV) HBG.out (hS6.below hV) HPD.out h32 (HT.out V (hB6.trans (hV.mono hB6.size)))
                go_upto_region 12 with fail
                go_cut [12, 13] from 31 to 100 (fun u v wx => ∃ (xa : Option Addr) (N xc : Nat) (ec : Int), u = .slice xa N xc ∧ v = .int .i64 ec ∧ BlkR wx (cvs ks) (bws cl) (cvAt (cvs ks) i).d xa N ec ∧ N ≤ 288 ∧ Below VR.heap.size VR wx)
                case first =>
                  have hV0 : Below VR.heap.size VR VR.drew := (Below.refl _ _).drew
                  refine wp_region_held_drew (S := fun w' => w'.cell? ⟨D, 0, none⟩ = some (.slice ka ks.length kc) ∧ w'.cell? ⟨sb, so + m, none⟩ = some (.slice p.sa 32 p.cap)) (by kernel_rfl) ⟨(hV0.cell (p := ⟨D, 0, none⟩) (block_lt_of_cell e0)).trans e0, (hV0.cell (p := ⟨sb, so + m, none⟩) (block_lt_of_cell e1)).trans e1⟩ (fun hHeld => ?_)
                  generalize VR.drew = V0 at hV0  hHeld ⊢
                  refine take_dst (i := 0) (d := 74) (v := .agg #[.slice ka ks.length kc]) rfl rfl (by kernel_rfl) (by kernel_rfl) (by kernel_rfl) (fun _ _ _ h => h) (Or.inl ⟨by rfl, ?_⟩) hHeld ?_
                  · (intro w0 hSw; (try dsimp only at hSw); go_simp)
                  simp only [Act.put, List.setIfInBounds_toArray, List.set_cons_zero, List.set_cons_succ]
                  refine take_dst (i := 1) (d := 75) (v := .slice ba bl.length bc) rfl rfl (by kernel_rfl) (by kernel_rfl) (by kernel_rfl) (fun _ _ _ h => h) (Or.inl ⟨by rfl, ?_⟩) hHeld ?_
                  · (intro w0 hSw; (try dsimp only at hSw); go_simp)
                  simp only [Act.put, List.setIfInBounds_toArray, List.set_cons_zero, List.set_cons_succ]
                  refine take_dst (i := 2) (d := 76) (v := .slice (some ⟨sb, so, none⟩) ds.length dc) rfl rfl (by kernel_rfl) (by kernel_rfl) (by kernel_rfl) (fun _ _ _ h => h) (Or.inl ⟨by rfl, ?_⟩) hHeld ?_
                  · (intro w0 hSw; (try dsimp only at hSw); go_simp)
                  simp only [Act.put, List.setIfInBounds_toArray, List.set_cons_zero, List.set_cons_succ]
                  refine take_dst (i := 3) (d := 77) (v := .int .i64 (m : Int)) rfl rfl (by kernel_rfl) (by kernel_rfl) (by kernel_rfl) (fun _ _ _ h => h) (Or.inl ⟨by rfl, ?_⟩) hHeld ?_
                  · (intro w0 hSw; (try dsimp only at hSw); go_simp)
                  simp only [Act.put, List.setIfInBounds_toArray, List.set_cons_zero, List.set_cons_succ]
                  refine take_dst (i := 4) (d := 78) (v := .pointer (some ⟨sb, so + m, none⟩)) rfl rfl (by kernel_rfl) (by kernel_rfl) (by kernel_rfl) (fun _ _ _ h => h) (Or.inl ⟨by rfl, ?_⟩) hHeld ?_
                  · (intro w0 hSw; (try dsimp only at hSw); go_simp)
                  simp only [Act.put, List.setIfInBounds_toArray, List.set_cons_zero, List.set_cons_succ]
                  refine take_dst (i := 5) (d := 79) (v := .slice p.sa 32 p.cap) rfl rfl (by kernel_rfl) (by kernel_rfl) (by kernel_rfl) (fun _ _ _ h => h) (Or.inl ⟨by rfl, ?_⟩) hHeld ?_
                  · (intro w0 hSw; (try dsimp only at hSw); go_simp)
                  simp only [Act.put, List.setIfInBounds_toArray, List.set_cons_zero, List.set_cons_succ]
                  clear hHeld
                  refine any_named (fun GO hGo hGi => ?_)
                  refine act_named (fun A0 hA0 => ?_)
                  have st_K : Hid (∀ (V : World) (xa : Option Addr) (N : Nat) (xc : Nat) (ec : Int), Below VR.heap.size VR V → (BlkR V (cvs ks) (bws cl) (cvAt (cvs ks) i).d xa N ec) → (N ≤ 288) → GO 0 #[true, true, true, true, true, true, true, true, true, true, true, true] ((((((A0.put (some 80) (.tuple #[.slice xa N xc, .int .i64 ec])).put (some 73) (.tuple #[.slice xa N xc, .int .i64 ec])).put (some 81) (.slice xa N xc)).put (some 82) (.int .i64 ec)).put (some 12) (.slice xa N xc)).put (some 13) (.int .i64 ec)) V) := by
                    show ∀ V, _
                    intro V xa N xc ec hB hBR hN
                    refine hGo.out _ _ _ _ ?_
                    rw [← hA0.out]
                    try simp only [Act.put, List.setIfInBounds_toArray, List.set_cons_zero, List.set_cons_succ]
                    refine wpAnyH_done (by kernel_rfl) ?_ _
                    go_wp2_with fail
                    go_meet
                    case rel => exact ⟨xa, N, xc, ec, rfl, rfl, hBR, hN, hB⟩
                  have st_0 : Hid (∀ (V : World), Below VR.heap.size VR V → GO 6 #[true, true, true, true, true, true, false, false, false, false, false, false] A0 V) := by
                    show ∀ V, _
                    intro V  hB 
                    refine hGo.out _ _ _ _ ?_
                    rw [← hA0.out]
                    try simp only [Act.put, List.setIfInBounds_toArray, List.set_cons_zero, List.set_cons_succ]
                    refine wpAnyH_ready (rs := [6]) (by kernel_rfl) (by simp) (AllReadyH.cons rfl (fun K hK => ?_) AllReadyH.nil)
                    refine step_calls_dst rfl 80 rfl 41 [.tmp 74, .tmp 75, .tmp 79] #[51, 22, 46] rfl [.agg #[.slice ka ks.length kc], .slice ba bl.length bc, .slice p.sa 32 p.cap] rfl (enters_of Tryd.func41 (by kernel_rfl) rfl) (fun v w' => (∃ (xa : Option Addr) (N xc : Nat) (ec : Int), v = .tuple #[.slice xa N xc, .int .i64 ec] ∧ BlkR w' (cvs ks) (bws cl) (cvAt (cvs ks) i).d xa N ec ∧ N ≤ 288) ∧ Below V.heap.size V w') ((HBK.out V hB).mono (fun e w2 h => by obtain ⟨⟨ya, M, yc, yd, h1, h2, h3⟩, h5⟩ := h; exact ⟨_, h1, ⟨ya, M, yc, yd, rfl, h2, h3⟩, h5⟩)) ?_
                    rintro v W' ⟨⟨xa, N, xc, ec, rfl, hBR_n, hN_n⟩, hb⟩
                    have hBn := hB.trans (hb.mono hB.size)
                    refine hK.out _ _ ⟨(hBn.cell (p := ⟨D, 0, none⟩) (block_lt_of_cell e0)).trans e0, (hBn.cell (p := ⟨sb, so + m, none⟩) (block_lt_of_cell e1)).trans e1⟩ (fun hHeld => ?_)
                    simp only [Act.put, List.setIfInBounds_toArray, List.set_cons_zero, List.set_cons_succ]
                    refine take_dst (i := 7) (d := 73) (v := .tuple #[.slice xa N xc, .int .i64 ec]) rfl rfl (by kernel_rfl) (by kernel_rfl) (by kernel_rfl) (fun _ _ _ h => h) (Or.inl ⟨by rfl, ?_⟩) hHeld ?_
                    · (intro w0 hSw; (try dsimp only at hSw); go_simp)
                    simp only [Act.put, List.setIfInBounds_toArray, List.set_cons_zero, List.set_cons_succ]
                    refine take_dst (i := 8) (d := 81) (v := .slice xa N xc) rfl rfl (by kernel_rfl) (by kernel_rfl) (by kernel_rfl) (fun _ _ _ h => h) (Or.inl ⟨by rfl, ?_⟩) hHeld ?_
                    · (intro w0 hSw; (try dsimp only at hSw); go_simp)
                    simp only [Act.put, List.setIfInBounds_toArray, List.set_cons_zero, List.set_cons_succ]
                    refine take_dst (i := 9) (d := 82) (v := .int .i64 ec) rfl rfl (by kernel_rfl) (by kernel_rfl) (by kernel_rfl) (fun _ _ _ h => h) (Or.inl ⟨by rfl, ?_⟩) hHeld ?_
                    · (intro w0 hSw; (try dsimp only at hSw); go_simp)
                    simp only [Act.put, List.setIfInBounds_toArray, List.set_cons_zero, List.set_cons_succ]
                    refine take_dst (i := 10) (d := 12) (v := .slice xa N xc) rfl rfl (by kernel_rfl) (by kernel_rfl) (by kernel_rfl) (fun _ _ _ h => h) (Or.inl ⟨by rfl, ?_⟩) hHeld ?_
                    · (intro w0 hSw; (try dsimp only at hSw); go_simp)
                    simp only [Act.put, List.setIfInBounds_toArray, List.set_cons_zero, List.set_cons_succ]
                    refine take_dst (i := 11) (d := 13) (v := .int .i64 ec) rfl rfl (by kernel_rfl) (by kernel_rfl) (by kernel_rfl) (fun _ _ _ h => h) (Or.inl ⟨by rfl, ?_⟩) hHeld ?_
                    · (intro w0 hSw; (try dsimp only at hSw); go_simp)
                    simp only [Act.put, List.setIfInBounds_toArray, List.set_cons_zero, List.set_cons_succ]
                    clear hHeld
                    have h := st_K.out W' xa N xc ec hBn hBR_n hN_n
                    rw [← hA0.out] at h
                    (try simp only [Act.put, List.setIfInBounds_toArray, List.set_cons_zero, List.set_cons_succ] at h)
                    (try simp only [Act.put, List.setIfInBounds_toArray, List.set_cons_zero, List.set_cons_succ])
                    exact hGi.out _ _ _ _ h
                  exact st_0.out V0 hV0 
                case rest =>
                  obtain ⟨xa, N, xc, ec, rfl, rfl, hBR, hN, hb7⟩ := hcut
                  have hb37 := hb36.trans (hb7.mono hb36.size)
                  have hB7 := hB6.trans (hb7.mono hB6.size)
                  have qX7 := (hb7.block _ (lt_of_heap qX)).trans qX
                  have x2 := cells_at qX7 2 _ rfl
                  clear e0 e1 HBK
                  rcases hBR with ⟨rfl, hb0, hs2, t, hH2, ht2, hNe, _⟩ | ⟨rfl, hcb, _⟩
                  · have HEM : Hid (c.bl.length = 0 → 0 < N → (Coll (cvs ks) ∨ CollB ((bvTo (s0 :: l) (min (l.length + 1) 24)).map BV.w))) := by
                      show _ → _
                      intro h0 hp
                      rcases coll_or HD.out with o | o
                      · rcases HCI.out.1 with g | g
                        · exfalso
                          have e2 := hist_alone HD.out o (by rw [cvs_length]; exact hi) HIR.out hH2
                          rw [e2] at ht2
                          have e3 : (cvAt (cvs ks) i).bl = [] := by
                            rw [← g]
                            show bss c.bl = []
                            exact List.eq_nil_of_length_eq_zero (by rw [bss_length]; exact h0)
                          have e4 : hisB [cvAt (cvs ks) i] = [] := by simp [hisB, e3]
                          rw [e4] at ht2
                          obtain rfl : [] = t := by simpa [txsH] using ht2
                          rw [hNe] at hp
                          simp [onceS] at hp
                        · exact .inl g.2
                      · exact .inl o
                    clear hb0 hH2 ht2 hNe
                    by_cases hc0 : c.bl.length = 0
                    · rw [hc0] at x2
                      by_cases hN0 : 0 < N
                      · have HCO : Hid _ := HEM.out hc0 hN0
                        have hNI : (N : Int) > 0 := by omega
                        clear hc0 hN0
                        go_wp2_with fail
                        go_ret
                        exact ⟨cvs ks, HG.out, .inr ⟨rfl, HCO.out⟩, hB7⟩
                      · have hNI : ¬ ((N : Int) > 0) := by omega
                        clear hc0 hN0
                        go_wp2_with fail
                        go_roundw
                        case rel => exact ⟨m + 1, by omega, by go_num, hb37⟩
                        case measure => simp [intOf]; omega
                    · have hcI : ((c.bl.length : Int) == 0) = false := by rw [beq_eq_false_iff_ne]; omega
                      clear hc0
                      go_wp2_with fail
                      go_roundw
                      case rel => exact ⟨m + 1, by omega, by go_num, hb37⟩
                      case measure => simp [intOf]; omega
                  · have HCO : Hid (Coll (cvs ks) ∨ CollB ((bvTo (s0 :: l) (min (l.length + 1) 24)).map BV.w)) := by
                      right
                      rw [← HBE.out]; exact hcb
                    clear hcb
                    go_wp2_with fail
                    go_ret
                    exact ⟨cvs ks, HG.out, .inr ⟨rfl, HCO.out⟩, hB7⟩
        · have HCO : Hid (Coll (cvs ks) ∨ CollB ((bvTo (s0 :: l) (min (l.length + 1) 24)).map BV.w)) := by
            rcases coll_or HD.out with o | o
            · exfalso
              have h1 := HHG.out.len
              rw [HONE.out o] at h1
              have := HQ.out
              simp at h1
              omega
            · exact .inl o
          have hQI : ((Q : Int) != 1) = true := by simp; omega
          clear hQ1
          obtain ⟨VR, hVR⟩ : ∃ VR, VR = wc := ⟨_, rfl⟩
          subst hVR
          go_upto_region 9 with fail
          go_cut [63] from 31 to 100 (fun v wx => v = .bool true ∧ Below VR.heap.size VR wx)
          case first =>
            have hV0 : Below VR.heap.size VR VR.drew := (Below.refl _ _).drew
            refine wp_region_held_drew (S := fun w' => True) (by kernel_rfl) ⟨⟩ (fun hHeld => ?_)
            generalize VR.drew = V0 at hV0  hHeld ⊢
            refine take_dst (i := 0) (d := 46) (v := .int .i64 0) rfl rfl (by kernel_rfl) (by kernel_rfl) (by kernel_rfl) (fun _ _ _ h => h) (Or.inl ⟨by rfl, ?_⟩) hHeld ?_
            · (intro w0 hSw; (try dsimp only at hSw); go_simp)
            simp only [Act.put, List.setIfInBounds_toArray, List.set_cons_zero, List.set_cons_succ]
            refine take_dst (i := 1) (d := 47) (v := .bool false) rfl rfl (by kernel_rfl) (by kernel_rfl) (by kernel_rfl) (fun _ _ _ h => h) (Or.inl ⟨by rfl, ?_⟩) hHeld ?_
            · (intro w0 hSw; (try dsimp only at hSw); go_simp)
            simp only [Act.put, List.setIfInBounds_toArray, List.set_cons_zero, List.set_cons_succ]
            refine take_dst (i := 2) (d := 48) (v := .bool false) rfl rfl (by kernel_rfl) (by kernel_rfl) (by kernel_rfl) (fun _ _ _ h => h) (Or.inl ⟨by rfl, ?_⟩) hHeld ?_
            · (intro w0 hSw; (try dsimp only at hSw); go_simp)
            simp only [Act.put, List.setIfInBounds_toArray, List.set_cons_zero, List.set_cons_succ]
            refine take_dst (i := 3) (d := 49) (v := .slice ra Q rc) rfl rfl (by kernel_rfl) (by kernel_rfl) (by kernel_rfl) (fun _ _ _ h => h) (Or.inl ⟨by rfl, ?_⟩) hHeld ?_
            · (intro w0 hSw; (try dsimp only at hSw); go_simp)
            simp only [Act.put, List.setIfInBounds_toArray, List.set_cons_zero, List.set_cons_succ]
            refine take_dst (i := 4) (d := 50) (v := .int .i64 (Q : Int)) rfl rfl (by kernel_rfl) (by kernel_rfl) (by kernel_rfl) (fun _ _ _ h => h) (Or.inl ⟨by rfl, ?_⟩) hHeld ?_
            · (intro w0 hSw; (try dsimp only at hSw); go_simp)
            simp only [Act.put, List.setIfInBounds_toArray, List.set_cons_zero, List.set_cons_succ]
            refine take_dst (i := 5) (d := 51) (v := .bool true) rfl rfl (by kernel_rfl) (by kernel_rfl) (by kernel_rfl) (fun _ _ _ h => h) (Or.inl ⟨by rfl, ?_⟩) hHeld ?_
            · (intro w0 hSw; (try dsimp only at hSw); go_simp)
            simp only [Act.put, List.setIfInBounds_toArray, List.set_cons_zero, List.set_cons_succ]
            refine take_dst (i := 6) (d := 52) (v := .bool true) rfl rfl (by kernel_rfl) (by kernel_rfl) (by kernel_rfl) (fun _ _ _ h => h) (Or.inl ⟨by rfl, ?_⟩) hHeld ?_
            · (intro w0 hSw; (try dsimp only at hSw); go_simp)
            simp only [Act.put, List.setIfInBounds_toArray, List.set_cons_zero, List.set_cons_succ]
            refine take_dst (i := 7) (d := 53) (v := .bool true) rfl rfl (by kernel_rfl) (by kernel_rfl) (by kernel_rfl) (fun _ _ _ h => h) (Or.inl ⟨by rfl, ?_⟩) hHeld ?_
            · (intro w0 hSw; (try dsimp only at hSw); go_simp)
            simp only [Act.put, List.setIfInBounds_toArray, List.set_cons_zero, List.set_cons_succ]
            refine take_dst (i := 8) (d := 54) (v := undef) rfl rfl (by kernel_rfl) (by kernel_rfl) (by kernel_rfl) (fun _ _ _ h => h) (Or.inr ⟨by rfl, rfl⟩) hHeld ?_
            simp only [Act.put, List.setIfInBounds_toArray, List.set_cons_zero, List.set_cons_succ]
            refine take_dst (i := 9) (d := 55) (v := undef) rfl rfl (by kernel_rfl) (by kernel_rfl) (by kernel_rfl) (fun _ _ _ h => h) (Or.inr ⟨by rfl, rfl⟩) hHeld ?_
            simp only [Act.put, List.setIfInBounds_toArray, List.set_cons_zero, List.set_cons_succ]
            refine take_dst (i := 10) (d := 56) (v := undef) rfl rfl (by kernel_rfl) (by kernel_rfl) (by kernel_rfl) (fun _ _ _ h => h) (Or.inr ⟨by rfl, rfl⟩) hHeld ?_
            simp only [Act.put, List.setIfInBounds_toArray, List.set_cons_zero, List.set_cons_succ]
            refine take_dst (i := 11) (d := 57) (v := undef) rfl rfl (by kernel_rfl) (by kernel_rfl) (by kernel_rfl) (fun _ _ _ h => h) (Or.inr ⟨by rfl, rfl⟩) hHeld ?_
            simp only [Act.put, List.setIfInBounds_toArray, List.set_cons_zero, List.set_cons_succ]
            refine take_dst (i := 12) (d := 58) (v := undef) rfl rfl (by kernel_rfl) (by kernel_rfl) (by kernel_rfl) (fun _ _ _ h => h) (Or.inr ⟨by rfl, rfl⟩) hHeld ?_
            simp only [Act.put, List.setIfInBounds_toArray, List.set_cons_zero, List.set_cons_succ]
            refine take_dst (i := 13) (d := 59) (v := undef) rfl rfl (by kernel_rfl) (by kernel_rfl) (by kernel_rfl) (fun _ _ _ h => h) (Or.inr ⟨by rfl, rfl⟩) hHeld ?_
            simp only [Act.put, List.setIfInBounds_toArray, List.set_cons_zero, List.set_cons_succ]
            refine take_dst (i := 14) (d := 60) (v := undef) rfl rfl (by kernel_rfl) (by kernel_rfl) (by kernel_rfl) (fun _ _ _ h => h) (Or.inr ⟨by rfl, rfl⟩) hHeld ?_
            simp only [Act.put, List.setIfInBounds_toArray, List.set_cons_zero, List.set_cons_succ]
            refine take_dst (i := 15) (d := 61) (v := undef) rfl rfl (by kernel_rfl) (by kernel_rfl) (by kernel_rfl) (fun _ _ _ h => h) (Or.inr ⟨by rfl, rfl⟩) hHeld ?_
            simp only [Act.put, List.setIfInBounds_toArray, List.set_cons_zero, List.set_cons_succ]
            refine take_dst (i := 16) (d := 62) (v := undef) rfl rfl (by kernel_rfl) (by kernel_rfl) (by kernel_rfl) (fun _ _ _ h => h) (Or.inr ⟨by rfl, rfl⟩) hHeld ?_
            simp only [Act.put, List.setIfInBounds_toArray, List.set_cons_zero, List.set_cons_succ]
            refine take_dst (i := 17) (d := 63) (v := .bool true) rfl rfl (by kernel_rfl) (by kernel_rfl) (by kernel_rfl) (fun _ _ _ h => h) (Or.inl ⟨by rfl, ?_⟩) hHeld ?_
            · (intro w0 hSw; (try dsimp only at hSw); go_simp)
            simp only [Act.put, List.setIfInBounds_toArray, List.set_cons_zero, List.set_cons_succ]
            clear hHeld
            refine any_named (fun GO hGo hGi => ?_)
            refine act_named (fun A0 hA0 => ?_)
            have st_0 : Hid (∀ (V : World), Below VR.heap.size VR V → GO 0 #[true, true, true, true, true, true, true, true, true, true, true, true, true, true, true, true, true, true] A0 V) := by
              show ∀ V, _
              intro V  hB 
              refine hGo.out _ _ _ _ ?_
              rw [← hA0.out]
              try simp only [Act.put, List.setIfInBounds_toArray, List.set_cons_zero, List.set_cons_succ]
              refine wpAnyH_done (by kernel_rfl) ?_ _
              go_wp2_with fail
              go_meet
              case rel => exact ⟨rfl, hB⟩
            exact st_0.out V0 hV0 
          case rest =>
            obtain ⟨rfl, hb5⟩ := hcut
            have hB5 := hB4.trans (hb5.mono hB4.size)
            go_wp2_with fail
            go_ret
            exact ⟨cvs ks, HG.out, .inr ⟨rfl, HCO.out⟩, hB5⟩
    · obtain rfl : m = ds.length := by omega
      go_wp2_with fail
      go_ret
      exact ⟨cvs ks, HG.out, .inl rfl, hBr⟩
set_option maxRecDepth 100000 in
theorem historyOne_walk (sa : Option Addr) (cap : Nat) (l : List Stp) (w : World) (hl : StepsAt w sa l) (hcl : l.length ≤ cap) (hc0 : sa = none → cap = 0) (hc1 : l.length * 24 ≤ 140737488351232) (hT : Tabs w) :
    Calls Tryd.prog 9 #[.slice sa l.length cap] w fun e w' => e = .returned (.bool true) ∧ Below w.heap.size w w' := by
  have H := historyOne_any sa cap l w hl hcl hc0 hc1 hT
  go_enter Tryd.func9, Tryd.ntmps9
  go_wp2_with fail
  refine H.mono ?_
  rintro e w1 ⟨cc, hG, hor, hb1⟩
  rcases hor with he | ⟨he, hco⟩
  · subst he
    dsimp only
    go_wp2_with fail
    go_ret
    exact ⟨rfl, hb1⟩
  · subst he
    dsimp only
    have H2 := grownSum_all l [] sa cap none 0 w1 cc (hl.below hb1) hcl hc0 hc1 ⟨.inl rfl, fun s hs => by cases hs⟩ (Nat.le_refl _) (fun _ => rfl) (by decide) hG (fun cx _ => hco.imp (coll_left cx) (collB_left _)) (hT.below hb1)
    clear H hG hcl hc0 hc1 hco
    go_wp2_with fail
    refine H2.mono ?_
    rintro e w2 ⟨he, hb2⟩
    subst he
    dsimp only
    go_wp2_with fail
    go_ret
    exact ⟨rfl, hb1.trans (hb2.mono hb1.size)⟩
end Go.Proofs.YtbmodfegcmaieaaDoor

namespace Go.Proofs.YtbmodfegcmaieaaDoor
open Go.RowKit

set_option maxRecDepth 100000 in
/-- An array of arrays of integers that reads as a table of rows holds the rows' numbers, cell for cell. -/
theorem cells_of_tab2 {H : Type} {enc : TypeId × Value → H} {P : Program} {w : World} {base : Nat} {sp : Nat → Bool} {held : Bool} {fuel : Nat} {t e i : TypeId} {n m : Nat} {k : IntKind} {cs : List Value} {rows : List (List Int)} {p : List MemPlace}
    (ht : P.underlying t = some (.array n e)) (he : P.underlying e = some (.array m i)) (hi : P.underlying i = some (.int k)) (hci : P.cellsOf i = 1) (hce : P.cellsOf e = m) (hm : 0 < m)
    (h : DataW.trod enc P w base sp held fuel t cs = some (.agg (rows.map (Lib.tabData k)), p)) (q : Nat) (hq : q < n * m) : cs[q]? = ((rows.getD (q / m) []).map (Value.int k))[q % m]? := by
  obtain ⟨xs, f, rfl, hx, hl, hn, hr⟩ := DataW.trod_array ht h
  have hin : q / m < n := Nat.div_lt_of_lt_mul (by rw [Nat.mul_comm]; exact hq)
  have hrow := hr (q / m) hin
  have hxs : xs.map (·.1) = rows.map (Lib.tabData k) := by
    have := congrArg Prod.fst hx
    simpa using this.symm
  have hg : (xs.map (·.1))[q / m]? = some (xs[q / m]'(by omega)).1 := by simp [hn, hin]
  rw [hxs] at hg
  simp only [List.getElem?_map, Option.map_eq_some_iff] at hg
  obtain ⟨r, hr1, hr2⟩ := hg
  rw [List.getElem?_eq_getElem (by omega), hce] at hrow
  have hrow' : DataW.trod enc P w base sp held f e ((cs.drop (q / m * m)).take m) = some (Lib.tabData k r, (xs[q / m]'(by omega)).2) := by
    rw [hrow, hr2]
  have hc := Lib.cells_of_tab he hi hci hce hrow'
  have hj : q % m < m := Nat.mod_lt _ hm
  have e1 : ((cs.drop (q / m * m)).take m)[q % m]? = cs[q]? := by
    rw [List.getElem?_take, if_pos hj, List.getElem?_drop, Nat.mul_comm, Nat.div_add_mod]
  rw [← e1, hc]
  simp [List.getD, hr1]

set_option maxRecDepth 100000 in
theorem tFirst : (Tryd.prog.globals[0]?).map (·.type) = some 142 := by kernel_rfl
set_option maxRecDepth 100000 in
theorem tOrders : (Tryd.prog.globals[1]?).map (·.type) = some 172 := by kernel_rfl
set_option maxRecDepth 100000 in
theorem tLanes : (Tryd.prog.globals[2]?).map (·.type) = some 174 := by kernel_rfl
set_option maxRecDepth 100000 in
theorem cU32 : Tryd.prog.cellsOf 141 = 1 := by kernel_rfl
set_option maxRecDepth 100000 in
theorem c8U32 : Tryd.prog.cellsOf 142 = 8 := by kernel_rfl
set_option maxRecDepth 100000 in
theorem c16U8 : Tryd.prog.cellsOf 171 = 16 := by kernel_rfl
set_option maxRecDepth 100000 in
theorem c4U8 : Tryd.prog.cellsOf 173 = 4 := by kernel_rfl
def ordRows : List (List Int) := [[0, 1, 2, 3, 4, 5, 6, 7, 8, 9, 10, 11, 12, 13, 14, 15], [14, 10, 4, 8, 9, 15, 13, 6, 1, 12, 0, 2, 11, 7, 5, 3], [11, 8, 12, 0, 5, 2, 15, 13, 10, 14, 3, 6, 7, 1, 9, 4], [7, 9, 3, 1, 13, 12, 11, 14, 2, 6, 5, 10, 4, 0, 15, 8], [9, 0, 5, 7, 2, 4, 10, 15, 14, 1, 11, 12, 6, 8, 3, 13], [2, 12, 6, 10, 0, 11, 8, 3, 4, 13, 7, 5, 15, 14, 1, 9], [12, 5, 1, 15, 14, 13, 4, 10, 0, 7, 6, 3, 9, 2, 8, 11], [13, 11, 7, 14, 12, 1, 3, 9, 5, 0, 15, 4, 8, 6, 2, 10], [6, 15, 14, 9, 11, 3, 0, 8, 12, 2, 13, 7, 1, 4, 10, 5], [10, 2, 8, 4, 7, 6, 1, 5, 15, 11, 9, 14, 3, 12, 13, 0]]
def laneRows : List (List Int) := [[0, 4, 8, 12], [1, 5, 9, 13], [2, 6, 10, 14], [3, 7, 11, 15], [0, 5, 10, 15], [1, 6, 11, 12], [2, 7, 8, 13], [3, 4, 9, 14]]
set_option maxRecDepth 100000 in
theorem ordRows_flat : ∀ q, q < 160 → (ordRows.getD (q / 16) [])[q % 16]? = some ((ordF.getD q 0 : Nat) : Int) := by decide +kernel
set_option maxRecDepth 100000 in
theorem laneRows_flat : ∀ q, q < 32 → (laneRows.getD (q / 4) [])[q % 4]? = some ((laneF.getD q 0 : Nat) : Int) := by decide +kernel
set_option maxRecDepth 100000 in
theorem dFirst : Rows.laid_sheaves_blake_firstWords (H := Unit) = Lib.tabData .u32 fw := rfl
set_option maxRecDepth 100000 in
theorem dOrders : Rows.laid_sheaves_blake_orders (H := Unit) = .agg (ordRows.map (Lib.tabData .u8)) := rfl
set_option maxRecDepth 100000 in
theorem dLanes : Rows.laid_sheaves_blake_lanes (H := Unit) = .agg (laneRows.map (Lib.tabData .u8)) := rfl

set_option maxRecDepth 100000 in
theorem tabs_of_laid {W : World} {n1 n2 n3 : String} (gFirst : Tryd.prog.globalNamed n1 = some 0) (gOrders : Tryd.prog.globalNamed n2 = some 1) (gLanes : Tryd.prog.globalNamed n3 = some 2)
    (h : laidMetH Tryd.prog [(n1, Rows.laid_sheaves_blake_firstWords), (n2, Rows.laid_sheaves_blake_orders), (n3, Rows.laid_sheaves_blake_lanes)] W) : Tabs W := by
  have h1 : laidMet Tryd.prog [(n1, Rows.laid_sheaves_blake_firstWords), (n2, Rows.laid_sheaves_blake_orders), (n3, Rows.laid_sheaves_blake_lanes)] W := h
  clear h
  have h2 := h1.tail
  have h3 := h2.tail
  rw [dFirst] at h1
  rw [dOrders] at h2
  rw [dLanes] at h3
  have t1 := Lib.tabIs_of_head gFirst tFirst Tryd.underlying142 Tryd.underlying141 cU32 c8U32 h1
  refine ⟨fun i hi => t1.cell gFirst i hi, fun i hi => ?_, fun i hi => ?_⟩
  · obtain ⟨ps, ⟨g', t', cs, fuel, p, q, hg', ht', hvar, hd, _, _⟩, _⟩ := h2
    obtain rfl := Option.some.inj (gOrders.symm.trans hg')
    obtain rfl := Option.some.inj (tOrders.symm.trans ht')
    have hc := World.var?_cell gOrders hvar i
    have he := cells_of_tab2 Tryd.underlying172 Tryd.underlying171 Tryd.underlying5 cU8 c16U8 (by decide) hd i hi
    rw [hc]
    have := ordRows_flat i hi
    simp only [List.getElem?_map, this, Option.map_some] at he
    simpa using he
  · obtain ⟨ps, ⟨g', t', cs, fuel, p, q, hg', ht', hvar, hd, _, _⟩, _⟩ := h3
    obtain rfl := Option.some.inj (gLanes.symm.trans hg')
    obtain rfl := Option.some.inj (tLanes.symm.trans ht')
    have hc := World.var?_cell gLanes hvar i
    have he := cells_of_tab2 Tryd.underlying174 Tryd.underlying173 Tryd.underlying5 cU8 c4U8 (by decide) hd i hi
    rw [hc]
    have := laneRows_flat i hi
    simp only [List.getElem?_map, this, Option.map_some] at he
    simpa using he
end Go.Proofs.YtbmodfegcmaieaaDoor

namespace Go.Proofs.YtbmodfegcmaieaaDoor
open Go.ChangeShapes Go.WideShapes Go.ChangeAt Go.RowKit

/-- What the initialisers of the three tables lay, in the first blocks. -/
def layBlock (c : Array Value) : Obj → Obj
  | .cells _ t frozen => .cells c t frozen
  | o => o
def layTabs (w : World) : World :=
  { w with heap := ((w.heap.modify 0 (layBlock (ua fw))).modify 1 (layBlock (ub (ordF.map Int.ofNat)).toArray)).modify 2 (layBlock (ub (laneF.map Int.ofNat)).toArray) }
end Go.Proofs.YtbmodfegcmaieaaDoor

namespace Go.Proofs.YtbmodfegcmaieaaDoor.historyOne
open Go.ChangeShapes Go.WideShapes Go.ChangeAt Go.RowKit

set_option maxRecDepth 100000 in
/-- What the walk gives, for every argument and every world that holds the tables. -/
theorem contract (H : Type) (enc : TypeId × Value → H) (W : World) (base : Nat) (args : Array Value) (ds gs : List (DataW H)) (before : List MemPlace)
    (hval : ∀ (j : Nat) t v, Tryd.f9.params[j]? = some t → args[j]? = some v → Value.okWide Tryd.prog W .any base t v)
    (hW : DataW.Whole enc Tryd.prog Tryd.f9.params.toList Rows.historyOneSpec.vars false W args.toList ds gs before) (hsz : (DataW.weightsEach Tryd.prog (Tryd.f9.params.toList ++ (OpenSpec.ofChange Rows.historyOneSpec).bare.plain.varTypes Tryd.prog) (ds ++ gs)).all (· ≤ reachBytes) = true) (hL : laidMetH Tryd.prog Rows.historyOneRow.laid W) :
    Calls Tryd.prog 9 args W fun e W' => ∃ v, e = .returned v ∧ Rows.historyOneSpec.post enc Tryd.prog Tryd.f9 false true false false W args v W' := by
  have hW' := hW
  obtain ⟨p, q, hA0, hV, rfl, hfz, hnd⟩ := hW
  have hA : DataW.TrodAll enc Tryd.prog W 0 (fun _ => true) true Tryd.f9.params.toList args.toList ds p := hA0
  rw [Tryd.params9] at hA hval hsz
  obtain ⟨v0, vs0, d0, ds0, p0, q0, hargs, rfl, rfl, h0, r0⟩ := trodAll_cons hA
  obtain ⟨rfl, rfl, rfl⟩ := trodAll_nil r0
  obtain rfl : args = #[v0] := by cases args; simp_all
  obtain ⟨rfl, rfl⟩ := trodVars_none hV
  have k0 := h0
  have lt0 : ∀ x ∈ p0, x.block < W.heap.size := by obtain ⟨m, hm⟩ := k0; exact DataW.trod_lt m _ _ _ hm
  obtain ⟨sa0, cap0, l0, rfl, q0_0, q0_1, q0_2, q0_3⟩ := open_steps (hval 0 27 v0 rfl rfl) h0 (fit_each hsz (j := 0) rfl rfl)
  clear hA0
  have hT : Tabs W := tabs_of_laid (by kernel_rfl) (by kernel_rfl) (by kernel_rfl) hL
  refine (historyOne_walk sa0 cap0 l0 W q0_0 q0_1 q0_2 q0_3 hT).mono fun e W' ⟨he, bel⟩ => ?_
  subst he
  exact ⟨_, rfl, _, _, _, [], _, [], hW', trodAll_mk1 (shut_bool Tryd.underlying4 _), (trodAll_cons_mk (Below.trod laidOut (by kernel_rfl) (of_decide_eq_true (by kernel_rfl)) k0 bel lt0) trodAll_mk0), rfl, bel.frame _, fun h => by cases h⟩

set_option maxRecDepth 100000 in
theorem laid_met (os : Os) : laidMet Tryd.prog Rows.historyOneRow.laid ((layTabs (World.holding Tryd.prog os ⟨#[], #[], []⟩)).forCall (fun _ _ => 0) ⟨#[], #[.slice none 0 0], []⟩).memory :=
  laidMet_of_run' 8 (by kernel_rfl) (by kernel_rfl)
set_option maxRecDepth 100000 in
theorem reads (os : Os) {H : Type} (enc : TypeId × Value → H) : ∃ places, DataW.whole enc Tryd.prog ((layTabs (World.holding Tryd.prog os ⟨#[], #[], []⟩)).forCall (fun _ _ => 0) ⟨#[], #[.slice none 0 0], []⟩).memory Tryd.f9.params.toList Rows.historyOneSpec.vars false (#[.slice none 0 0] : Array Value).toList 8 = some ([.nil], [], places) :=
  ⟨[], by kernel_rfl⟩

set_option maxRecDepth 100000 in
theorem lifted (os : Os) (started : os.Started) (H : Type) (enc : TypeId × Value → H) (F : Stop.Interp) :
    ReturnsInHanded {} Tryd.checked os 9 .any ((OpenSpec.ofChange Rows.historyOneSpec).preRow enc Tryd.prog Tryd.f9 Rows.historyOneRow.domain false Rows.historyOneRow.laid) (((OpenSpec.ofChange Rows.historyOneSpec).at F).post enc Tryd.prog Tryd.f9 false true false false) := by
  obtain ⟨places, hx⟩ := reads os enc
  refine returnsInHanded_of_row (C := Tryd.checked) (s := OpenSpec.ofChange Rows.historyOneSpec) own started (by kernel_rfl) Tryd.func9
    (witness_row_at (enc := enc) (C := Tryd.checked) false (layTabs (World.holding Tryd.prog os ⟨#[], #[], []⟩)) #[.slice none 0 0] rfl (by kernel_rfl) (by kernel_rfl) (by kernel_rfl)
      (OpenSpec.preRow_of_cond 8 hx (by kernel_rfl) (fun k hk => by cases hk) (by kernel_rfl) (laid_met os))) ?_
  intro W base args ds gs before hval hW _ _ hsz hL _ _
  exact contract H enc W base args ds gs before hval hW hsz hL

set_option maxRecDepth 100000 in
theorem said : Rows.HistoryOneSaid :=
  OpenClaim.holds_of_cond 9 Tryd.f9 rfl rfl rfl rfl rfl rfl rfl ⟨rfl, rfl, rfl, rfl, rfl⟩ rfl rfl rfl rfl rfl (by kernel_rfl) Tryd.func9 (by kernel_rfl)
    (of_decide_eq_true (by kernel_rfl)) (by unfold Func.isWrapper; first | (rw [if_pos (by decide +kernel)]; kernel_rfl) | (rw [if_neg (by decide +kernel)]; exact ⟨rfl, rfl⟩))
    (fun os started H enc _ F => by rw [OpenClaim.pre_eq_preRow]; exact lifted os started H enc F)

set_option maxRecDepth 100000 in
theorem plain (f : FuncId) (fn : Func) (hf : Tryd.pinned.checked.prog.funcNamed Rows.historyOneRow.func = some f) (hfn : Tryd.pinned.checked.prog.funcs[f]? = some fn) :
    false = Tryd.pinned.checked.prog.looks [] ∧ ∀ (j : Nat) t, fn.params[j]? = some t → Tryd.pinned.checked.prog.wantsStandIn t = false := by
  obtain rfl : f = 9 := Option.some.inj ((show Tryd.prog.funcNamed Rows.historyOneRow.func = some 9 by kernel_rfl).symm.trans hf) |>.symm
  obtain rfl : fn = Tryd.f9 := (Option.some.inj (Tryd.func9.symm.trans hfn)).symm
  refine ⟨by kernel_rfl, fun j t ht => ?_⟩
  rw [Tryd.params9] at ht
  have hm : t = 27 := by simpa using Array.mem_of_getElem? ht
  rcases hm with rfl
  · exact (show Tryd.prog.wantsStandIn 27 = false by kernel_rfl)

set_option maxRecDepth 100000 in
/-- THE CARD. -/
theorem card : Rows.HistoryOneCardSaid :=
  Claim7.holds_tied_plain_at .later [] _ _ _ _ said (fun _ h => by cases h) (by kernel_rfl) (fun _ h => by cases h) historyOne_row_tie rfl ⟨rfl, rfl⟩ (by kernel_rfl) rfl plain (by kernel_rfl)
end Go.Proofs.YtbmodfegcmaieaaDoor.historyOne
namespace Go.Proofs.YtbmodfegcmaieaaDoor
set_option maxRecDepth 100000 in
theorem historyOne_holds : Rows.HistoryOneCardSaid := historyOne.card
#print axioms historyOne_holds
end Go.Proofs.YtbmodfegcmaieaaDoor
