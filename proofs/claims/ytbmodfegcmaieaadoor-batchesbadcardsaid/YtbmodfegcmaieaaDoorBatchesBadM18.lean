/- The texts of raw batches: cut and tx. -/
import Derived.Test.YtbmodfegcmaieaaDoorQKSumB
import Derived.Test.YtbmodfegcmaieaaDoorBatchesBadM6
import Derived.Test.YtbmodfegcmaieaaDoorBatchesBadM12
import Derived.Test.YtbmodfegcmaieaaDoorGBtRow
import Derived.Test.YtbmodfegcmaieaaDoorGSteps
import Derived.Deep.Strs
import Derived.Deep.Slices
import Derived.Test.YtbmodfegcmaieaaDoorGAppR
import Derived.Laws.Strings
namespace Go.Proofs.YtbmodfegcmaieaaDoor
open Go.RowKit

set_option maxRecDepth 100000 in
/-- The batches of a grown dag, as Block reads them. -/
theorem bws_bc (bl : List Bt) : bws (bl.map Bt.bc) = bcv bl := by simp [bws, bcv, Bt.bc]
/-- What is told of the batches of a grown dag. -/
structure BatG (l : List CV) (bl : List BW) : Prop where
  ok : bsF bl = 0 ∨ CollB bl
  has : ∀ c ∈ l, ∀ d ∈ c.bl, hasB bl d = true
  f : ∀ b ∈ bl, b.f = 0
  nums : bl.Pairwise (fun a b => a.nu < b.nu)
  len : bl.length ≤ 60
set_option maxRecDepth 100000 in
theorem batG_of {l : List Stp} {k : Nat} {c : List CV} (hG : GrownTo l k c) (hk : k ≤ 24) : BatG c ((bvTo l k).map BV.w) := by
  have hf : ∀ b ∈ (bvTo l k).map BV.w, b.f = 0 := fun b hb => by
    obtain ⟨x, hx, rfl⟩ := List.mem_map.1 hb
    exact bvTo_f (by omega) x hx
  have hn : ((bvTo l k).map BV.w).Pairwise (fun a b => a.nu < b.nu) := by
    rw [List.pairwise_map]; exact bvTo_nums l k
  have hl : ((bvTo l k).map BV.w).length ≤ 60 := by rw [List.length_map]; have := bvTo_length l k; omega
  refine ⟨bsF_or_coll (by omega) hf hn, fun x hx d hd => ?_, hf, hn, hl⟩
  obtain ⟨b, hb, rfl⟩ := hG.batches x hx d hd
  exact List.any_eq_true.2 ⟨b.w, List.mem_map.2 ⟨b, hb, rfl⟩, by simp [BV.w_d]⟩
/-- What Block answers for a digest of the dag. -/
def BlkR (w : World) (l : List CV) (bl : List BW) (k : List Int) (xa : Option Addr) (N : Nat) (ec : Int) : Prop :=
  (ec = 0 ∧ bsF bl = 0 ∧ ∃ hs t, HistIs l k hs ∧ txsH bl (hisB hs) = some t ∧ N = (onceS [] t).length ∧ StrsAt w xa (onceS [] t)) ∨ (ec = 12 ∧ CollB bl ∧ N = 0)
set_option maxRecDepth 100000 in
theorem BlkR.below {w w' : World} {l : List CV} {bl : List BW} {k : List Int} {xa : Option Addr} {N : Nat} {ec : Int} (h : BlkR w l bl k xa N ec) (hb : Below w.heap.size w w') : BlkR w' l bl k xa N ec := by
  rcases h with ⟨h1, h2, hs, t, h3, h4, h5, h6⟩ | h
  · exact .inl ⟨h1, h2, hs, t, h3, h4, h5, h6.below hb⟩
  · exact .inr h
set_option maxRecDepth 100000 in
theorem hisB_has {l : List CV} {bl : List BW} (hG : BatG l bl) {k : List Int} {hs : List CV} (H : HistIs l k hs) : ∃ t, txsH bl (hisB hs) = some t := by
  refine txsH_some (fun d hd => ?_)
  obtain ⟨c, hc, hd2⟩ := hisB_mem.1 hd
  obtain ⟨j, h1, _, h3⟩ := (H.mem _).1 hc
  rw [bOf_some]
  exact hG.has _ (cvAt_mem h1) _ (by rw [← h3]; exact hd2)
set_option maxRecDepth 100000 in
theorem once_small {l : List CV} (hF : dagF l = 0) (h24 : l.length ≤ 24) {bl : List BW} (hB : bsF bl = 0) {k : List Int} {hs : List CV} (H : HistIs l k hs) {t : List ByteArray} (ht : txsH bl (hisB hs) = some t) : (onceS [] t).length ≤ 288 ∧ ∀ s ∈ onceS [] t, s.size ≤ 20 := by
  obtain ⟨h1, h2⟩ := txsH_small hB ht
  have h3 := hisB_length (hs := hs) (fun c hc => by
    obtain ⟨j, j1, _, j3⟩ := (H.mem _).1 hc
    rw [j3]; exact (f_small (dagF_f hF j j1)).1)
  have h4 := hist_len H
  have h5 := onceS_len t []
  simp only [List.length_nil, Nat.zero_add] at h5
  exact ⟨by omega, fun s hs => h2 s ((onceS_iff t s).1 hs)⟩
set_option maxRecDepth 100000 in
theorem blk_at (ks : List Ct) (ka : Option Addr) (kc i : Nat) (bl : List Bc) (ba : Option Addr) (bn bc : Nat) (p : Part) (w : World) (hF : dagF (cvs ks) = 0) (h24 : ks.length ≤ 24) (hi : i < ks.length) (hd : DagAt w ka kc ks) (hbn : bn = bl.length) (hb : BcsAt w ba bl) (hG : BatG (cvs ks) (bws bl)) (hp : SliceAt w p.sa p.cap p.bs) (hpd : p.bs = (cvAt (cvs ks) i).d) (h32 : p.bs.length = 32) (hT : Tabs w) :
    Calls Tryd.prog 41 #[.agg #[.slice ka ks.length kc], .slice ba bn bc, .slice p.sa 32 p.cap] w fun e w' => (∃ (xa : Option Addr) (N xc : Nat) (ec : Int), e = .returned (.tuple #[.slice xa N xc, .int .i64 ec]) ∧ BlkR w' (cvs ks) (bws bl) (cvAt (cvs ks) i).d xa N ec ∧ N ≤ 288) ∧ Below w.heap.size w w' := by
  refine (block_any ks ka _ kc bl ba bn bc p.bs p.sa 32 p.cap w rfl hbn h32.symm hd hb hp hT).mono ?_
  intro e w' hO
  have hps := (pOf_self (l := cvs ks) (i := i) (by rw [cvs_length]; exact hi)).1
  rw [hpd] at hO
  refine ⟨?_, hO.below⟩
  rcases hO.out with ⟨ec, _, h | h⟩ | ⟨_, _, ⟨h12, he⟩ | ⟨h0, hs, hH, ⟨hno, _⟩ | ⟨t, v, ht, he, ho⟩⟩⟩
  · rw [hF] at h; cases h.1
  · omega
  · refine ⟨none, 0, 0, 12, he, .inr ⟨rfl, ?_, rfl⟩, by omega⟩
    rcases hG.ok with g | g
    · rw [g] at h12; cases h12
    · exact g
  · obtain ⟨t, ht⟩ := hisB_has hG hH
    rw [ht] at hno; cases hno
  · have hsm := once_small hF (by rw [cvs_length]; exact h24) h0 hH ht
    obtain ⟨xa, xc, rfl, hst⟩ := strs_of_owns ho (fun s hs => by have := hsm.2 s hs; unfold maxLen; omega)
    exact ⟨xa, _, xc, 0, he, .inl ⟨rfl, h0, hs, t, hH, ht, rfl, hst⟩, hsm.1⟩
set_option maxRecDepth 100000 in
theorem parentsF_one {rd : Int} {n : Nat} (h : parentsF rd n = 0) : (rd = 1 → n = 0) ∧ (1 < rd → 3 ≤ n) := by
  unfold parentsF at h
  split at h
  · cases h
  · rename_i g
    simp only [not_or, not_and, Nat.not_lt] at g
    exact ⟨fun e => by have := g.1 e; omega, fun e => by have := g.2 e; omega⟩
set_option maxRecDepth 100000 in
theorem f_parents {c : CV} (h : c.f = 0) : parentsF c.rd c.pl.length = 0 := by
  have h1 := certF_head (vl := c.vl) h
  unfold headerF at h1
  split at h1
  · cases h1
  · split at h1
    · cases h1
    · split at h1
      · contradiction
      · split at h1
        · contradiction
        · rw [show (pz c.pl).length = c.pl.length by simp [pz]] at h1; exact h1
set_option maxRecDepth 100000 in
/-- The first certificate of a dag is of the first round. -/
theorem dag_first {l : List CV} (h : dagF l = 0) (hl : 0 < l.length) : (cvAt l 0).rd = 1 := by
  have hp := parentsF_one (f_parents (dagF_f h 0 hl))
  by_cases h1 : (cvAt l 0).rd = 1
  · exact h1
  · have hr := (f_round (dagF_f h 0 hl)).1
    have := hp.2 (by omega)
    have h2 := (dag_parent h hl (k := 0) (by omega)).1
    have h3 := pOf_bounds (l.take 0) ((cvAt l 0).pl.getD 0 [])
    have e : (l.take 0).length = 0 := by simp
    rw [e] at h3
    omega
set_option maxRecDepth 100000 in
theorem dgA_mem {l : List CV} {rd : Int} {a : Nat} : ∀ n, a < n → 0 ≤ cOf l a rd → a ∈ dgA l rd n
  | 0, h, _ => by omega
  | n + 1, h, hc => by
    rw [dgA]
    rcases Nat.lt_or_ge a n with g | g
    · have := dgA_mem n g hc
      split
      · exact List.mem_append.2 (.inl this)
      · exact this
    · obtain rfl : a = n := by omega
      rw [if_pos hc]; simp
set_option maxRecDepth 100000 in
theorem dgF_first {l : List CV} (h : dagF l = 0) (hl : 0 < l.length) : 0 < (dgF l 1).length := by
  have h1 := dag_first h hl
  have ha := f_author (dagF_f h 0 hl)
  have hc := cOf_at hl
  rw [h1] at hc
  have e : (cvAt l 0).au = (((cvAt l 0).au.toNat : Nat) : Int) := by omega
  rw [e] at hc
  have := dgA_mem (l := l) (rd := 1) 4 (by omega) hc
  rw [dgF, dgA_map, List.length_map]
  exact List.length_pos_of_mem this
set_option maxRecDepth 100000 in
/-- What stands on nothing has itself alone as its history. -/
theorem hist_alone {l : List CV} (h : dagF l = 0) (ho : OneD l) {n : Nat} (hn : n < l.length) (hr : (cvAt l n).rd = 1) {hs : List CV} (H : HistIs l (cvAt l n).d hs) : hs = [cvAt l n] := by
  refine up_ext (fun c => ?_) H.up (List.pairwise_singleton _ _)
  rw [H.mem]
  constructor
  · rintro ⟨j, j1, j2, rfl⟩
    rcases sel_round h ho hn (l.length - j) j (by omega) j1 j2 with g | g
    · subst g; simp
    · have := (f_round (dagF_f h j j1)).1
      omega
  · intro hc
    obtain rfl : c = cvAt l n := by simpa using hc
    exact ⟨n, hn, sel_self hn, rfl⟩
set_option maxRecDepth 100000 in
theorem coll_left {c : List CV} (x : List CV) (h : Coll c) : Coll (c ++ x) := by
  obtain ⟨K, I, h1, h2, h3, h4⟩ := h
  have e : ∀ j, j < c.length → cvAt (c ++ x) j = cvAt c j := fun j hj => by simp [cvAt, List.getD, List.getElem?_append_left hj]
  refine ⟨K, I, h1, by rw [List.length_append]; omega, ?_, ?_⟩
  · rw [e I h2, e K (by omega)]; exact h3
  · rw [e I h2, e K (by omega)]; exact h4
set_option maxRecDepth 100000 in
theorem collB_left {c : List BW} (x : List BW) (h : CollB c) : CollB (c ++ x) := by
  obtain ⟨K, I, h1, h2, h3, h4⟩ := h
  have e : ∀ j, j < c.length → (c ++ x).getD j ⟨0, 0, []⟩ = c.getD j ⟨0, 0, []⟩ := fun j hj => by simp [List.getD, List.getElem?_append_left hj]
  refine ⟨K, I, h1, by rw [List.length_append]; omega, ?_, ?_⟩
  · rw [e I h2, e K (by omega)]; exact h3
  · rw [e I h2, e K (by omega)]; exact h4
end Go.Proofs.YtbmodfegcmaieaaDoor

namespace Go.Proofs.YtbmodfegcmaieaaDoor
open Go.RowKit

set_option maxRecDepth 100000 in
theorem hist_sub {l : List CV} (h : dagF l = 0) (ho : OneD l) {k : List Int} {n : Nat} (hn : n < l.length) (hs : sel l k n) {h1 h2 : List CV} (H1 : HistIs l (cvAt l n).d h1) (H2 : HistIs l k h2) : ∀ c ∈ h1, c ∈ h2 := by
  intro c hc
  obtain ⟨i, i1, i2, rfl⟩ := (H1.mem _).1 hc
  exact (H2.mem _).2 ⟨i, i1, sel_trans h ho hn hs (l.length - i) i (by omega) i1 i2, rfl⟩
set_option maxRecDepth 100000 in
theorem blk_sub {bl : List BW} {h1 h2 : List CV} (h : ∀ c ∈ h1, c ∈ h2) {t1 t2 : List ByteArray} (e1 : txsH bl (hisB h1) = some t1) (e2 : txsH bl (hisB h2) = some t2) : ∀ s ∈ onceS [] t1, s ∈ onceS [] t2 := by
  intro s hs
  rw [onceS_iff] at hs ⊢
  obtain ⟨d, hd, b, hb, hsb⟩ := (txsH_mem e1 s).1 hs
  obtain ⟨c, hc, hdc⟩ := hisB_mem.1 hd
  exact (txsH_mem e2 s).2 ⟨d, hisB_mem.2 ⟨c, h c hc, hdc⟩, b, hb, hsb⟩
set_option maxRecDepth 100000 in
theorem str_eq (x y : ByteArray) : (x.toList == y.toList) = decide (x = y) := by
  rw [Bool.eq_iff_iff]
  simp only [beq_iff_eq, decide_eq_true_eq]
  exact ⟨fun h => ba_ext h, fun h => by rw [h]⟩
set_option maxRecDepth 100000 in
/-- Where a parent of the n'th one stands. -/
theorem parent_of {l : List CV} (h : dagF l = 0) (hu : ∀ x ∈ l, U8C x) {n : Nat} (hn : n < l.length) {p : List Int} (hp : p ∈ (cvAt l n).pl) : ∃ q, q < n ∧ (cvAt l q).d = p := by
  obtain ⟨q, q1, q2, _⟩ := parent_at h hn hp
  exact ⟨q, q1, bstr_inj (CV.d_u8 _) ((hu _ (cvAt_mem hn)).2 p hp) q2⟩
set_option maxRecDepth 100000 in
theorem inO_take {s : ByteArray} {ss : List ByteArray} {k : Nat} (hk : k < ss.length) : inO s (ss.take (k + 1)) = (inO s (ss.take k) || decide (ss[k] = s)) := by
  rw [inO, List.take_succ_eq_append_getElem hk, List.any_append, List.any_cons, List.any_nil, Bool.or_false]
  rfl
end Go.Proofs.YtbmodfegcmaieaaDoor

namespace Go.Proofs.YtbmodfegcmaieaaDoor
open Go.RowKit

set_option maxRecDepth 100000 in
theorem bsF_iff {l : List BW} : bsF l = 0 ↔ l.length ≤ 800 ∧ (∀ b ∈ l, b.f = 0) ∧ l.Pairwise (fun a b => bstr a.d ≠ bstr b.d) := by
  have key : ∀ k, k < l.length → (badB l k = false ↔ (l.getD k ⟨0, 0, []⟩).f = 0 ∧ ∀ j, j < k → bstr (l.getD j ⟨0, 0, []⟩).d ≠ bstr (l.getD k ⟨0, 0, []⟩).d) := by
    intro k hk
    simp only [badB, Bool.or_eq_false_iff, decide_eq_false_iff_not, ne_eq, Decidable.not_not]
    refine and_congr Iff.rfl ?_
    rw [hasB, List.any_eq_false]
    constructor
    · intro h j hj e
      have hm : l.getD j ⟨0, 0, []⟩ ∈ l.take k := by
        rw [List.mem_take_iff_getElem]
        exact ⟨j, by omega, by simp [show j < l.length by omega]⟩
      exact h _ hm (decide_eq_true e)
    · intro h b hb e
      obtain ⟨j, hj, rfl⟩ := List.mem_take_iff_getElem.1 hb
      refine h j (by omega) ?_
      have e2 := of_decide_eq_true e
      simpa [show j < l.length by omega] using e2
  constructor
  · intro h
    obtain ⟨h1, h2⟩ := bsF_zero h
    refine ⟨h1, fun b hb => ?_, ?_⟩
    · obtain ⟨j, hj, rfl⟩ := List.getElem_of_mem hb
      have := ((key j hj).1 (h2 j hj)).1
      simpa [hj] using this
    · rw [List.pairwise_iff_getElem]
      intro i j hi hj hij
      have := ((key j hj).1 (h2 j hj)).2 i hij
      simpa [hi, hj] using this
  · rintro ⟨h1, h2, h3⟩
    refine bsF_ok h1 (fun k hk => (key k hk).2 ⟨?_, fun j hj => ?_⟩)
    · have := h2 (l[k]) (List.getElem_mem hk)
      simpa [hk] using this
    · have := (List.pairwise_iff_getElem.1 h3) j k (by omega) hk hj
      simpa [hk, show j < l.length by omega] using this
set_option maxRecDepth 100000 in
theorem bsF_erase {l : List BW} (h : bsF l = 0) (m : Nat) : bsF (l.eraseIdx m) = 0 := by
  obtain ⟨h1, h2, h3⟩ := bsF_iff.1 h
  have hs := List.eraseIdx_sublist l m
  exact bsF_iff.2 ⟨Nat.le_trans hs.length_le h1, fun b hb => h2 b (hs.subset hb), h3.sublist hs⟩
set_option maxRecDepth 100000 in
theorem bsF_twice {l : List BW} {b : BW} (hb : b ∈ l) : bsF (l ++ [b]) = 12 := by
  rcases bsF_or (l ++ [b]) with h | h
  · obtain ⟨_, _, h3⟩ := bsF_iff.1 h
    rw [List.pairwise_append] at h3
    exact absurd rfl (h3.2.2 b hb b (by simp))
  · exact h
set_option maxRecDepth 100000 in
/-- Without the m'th batch its digest finds nothing, and every other one what it found. -/
theorem hasB_erase {l : List BW} (h : bsF l = 0) {m : Nat} (hm : m < l.length) (d : List Int) : hasB (l.eraseIdx m) d = (hasB l d && !decide (bstr (l.getD m ⟨0, 0, []⟩).d = bstr d)) := by
  obtain ⟨_, _, h3⟩ := bsF_iff.1 h
  rw [List.pairwise_iff_getElem] at h3
  have e : l.getD m ⟨0, 0, []⟩ = l[m] := by simp [hm]
  rw [e, Bool.eq_iff_iff]
  simp only [hasB, List.any_eq_true, Bool.and_eq_true, Bool.not_eq_true', decide_eq_false_iff_not, decide_eq_true_eq]
  constructor
  · rintro ⟨b, hb, hd⟩
    obtain ⟨j, hj, hjm, rfl⟩ := List.mem_eraseIdx_iff_getElem.1 hb
    refine ⟨⟨l[j], List.getElem_mem hj, hd⟩, fun g => ?_⟩
    rcases Nat.lt_or_gt_of_ne hjm with q | q
    · exact h3 j m hj hm q (hd.trans g.symm)
    · exact h3 m j hm hj q (g.trans hd.symm)
  · rintro ⟨⟨b, hb, hd⟩, g⟩
    obtain ⟨j, hj, rfl⟩ := List.getElem_of_mem hb
    exact ⟨l[j], List.mem_eraseIdx_iff_getElem.2 ⟨j, hj, fun q => g (by subst q; exact hd), rfl⟩, hd⟩
/-- Does a history have that batch? -/
def needF (hs : List CV) (d : List Int) : Bool := hs.any fun c => decide (0 ≤ atF c.bl d)
set_option maxRecDepth 100000 in
theorem atF_iff {ls : List (List Int)} {d : List Int} : 0 ≤ atF ls d ↔ ∃ p ∈ ls, bstr p = bstr d := by
  constructor
  · intro h
    have hy := of_decide_eq_true (fidx_yes (fun j => decide (txL (ls.getD j []) = txL d)) ls.length h)
    have hb := (fidx_ge (fun j => decide (txL (ls.getD j []) = txL d)) ls.length).2
    have hl : (atF ls d).toNat < ls.length := by unfold atF at h ⊢; omega
    refine ⟨ls.getD (atF ls d).toNat [], by simp [hl], txL_bstr.1 hy⟩
  · rintro ⟨p, hp, e⟩
    obtain ⟨j, hj, rfl⟩ := List.getElem_of_mem hp
    rcases Int.lt_or_le (atF ls d) 0 with g | g
    · have := fidx_no _ _ g j hj
      have e2 : ls.getD j [] = ls[j] := by simp [hj]
      rw [e2, txL_bstr.2 e] at this
      simp at this
    · exact g
set_option maxRecDepth 100000 in
theorem need_iff {hs : List CV} {d : List Int} : needF hs d = true ↔ ∃ p ∈ hisB hs, bstr p = bstr d := by
  simp only [needF, List.any_eq_true, decide_eq_true_eq]
  constructor
  · rintro ⟨c, hc, h⟩
    obtain ⟨p, hp, e⟩ := atF_iff.1 h
    exact ⟨p, hisB_mem.2 ⟨c, hc, hp⟩, e⟩
  · rintro ⟨p, hp, e⟩
    obtain ⟨c, hc, h⟩ := hisB_mem.1 hp
    exact ⟨c, hc, atF_iff.2 ⟨p, h, e⟩⟩
set_option maxRecDepth 100000 in
/-- The texts of a history without the m'th batch. -/
theorem txs_erase {l : List BW} (h : bsF l = 0) {m : Nat} (hm : m < l.length) {hs : List CV} (hh : ∀ d ∈ hisB hs, hasB l d = true) : (needF hs (l.getD m ⟨0, 0, []⟩).d = true → txsH (l.eraseIdx m) (hisB hs) = none) ∧ (needF hs (l.getD m ⟨0, 0, []⟩).d = false → ∃ t, txsH (l.eraseIdx m) (hisB hs) = some t) := by
  constructor
  · intro hn
    obtain ⟨p, hp, e⟩ := need_iff.1 hn
    refine txsH_none _ _ p hp (bOf_none.2 ?_)
    rw [hasB_erase h hm, e]
    simp
  · intro hn
    refine txsH_some (fun d hd => ?_)
    rw [bOf_some, hasB_erase h hm, hh d hd]
    simp only [Bool.true_and, Bool.not_eq_true', decide_eq_false_iff_not]
    intro e
    rw [need_iff.2 ⟨d, hd, e.symm⟩] at hn; cases hn
/-- What Block answers for a digest of the dag, whatever the batches. -/
def BlkX (l : List CV) (bl : List BW) (k : List Int) (N : Nat) (ec : Int) : Prop :=
  (bsF bl = 12 ∧ ec = 12 ∧ N = 0) ∨ (bsF bl = 0 ∧ ∃ hs, HistIs l k hs ∧ ((txsH bl (hisB hs) = none ∧ ec = 8 ∧ N = 0) ∨ (∃ t, txsH bl (hisB hs) = some t ∧ ec = 0 ∧ N = (onceS [] t).length)))
set_option maxRecDepth 100000 in
theorem blk_gen (ks : List Ct) (ka : Option Addr) (kc i : Nat) (bl : List Bc) (ba : Option Addr) (bn bc : Nat) (p : Part) (w : World) (hF : dagF (cvs ks) = 0) (hi : i < ks.length) (hd : DagAt w ka kc ks) (hbn : bn = bl.length) (hb : BcsAt w ba bl) (hp : SliceAt w p.sa p.cap p.bs) (hpd : p.bs = (cvAt (cvs ks) i).d) (h32 : p.bs.length = 32) (hT : Tabs w) :
    Calls Tryd.prog 41 #[.agg #[.slice ka ks.length kc], .slice ba bn bc, .slice p.sa 32 p.cap] w fun e w' => (∃ (xa : Option Addr) (N xc : Nat) (ec : Int), e = .returned (.tuple #[.slice xa N xc, .int .i64 ec]) ∧ Hid (BlkX (cvs ks) (bws bl) (cvAt (cvs ks) i).d N ec)) ∧ Below w.heap.size w w' := by
  refine (block_any ks ka _ kc bl ba bn bc p.bs p.sa 32 p.cap w rfl hbn h32.symm hd hb hp hT).mono ?_
  intro e w' hO
  have hps := (pOf_self (l := cvs ks) (i := i) (by rw [cvs_length]; exact hi)).1
  rw [hpd] at hO
  refine ⟨?_, hO.below⟩
  rcases hO.out with ⟨ec, _, h | h⟩ | ⟨_, _, ⟨h12, he⟩ | ⟨h0, hs, hH, ⟨hno, he⟩ | ⟨t, v, ht, he, ho⟩⟩⟩
  · rw [hF] at h; cases h.1
  · omega
  · exact ⟨none, 0, 0, 12, he, .inl ⟨h12, rfl, rfl⟩⟩
  · exact ⟨none, 0, 0, 8, he, .inr ⟨h0, hs, hH, .inl ⟨hno, rfl, rfl⟩⟩⟩
  · obtain ⟨xa, xc, rfl⟩ := owns_shape ho
    exact ⟨xa, _, xc, 0, he, .inr ⟨h0, hs, hH, .inr ⟨t, ht, rfl, rfl⟩⟩⟩
set_option maxRecDepth 100000 in
theorem bws_erase : ∀ (l : List Bc) (m : Nat), bws (l.eraseIdx m) = (bws l).eraseIdx m
  | [], m => by cases m <;> rfl
  | x :: r, 0 => rfl
  | x :: r, m + 1 => by
    show x.v :: bws (r.eraseIdx m) = x.v :: (bws r).eraseIdx m
    rw [bws_erase r m]
set_option maxRecDepth 100000 in
theorem bws_at (l : List Bc) (m : Nat) (h : m < l.length) : (bws l).getD m ⟨0, 0, []⟩ = (l[m]).v := by simp [bws, h]
set_option maxRecDepth 100000 in
theorem take_erase {α : Type} (l : List α) (k : Nat) (h : k < l.length) : (l.take (k + 1)).eraseIdx k = (l.take k).eraseIdx k := by
  have hl : (l.take k).length = k := by rw [List.length_take]; omega
  rw [List.take_succ_eq_append_getElem h, List.eraseIdx_append_of_length_le (by omega), List.eraseIdx_of_length_le (l := l.take k) (by omega), hl, Nat.sub_self]
  simp
set_option maxRecDepth 100000 in
theorem take_erase_ne {α : Type} (l : List α) (k m : Nat) (h : k < l.length) (hne : k ≠ m) : (l.take (k + 1)).eraseIdx m = (l.take k).eraseIdx m ++ [l[k]] := by
  have hl : (l.take k).length = k := by rw [List.length_take]; omega
  rw [List.take_succ_eq_append_getElem h]
  rcases Nat.lt_or_gt_of_ne hne with g | g
  · rw [List.eraseIdx_of_length_le (l := l.take k ++ [l[k]]) (by rw [List.length_append, hl]; simp; omega), List.eraseIdx_of_length_le (l := l.take k) (by omega)]
  · rw [List.eraseIdx_append_of_lt_length (by omega)]
set_option maxRecDepth 100000 in
theorem cells_row {w : World} {b : Nat} {t : TypeId} {x : Bc} (h : w.heap[b]? = some (.cells #[.int .i64 x.v.au, .int .i64 x.v.nu, .slice x.ta x.v.ss.length x.tc] t (0, 0))) : ∀ j u, (Bc.cs x)[j]? = some u → w.cell? ((⟨b, 0, none⟩ : Addr).add j) = some u := by
  intro j u hu
  have hj : j < 3 := by
    rcases Nat.lt_or_ge j 3 with g | g
    · exact g
    · rw [List.getElem?_eq_none (by simpa [Bc.cs] using g)] at hu; cases hu
  rw [add_off]
  match j, hj with
  | 0, _ => rw [← hu]; exact cells_at h 0 _ rfl
  | 1, _ => rw [← hu]; exact cells_at h 1 _ rfl
  | 2, _ => rw [← hu]; exact cells_at h 2 _ rfl
end Go.Proofs.YtbmodfegcmaieaaDoor

namespace Go.Proofs.YtbmodfegcmaieaaDoor
open Go.ChangeShapes Go.WideShapes Go.ChangeAt Go.RowKit Go.Deep

set_option maxRecDepth 100000 in
theorem cRaw : Tryd.prog.cellsOf 80 = 5 := by kernel_rfl
set_option maxRecDepth 100000 in
theorem cIntR : Tryd.prog.cellsOf 3 = 1 := by kernel_rfl
set_option maxRecDepth 100000 in
theorem cStrsR : Tryd.prog.cellsOf 40 = 1 := by kernel_rfl
set_option maxRecDepth 100000 in
theorem open_raw {H : Type} {enc : TypeId × Value → H} {W : World} {base : Nat} {v : Value} {d : DataW H} {p : List MemPlace}
    (hv : Value.okWide Tryd.prog W .any base 80 v) (h : DataW.Trod enc Tryd.prog W 0 (fun _ => true) true 80 v d p) (hfit : ∀ n ∈ d.weights Tryd.prog 80, n ≤ reachBytes) :
    ∃ ki ra rb rc sa cap ss, v = .agg #[.int .i64 ki, .int .i64 ra, .int .i64 rb, .int .i64 rc, .slice sa (List.length ss) cap] ∧ I64 ki ∧ I64 ra ∧ I64 rb ∧ I64 rc ∧ TextsAt W sa cap ss := by
  obtain ⟨cs, rfl, _⟩ := okWide_struct Tryd.underlying80 hv
  obtain ⟨fuel, hf⟩ := h
  obtain ⟨xs, n, _, hx, hl, hlen, hg⟩ := DataW.trod_struct Tryd.underlying80 hf
  rw [cRaw] at hl
  match xs, hlen with
  | [y0, y1, y2, y3, y4], _ =>
  have h0 := hg 0 _ rfl
  have h1 := hg 1 _ rfl
  have h2 := hg 2 _ rfl
  have h3 := hg 3 _ rfl
  have h4 := hg 4 _ rfl
  simp only [Prod.mk.injEq] at hx
  obtain ⟨rfl, rfl⟩ := hx
  obtain ⟨l⟩ := cs
  match l, hl with
  | [c0, c1, c2, c3, c4], _ =>
  obtain ⟨a0, e0, rfl, w0⟩ := DataW.trod_int Tryd.underlying3 h0
  obtain ⟨a1, e1, rfl, w1⟩ := DataW.trod_int Tryd.underlying3 h1
  obtain ⟨a2, e2, rfl, w2⟩ := DataW.trod_int Tryd.underlying3 h2
  obtain ⟨a3, e3, rfl, w3⟩ := DataW.trod_int Tryd.underlying3 h3
  obtain ⟨sa, cap, ss, e4, hs⟩ := open_texts_cells h4 (fun n hn => hfit n (by simp [DataW.weights, DataW.weightsEach, Tryd.underlying80, hn]))
  simp [cIntR, cStrsR, Value.cells] at e0 e1 e2 e3 e4
  subst e0 e1 e2 e3 e4
  exact ⟨a0, a1, a2, a3, sa, cap, ss, rfl, bounds_i64 w0, bounds_i64 w1, bounds_i64 w2, bounds_i64 w3, hs⟩
end Go.Proofs.YtbmodfegcmaieaaDoor

namespace Go.Proofs.YtbmodfegcmaieaaDoor
open Go.ChangeShapes Go.WideShapes Go.ChangeAt Go.RowKit Go.Deep

/-- A raw thing: its numbers; where its texts lie. -/
structure Rt where
  ki : Int
  a : Int
  b : Int
  c : Int
  sa : Option Addr
  cap : Nat
  ss : List ByteArray
structure RawTs (w : World) (sa : Option Addr) (rs : List Rt) : Prop where
  cells : rs = [] ∨ ∃ sb so, sa = some ⟨sb, so, none⟩ ∧ ∀ j (h : j < rs.length), w.cell? ⟨sb, so + j * 5, none⟩ = some (.int .i64 (rs[j]).ki) ∧ w.cell? ⟨sb, so + j * 5 + 1, none⟩ = some (.int .i64 (rs[j]).a) ∧ w.cell? ⟨sb, so + j * 5 + 2, none⟩ = some (.int .i64 (rs[j]).b) ∧ w.cell? ⟨sb, so + j * 5 + 3, none⟩ = some (.int .i64 (rs[j]).c) ∧ w.cell? ⟨sb, so + j * 5 + 4, none⟩ = some (.slice (rs[j]).sa (rs[j]).ss.length (rs[j]).cap)
  each : ∀ r ∈ rs, I64 r.ki ∧ I64 r.a ∧ I64 r.b ∧ I64 r.c ∧ TextsAt w r.sa r.cap r.ss
  small : rs.length ≤ 3000000000000000000
set_option maxRecDepth 100000 in
theorem RawTs.below {w w' : World} {sa : Option Addr} {rs : List Rt} (h : RawTs w sa rs) (hb : Below w.heap.size w w') : RawTs w' sa rs := by
  refine ⟨?_, fun r hr => ⟨(h.each r hr).1, (h.each r hr).2.1, (h.each r hr).2.2.1, (h.each r hr).2.2.2.1, (h.each r hr).2.2.2.2.below hb⟩, h.small⟩
  rcases h.cells with h | ⟨sb, so, rfl, hc⟩
  · exact .inl h
  · refine .inr ⟨sb, so, rfl, fun j hj => ?_⟩
    obtain ⟨h0, h1, h2, h3, h4⟩ := hc j hj
    have hlt : sb < w.heap.size := block_lt_of_cell h0
    exact ⟨(hb.cell (p := ⟨sb, so + j * 5, none⟩) hlt).trans h0, (hb.cell (p := ⟨sb, so + j * 5 + 1, none⟩) hlt).trans h1, (hb.cell (p := ⟨sb, so + j * 5 + 2, none⟩) hlt).trans h2, (hb.cell (p := ⟨sb, so + j * 5 + 3, none⟩) hlt).trans h3, (hb.cell (p := ⟨sb, so + j * 5 + 4, none⟩) hlt).trans h4⟩
set_option maxRecDepth 100000 in
theorem open_rawt_cells {H : Type} {enc : TypeId × Value → H} {W : World} {fuel : Nat} {cs : List Value} {x : DataW H × List MemPlace}
    (hf : DataW.trod enc Tryd.prog W 0 (fun _ => true) true fuel 80 cs = some x) (hfit : ∀ n ∈ x.1.weights Tryd.prog 80, n ≤ reachBytes) :
    ∃ r : Rt, cs = [.int .i64 r.ki, .int .i64 r.a, .int .i64 r.b, .int .i64 r.c, .slice r.sa r.ss.length r.cap] ∧ I64 r.ki ∧ I64 r.a ∧ I64 r.b ∧ I64 r.c ∧ TextsAt W r.sa r.cap r.ss := by
  obtain ⟨xs, n, _, rfl, hl, hlen, hg⟩ := DataW.trod_struct Tryd.underlying80 hf
  rw [cRaw] at hl
  match xs, hlen with
  | [y0, y1, y2, y3, y4], _ =>
  have h0 := hg 0 _ rfl
  have h1 := hg 1 _ rfl
  have h2 := hg 2 _ rfl
  have h3 := hg 3 _ rfl
  have h4 := hg 4 _ rfl
  match cs, hl with
  | [c0, c1, c2, c3, c4], _ =>
  obtain ⟨a0, e0, rfl, w0⟩ := DataW.trod_int Tryd.underlying3 h0
  obtain ⟨a1, e1, rfl, w1⟩ := DataW.trod_int Tryd.underlying3 h1
  obtain ⟨a2, e2, rfl, w2⟩ := DataW.trod_int Tryd.underlying3 h2
  obtain ⟨a3, e3, rfl, w3⟩ := DataW.trod_int Tryd.underlying3 h3
  obtain ⟨sa, cap, ss, e4, hT⟩ := open_texts_cells h4 (fun n hn => hfit n (by simp [DataW.weights, DataW.weightsEach, Tryd.underlying80, hn]))
  simp [cIntR, cStrsR] at e0 e1 e2 e3 e4
  subst e0 e1 e2 e3 e4
  exact ⟨⟨a0, a1, a2, a3, sa, cap, ss⟩, rfl, bounds_i64 w0, bounds_i64 w1, bounds_i64 w2, bounds_i64 w3, hT⟩
set_option maxRecDepth 100000 in
theorem weightsAll_memT {H : Type} (e : TypeId) (l : List (DataW H)) (d : DataW H) (hd : d ∈ l) : ∀ n ∈ d.weights Tryd.prog e, n ∈ DataW.weightsAll Tryd.prog e l := by
  induction l with
  | nil => cases hd
  | cons x r ih =>
    intro n hn
    rw [DataW.weightsAll]
    rcases List.mem_cons.1 hd with rfl | h
    · exact List.mem_append_left _ hn
    · exact List.mem_append_right _ (ih h n hn)
set_option maxRecDepth 100000 in
theorem bRawT : Tryd.prog.bytesOf 80 = 56 := by kernel_rfl
set_option maxRecDepth 100000 in
theorem open_rawts {H : Type} {enc : TypeId × Value → H} {W : World} {base : Nat} {v : Value} {d : DataW H} {p : List MemPlace}
    (hv : Value.okWide Tryd.prog W .any base 33 v) (h : DataW.Trod enc Tryd.prog W 0 (fun _ => true) true 33 v d p) (hfit : ∀ n ∈ d.weights Tryd.prog 33, n ≤ reachBytes) :
    ∃ sa cap rs, v = .slice sa (List.length rs) cap ∧ RawTs W sa rs ∧ rs.length ≤ cap := by
  obtain ⟨a0, len0, cap0, rfl⟩ := okWide_slice Tryd.underlying33 hv
  obtain ⟨fuel, hf⟩ := h
  rcases open_slice Tryd.underlying33 hf with ⟨he, _⟩ | ⟨a, len, cap, m, n, D, Pl, he, _, hl, hm, hmm, hd, hx⟩
  · simp [Value.cells] at he
    obtain ⟨rfl, rfl, rfl⟩ := he
    exact ⟨none, 0, [], rfl, ⟨.inl rfl, (fun p hp => by cases hp), by decide⟩, Nat.le_refl _⟩
  · simp [Value.cells] at he
    obtain ⟨rfl, rfl, rfl⟩ := he
    simp only [Prod.mk.injEq] at hd
    obtain ⟨rfl, rfl⟩ := hd
    simp only [if_true] at hmm
    subst hmm
    rw [cRaw] at hx
    have hw := hfit ((((List.range len0).map D).length + ((List.range (m - len0)).map fun j => D (len0 + j)).length) * Tryd.prog.bytesOf 80) (by simp [DataW.weights, Tryd.underlying33])
    rw [bRawT] at hw
    simp [reachBytes] at hw
    have each : ∀ i, i < len0 → ∃ r : Rt, (W.cell? (a.add (i * 5)) = some (.int .i64 r.ki) ∧ W.cell? (a.add (i * 5 + 1)) = some (.int .i64 r.a) ∧ W.cell? (a.add (i * 5 + 2)) = some (.int .i64 r.b) ∧ W.cell? (a.add (i * 5 + 3)) = some (.int .i64 r.c) ∧ W.cell? (a.add (i * 5 + 4)) = some (.slice r.sa r.ss.length r.cap)) ∧ (I64 r.ki ∧ I64 r.a ∧ I64 r.b ∧ I64 r.c ∧ TextsAt W r.sa r.cap r.ss) := fun i hi => by
      obtain ⟨cs', h1, h2⟩ := hx i (by omega)
      have hfi : ∀ n ∈ (D i).weights Tryd.prog 80, n ≤ reachBytes := fun n hn => hfit n (by
        have := weightsAll_memT 80 ((List.range len0).map D) (D i) (List.mem_map.2 ⟨i, List.mem_range.2 hi, rfl⟩) n hn
        simp only [DataW.weights, Tryd.underlying33]
        exact List.mem_cons_of_mem _ (List.mem_append_left _ this))
      obtain ⟨r, rfl, ii⟩ := open_rawt_cells h2 hfi
      obtain ⟨_, _, hcell⟩ := World.cells?_some h1
      have e0 := hcell 0 (by omega)
      have e1 := hcell 1 (by omega)
      have e2 := hcell 2 (by omega)
      have e3 := hcell 3 (by omega)
      have e4 := hcell 4 (by omega)
      rw [add_add] at e0 e1 e2 e3 e4
      exact ⟨r, ⟨by simpa using e0, by simpa using e1, by simpa using e2, by simpa using e3, by simpa using e4⟩, ii⟩
    obtain ⟨P, hP⟩ := @choose_lt Rt ⟨⟨0, 0, 0, 0, none, 0, []⟩⟩ len0 _ each
    have ha : 0 < len0 → ∃ b off, a = ⟨b, off, none⟩ := fun hi => by
      have h9 := (hP 0 hi).1.1
      cases a with
      | mk b off spot =>
        cases spot with
        | none => exact ⟨b, off, rfl⟩
        | some s => simp [World.cell?, Addr.add] at h9; split at h9 <;> cases h9
    refine ⟨some a, m, (List.range len0).map P, by simp, ⟨?_, ?_, by simp; omega⟩, by simpa using hl⟩
    · rcases Nat.eq_zero_or_pos len0 with h0 | h0
      · subst h0; exact .inl rfl
      · right
        obtain ⟨b, off, rfl⟩ := ha h0
        refine ⟨b, off, rfl, fun j hj => ?_⟩
        have hj' : j < len0 := by simpa using hj
        obtain ⟨e0, e1, e2, e3, e4⟩ := (hP j hj').1
        rw [add_off] at e0 e1 e2 e3 e4
        simp only [List.getElem_map, List.getElem_range]
        exact ⟨e0, by rw [Nat.add_assoc]; exact e1, by rw [Nat.add_assoc]; exact e2, by rw [Nat.add_assoc]; exact e3, by rw [Nat.add_assoc]; exact e4⟩
    · intro p hp
      simp at hp
      obtain ⟨j, hj, rfl⟩ := hp
      exact (hP j hj).2
end Go.Proofs.YtbmodfegcmaieaaDoor

namespace Go.Proofs.YtbmodfegcmaieaaDoor
open Go.RowKit

/-- A transaction of a raw text: one sign, or its first twenty bytes. -/
def txS (s : ByteArray) : ByteArray := if s.size = 0 then ⟨#[120]⟩ else s.extract 0 (min s.size 20)
set_option maxRecDepth 100000 in
theorem txS_size (s : ByteArray) : 1 ≤ (txS s).size ∧ (txS s).size ≤ 20 := by
  unfold txS
  by_cases h : s.size = 0
  · rw [if_pos h]; exact ⟨by decide, by decide⟩
  · rw [if_neg h]; simp; omega
set_option maxRecDepth 100000 in
theorem ret_str {a b : ByteArray} (h : a = b) : Ending.returned (.string a) = .returned (.string b) := by rw [h]
set_option maxRecDepth 100000 in
theorem cut_any (s : ByteArray) (w : World) (hs : s.size ≤ maxLen) :
    Calls Tryd.prog 91 #[.string s, .int .i64 20] w fun e w' => e = .returned (.string (s.extract 0 (min s.size 20))) ∧ w = w' := by
  unfold maxLen at hs
  by_cases h : s.size ≤ 20
  · have hm : min s.size 20 = s.size := by omega
    rw [hm]
    go_enter Tryd.func91, Tryd.ntmps91
    go_wp2_with fail
    go_ret
    exact ⟨ret_str (by first | (simp; done) | (rw [show min (s.size : Int) 20 = s.size by omega]; simp)), rfl⟩
  · have hm : min s.size 20 = 20 := by omega
    rw [hm]
    go_enter Tryd.func91, Tryd.ntmps91
    go_wp2_with fail
    go_ret
    first | exact ⟨rfl, rfl⟩ | exact ⟨ret_str (by rw [show min (s.size : Int) 20 = 20 by omega]; rfl), rfl⟩
set_option maxRecDepth 100000 in
theorem empty_text (s : ByteArray) : s.toList.isEmpty = true ↔ s.size = 0 := by
  rw [List.isEmpty_iff, ← List.length_eq_zero_iff, ByteArray.toList_eq, Array.length_toList, ByteArray.size_data]
set_option maxRecDepth 100000 in
theorem tx_any (s : ByteArray) (w : World) (hs : s.size ≤ maxLen) :
    Calls Tryd.prog 67 #[.string s] w fun e w' => e = .returned (.string (txS s)) ∧ w = w' := by
  by_cases h : s.size = 0
  · have h1 : s.toList.isEmpty = true := (empty_text s).2 h
    have hF : Hid (txS s = ⟨#[120]⟩) := by show _ = _; rw [txS, if_pos h]
    clear h
    go_enter Tryd.func67, Tryd.ntmps67
    go_wp2_with fail
    go_ret
    exact ⟨ret_str hF.out.symm, rfl⟩
  · have h1 : s.toList.isEmpty = false := by
      rw [Bool.eq_false_iff]; exact fun e => h ((empty_text s).1 e)
    have hF : Hid (txS s = s.extract 0 (min s.size 20)) := by show _ = _; rw [txS, if_neg h]
    go_enter Tryd.func67, Tryd.ntmps67
    go_wp2_with fail
    refine (cut_any s w hs).mono ?_
    rintro e w1 ⟨he, rfl⟩
    subst he
    dsimp only
    go_wp2_with fail
    go_ret
    exact ⟨ret_str hF.out.symm, rfl⟩
end Go.Proofs.YtbmodfegcmaieaaDoor
