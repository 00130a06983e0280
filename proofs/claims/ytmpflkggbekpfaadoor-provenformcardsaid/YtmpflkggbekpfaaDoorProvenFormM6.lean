/- seal.Proven, for all signs and certificates. -/
import Derived.Test.YtmpflkggbekpfaaDoorHeadF
import Derived.Test.YtmpflkggbekpfaaDoorOwnL
import Derived.Test.YtmpflkggbekpfaaDoorProvenFormM0
import Derived.Deep.RegionHeld3
import Derived.Test.YtmpflkggbekpfaaDoorIntsL
import Derived.Test.YtmpflkggbekpfaaDoorSx
import Derived.Test.YtmpflkggbekpfaaDoorCSet
import Derived.Test.YtmpflkggbekpfaaDoorCCert
namespace Go.Proofs.YtmpflkggbekpfaaDoor
open Go.RowKit

set_option maxRecDepth 100000 in
theorem digTo1_zero (ps : List Part) (k : Nat) (h : digTo1 ps k = 0) : ∀ j, j < k → digAt ps j = 0 := by
  induction k with
  | zero => intro j hj; omega
  | succ k ih =>
    rw [digTo1] at h
    split at h
    · rename_i h1; exact absurd h h1
    · rename_i h1
      intro j hj
      rcases Nat.lt_or_ge j k with g | g
      · exact ih (by simpa using h1) j g
      · obtain rfl : j = k := by omega
        exact h
set_option maxRecDepth 100000 in
theorem digF_len {ps : List Part} (h : digF ps = 0) : ∀ p ∈ ps, p.bs.length = 32 := by
  intro p hp
  obtain ⟨j, hj, rfl⟩ := List.getElem_of_mem hp
  have h1 := digTo1_zero ps ps.length h j hj
  rw [digAt, partAt_get ps j hj] at h1
  split at h1
  · cases h1
  · rename_i h2; simpa using h2
set_option maxRecDepth 100000 in
theorem headerF_ok {au rd : Int} {bl pl : List Part} (h : headerF au rd bl pl = 0) : (0 ≤ au ∧ au < 4) ∧ (1 ≤ rd ∧ rd ≤ 1048576) ∧ bl.length ≤ 3 ∧ pl.length ≤ 4 ∧ (∀ p ∈ bl, p.bs.length = 32) ∧ (∀ p ∈ pl, p.bs.length = 32) := by
  unfold headerF at h
  split at h
  · cases h
  · split at h
    · cases h
    · split at h
      · rename_i h1; exact absurd h h1
      · split at h
        · rename_i h1; exact absurd h h1
        · rename_i h1 h2 h3 h4
          exact ⟨by omega, by omega, by omega, by omega, digF_len (by simpa using h3), digF_len (by simpa using h4)⟩
end Go.Proofs.YtmpflkggbekpfaaDoor

namespace Go.Proofs.YtmpflkggbekpfaaDoor
open Go.RowKit

set_option maxRecDepth 100000 in
theorem Same.bsAt {ps qs : List Part} (h : Same ps qs) (k : Nat) : (partAt ps k).bs = (partAt qs k).bs := by
  have hk : (ps.map (·.bs))[k]? = (qs.map (·.bs))[k]? := by rw [h]
  simp only [List.getElem?_map] at hk
  simp only [partAt, List.getD]
  cases h1 : ps[k]? <;> cases h2 : qs[k]? <;> simp_all
set_option maxRecDepth 100000 in
theorem digTo1_same {ps qs : List Part} (h : Same ps qs) (k : Nat) : digTo1 ps k = digTo1 qs k := by
  induction k with
  | zero => rfl
  | succ k ih =>
    have e1 : digAt ps k = digAt qs k := by
      have e2 : twice ps k = twice qs k := by
        simp only [twice, h.bsAt]
      rw [digAt, digAt, e2, h.bsAt k]
    rw [digTo1, digTo1, ih, e1]
set_option maxRecDepth 100000 in
theorem digF_same {ps qs : List Part} (h : Same ps qs) : digF ps = digF qs := by
  rw [digF, digF, h.length, digTo1_same h]
end Go.Proofs.YtmpflkggbekpfaaDoor

namespace Go.Proofs.YtmpflkggbekpfaaDoor
open Go.RowKit

set_option maxRecDepth 100000 in
theorem flatB_sameH (xs ys : List Part) (h : Same xs ys) : flatB xs = flatB ys := by
  have h' : xs.map (·.bs) = ys.map (·.bs) := h
  clear h
  induction xs generalizing ys with
  | nil => cases ys with
    | nil => rfl
    | cons y ys => simp at h'
  | cons x xs ih => cases ys with
    | nil => simp at h'
    | cons y ys =>
      simp only [List.map_cons, List.cons.injEq] at h'
      rw [flatB, flatB, h'.1, ih ys h'.2]
set_option maxRecDepth 100000 in
theorem headB_sameH {au rd : Int} {xl bl yl pl : List Part} (h1 : Same xl bl) (h2 : Same yl pl) : headB au rd xl yl = headB au rd bl pl := by
  rw [headB, headB, digsB, digsB, digsB, digsB, flatB_sameH _ _ h1, flatB_sameH _ _ h2, h1.length, h2.length]
set_option maxRecDepth 100000 in
theorem headerF_sameH {au rd : Int} {xl bl yl pl : List Part} (h1 : Same xl bl) (h2 : Same yl pl) : headerF au rd xl yl = headerF au rd bl pl := by
  rw [headerF, headerF, digF_same h1, digF_same h2, h1.length, h2.length]
set_option maxRecDepth 100000 in
theorem off_of_listH {w : World} {ra : Option Addr} {rc : Nat} {qs : List Part} (h : ListAt w ra rc qs) (hne : ∀ sb so, ra = some ⟨sb, so, none⟩ → sb < w.heap.size) (h32 : ∀ p ∈ qs, p.bs.length = 32) : Off w (.slice none 0 0) ra qs :=
  ⟨fun sb so e => ⟨hne sb so e, fun h => by cases h⟩, fun p hp sb so e => ⟨by
    have hs := h.parts.each p hp
    rcases hs.bytes with hb | ⟨sb', so', e', hb⟩
    · have := h32 p hp; rw [hb] at this; simp at this
    · rw [e] at e'; cases e'; exact block_lt_of_cell (hb 0 (by rw [h32 p hp]; decide)), fun h => by cases h⟩⟩
/-- A header that is read. -/
structure HAt (w : World) (ba : Option Addr) (bc : Nat) (bl : List Part) (pa : Option Addr) (pc : Nat) (pl : List Part) : Prop where
  lb : ListAt w ba bc bl
  lp : ListAt w pa pc pl
  rb : ∀ sb so, ba = some ⟨sb, so, none⟩ → sb < w.heap.size
  rp : ∀ sb so, pa = some ⟨sb, so, none⟩ → sb < w.heap.size
set_option maxRecDepth 100000 in
theorem HAt.below {w w' : World} {ba : Option Addr} {bc : Nat} {bl : List Part} {pa : Option Addr} {pc : Nat} {pl : List Part} (h : HAt w ba bc bl pa pc pl) (hb : Below w.heap.size w w') : HAt w' ba bc bl pa pc pl :=
  ⟨h.lb.below hb, h.lp.below hb, fun sb so e => Nat.lt_of_lt_of_le (h.rb sb so e) hb.size, fun sb so e => Nat.lt_of_lt_of_le (h.rp sb so e) hb.size⟩
/-- A header's digest. -/
def hDig (au rd : Int) (bl pl : List Part) : List Int := tagD 2 (headB au rd bl pl)
set_option maxRecDepth 100000 in
theorem hDig_length (au rd : Int) (bl pl : List Part) : (hDig au rd bl pl).length = 32 := tagD_length _ _
set_option maxRecDepth 100000 in
theorem headerDigest_hat {au rd : Int} {ba : Option Addr} {bc : Nat} {bl : List Part} {pa : Option Addr} {pc : Nat} {pl : List Part} {w : World} (h : HAt w ba bc bl pa pc pl) (hF : headerF au rd bl pl = 0) (hT : Tabs w) :
    Calls Tryd.prog 30 #[.agg #[.int .i64 au, .int .i64 rd, .slice ba bl.length bc, .slice pa pl.length pc]] w fun e w' => ∃ b, e = .returned (.tuple #[.slice (some ⟨b, 0, none⟩) 32 32, .int .i64 0]) ∧ w.heap.size ≤ b ∧ Below w.heap.size w w' ∧ SliceAt w' (some ⟨b, 0, none⟩) 32 (hDig au rd bl pl) := by
  obtain ⟨z1, z2, z3, z4, z5, z6⟩ := headerF_ok hF
  exact headerDigest_ok au rd ba bl.length bc bl pa pl.length pc pl w rfl rfl h.lb h.lp (off_of_listH h.lb h.rb z5) (off_of_listH h.lp h.rp z6) hF z1 ⟨by omega, z2.2⟩ (by omega) z4 z5 z6 hT
end Go.Proofs.YtmpflkggbekpfaaDoor

namespace Go.Proofs.YtmpflkggbekpfaaDoor
open Go.RowKit

set_option maxRecDepth 100000 in
theorem slice_far {w : World} {ra : Option Addr} {rc B : Nat} {bs : List Int} (h : SliceAt w ra rc bs) (hf : ∀ sb so, ra = some ⟨sb, so, none⟩ → B ≤ sb) (b j : Nat) (v : Value) (hb : b < B) : SliceAt (w.setCell ⟨b, j, none⟩ v) ra rc bs := by
  refine ⟨h.le, h.max, h.some, h.nil, ?_⟩
  rcases h.bytes with hc | ⟨sb, so, e, hc⟩
  · exact .inl hc
  · exact .inr ⟨sb, so, e, fun k hk => (World.cell?_setCell_far _ _ _ _ (by have := hf sb so e; show b ≠ sb; omega)).trans (hc k hk)⟩
set_option maxRecDepth 100000 in
set_option maxHeartbeats 1000000 in
theorem slotOf_bad (au rd : Int) (ba : Option Addr) (bc : Nat) (bl : List Part) (pa : Option Addr) (pc : Nat) (pl : List Part) (ec : Int) (w : World) (h : HAt w ba bc bl pa pc pl) (he : headerF au rd bl pl = ec) (h0 : ec ≠ 0) :
    Calls Tryd.prog 19 #[.agg #[.int .i64 au, .int .i64 rd, .slice ba bl.length bc, .slice pa pl.length pc]] w fun e w' => e = .returned (.tuple #[.agg #[.int .i64 0, .int .i64 0, .slice none 0 0], .int .i64 ec]) ∧ Below w.heap.size w w' := by
  have hR : Below w.heap.size w ((w.alloc (.cells #[.int .i64 au, .int .i64 rd, .slice ba bl.length bc, .slice pa pl.length pc] 25)).alloc (.cells #[.int .i64 0, .int .i64 0, .slice none 0 0] 47)) := ((Below.refl _ _).alloc (Nat.le_refl _) _).alloc (by simp) _
  have q1 : ((w.alloc (.cells #[.int .i64 au, .int .i64 rd, .slice ba bl.length bc, .slice pa pl.length pc] 25)).alloc (.cells #[.int .i64 0, .int .i64 0, .slice none 0 0] 47)).heap[w.heap.size + 1]? = some (.cells #[.int .i64 0, .int .i64 0, .slice none 0 0] 47 (0, 0)) := by
    have := heap_alloc_new (w.alloc (.cells #[.int .i64 au, .int .i64 rd, .slice ba bl.length bc, .slice pa pl.length pc] 25)) (.cells #[.int .i64 0, .int .i64 0, .slice none 0 0] 47)
    rw [size_alloc] at this; exact this
  go_enter Tryd.func19, Tryd.ntmps19
  go_wp2_with fail
  generalize (w.alloc (.cells #[.int .i64 au, .int .i64 rd, .slice ba bl.length bc, .slice pa pl.length pc] 25)).alloc (.cells #[.int .i64 0, .int .i64 0, .slice none 0 0] 47) = W0 at hR q1 ⊢
  refine (headerDigest_bad au rd ba _ bc bl pa _ pc pl ec W0 rfl rfl (h.lb.below hR) (h.lp.below hR) he h0).mono ?_
  rintro e w1 ⟨rfl, hb1⟩
  have r1 := (hb1.block _ (lt_of_heap q1)).trans q1
  have d0 := cells_at r1 0 _ rfl
  have d1 := cells_at r1 1 _ rfl
  have d2 := cells_at r1 2 _ rfl
  have f0 := frozen_at r1 0
  have f1 := frozen_at r1 1
  have f2 := frozen_at r1 2
  have hW1 := hR.trans (hb1.mono hR.size)
  have h0' : (ec != 0) = true := by simpa using h0
  go_wp2_with fail
  refine bodyPost_ret (v := .tuple #[.agg #[.int .i64 0, .int .i64 0, .slice none 0 0], .int .i64 ec]) (by simp [results, Tryd.results19, go_sem, d0, d1, d2]) rfl ⟨rfl, ?_⟩
  exact ((hW1.setCell (Nat.le_succ _) _).setCell (Nat.le_succ _) _).setCell (Nat.le_succ _) _

set_option maxRecDepth 100000 in
set_option maxHeartbeats 1000000 in
theorem slotOf_ok (au rd : Int) (ba : Option Addr) (bc : Nat) (bl : List Part) (pa : Option Addr) (pc : Nat) (pl : List Part) (w : World) (h : HAt w ba bc bl pa pc pl) (hF : headerF au rd bl pl = 0) (hT : Tabs w) :
    Calls Tryd.prog 19 #[.agg #[.int .i64 au, .int .i64 rd, .slice ba bl.length bc, .slice pa pl.length pc]] w fun e w' => ∃ b, e = .returned (.tuple #[.agg #[.int .i64 au, .int .i64 rd, .slice (some ⟨b, 0, none⟩) 32 32], .int .i64 0]) ∧ w.heap.size ≤ b ∧ b < w'.heap.size ∧ SliceAt w' (some ⟨b, 0, none⟩) 32 (hDig au rd bl pl) ∧ Below w.heap.size w w' := by
  have hR : Below w.heap.size w ((w.alloc (.cells #[.int .i64 au, .int .i64 rd, .slice ba bl.length bc, .slice pa pl.length pc] 25)).alloc (.cells #[.int .i64 0, .int .i64 0, .slice none 0 0] 47)) := ((Below.refl _ _).alloc (Nat.le_refl _) _).alloc (by simp) _
  have q0 := heap_alloc2_old w (.cells #[.int .i64 au, .int .i64 rd, .slice ba bl.length bc, .slice pa pl.length pc] 25) (.cells #[.int .i64 0, .int .i64 0, .slice none 0 0] 47)
  have q1 : ((w.alloc (.cells #[.int .i64 au, .int .i64 rd, .slice ba bl.length bc, .slice pa pl.length pc] 25)).alloc (.cells #[.int .i64 0, .int .i64 0, .slice none 0 0] 47)).heap[w.heap.size + 1]? = some (.cells #[.int .i64 0, .int .i64 0, .slice none 0 0] 47 (0, 0)) := by
    have := heap_alloc_new (w.alloc (.cells #[.int .i64 au, .int .i64 rd, .slice ba bl.length bc, .slice pa pl.length pc] 25)) (.cells #[.int .i64 0, .int .i64 0, .slice none 0 0] 47)
    rw [size_alloc] at this; exact this
  go_enter Tryd.func19, Tryd.ntmps19
  go_wp2_with fail
  generalize (w.alloc (.cells #[.int .i64 au, .int .i64 rd, .slice ba bl.length bc, .slice pa pl.length pc] 25)).alloc (.cells #[.int .i64 0, .int .i64 0, .slice none 0 0] 47) = W0 at hR q0 q1 ⊢
  refine (headerDigest_hat (h.below hR) hF (hT.below hR)).mono ?_
  rintro e w1 ⟨b, rfl, hbb, hb1, hs1⟩
  have hlt1 : w.heap.size + 1 < W0.heap.size := lt_of_heap q1
  have r0 := (hb1.block _ (lt_of_heap q0)).trans q0
  have r1 := (hb1.block _ (lt_of_heap q1)).trans q1
  have c0 : w1.cell? ⟨w.heap.size, 0, none⟩ = some (.int .i64 au) := cells_at r0 0 _ rfl
  have c1 : w1.cell? ⟨w.heap.size, 1, none⟩ = some (.int .i64 rd) := cells_at r0 1 _ rfl
  have d0 := cells_at r1 0 _ rfl
  have d1 := cells_at r1 1 _ rfl
  have d2 := cells_at r1 2 _ rfl
  have f0 := frozen_at r1 0
  have f1 := frozen_at r1 1
  have f2 := frozen_at r1 2
  have hW1 := hR.trans (hb1.mono hR.size)
  have hbl : b < w1.heap.size := by
    rcases hs1.bytes with hc | ⟨sb, so, e, hc⟩
    · have := hDig_length au rd bl pl; rw [hc] at this; simp at this
    · cases e; exact block_lt_of_cell (hc 0 (by rw [hDig_length]; decide))
  clear hF
  go_wp2_with fail
  refine bodyPost_ret (v := .tuple #[.agg #[.int .i64 au, .int .i64 rd, .slice (some ⟨b, 0, none⟩) 32 32], .int .i64 0]) (by simp [results, Tryd.results19, go_sem, d0, d1, d2]) rfl ⟨b, rfl, Nat.le_trans hR.size hbb, by simpa using hbl, ?_, ?_⟩
  · have hr : ∀ sb so, (some ⟨b, 0, none⟩ : Option Addr) = some ⟨sb, so, none⟩ → W0.heap.size ≤ sb := fun sb so e => by cases e; exact hbb
    exact slice_far (slice_far (slice_far hs1 hr _ _ _ hlt1) hr _ _ _ hlt1) hr _ _ _ hlt1
  · exact ((hW1.setCell (Nat.le_succ _) _).setCell (Nat.le_succ _) _).setCell (Nat.le_succ _) _
end Go.Proofs.YtmpflkggbekpfaaDoor

namespace Go.Proofs.YtmpflkggbekpfaaDoor
open Go.RowKit

def AnswersI (f : FuncId) (caps : Array Value) (P : Int → Bool) (vl : List Int) (w : World) : Prop :=
  ∀ x ∈ vl, ∀ W : World, Below w.heap.size w W → Calls Tryd.prog f (#[.int .i64 x] ++ caps) W fun e w' => e = .returned (.bool (P x)) ∧ Below W.heap.size W w'
set_option maxRecDepth 100000 in
theorem memI_succ {α : Type} {l : List α} {x : α} {k : Nat} (hk : k < l.length) : x ∈ l.take (k + 1) ↔ x ∈ l.take k ∨ x = l[k] := by
  rw [List.take_succ_eq_append_getElem hk, List.mem_append, List.mem_singleton]
set_option maxRecDepth 100000 in
set_option maxHeartbeats 2000000 in
theorem indexFuncI_any (f : FuncId) (caps : Array Value) (P : Int → Bool) (hent : ∀ args w, (callFunc f args).run Tryd.prog w = .ok (.enter f args) w) (vl : List Int) (va : Option Addr) (n cap : Nat) (w : World) (hn : n = vl.length) (hk2 : vl.length ≤ 9000000000000000000) (hp : IntsAt w va vl) (hA : AnswersI f caps P vl w) :
    Calls Tryd.prog 39 #[.slice va n cap, .func (.func f) #[] caps] w fun e w' => Below w.heap.size w w' ∧ ∃ r : Int, e = .returned (.int .i64 r) ∧ ((vl.any P = true ∧ 0 ≤ r) ∨ (vl.any P = false ∧ r = -1)) := by
  subst hn
  have HA : Hid (AnswersI f caps P vl w) := hA
  clear hA
  go_enter Tryd.func39, Tryd.ntmps39
  go_wp2_with fail
  go_loopw [8] (fun i wr => ∃ m : Nat, m ≤ vl.length ∧ i = .int .i64 m ∧ (∀ s ∈ vl.take m, P s = false) ∧ Below w.heap.size w wr) (fun i _ => vl.length - (intOf i).toNat)
  case atStart => exact ⟨0, Nat.zero_le _, rfl, (fun s hs => by simp at hs), Below.refl _ _⟩
  case round =>
    obtain ⟨m, hm, rfl, hno, hb⟩ := hrel
    by_cases hlt : m < vl.length
    · have hpw := hp.below hb
      obtain ⟨sb, so, rfl, hc⟩ : ∃ sb so, va = some ⟨sb, so, none⟩ ∧ ∀ j, j < vl.length → wr.cell? ⟨sb, so + j, none⟩ = some (.int .i64 (vl.getD j 0)) := by
        rcases hpw.cells with h | h
        · rw [h] at hlt; simp at hlt
        · exact h
      have c0 := hc m hlt
      have hg : vl.getD m 0 = vl[m] := by simp [List.getD, hlt]
      rw [hg] at c0
      have hltI : (m : Int) < vl.length := by omega
      have HY : Hid (P (vl[m]) = true → vl.any P = true) := by
        show _ → _
        intro h
        exact List.any_eq_true.2 ⟨_, List.getElem_mem hlt, h⟩
      have HN : Hid (P (vl[m]) = false → ∀ s ∈ vl.take (m + 1), P s = false) := by
        show _ → _
        intro h s hs
        rw [memI_succ hlt] at hs
        rcases hs with hs | rfl
        · exact hno s hs
        · exact h
      have HC := HA.out (vl[m]) (List.getElem_mem hlt) wr hb
      clear hc hno hpw hg
      generalize vl[m] = t at *
      go_wp2_with fail
      refine HC.mono ?_
      rintro e w1 ⟨he, hb1⟩
      subst he
      dsimp only
      have hB1 := hb.trans (hb1.mono hb.size)
      cases hP : P t with
      | true =>
        have hy : Hid _ := HY.out hP
        clear HY HN hP HC
        go_wp2_with fail
        go_ret
        exact ⟨hB1, (m : Int), rfl, .inl ⟨hy.out, by omega⟩⟩
      | false =>
        have hn : Hid _ := HN.out hP
        clear HY HN hP HC
        go_wp2_with fail
        go_roundw
        case rel => exact ⟨m + 1, by omega, by go_num, hn.out, hB1⟩
        case measure => simp [intOf]; omega
    · obtain rfl : m = vl.length := by omega
      have hn : Hid (vl.any P = false) := by
        show _ = _
        rw [List.take_of_length_le (Nat.le_refl _)] at hno
        rw [List.any_eq_false]
        intro s hs
        rw [hno s hs]; simp
      clear hno
      go_wp2_with fail
      go_ret
      exact ⟨hb, (-1 : Int), rfl, .inr ⟨hn.out, rfl⟩⟩
set_option maxRecDepth 100000 in
set_option maxHeartbeats 1000000 in
theorem containsFuncI_any (f : FuncId) (caps : Array Value) (P : Int → Bool) (hent : ∀ args w, (callFunc f args).run Tryd.prog w = .ok (.enter f args) w) (vl : List Int) (va : Option Addr) (n cap : Nat) (w : World) (hn : n = vl.length) (hk2 : vl.length ≤ 9000000000000000000) (hp : IntsAt w va vl) (hA : AnswersI f caps P vl w) :
    Calls Tryd.prog 22 #[.slice va n cap, .func (.func f) #[] caps] w fun e w' => e = .returned (.bool (vl.any P)) ∧ Below w.heap.size w w' := by
  subst hn
  have HC := indexFuncI_any f caps P hent vl va _ cap w rfl hk2 hp hA
  clear hA
  go_enter Tryd.func22, Tryd.ntmps22
  go_wp2_with fail
  refine HC.mono ?_
  rintro e w1 ⟨hb, r, he, hr⟩
  subst he
  dsimp only
  rcases hr with ⟨ha, hr⟩ | ⟨ha, rfl⟩
  · have Ha : Hid _ := ha
    clear ha
    go_wp2_with fail
    go_ret
    exact ⟨ret_bool (by rw [Ha.out]), hb⟩
  · have Ha : Hid _ := ha
    clear ha
    go_wp2_with fail
    go_ret
    exact ⟨ret_bool (by rw [Ha.out]), hb⟩
end Go.Proofs.YtmpflkggbekpfaaDoor

namespace Go.Proofs.YtmpflkggbekpfaaDoor
open Go.RowKit

/-- Who is not the bad one, and has not signed. -/
def lacksF (l : List GV) (bad au rd : Int) (dg : List Int) (nd : Int) : Bool := decide (nd ≠ bad) && !decide ((nd, au, rd, dg) ∈ l)
/-- P3.4 -/
def provF (l : List GV) (bad au rd : Int) (cf : Int) (dg vl : List Int) : Int := if setF l bad ≠ 0 then setF l bad else if cf ≠ 0 then cf else if lacksF l bad au rd dg au || vl.any (lacksF l bad au rd dg) then 11 else 0
set_option maxRecDepth 100000 in
theorem digTo_u8 (s : List Int) (k : Nat) : AllU8 (digTo s k) := by
  induction k with
  | zero => intro x hx; cases hx
  | succ k ih =>
    intro x hx
    rw [digTo] at hx
    rcases List.mem_append.1 hx with h | h
    · exact ih x h
    · simp at h
      omega
set_option maxRecDepth 100000 in
theorem hDig_u8 (au rd : Int) (bl pl : List Part) : AllU8 (hDig au rd bl pl) := digTo_u8 _ _
set_option maxRecDepth 100000 in
set_option maxHeartbeats 2000000 in
theorem lacks_any (ls : List Sg) (sa : Option Addr) (cap : Nat) (bad au rd nd : Int) (b c : Nat) (dg : List Int) (L G S : Nat) (w : World) (hl : ls.length ≤ 2932031007400) (hp : SignsAt w sa ls) (hs : SliceAt w (some ⟨b, 0, none⟩) c dg) (hd : dg.length = 32) (hu : AllU8 dg)
    (qG : w.heap[G]? = some (.cells #[.int .i64 bad] 3 (0, 0))) (qL : w.heap[L]? = some (.cells #[.slice sa ls.length cap] 22 (0, 0))) (qS : w.heap[S]? = some (.cells #[.int .i64 au, .int .i64 rd, .slice (some ⟨b, 0, none⟩) 32 c] 47 (0, 0))) :
    Calls Tryd.prog 20 #[.int .i64 nd, .pointer (some ⟨G, 0, none⟩), .pointer (some ⟨L, 0, none⟩), .pointer (some ⟨S, 0, none⟩)] w fun e w' => e = .returned (.bool (lacksF (gvs ls) bad au rd dg nd)) ∧ Below w.heap.size w w' := by
  have g0 := cells_at qG 0 _ rfl
  have l0 := cells_at qL 0 _ rfl
  have s0 := cells_at qS 0 _ rfl
  have s1 := cells_at qS 1 _ rfl
  have s2 := cells_at qS 2 _ rfl
  by_cases hn : nd = bad
  · have hF : Hid (lacksF (gvs ls) bad au rd dg nd = false) := by show _ = _; simp [lacksF, hn]
    have hnb : (nd != bad) = false := by simpa using hn
    clear hn
    go_enter Tryd.func20, Tryd.ntmps20
    go_wp2_with fail
    go_ret
    exact ⟨ret_bool hF.out.symm, Below.refl _ _⟩
  · have hF : Hid (lacksF (gvs ls) bad au rd dg nd = !decide ((nd, au, rd, dg) ∈ gvs ls)) := by show _ = _; simp [lacksF, hn]
    have hnb : (nd != bad) = true := by simpa using hn
    have HC := has_any ls sa _ cap ⟨nd, au, rd, ⟨some ⟨b, 0, none⟩, c, dg⟩⟩ w rfl hl hp ⟨hs, hu⟩
    simp only [hd, Sg.v] at HC
    clear hn hd
    go_enter Tryd.func20, Tryd.ntmps20
    go_wp2_with fail
    refine HC.mono ?_
    rintro e w1 ⟨he, hb⟩
    subst he
    dsimp only
    go_wp2_with fail
    go_ret
    exact ⟨ret_bool (by rw [hF.out]; exact congrArg _ (decide_eq_decide.2 Iff.rfl)), hb⟩
set_option maxRecDepth 100000 in
set_option maxHeartbeats 4000000 in
set_option maxHeartbeats 4000000 in
set_option maxHeartbeats 4000000 in
/-- seal.Proven. -/
theorem proven_any (ls : List Sg) (sa : Option Addr) (n cap : Nat) (bad au rd : Int) (ba : Option Addr) (bc : Nat) (bl : List Part) (pa : Option Addr) (pc : Nat) (pl : List Part) (va : Option Addr) (vc : Nat) (vl : List Int) (w : World) (hn : n = ls.length) (hl : ls.length ≤ 2932031007400) (hp : SignsAt w sa ls) (h : HAt w ba bc bl pa pc pl) (hv : IntsAt w va vl) (hvm : vl.length ≤ 9000000000000000000) (hT : Tabs w) :
    Calls Tryd.prog 8 #[.slice sa n cap, .int .i64 bad, .agg #[.int .i64 au, .int .i64 rd, .slice ba bl.length bc, .slice pa pl.length pc, .slice va vl.length vc]] w fun e w' => e = .returned (.int .i64 (provF (gvs ls) bad au rd (certF au rd bl pl vl) (hDig au rd bl pl) vl)) ∧ Below w.heap.size w w' := by
  subst hn
  have a1 := heap_alloc_new w (.cells #[.slice sa ls.length cap] 22)
  have a2 := heap_alloc_new (w.alloc (.cells #[.slice sa ls.length cap] 22)) (.cells #[.int .i64 bad] 3)
  have a3 := heap_alloc_new ((w.alloc (.cells #[.slice sa ls.length cap] 22)).alloc (.cells #[.int .i64 bad] 3)) (.cells #[.int .i64 au, .int .i64 rd, .slice ba bl.length bc, .slice pa pl.length pc, .slice va vl.length vc] 28)
  rw [size_alloc] at a2
  rw [size_alloc, size_alloc] at a3
  have q1 := heap_keep (o := .cells #[.int .i64 au, .int .i64 rd, .slice ba bl.length bc, .slice pa pl.length pc, .slice va vl.length vc] 28) (heap_keep (o := .cells #[.int .i64 bad] 3) a1)
  have q2 := heap_keep (o := .cells #[.int .i64 au, .int .i64 rd, .slice ba bl.length bc, .slice pa pl.length pc, .slice va vl.length vc] 28) a2
  have q3 := a3
  clear a1 a2 a3
  have hA : Below w.heap.size w (((w.alloc (.cells #[.slice sa ls.length cap] 22)).alloc (.cells #[.int .i64 bad] 3)).alloc (.cells #[.int .i64 au, .int .i64 rd, .slice ba bl.length bc, .slice pa pl.length pc, .slice va vl.length vc] 28)) := (((Below.refl _ _).alloc (Nat.le_refl _) _).alloc (by simp) _).alloc (by simp; omega) _
  go_enter Tryd.func8, Tryd.ntmps8
  go_wp2_with fail
  generalize ((w.alloc (.cells #[.slice sa ls.length cap] 22)).alloc (.cells #[.int .i64 bad] 3)).alloc (.cells #[.int .i64 au, .int .i64 rd, .slice ba bl.length bc, .slice pa pl.length pc, .slice va vl.length vc] 28) = W0 at hA q1 q2 q3 ⊢
  have HB := hA
  replace hp := hp.below hA
  replace h := h.below hA
  replace hv := hv.below hA
  replace hT := hT.below hA
  clear hA
  have HC := setting_any ls sa _ cap bad W0 rfl hl hp
  by_cases hs : setF (gvs ls) bad = 0
  · rw [hs] at HC
    have HSet : Hid (setF (gvs ls) bad = 0) := hs
    clear hs
    refine HC.mono ?_
    rintro e w1 ⟨he, hb1⟩
    subst he
    dsimp only
    clear HC
    replace q1 := (hb1.block _ (lt_of_heap q1)).trans q1
    replace q2 := (hb1.block _ (lt_of_heap q2)).trans q2
    replace q3 := (hb1.block _ (lt_of_heap q3)).trans q3
    replace hp := hp.below hb1
    replace h := h.below hb1
    replace hv := hv.below hb1
    replace hT := hT.below hb1
    replace HB := HB.trans (hb1.mono HB.size)
    have HK := checkCert_any au rd ba bc bl pa pc pl va vc vl w1 h.lb h.lp hv hvm
    by_cases hc : certF au rd bl pl vl = 0
    · rw [hc] at HK
      have HCf : Hid (certF au rd bl pl vl = 0) := hc
      have hF0 : headerF au rd bl pl = 0 := by
        unfold certF at hc
        split at hc
        · exact absurd hc (by assumption)
        · rename_i g; simpa using g
      have HF0 : Hid (headerF au rd bl pl = 0) := hF0
      clear hc hF0
      have q3_c0 := cells_at q3 0 _ rfl
      have q3_c1 := cells_at q3 1 _ rfl
      have q3_c2 := cells_at q3 2 _ rfl
      have q3_c3 := cells_at q3 3 _ rfl
      have q3_c4 := cells_at q3 4 _ rfl
      go_wp2_with fail
      refine HK.mono ?_
      rintro e w2 ⟨he, hb2⟩
      subst he
      dsimp only
      clear HK
      clear q3_c0 q3_c1 q3_c2 q3_c3 q3_c4
      replace q1 := (hb2.block _ (lt_of_heap q1)).trans q1
      replace q2 := (hb2.block _ (lt_of_heap q2)).trans q2
      replace q3 := (hb2.block _ (lt_of_heap q3)).trans q3
      replace hp := hp.below hb2
      replace h := h.below hb2
      replace hv := hv.below hb2
      replace hT := hT.below hb2
      replace HB := HB.trans (hb2.mono HB.size)
      have q3_c0 := cells_at q3 0 _ rfl
      have q3_c1 := cells_at q3 1 _ rfl
      have q3_c2 := cells_at q3 2 _ rfl
      have q3_c3 := cells_at q3 3 _ rfl
      have q3_c4 := cells_at q3 4 _ rfl
      go_wp2_with fail
      refine (slotOf_ok au rd ba bc bl pa pc pl w2 h HF0.out hT).mono ?_
      rintro e w3 ⟨b, he, hbb, hbl, hs3, hb3⟩
      subst he
      dsimp only
      clear q3_c0 q3_c1 q3_c2 q3_c3 q3_c4
      replace q1 := (hb3.block _ (lt_of_heap q1)).trans q1
      replace q2 := (hb3.block _ (lt_of_heap q2)).trans q2
      replace q3 := (hb3.block _ (lt_of_heap q3)).trans q3
      replace hp := hp.below hb3
      replace h := h.below hb3
      replace hv := hv.below hb3
      replace hT := hT.below hb3
      replace HB := HB.trans (hb3.mono HB.size)
      have hA1 := (Below.refl w3.heap.size w3).alloc (Nat.le_refl _) (.cells #[.int .i64 au, .int .i64 rd, .slice (some ⟨b, 0, none⟩) 32 32] 47)
      have q9 := heap_alloc_new w3 (.cells #[.int .i64 au, .int .i64 rd, .slice (some ⟨b, 0, none⟩) 32 32] 47)
      have k3 := heap_keep (o := .cells #[.int .i64 au, .int .i64 rd, .slice (some ⟨b, 0, none⟩) 32 32] 47) q3
      have k3_0 := cells_at k3 0 _ rfl
      have k3_1 := cells_at k3 1 _ rfl
      have k3_2 := cells_at k3 2 _ rfl
      have k3_3 := cells_at k3 3 _ rfl
      have k3_4 := cells_at k3 4 _ rfl
      go_wp2_with fail
      clear k3_0 k3_1 k3_2 k3_3 k3_4 k3
      generalize hG : w3.alloc (.cells #[.int .i64 au, .int .i64 rd, .slice (some ⟨b, 0, none⟩) 32 32] 47) = w4 at hA1 q9 ⊢
      clear hG
      replace q1 := (hA1.block _ (lt_of_heap q1)).trans q1
      replace q2 := (hA1.block _ (lt_of_heap q2)).trans q2
      replace q3 := (hA1.block _ (lt_of_heap q3)).trans q3
      replace hp := hp.below hA1
      replace h := h.below hA1
      replace hv := hv.below hA1
      replace hT := hT.below hA1
      replace hs3 := hs3.below hA1
      replace HB := HB.trans (hA1.mono HB.size)
      generalize hS9 : w3.heap.size = S9 at q9 ⊢
      clear hS9
      have HA : ∀ nd, ∀ W, Below w4.heap.size w4 W → Calls Tryd.prog 20 #[.int .i64 nd, .pointer (some ⟨w.heap.size + 1, 0, none⟩), .pointer (some ⟨w.heap.size, 0, none⟩), .pointer (some ⟨S9, 0, none⟩)] W fun e w' => e = .returned (.bool (lacksF (gvs ls) bad au rd (hDig au rd bl pl) nd)) ∧ Below W.heap.size W w' := fun nd W hW =>
        lacks_any ls sa cap bad au rd nd b 32 (hDig au rd bl pl) w.heap.size (w.heap.size + 1) S9 W hl (hp.below hW) (hs3.below hW) (hDig_length _ _ _ _) (hDig_u8 _ _ _ _) ((hW.block _ (lt_of_heap q2)).trans q2) ((hW.block _ (lt_of_heap q1)).trans q1) ((hW.block _ (lt_of_heap q9)).trans q9)
      have HCI := fun W (hW : Below w4.heap.size w4 W) => containsFuncI_any 20 #[.pointer (some ⟨w.heap.size + 1, 0, none⟩), .pointer (some ⟨w.heap.size, 0, none⟩), .pointer (some ⟨S9, 0, none⟩)] (lacksF (gvs ls) bad au rd (hDig au rd bl pl)) (enters_of Tryd.func20 (by kernel_rfl) rfl) vl va _ vc W rfl hvm (hv.below hW) (fun nd _ W2 hW2 => HA nd W2 (hW.trans (hW2.mono hW.size)))
      have HA1 := HA au w4 (Below.refl _ _)
      have HPF : Hid (provF (gvs ls) bad au rd (certF au rd bl pl vl) (hDig au rd bl pl) vl = if lacksF (gvs ls) bad au rd (hDig au rd bl pl) au || vl.any (lacksF (gvs ls) bad au rd (hDig au rd bl pl)) then 11 else 0) := by
        show _ = _
        rw [provF, if_neg (by simpa using HSet.out), if_neg (by simpa using HCf.out)]
      clear HA
      cases hz : lacksF (gvs ls) bad au rd (hDig au rd bl pl) au with
      | true =>
        rw [hz] at HA1
        have hF : Hid (provF (gvs ls) bad au rd (certF au rd bl pl vl) (hDig au rd bl pl) vl = 11) := by show _ = _; rw [HPF.out, hz]; rfl
        clear hz HPF HCI
        refine HA1.mono ?_
        rintro e w5 ⟨he, hb5⟩
        subst he
        dsimp only
        go_wp2_with fail
        go_ret
        exact ⟨ret_int hF.out.symm, HB.trans (hb5.mono HB.size)⟩
      | false =>
        rw [hz] at HA1
        refine HA1.mono ?_
        rintro e w5 ⟨he, hb5⟩
        subst he
        dsimp only
        have HC5 := HCI w5 hb5
        have r3 := (hb5.block _ (lt_of_heap q3)).trans q3
        have r3_0 := cells_at r3 0 _ rfl
        have r3_1 := cells_at r3 1 _ rfl
        have r3_2 := cells_at r3 2 _ rfl
        have r3_3 := cells_at r3 3 _ rfl
        have r3_4 := cells_at r3 4 _ rfl
        have hF : Hid (provF (gvs ls) bad au rd (certF au rd bl pl vl) (hDig au rd bl pl) vl = if vl.any (lacksF (gvs ls) bad au rd (hDig au rd bl pl)) then 11 else 0) := by show _ = _; rw [HPF.out, hz]; rfl
        clear hz HPF HCI HA1
        generalize vl.any (lacksF (gvs ls) bad au rd (hDig au rd bl pl)) = r at HC5 hF
        replace HB := HB.trans (hb5.mono HB.size)
        go_wp2_with fail
        refine HC5.mono ?_
        rintro e w6 ⟨he, hb6⟩
        subst he
        dsimp only
        replace HB := HB.trans (hb6.mono HB.size)
        clear HC5
        cases r with
        | true =>
          go_wp2_with fail
          go_ret
          exact ⟨ret_int hF.out.symm, HB⟩
        | false =>
          go_wp2_with fail
          go_ret
          exact ⟨ret_int hF.out.symm, HB⟩
    · have hF : Hid (provF (gvs ls) bad au rd (certF au rd bl pl vl) (hDig au rd bl pl) vl = certF au rd bl pl vl) := by show _ = _; rw [provF, if_neg (by simpa using HSet.out), if_pos hc]
      generalize hy0 : certF au rd bl pl vl = y at HK hc
      have HY0 : Hid (certF au rd bl pl vl = y) := hy0
      clear hy0
      have hy : (y != 0) = true := by simpa using hc
      have q3_c0 := cells_at q3 0 _ rfl
      have q3_c1 := cells_at q3 1 _ rfl
      have q3_c2 := cells_at q3 2 _ rfl
      have q3_c3 := cells_at q3 3 _ rfl
      have q3_c4 := cells_at q3 4 _ rfl
      go_wp2_with fail
      refine HK.mono ?_
      rintro e w2 ⟨he, hb2⟩
      subst he
      dsimp only
      go_wp2_with fail
      go_ret
      exact ⟨ret_int (hF.out.trans HY0.out).symm, HB.trans (hb2.mono HB.size)⟩
  · have hF : Hid (provF (gvs ls) bad au rd (certF au rd bl pl vl) (hDig au rd bl pl) vl = setF (gvs ls) bad) := by show _ = _; rw [provF, if_pos hs]
    generalize hy0 : setF (gvs ls) bad = y at HC hs
    have HY0 : Hid (setF (gvs ls) bad = y) := hy0
    clear hy0
    have hy : (y != 0) = true := by simpa using hs
    refine HC.mono ?_
    rintro e w1 ⟨he, hb1⟩
    subst he
    dsimp only
    go_wp2_with fail
    go_ret
    exact ⟨ret_int (hF.out.trans HY0.out).symm, HB.trans (hb1.mono HB.size)⟩
end Go.Proofs.YtmpflkggbekpfaaDoor
