/- slices.ContainsFunc of numbers, for a closure that answers by a number. -/
import Derived.Test.YtmpflkggbekpfaaDoorAppH
import Derived.Test.YtmpflkggbekpfaaDoorCHead
import Derived.Test.YtmpflkggbekpfaaDoorProvenRogueM0
import Derived.Test.YtmpflkggbekpfaaDoorHeadF
import Derived.Test.YtmpflkggbekpfaaDoorOwnL
import Derived.Deep.RegionHeld3
import Derived.Test.YtmpflkggbekpfaaDoorIntsL
import Derived.Test.YtmpflkggbekpfaaDoorSx
namespace Go.Proofs.YtmpflkggbekpfaaDoor
open Go.RowKit

/-- The digest of a tag and of one part. -/
def tagD (tag : Int) (bs : List Int) : List Int := sumL (tagTo tag [⟨none, 0, bs⟩] 1)
set_option maxRecDepth 100000 in
theorem tagD_length (tag : Int) (bs : List Int) : (tagD tag bs).length = 32 := sumL_length _
set_option maxRecDepth 100000 in
theorem tagTo_part (tag : Int) (sa : Option Addr) (c : Nat) (bs : List Int) : tagTo tag [⟨sa, c, bs⟩] 1 = tagTo tag [⟨none, 0, bs⟩] 1 := by simp [tagTo]
set_option maxRecDepth 100000 in
theorem one_part (w : World) (sa : Option Addr) (n cap : Nat) (bs : List Int) (hn : n = bs.length) (hs : SliceAt w sa cap bs) : PartsAt (w.alloc (.cells #[.slice sa n cap] 42)) (some ⟨w.heap.size, 0, none⟩) [⟨sa, cap, bs⟩] := by
  refine ⟨.inr ⟨w.heap.size, 0, rfl, fun j hj => ?_⟩, fun p hp => ?_⟩
  · obtain rfl : j = 0 := by simpa using hj
    subst hn
    exact laid_cell w _ _ 0 _ rfl
  · obtain rfl : p = ⟨sa, cap, bs⟩ := by simpa using hp
    exact hs.below ((Below.refl _ _).alloc (Nat.le_refl _) _)
set_option maxRecDepth 100000 in
set_option maxHeartbeats 1000000 in
theorem headerDigest_bad (au rd : Int) (ba : Option Addr) (bn bc : Nat) (bl : List Part) (pa : Option Addr) (pn pc : Nat) (pl : List Part) (ec : Int) (w : World) (hbn : bn = bl.length) (hpn : pn = pl.length) (hb : ListAt w ba bc bl) (hp : ListAt w pa pc pl) (he : headerF au rd bl pl = ec) (h0 : ec ≠ 0) :
    Calls Tryd.prog 30 #[.agg #[.int .i64 au, .int .i64 rd, .slice ba bn bc, .slice pa pn pc]] w fun e w' => e = .returned (.tuple #[.slice none 0 0, .int .i64 ec]) ∧ Below w.heap.size w w' := by
  have hA : Below w.heap.size w (w.alloc (.cells #[.int .i64 au, .int .i64 rd, .slice ba bn bc, .slice pa pn pc] 25)) := (Below.refl _ _).alloc (Nat.le_refl _) _
  have hC := checkHeader_any au rd ba bc bl pa pc pl _ (hb.below hA) (hp.below hA)
  rw [he, ← hbn, ← hpn] at hC
  clear hbn hpn he
  go_enter Tryd.func30, Tryd.ntmps30
  go_wp2_with fail
  refine hC.mono ?_
  rintro e w1 ⟨rfl, hb1⟩
  go_wp2_with fail
  go_ret2
  exact ⟨rfl, below_alloc hb1⟩
set_option maxRecDepth 100000 in
set_option maxHeartbeats 1000000 in
theorem headerDigest_ok (au rd : Int) (ba : Option Addr) (bn bc : Nat) (bl : List Part) (pa : Option Addr) (pn pc : Nat) (pl : List Part) (w : World) (hbn : bn = bl.length) (hpn : pn = pl.length) (hb : ListAt w ba bc bl) (hp : ListAt w pa pc pl) (hOb : Off w (.slice none 0 0) ba bl) (hOp : Off w (.slice none 0 0) pa pl) (hF : headerF au rd bl pl = 0) (ha : 0 ≤ au ∧ au < 4) (hr : 0 ≤ rd ∧ rd ≤ 1048576) (hbl : bl.length ≤ 4) (hpl : pl.length ≤ 4) (hb32 : ∀ p ∈ bl, p.bs.length = 32) (hp32 : ∀ p ∈ pl, p.bs.length = 32) (hT : Tabs w) :
    Calls Tryd.prog 30 #[.agg #[.int .i64 au, .int .i64 rd, .slice ba bn bc, .slice pa pn pc]] w fun e w' => ∃ b, e = .returned (.tuple #[.slice (some ⟨b, 0, none⟩) 32 32, .int .i64 0]) ∧ w.heap.size ≤ b ∧ Below w.heap.size w w' ∧ SliceAt w' (some ⟨b, 0, none⟩) 32 (tagD 2 (headB au rd bl pl)) := by
  have hA : Below w.heap.size w (w.alloc (.cells #[.int .i64 au, .int .i64 rd, .slice ba bn bc, .slice pa pn pc] 25)) := (Below.refl _ _).alloc (Nat.le_refl _) _
  have hC := checkHeader_any au rd ba bc bl pa pc pl _ (hb.below hA) (hp.below hA)
  rw [hF, ← hbn, ← hpn] at hC
  have hle1 := flatB_length bl hb32
  have hle2 := flatB_length pl hp32
  have Hn : Hid (bn = bl.length) := hbn
  have Hp : Hid (pn = pl.length) := hpn
  clear hbn hpn hF
  go_enter Tryd.func30, Tryd.ntmps30
  go_wp2_with fail
  refine hC.mono ?_
  rintro e w1 ⟨rfl, hb1⟩
  have r1 := row_new hb1
  replace hb1 := below_alloc hb1
  have c0 : w1.cell? ⟨w.heap.size, 0, none⟩ = some (.int .i64 au) := cells_at r1 0 _ rfl
  have c1 : w1.cell? ⟨w.heap.size, 1, none⟩ = some (.int .i64 rd) := cells_at r1 1 _ rfl
  have c2 : w1.cell? ⟨w.heap.size, 2, none⟩ = some (.slice ba bn bc) := cells_at r1 2 _ rfl
  have c3 : w1.cell? ⟨w.heap.size, 3, none⟩ = some (.slice pa pn pc) := cells_at r1 3 _ rfl
  have hsz := hb1.size
  clear hC
  have hO1 : Off w1 (.slice none 0 0) ba bl := ⟨fun sb so e => ⟨Nat.lt_of_lt_of_le (hOb.row sb so e).1 hsz, fun h => by cases h⟩, fun p hp sb so e => ⟨Nat.lt_of_lt_of_le (hOb.each p hp sb so e).1 hsz, fun h => by cases h⟩⟩
  have hO2 : Off w1 (.slice none 0 0) pa pl := ⟨fun sb so e => ⟨Nat.lt_of_lt_of_le (hOp.row sb so e).1 hsz, fun h => by cases h⟩, fun p hp sb so e => ⟨Nat.lt_of_lt_of_le (hOp.each p hp sb so e).1 hsz, fun h => by cases h⟩⟩
  go_wp2_with fail
  refine (appendHeader_any w1.heap.size (.slice none 0 0) 0 [] au rd ba bn bc bl pa pn pc pl w1 ha hr Hn.out Hp.out hbl hpl hb32 hp32 (hb.below hb1) hO1 (hp.below hb1) hO2 (World.ownsRow_nil _ _ _ _) (Nat.le_refl _) (by decide)).mono ?_
  rintro e w2 ⟨v2, rfl, ho2, G2⟩
  have hb2 : Below w1.heap.size w1 w2 := G2.below (Nat.le_refl _) (fun q e => by cases e)
  rw [Nat.zero_add, List.nil_append] at ho2
  obtain ⟨xa, xc, hv, hxl, hx⟩ := owns_form ho2
  subst hv
  have hW2 := hb1.trans (hb2.mono hsz)
  have HX : Hid _ := hxl
  have hbl' : (headB au rd bl pl).length ≤ 300 := by simp [headB, rd3, digsB]; omega
  have hA2 : Below w2.heap.size w2 (w2.alloc (.cells #[.slice xa (headB au rd bl pl).length xc] 42)) := (Below.refl _ _).alloc (Nat.le_refl _) _
  clear hxl ho2 G2
  generalize hBB : headB au rd bl pl = B at *
  have HB : Hid _ := hBB
  clear hBB
  go_wp2_with fail
  refine (tagged_ok 2 [⟨xa, xc, B⟩] _ _ _ _ rfl (one_part w2 xa _ xc B rfl hx) (by simp [psz]; omega) ((hT.below hW2).below hA2)).mono ?_
  rintro e w3 ⟨b, rfl, hle3, hb3, hr3⟩
  go_wp2_with fail
  go_ret2
  refine ⟨b, rfl, ?_, ?_, ?_⟩
  · rw [size_alloc] at hle3; have := hW2.size; omega
  · exact hW2.trans ((below_alloc hb3).mono hW2.size)
  · rw [tagD, HB.out, ← tagTo_part 2 xa xc B]; exact hr3
end Go.Proofs.YtmpflkggbekpfaaDoor

namespace Go.Proofs.YtmpflkggbekpfaaDoor
open Go.RowKit

set_option maxRecDepth 100000 in
theorem digTo1_zero (ps : List Part) (k : Nat) (h : digTo1 ps k = 0) : ∀ j, j < k → digAt ps j = 0 := by
  induction k with
  | zero => intro j hj; omega
  | succ k ih =>
    rw [digTo1] at h
    split at h
    · rename_i h1; exact absurd h h1
    · rename_i h1
      intro j hj
      rcases Nat.lt_or_ge j k with g | g
      · exact ih (by simpa using h1) j g
      · obtain rfl : j = k := by omega
        exact h
set_option maxRecDepth 100000 in
theorem digF_len {ps : List Part} (h : digF ps = 0) : ∀ p ∈ ps, p.bs.length = 32 := by
  intro p hp
  obtain ⟨j, hj, rfl⟩ := List.getElem_of_mem hp
  have h1 := digTo1_zero ps ps.length h j hj
  rw [digAt, partAt_get ps j hj] at h1
  split at h1
  · cases h1
  · rename_i h2; simpa using h2
set_option maxRecDepth 100000 in
theorem headerF_ok {au rd : Int} {bl pl : List Part} (h : headerF au rd bl pl = 0) : (0 ≤ au ∧ au < 4) ∧ (1 ≤ rd ∧ rd ≤ 1048576) ∧ bl.length ≤ 3 ∧ pl.length ≤ 4 ∧ (∀ p ∈ bl, p.bs.length = 32) ∧ (∀ p ∈ pl, p.bs.length = 32) := by
  unfold headerF at h
  split at h
  · cases h
  · split at h
    · cases h
    · split at h
      · rename_i h1; exact absurd h h1
      · split at h
        · rename_i h1; exact absurd h h1
        · rename_i h1 h2 h3 h4
          exact ⟨by omega, by omega, by omega, by omega, digF_len (by simpa using h3), digF_len (by simpa using h4)⟩
end Go.Proofs.YtmpflkggbekpfaaDoor

namespace Go.Proofs.YtmpflkggbekpfaaDoor
open Go.RowKit

set_option maxRecDepth 100000 in
theorem Same.bsAt {ps qs : List Part} (h : Same ps qs) (k : Nat) : (partAt ps k).bs = (partAt qs k).bs := by
  have hk : (ps.map (·.bs))[k]? = (qs.map (·.bs))[k]? := by rw [h]
  simp only [List.getElem?_map] at hk
  simp only [partAt, List.getD]
  cases h1 : ps[k]? <;> cases h2 : qs[k]? <;> simp_all
set_option maxRecDepth 100000 in
theorem digTo1_same {ps qs : List Part} (h : Same ps qs) (k : Nat) : digTo1 ps k = digTo1 qs k := by
  induction k with
  | zero => rfl
  | succ k ih =>
    have e1 : digAt ps k = digAt qs k := by
      have e2 : twice ps k = twice qs k := by
        simp only [twice, h.bsAt]
      rw [digAt, digAt, e2, h.bsAt k]
    rw [digTo1, digTo1, ih, e1]
set_option maxRecDepth 100000 in
theorem digF_same {ps qs : List Part} (h : Same ps qs) : digF ps = digF qs := by
  rw [digF, digF, h.length, digTo1_same h]
end Go.Proofs.YtmpflkggbekpfaaDoor

namespace Go.Proofs.YtmpflkggbekpfaaDoor
open Go.RowKit

set_option maxRecDepth 100000 in
theorem flatB_sameH (xs ys : List Part) (h : Same xs ys) : flatB xs = flatB ys := by
  have h' : xs.map (·.bs) = ys.map (·.bs) := h
  clear h
  induction xs generalizing ys with
  | nil => cases ys with
    | nil => rfl
    | cons y ys => simp at h'
  | cons x xs ih => cases ys with
    | nil => simp at h'
    | cons y ys =>
      simp only [List.map_cons, List.cons.injEq] at h'
      rw [flatB, flatB, h'.1, ih ys h'.2]
set_option maxRecDepth 100000 in
theorem headB_sameH {au rd : Int} {xl bl yl pl : List Part} (h1 : Same xl bl) (h2 : Same yl pl) : headB au rd xl yl = headB au rd bl pl := by
  rw [headB, headB, digsB, digsB, digsB, digsB, flatB_sameH _ _ h1, flatB_sameH _ _ h2, h1.length, h2.length]
set_option maxRecDepth 100000 in
theorem headerF_sameH {au rd : Int} {xl bl yl pl : List Part} (h1 : Same xl bl) (h2 : Same yl pl) : headerF au rd xl yl = headerF au rd bl pl := by
  rw [headerF, headerF, digF_same h1, digF_same h2, h1.length, h2.length]
set_option maxRecDepth 100000 in
theorem off_of_listH {w : World} {ra : Option Addr} {rc : Nat} {qs : List Part} (h : ListAt w ra rc qs) (hne : ∀ sb so, ra = some ⟨sb, so, none⟩ → sb < w.heap.size) (h32 : ∀ p ∈ qs, p.bs.length = 32) : Off w (.slice none 0 0) ra qs :=
  ⟨fun sb so e => ⟨hne sb so e, fun h => by cases h⟩, fun p hp sb so e => ⟨by
    have hs := h.parts.each p hp
    rcases hs.bytes with hb | ⟨sb', so', e', hb⟩
    · have := h32 p hp; rw [hb] at this; simp at this
    · rw [e] at e'; cases e'; exact block_lt_of_cell (hb 0 (by rw [h32 p hp]; decide)), fun h => by cases h⟩⟩
/-- A header that is read. -/
structure HAt (w : World) (ba : Option Addr) (bc : Nat) (bl : List Part) (pa : Option Addr) (pc : Nat) (pl : List Part) : Prop where
  lb : ListAt w ba bc bl
  lp : ListAt w pa pc pl
  rb : ∀ sb so, ba = some ⟨sb, so, none⟩ → sb < w.heap.size
  rp : ∀ sb so, pa = some ⟨sb, so, none⟩ → sb < w.heap.size
set_option maxRecDepth 100000 in
theorem HAt.below {w w' : World} {ba : Option Addr} {bc : Nat} {bl : List Part} {pa : Option Addr} {pc : Nat} {pl : List Part} (h : HAt w ba bc bl pa pc pl) (hb : Below w.heap.size w w') : HAt w' ba bc bl pa pc pl :=
  ⟨h.lb.below hb, h.lp.below hb, fun sb so e => Nat.lt_of_lt_of_le (h.rb sb so e) hb.size, fun sb so e => Nat.lt_of_lt_of_le (h.rp sb so e) hb.size⟩
/-- A header's digest. -/
def hDig (au rd : Int) (bl pl : List Part) : List Int := tagD 2 (headB au rd bl pl)
set_option maxRecDepth 100000 in
theorem hDig_length (au rd : Int) (bl pl : List Part) : (hDig au rd bl pl).length = 32 := tagD_length _ _
set_option maxRecDepth 100000 in
theorem headerDigest_hat {au rd : Int} {ba : Option Addr} {bc : Nat} {bl : List Part} {pa : Option Addr} {pc : Nat} {pl : List Part} {w : World} (h : HAt w ba bc bl pa pc pl) (hF : headerF au rd bl pl = 0) (hT : Tabs w) :
    Calls Tryd.prog 30 #[.agg #[.int .i64 au, .int .i64 rd, .slice ba bl.length bc, .slice pa pl.length pc]] w fun e w' => ∃ b, e = .returned (.tuple #[.slice (some ⟨b, 0, none⟩) 32 32, .int .i64 0]) ∧ w.heap.size ≤ b ∧ Below w.heap.size w w' ∧ SliceAt w' (some ⟨b, 0, none⟩) 32 (hDig au rd bl pl) := by
  obtain ⟨z1, z2, z3, z4, z5, z6⟩ := headerF_ok hF
  exact headerDigest_ok au rd ba bl.length bc bl pa pl.length pc pl w rfl rfl h.lb h.lp (off_of_listH h.lb h.rb z5) (off_of_listH h.lp h.rp z6) hF z1 ⟨by omega, z2.2⟩ (by omega) z4 z5 z6 hT
end Go.Proofs.YtmpflkggbekpfaaDoor

namespace Go.Proofs.YtmpflkggbekpfaaDoor
open Go.RowKit

set_option maxRecDepth 100000 in
theorem slice_far {w : World} {ra : Option Addr} {rc B : Nat} {bs : List Int} (h : SliceAt w ra rc bs) (hf : ∀ sb so, ra = some ⟨sb, so, none⟩ → B ≤ sb) (b j : Nat) (v : Value) (hb : b < B) : SliceAt (w.setCell ⟨b, j, none⟩ v) ra rc bs := by
  refine ⟨h.le, h.max, h.some, h.nil, ?_⟩
  rcases h.bytes with hc | ⟨sb, so, e, hc⟩
  · exact .inl hc
  · exact .inr ⟨sb, so, e, fun k hk => (World.cell?_setCell_far _ _ _ _ (by have := hf sb so e; show b ≠ sb; omega)).trans (hc k hk)⟩
set_option maxRecDepth 100000 in
set_option maxHeartbeats 1000000 in
theorem slotOf_bad (au rd : Int) (ba : Option Addr) (bc : Nat) (bl : List Part) (pa : Option Addr) (pc : Nat) (pl : List Part) (ec : Int) (w : World) (h : HAt w ba bc bl pa pc pl) (he : headerF au rd bl pl = ec) (h0 : ec ≠ 0) :
    Calls Tryd.prog 19 #[.agg #[.int .i64 au, .int .i64 rd, .slice ba bl.length bc, .slice pa pl.length pc]] w fun e w' => e = .returned (.tuple #[.agg #[.int .i64 0, .int .i64 0, .slice none 0 0], .int .i64 ec]) ∧ Below w.heap.size w w' := by
  have hR : Below w.heap.size w ((w.alloc (.cells #[.int .i64 au, .int .i64 rd, .slice ba bl.length bc, .slice pa pl.length pc] 25)).alloc (.cells #[.int .i64 0, .int .i64 0, .slice none 0 0] 47)) := ((Below.refl _ _).alloc (Nat.le_refl _) _).alloc (by simp) _
  have q1 : ((w.alloc (.cells #[.int .i64 au, .int .i64 rd, .slice ba bl.length bc, .slice pa pl.length pc] 25)).alloc (.cells #[.int .i64 0, .int .i64 0, .slice none 0 0] 47)).heap[w.heap.size + 1]? = some (.cells #[.int .i64 0, .int .i64 0, .slice none 0 0] 47 (0, 0)) := by
    have := heap_alloc_new (w.alloc (.cells #[.int .i64 au, .int .i64 rd, .slice ba bl.length bc, .slice pa pl.length pc] 25)) (.cells #[.int .i64 0, .int .i64 0, .slice none 0 0] 47)
    rw [size_alloc] at this; exact this
  go_enter Tryd.func19, Tryd.ntmps19
  go_wp2_with fail
  generalize (w.alloc (.cells #[.int .i64 au, .int .i64 rd, .slice ba bl.length bc, .slice pa pl.length pc] 25)).alloc (.cells #[.int .i64 0, .int .i64 0, .slice none 0 0] 47) = W0 at hR q1 ⊢
  refine (headerDigest_bad au rd ba _ bc bl pa _ pc pl ec W0 rfl rfl (h.lb.below hR) (h.lp.below hR) he h0).mono ?_
  rintro e w1 ⟨rfl, hb1⟩
  have r1 := (hb1.block _ (lt_of_heap q1)).trans q1
  have d0 := cells_at r1 0 _ rfl
  have d1 := cells_at r1 1 _ rfl
  have d2 := cells_at r1 2 _ rfl
  have f0 := frozen_at r1 0
  have f1 := frozen_at r1 1
  have f2 := frozen_at r1 2
  have hW1 := hR.trans (hb1.mono hR.size)
  have h0' : (ec != 0) = true := by simpa using h0
  go_wp2_with fail
  refine bodyPost_ret (v := .tuple #[.agg #[.int .i64 0, .int .i64 0, .slice none 0 0], .int .i64 ec]) (by simp [results, Tryd.results19, go_sem, d0, d1, d2]) rfl ⟨rfl, ?_⟩
  exact ((hW1.setCell (Nat.le_succ _) _).setCell (Nat.le_succ _) _).setCell (Nat.le_succ _) _

set_option maxRecDepth 100000 in
set_option maxHeartbeats 1000000 in
theorem slotOf_ok (au rd : Int) (ba : Option Addr) (bc : Nat) (bl : List Part) (pa : Option Addr) (pc : Nat) (pl : List Part) (w : World) (h : HAt w ba bc bl pa pc pl) (hF : headerF au rd bl pl = 0) (hT : Tabs w) :
    Calls Tryd.prog 19 #[.agg #[.int .i64 au, .int .i64 rd, .slice ba bl.length bc, .slice pa pl.length pc]] w fun e w' => ∃ b, e = .returned (.tuple #[.agg #[.int .i64 au, .int .i64 rd, .slice (some ⟨b, 0, none⟩) 32 32], .int .i64 0]) ∧ w.heap.size ≤ b ∧ b < w'.heap.size ∧ SliceAt w' (some ⟨b, 0, none⟩) 32 (hDig au rd bl pl) ∧ Below w.heap.size w w' := by
  have hR : Below w.heap.size w ((w.alloc (.cells #[.int .i64 au, .int .i64 rd, .slice ba bl.length bc, .slice pa pl.length pc] 25)).alloc (.cells #[.int .i64 0, .int .i64 0, .slice none 0 0] 47)) := ((Below.refl _ _).alloc (Nat.le_refl _) _).alloc (by simp) _
  have q0 := heap_alloc2_old w (.cells #[.int .i64 au, .int .i64 rd, .slice ba bl.length bc, .slice pa pl.length pc] 25) (.cells #[.int .i64 0, .int .i64 0, .slice none 0 0] 47)
  have q1 : ((w.alloc (.cells #[.int .i64 au, .int .i64 rd, .slice ba bl.length bc, .slice pa pl.length pc] 25)).alloc (.cells #[.int .i64 0, .int .i64 0, .slice none 0 0] 47)).heap[w.heap.size + 1]? = some (.cells #[.int .i64 0, .int .i64 0, .slice none 0 0] 47 (0, 0)) := by
    have := heap_alloc_new (w.alloc (.cells #[.int .i64 au, .int .i64 rd, .slice ba bl.length bc, .slice pa pl.length pc] 25)) (.cells #[.int .i64 0, .int .i64 0, .slice none 0 0] 47)
    rw [size_alloc] at this; exact this
  go_enter Tryd.func19, Tryd.ntmps19
  go_wp2_with fail
  generalize (w.alloc (.cells #[.int .i64 au, .int .i64 rd, .slice ba bl.length bc, .slice pa pl.length pc] 25)).alloc (.cells #[.int .i64 0, .int .i64 0, .slice none 0 0] 47) = W0 at hR q0 q1 ⊢
  refine (headerDigest_hat (h.below hR) hF (hT.below hR)).mono ?_
  rintro e w1 ⟨b, rfl, hbb, hb1, hs1⟩
  have hlt1 : w.heap.size + 1 < W0.heap.size := lt_of_heap q1
  have r0 := (hb1.block _ (lt_of_heap q0)).trans q0
  have r1 := (hb1.block _ (lt_of_heap q1)).trans q1
  have c0 : w1.cell? ⟨w.heap.size, 0, none⟩ = some (.int .i64 au) := cells_at r0 0 _ rfl
  have c1 : w1.cell? ⟨w.heap.size, 1, none⟩ = some (.int .i64 rd) := cells_at r0 1 _ rfl
  have d0 := cells_at r1 0 _ rfl
  have d1 := cells_at r1 1 _ rfl
  have d2 := cells_at r1 2 _ rfl
  have f0 := frozen_at r1 0
  have f1 := frozen_at r1 1
  have f2 := frozen_at r1 2
  have hW1 := hR.trans (hb1.mono hR.size)
  have hbl : b < w1.heap.size := by
    rcases hs1.bytes with hc | ⟨sb, so, e, hc⟩
    · have := hDig_length au rd bl pl; rw [hc] at this; simp at this
    · cases e; exact block_lt_of_cell (hc 0 (by rw [hDig_length]; decide))
  clear hF
  go_wp2_with fail
  refine bodyPost_ret (v := .tuple #[.agg #[.int .i64 au, .int .i64 rd, .slice (some ⟨b, 0, none⟩) 32 32], .int .i64 0]) (by simp [results, Tryd.results19, go_sem, d0, d1, d2]) rfl ⟨b, rfl, Nat.le_trans hR.size hbb, by simpa using hbl, ?_, ?_⟩
  · have hr : ∀ sb so, (some ⟨b, 0, none⟩ : Option Addr) = some ⟨sb, so, none⟩ → W0.heap.size ≤ sb := fun sb so e => by cases e; exact hbb
    exact slice_far (slice_far (slice_far hs1 hr _ _ _ hlt1) hr _ _ _ hlt1) hr _ _ _ hlt1
  · exact ((hW1.setCell (Nat.le_succ _) _).setCell (Nat.le_succ _) _).setCell (Nat.le_succ _) _
end Go.Proofs.YtmpflkggbekpfaaDoor

namespace Go.Proofs.YtmpflkggbekpfaaDoor
open Go.RowKit

def AnswersI (f : FuncId) (caps : Array Value) (P : Int → Bool) (vl : List Int) (w : World) : Prop :=
  ∀ x ∈ vl, ∀ W : World, Below w.heap.size w W → Calls Tryd.prog f (#[.int .i64 x] ++ caps) W fun e w' => e = .returned (.bool (P x)) ∧ Below W.heap.size W w'
set_option maxRecDepth 100000 in
theorem memI_succ {α : Type} {l : List α} {x : α} {k : Nat} (hk : k < l.length) : x ∈ l.take (k + 1) ↔ x ∈ l.take k ∨ x = l[k] := by
  rw [List.take_succ_eq_append_getElem hk, List.mem_append, List.mem_singleton]
set_option maxRecDepth 100000 in
set_option maxHeartbeats 2000000 in
theorem indexFuncI_any (f : FuncId) (caps : Array Value) (P : Int → Bool) (hent : ∀ args w, (callFunc f args).run Tryd.prog w = .ok (.enter f args) w) (vl : List Int) (va : Option Addr) (n cap : Nat) (w : World) (hn : n = vl.length) (hk2 : vl.length ≤ 9000000000000000000) (hp : IntsAt w va vl) (hA : AnswersI f caps P vl w) :
    Calls Tryd.prog 39 #[.slice va n cap, .func (.func f) #[] caps] w fun e w' => Below w.heap.size w w' ∧ ∃ r : Int, e = .returned (.int .i64 r) ∧ ((vl.any P = true ∧ 0 ≤ r) ∨ (vl.any P = false ∧ r = -1)) := by
  subst hn
  have HA : Hid (AnswersI f caps P vl w) := hA
  clear hA
  go_enter Tryd.func39, Tryd.ntmps39
  go_wp2_with fail
  go_loopw [8] (fun i wr => ∃ m : Nat, m ≤ vl.length ∧ i = .int .i64 m ∧ (∀ s ∈ vl.take m, P s = false) ∧ Below w.heap.size w wr) (fun i _ => vl.length - (intOf i).toNat)
  case atStart => exact ⟨0, Nat.zero_le _, rfl, (fun s hs => by simp at hs), Below.refl _ _⟩
  case round =>
    obtain ⟨m, hm, rfl, hno, hb⟩ := hrel
    by_cases hlt : m < vl.length
    · have hpw := hp.below hb
      obtain ⟨sb, so, rfl, hc⟩ : ∃ sb so, va = some ⟨sb, so, none⟩ ∧ ∀ j, j < vl.length → wr.cell? ⟨sb, so + j, none⟩ = some (.int .i64 (vl.getD j 0)) := by
        rcases hpw.cells with h | h
        · rw [h] at hlt; simp at hlt
        · exact h
      have c0 := hc m hlt
      have hg : vl.getD m 0 = vl[m] := by simp [List.getD, hlt]
      rw [hg] at c0
      have hltI : (m : Int) < vl.length := by omega
      have HY : Hid (P (vl[m]) = true → vl.any P = true) := by
        show _ → _
        intro h
        exact List.any_eq_true.2 ⟨_, List.getElem_mem hlt, h⟩
      have HN : Hid (P (vl[m]) = false → ∀ s ∈ vl.take (m + 1), P s = false) := by
        show _ → _
        intro h s hs
        rw [memI_succ hlt] at hs
        rcases hs with hs | rfl
        · exact hno s hs
        · exact h
      have HC := HA.out (vl[m]) (List.getElem_mem hlt) wr hb
      clear hc hno hpw hg
      generalize vl[m] = t at *
      go_wp2_with fail
      refine HC.mono ?_
      rintro e w1 ⟨he, hb1⟩
      subst he
      dsimp only
      have hB1 := hb.trans (hb1.mono hb.size)
      cases hP : P t with
      | true =>
        have hy : Hid _ := HY.out hP
        clear HY HN hP HC
        go_wp2_with fail
        go_ret
        exact ⟨hB1, (m : Int), rfl, .inl ⟨hy.out, by omega⟩⟩
      | false =>
        have hn : Hid _ := HN.out hP
        clear HY HN hP HC
        go_wp2_with fail
        go_roundw
        case rel => exact ⟨m + 1, by omega, by go_num, hn.out, hB1⟩
        case measure => simp [intOf]; omega
    · obtain rfl : m = vl.length := by omega
      have hn : Hid (vl.any P = false) := by
        show _ = _
        rw [List.take_of_length_le (Nat.le_refl _)] at hno
        rw [List.any_eq_false]
        intro s hs
        rw [hno s hs]; simp
      clear hno
      go_wp2_with fail
      go_ret
      exact ⟨hb, (-1 : Int), rfl, .inr ⟨hn.out, rfl⟩⟩
set_option maxRecDepth 100000 in
set_option maxHeartbeats 1000000 in
theorem containsFuncI_any (f : FuncId) (caps : Array Value) (P : Int → Bool) (hent : ∀ args w, (callFunc f args).run Tryd.prog w = .ok (.enter f args) w) (vl : List Int) (va : Option Addr) (n cap : Nat) (w : World) (hn : n = vl.length) (hk2 : vl.length ≤ 9000000000000000000) (hp : IntsAt w va vl) (hA : AnswersI f caps P vl w) :
    Calls Tryd.prog 22 #[.slice va n cap, .func (.func f) #[] caps] w fun e w' => e = .returned (.bool (vl.any P)) ∧ Below w.heap.size w w' := by
  subst hn
  have HC := indexFuncI_any f caps P hent vl va _ cap w rfl hk2 hp hA
  clear hA
  go_enter Tryd.func22, Tryd.ntmps22
  go_wp2_with fail
  refine HC.mono ?_
  rintro e w1 ⟨hb, r, he, hr⟩
  subst he
  dsimp only
  rcases hr with ⟨ha, hr⟩ | ⟨ha, rfl⟩
  · have Ha : Hid _ := ha
    clear ha
    go_wp2_with fail
    go_ret
    exact ⟨ret_bool (by rw [Ha.out]), hb⟩
  · have Ha : Hid _ := ha
    clear ha
    go_wp2_with fail
    go_ret
    exact ⟨ret_bool (by rw [Ha.out]), hb⟩
end Go.Proofs.YtmpflkggbekpfaaDoor
