/- Lists of lists of bytes that a call makes. -/
import Derived.Test.YtbmodfegcmaieaaDoorGEqual
import Derived.Test.YtbmodfegcmaieaaDoorGK
import Derived.Test.YtbmodfegcmaieaaDoorGTagged
import Derived.Test.YtbmodfegcmaieaaDoorGDigsC
import Derived.Test.YtbmodfegcmaieaaDoorGAppD
import Derived.Test.YtbmodfegcmaieaaDoorGAppR
import Derived.Deep.RegionHeld
namespace Go.Proofs.YtbmodfegcmaieaaDoor
open Go.RowKit

/-- The digest of a tag and of one part. -/
def tagD (tag : Int) (bs : List Int) : List Int := sumL (tagTo tag [⟨none, 0, bs⟩] 1)
set_option maxRecDepth 100000 in
theorem tagD_length (tag : Int) (bs : List Int) : (tagD tag bs).length = 32 := sumL_length _
set_option maxRecDepth 100000 in
theorem tagTo_part (tag : Int) (sa : Option Addr) (c : Nat) (bs : List Int) : tagTo tag [⟨sa, c, bs⟩] 1 = tagTo tag [⟨none, 0, bs⟩] 1 := by simp [tagTo]
set_option maxRecDepth 100000 in
theorem one_part (w : World) (sa : Option Addr) (n cap : Nat) (bs : List Int) (hn : n = bs.length) (hs : SliceAt w sa cap bs) : PartsAt (w.alloc (.cells #[.slice sa n cap] 46)) (some ⟨w.heap.size, 0, none⟩) [⟨sa, cap, bs⟩] := by
  refine ⟨.inr ⟨w.heap.size, 0, rfl, fun j hj => ?_⟩, fun p hp => ?_⟩
  · obtain rfl : j = 0 := by simpa using hj
    subst hn
    exact laid_cell w _ _ 0 _ rfl
  · obtain rfl : p = ⟨sa, cap, bs⟩ := by simpa using hp
    exact hs.below ((Below.refl _ _).alloc (Nat.le_refl _) _)
set_option maxRecDepth 100000 in
set_option maxHeartbeats 1000000 in
theorem headerDigest_bad (au rd : Int) (ba : Option Addr) (bn bc : Nat) (bl : List Part) (pa : Option Addr) (pn pc : Nat) (pl : List Part) (ec : Int) (w : World) (hbn : bn = bl.length) (hpn : pn = pl.length) (hb : ListAt w ba bc bl) (hp : ListAt w pa pc pl) (he : headerF au rd bl pl = ec) (h0 : ec ≠ 0) :
    Calls Tryd.prog 45 #[.agg #[.int .i64 au, .int .i64 rd, .slice ba bn bc, .slice pa pn pc]] w fun e w' => e = .returned (.tuple #[.slice none 0 0, .int .i64 ec]) ∧ Below w.heap.size w w' := by
  have hA : Below w.heap.size w (w.alloc (.cells #[.int .i64 au, .int .i64 rd, .slice ba bn bc, .slice pa pn pc] 60)) := (Below.refl _ _).alloc (Nat.le_refl _) _
  have hC := checkHeader_any au rd ba bc bl pa pc pl _ (hb.below hA) (hp.below hA)
  rw [he, ← hbn, ← hpn] at hC
  clear hbn hpn he
  go_enter Tryd.func45, Tryd.ntmps45
  go_wp2_with fail
  refine hC.mono ?_
  rintro e w1 ⟨rfl, hb1⟩
  go_wp2_with fail
  go_ret2
  exact ⟨rfl, below_alloc hb1⟩
set_option maxRecDepth 100000 in
set_option maxHeartbeats 1000000 in
theorem headerDigest_ok (au rd : Int) (ba : Option Addr) (bn bc : Nat) (bl : List Part) (pa : Option Addr) (pn pc : Nat) (pl : List Part) (w : World) (hbn : bn = bl.length) (hpn : pn = pl.length) (hb : ListAt w ba bc bl) (hp : ListAt w pa pc pl) (hOb : Off w (.slice none 0 0) ba bl) (hOp : Off w (.slice none 0 0) pa pl) (hF : headerF au rd bl pl = 0) (ha : 0 ≤ au ∧ au < 4) (hr : 0 ≤ rd ∧ rd ≤ 1048576) (hbl : bl.length ≤ 4) (hpl : pl.length ≤ 4) (hb32 : ∀ p ∈ bl, p.bs.length = 32) (hp32 : ∀ p ∈ pl, p.bs.length = 32) (hT : Tabs w) :
    Calls Tryd.prog 45 #[.agg #[.int .i64 au, .int .i64 rd, .slice ba bn bc, .slice pa pn pc]] w fun e w' => ∃ b, e = .returned (.tuple #[.slice (some ⟨b, 0, none⟩) 32 32, .int .i64 0]) ∧ w.heap.size ≤ b ∧ Below w.heap.size w w' ∧ SliceAt w' (some ⟨b, 0, none⟩) 32 (tagD 2 (headB au rd bl pl)) := by
  have hA : Below w.heap.size w (w.alloc (.cells #[.int .i64 au, .int .i64 rd, .slice ba bn bc, .slice pa pn pc] 60)) := (Below.refl _ _).alloc (Nat.le_refl _) _
  have hC := checkHeader_any au rd ba bc bl pa pc pl _ (hb.below hA) (hp.below hA)
  rw [hF, ← hbn, ← hpn] at hC
  have hle1 := flatB_length bl hb32
  have hle2 := flatB_length pl hp32
  have Hn : Hid (bn = bl.length) := hbn
  have Hp : Hid (pn = pl.length) := hpn
  clear hbn hpn hF
  go_enter Tryd.func45, Tryd.ntmps45
  go_wp2_with fail
  refine hC.mono ?_
  rintro e w1 ⟨rfl, hb1⟩
  have r1 := row_new hb1
  replace hb1 := below_alloc hb1
  have c0 : w1.cell? ⟨w.heap.size, 0, none⟩ = some (.int .i64 au) := cells_at r1 0 _ rfl
  have c1 : w1.cell? ⟨w.heap.size, 1, none⟩ = some (.int .i64 rd) := cells_at r1 1 _ rfl
  have c2 : w1.cell? ⟨w.heap.size, 2, none⟩ = some (.slice ba bn bc) := cells_at r1 2 _ rfl
  have c3 : w1.cell? ⟨w.heap.size, 3, none⟩ = some (.slice pa pn pc) := cells_at r1 3 _ rfl
  have hsz := hb1.size
  clear hC
  have hO1 : Off w1 (.slice none 0 0) ba bl := ⟨fun sb so e => ⟨Nat.lt_of_lt_of_le (hOb.row sb so e).1 hsz, fun h => by cases h⟩, fun p hp sb so e => ⟨Nat.lt_of_lt_of_le (hOb.each p hp sb so e).1 hsz, fun h => by cases h⟩⟩
  have hO2 : Off w1 (.slice none 0 0) pa pl := ⟨fun sb so e => ⟨Nat.lt_of_lt_of_le (hOp.row sb so e).1 hsz, fun h => by cases h⟩, fun p hp sb so e => ⟨Nat.lt_of_lt_of_le (hOp.each p hp sb so e).1 hsz, fun h => by cases h⟩⟩
  go_wp2_with fail
  refine (appendHeader_any w1.heap.size (.slice none 0 0) 0 [] au rd ba bn bc bl pa pn pc pl w1 ha hr Hn.out Hp.out hbl hpl hb32 hp32 (hb.below hb1) hO1 (hp.below hb1) hO2 (World.ownsRow_nil _ _ _ _) (Nat.le_refl _) (by decide)).mono ?_
  rintro e w2 ⟨v2, rfl, ho2, G2⟩
  have hb2 : Below w1.heap.size w1 w2 := G2.below (Nat.le_refl _) (fun q e => by cases e)
  rw [Nat.zero_add, List.nil_append] at ho2
  obtain ⟨xa, xc, hv, hxl, hx⟩ := owns_form ho2
  subst hv
  have hW2 := hb1.trans (hb2.mono hsz)
  have HX : Hid _ := hxl
  have hbl' : (headB au rd bl pl).length ≤ 300 := by simp [headB, rd3, digsB]; omega
  have hA2 : Below w2.heap.size w2 (w2.alloc (.cells #[.slice xa (headB au rd bl pl).length xc] 46)) := (Below.refl _ _).alloc (Nat.le_refl _) _
  clear hxl ho2 G2
  generalize hBB : headB au rd bl pl = B at *
  have HB : Hid _ := hBB
  clear hBB
  go_wp2_with fail
  refine (tagged_ok 2 [⟨xa, xc, B⟩] _ _ _ _ rfl (one_part w2 xa _ xc B rfl hx) (by simp [psz]; omega) ((hT.below hW2).below hA2)).mono ?_
  rintro e w3 ⟨b, rfl, hle3, hb3, hr3⟩
  go_wp2_with fail
  go_ret2
  refine ⟨b, rfl, ?_, ?_, ?_⟩
  · rw [size_alloc] at hle3; have := hW2.size; omega
  · exact hW2.trans ((below_alloc hb3).mono hW2.size)
  · rw [tagD, HB.out, ← tagTo_part 2 xa xc B]; exact hr3
end Go.Proofs.YtbmodfegcmaieaaDoor

namespace Go.Proofs.YtbmodfegcmaieaaDoor
open Go.RowKit

set_option maxRecDepth 100000 in
theorem digTo1_zero (ps : List Part) (k : Nat) (h : digTo1 ps k = 0) : ∀ j, j < k → digAt ps j = 0 := by
  induction k with
  | zero => intro j hj; omega
  | succ k ih =>
    rw [digTo1] at h
    split at h
    · rename_i h1; exact absurd h h1
    · rename_i h1
      intro j hj
      rcases Nat.lt_or_ge j k with g | g
      · exact ih (by simpa using h1) j g
      · obtain rfl : j = k := by omega
        exact h
set_option maxRecDepth 100000 in
theorem digF_len {ps : List Part} (h : digF ps = 0) : ∀ p ∈ ps, p.bs.length = 32 := by
  intro p hp
  obtain ⟨j, hj, rfl⟩ := List.getElem_of_mem hp
  have h1 := digTo1_zero ps ps.length h j hj
  rw [digAt, partAt_get ps j hj] at h1
  split at h1
  · cases h1
  · rename_i h2; simpa using h2
set_option maxRecDepth 100000 in
theorem headerF_ok {au rd : Int} {bl pl : List Part} (h : headerF au rd bl pl = 0) : (0 ≤ au ∧ au < 4) ∧ (1 ≤ rd ∧ rd ≤ 1048576) ∧ bl.length ≤ 3 ∧ pl.length ≤ 4 ∧ (∀ p ∈ bl, p.bs.length = 32) ∧ (∀ p ∈ pl, p.bs.length = 32) := by
  unfold headerF at h
  split at h
  · cases h
  · split at h
    · cases h
    · split at h
      · rename_i h1; exact absurd h h1
      · split at h
        · rename_i h1; exact absurd h h1
        · rename_i h1 h2 h3 h4
          exact ⟨by omega, by omega, by omega, by omega, digF_len (by simpa using h3), digF_len (by simpa using h4)⟩
end Go.Proofs.YtbmodfegcmaieaaDoor

namespace Go.Proofs.YtbmodfegcmaieaaDoor
open Go.RowKit

set_option maxRecDepth 100000 in
theorem infoBs : (Tryd.prog.info? 46).map (fun i => (i.zero, i.size, i.bytes)) = some (some (.slice none 0 0), 1, 24) := by kernel_rfl
def pv (ps : List Part) : List Value := ps.map Part.val
set_option maxRecDepth 100000 in
theorem pv_length (ps : List Part) : (pv ps).length = ps.length := by simp [pv]
/-- The same bytes, one by one. -/
def Same (ps qs : List Part) : Prop := ps.map (·.bs) = qs.map (·.bs)
set_option maxRecDepth 100000 in
theorem Same.length {ps qs : List Part} (h : Same ps qs) : ps.length = qs.length := by simpa using congrArg List.length h
/-- The lists that lie apart from a row. -/
def Apart (w : World) (B : Nat) (v : Value) (ps : List Part) : Prop := ∀ p ∈ ps, SliceAt w p.sa p.cap p.bs ∧ ∀ sb so, p.sa = some ⟨sb, so, none⟩ → B ≤ sb ∧ sb < w.heap.size ∧ v.ownBlock ≠ some sb
/-- All of it is new. -/
structure Fresh (B : Nat) (ra : Option Addr) (qs : List Part) : Prop where
  row : ∀ sb so, ra = some ⟨sb, so, none⟩ → B ≤ sb
  each : ∀ p ∈ qs, ∀ sb so, p.sa = some ⟨sb, so, none⟩ → B ≤ sb
set_option maxRecDepth 100000 in
theorem ListAt.setCell {w : World} {ra : Option Addr} {rc B : Nat} {qs : List Part} (h : ListAt w ra rc qs) (hf : Fresh B ra qs) (b j : Nat) (v : Value) (hb : b < B) : ListAt (w.setCell ⟨b, j, Option.none⟩ v) ra rc qs := by
  refine ⟨h.le, h.max, h.small, h.some, ⟨?_, fun p hp => ?_⟩⟩
  · rcases h.parts.cells with hc | ⟨sb, so, rfl, hc⟩
    · exact .inl hc
    · exact .inr ⟨sb, so, rfl, fun k hk => (World.cell?_setCell_far _ _ _ _ (by have := hf.row sb so rfl; show b ≠ sb; omega)).trans (hc k hk)⟩
  · have hs := h.parts.each p hp
    refine ⟨hs.le, hs.max, hs.some, hs.nil, ?_⟩
    rcases hs.bytes with hc | ⟨sb, so, e, hc⟩
    · exact .inl hc
    · exact .inr ⟨sb, so, e, fun k hk => (World.cell?_setCell_far _ _ _ _ (by have := hf.each p hp sb so e; show b ≠ sb; omega)).trans (hc k hk)⟩
set_option maxRecDepth 100000 in
theorem listAt_of_owns {w : World} {base n : Nat} {v : Value} {ps : List Part} (h : w.ownsRow base 46 1 v n (pv ps)) (ha : Apart w base v ps) : ∃ ra rc, v = .slice ra n rc ∧ n = ps.length ∧ (n ≤ 9000000000000000000 → ListAt w ra rc ps) ∧ Fresh base ra ps := by
  have hl : n = ps.length := by have := h.1; rw [pv_length] at this; omega
  rcases h.2 with ⟨rfl, hn⟩ | ⟨g, cap, cur, rfl, hr⟩
  · have hb : ps = [] := List.eq_nil_of_length_eq_zero (by omega)
    subst hn hb
    exact ⟨none, 0, rfl, rfl, fun _ => ⟨Nat.le_refl _, by decide, by decide, .inl rfl, ⟨.inl rfl, fun p hp => by cases hp⟩⟩, ⟨(fun _ _ e => by cases e), (fun p hp => by cases hp)⟩⟩
  · refine ⟨some ⟨g, 0, none⟩, cap, rfl, hl, fun hm => ⟨?_, ?_, by omega, .inr ⟨g, 0, rfl⟩, ⟨.inr ⟨g, 0, rfl, fun j hj => ?_⟩, fun p hp => (ha p hp).1⟩⟩, ⟨(fun sb so e => by cases e; exact (h.lt _ rfl).1), (fun p hp sb so e => ((ha p hp).2 sb so e).1)⟩⟩
    · obtain ⟨_, _, h1, _⟩ := hr
      omega
    · obtain ⟨_, _, _, h2, _⟩ := hr
      exact h2
    · rw [Nat.zero_add, World.ownsRow.cellAt h j (by omega)]
      simp [pv, Part.val, hj]

set_option maxRecDepth 100000 in
theorem owns_keep {w w' : World} {base n : Nat} {e : TypeId} {s : Nat} {v : Value} {xs : List Value} (h : w.ownsRow base e s v n xs) (hb : Below w.heap.size w w') : w'.ownsRow base e s v n xs := by
  have hB : ∀ q, v.ownBlock = some q → q < w.heap.size := fun q e => (h.lt q e).2
  obtain ⟨h1, h2⟩ := h
  refine ⟨h1, ?_⟩
  rcases h2 with h2 | ⟨g, cap, cur, rfl, hg, hc, r⟩
  · exact .inl h2
  · exact .inr ⟨g, cap, cur, rfl, hg, (hb.block g (hB g rfl)).trans hc, r⟩
set_option maxRecDepth 100000 in
theorem nilSlice (w : World) : SliceAt w none 0 [] := ⟨Nat.le_refl _, by decide, .inl rfl, fun _ => rfl, .inl rfl⟩
set_option maxRecDepth 100000 in
/-- One list more: it lies apart, too. -/
theorem Apart.more_at {w w2 w3 : World} {B : Nat} {v v1 : Value} {qs : List Part} {q : Part} {o : Obj} {n sz : Nat} {e : TypeId} {xs : List Value} (h : Apart w B v qs) (hB : B ≤ w.heap.size) (ho : w.ownsRow B e sz v n xs) (hb2 : Below w.heap.size w w2)
    (hq : ∀ sb so, q.sa = some ⟨sb, so, none⟩ → w.heap.size ≤ sb ∧ sb < w2.heap.size) (hs2 : SliceAt w2 q.sa q.cap q.bs) (G : Grew (w2.alloc o) v w3 v1) : Apart w3 B v1 (qs ++ [q]) := by
  have hA : Below w2.heap.size w2 (w2.alloc o) := (Below.refl _ _).alloc (Nat.le_refl _) _
  have hsz : w2.heap.size < (w2.alloc o).heap.size := by rw [size_alloc]; omega
  have h3 := G.grown.size
  have h2 := hb2.size
  intro p hp
  rcases List.mem_append.1 hp with hp | hp
  · obtain ⟨hs, ha⟩ := h p hp
    refine ⟨G.slice ((hs.below hb2).below hA) (fun sb so e => (ha sb so e).2.2), fun sb so e => ?_⟩
    obtain ⟨a1, a2, a3⟩ := ha sb so e
    refine ⟨a1, by omega, fun hv => ?_⟩
    rcases G.fresh sb hv with g | g
    · exact a3 g
    · omega
  · obtain rfl : p = q := by simpa using hp
    have hne : ∀ sb so, p.sa = some ⟨sb, so, none⟩ → w.heap.size ≤ sb ∧ sb < w2.heap.size ∧ v.ownBlock ≠ some sb := fun sb so e => by
      have hl := hq sb so e
      exact ⟨hl.1, hl.2, fun hv => by have := (ho.lt sb hv).2; omega⟩
    refine ⟨G.slice (hs2.below hA) (fun sb so e => (hne sb so e).2.2), fun sb so e => ?_⟩
    obtain ⟨a1, a2, a3⟩ := hne sb so e
    refine ⟨by omega, by omega, fun hv => ?_⟩
    rcases G.fresh sb hv with g | g
    · exact a3 g
    · omega
set_option maxRecDepth 100000 in
theorem Apart.more {w w2 w3 : World} {B : Nat} {v v1 : Value} {qs : List Part} {q : Part} {o : Obj} {k n : Nat} {e : TypeId} {xs : List Value} (h : Apart w B v qs) (hB : B ≤ w.heap.size) (ho : w.ownsRow B e 1 v n xs) (hb2 : Below w.heap.size w w2)
    (ho2 : w2.ownsRow w.heap.size 5 1 (.slice q.sa k q.cap) k (ub q.bs)) (hs2 : SliceAt w2 q.sa q.cap q.bs) (G : Grew (w2.alloc o) v w3 v1) : Apart w3 B v1 (qs ++ [q]) :=
  h.more_at hB ho hb2 (fun sb so e => ho2.lt sb (by rw [e]; rfl)) hs2 G
end Go.Proofs.YtbmodfegcmaieaaDoor
