/- wire.checkDigests, for every list. -/
import Derived.Test.YtcecjdoabnhcgaaDoorLAt
import Derived.Test.YtcecjdoabnhcgaaDoorGrew
import Derived.Deep.RegionHeld
import Derived.Test.YtcecjdoabnhcgaaDoorTagged
import Derived.Test.YtcecjdoabnhcgaaDoorRDig
import Derived.Test.YtcecjdoabnhcgaaDoorJoined
import Derived.Test.YtcecjdoabnhcgaaDoorPK
import Derived.Test.YtcecjdoabnhcgaaDoorSx
import Derived.Test.YtcecjdoabnhcgaaDoorStrsAt
import Derived.Test.YtcecjdoabnhcgaaDoorDigs
namespace Go.Proofs.YtcecjdoabnhcgaaDoor
open Go.RowKit

set_option maxRecDepth 100000 in
theorem infoBs : (Tryd.prog.info? 25).map (fun i => (i.zero, i.size, i.bytes)) = some (some (.slice none 0 0), 1, 24) := by kernel_rfl
def pv (ps : List Part) : List Value := ps.map Part.val
set_option maxRecDepth 100000 in
theorem pv_length (ps : List Part) : (pv ps).length = ps.length := by simp [pv]
/-- The same bytes, one by one. -/
def Same (ps qs : List Part) : Prop := ps.map (·.bs) = qs.map (·.bs)
set_option maxRecDepth 100000 in
theorem Same.length {ps qs : List Part} (h : Same ps qs) : ps.length = qs.length := by simpa using congrArg List.length h
/-- The lists that lie apart from a row. -/
def Apart (w : World) (B : Nat) (v : Value) (ps : List Part) : Prop := ∀ p ∈ ps, SliceAt w p.sa p.cap p.bs ∧ ∀ sb so, p.sa = some ⟨sb, so, none⟩ → B ≤ sb ∧ sb < w.heap.size ∧ v.ownBlock ≠ some sb
/-- All of it is new. -/
structure Fresh (B : Nat) (ra : Option Addr) (qs : List Part) : Prop where
  row : ∀ sb so, ra = some ⟨sb, so, none⟩ → B ≤ sb
  each : ∀ p ∈ qs, ∀ sb so, p.sa = some ⟨sb, so, none⟩ → B ≤ sb
set_option maxRecDepth 100000 in
theorem ListAt.setCell {w : World} {ra : Option Addr} {rc B : Nat} {qs : List Part} (h : ListAt w ra rc qs) (hf : Fresh B ra qs) (b j : Nat) (v : Value) (hb : b < B) : ListAt (w.setCell ⟨b, j, Option.none⟩ v) ra rc qs := by
  refine ⟨h.le, h.max, h.small, h.some, ⟨?_, fun p hp => ?_⟩⟩
  · rcases h.parts.cells with hc | ⟨sb, so, rfl, hc⟩
    · exact .inl hc
    · exact .inr ⟨sb, so, rfl, fun k hk => (World.cell?_setCell_far _ _ _ _ (by have := hf.row sb so rfl; show b ≠ sb; omega)).trans (hc k hk)⟩
  · have hs := h.parts.each p hp
    refine ⟨hs.le, hs.max, hs.some, hs.nil, ?_⟩
    rcases hs.bytes with hc | ⟨sb, so, e, hc⟩
    · exact .inl hc
    · exact .inr ⟨sb, so, e, fun k hk => (World.cell?_setCell_far _ _ _ _ (by have := hf.each p hp sb so e; show b ≠ sb; omega)).trans (hc k hk)⟩
set_option maxRecDepth 100000 in
theorem listAt_of_owns {w : World} {base n : Nat} {v : Value} {ps : List Part} (h : w.ownsRow base 25 1 v n (pv ps)) (ha : Apart w base v ps) : ∃ ra rc, v = .slice ra n rc ∧ n = ps.length ∧ (n ≤ 9000000000000000000 → ListAt w ra rc ps) ∧ Fresh base ra ps := by
  have hl : n = ps.length := by have := h.1; rw [pv_length] at this; omega
  rcases h.2 with ⟨rfl, hn⟩ | ⟨g, cap, cur, rfl, hr⟩
  · have hb : ps = [] := List.eq_nil_of_length_eq_zero (by omega)
    subst hn hb
    exact ⟨none, 0, rfl, rfl, fun _ => ⟨Nat.le_refl _, by decide, by decide, .inl rfl, ⟨.inl rfl, fun p hp => by cases hp⟩⟩, ⟨(fun _ _ e => by cases e), (fun p hp => by cases hp)⟩⟩
  · refine ⟨some ⟨g, 0, none⟩, cap, rfl, hl, fun hm => ⟨?_, ?_, by omega, .inr ⟨g, 0, rfl⟩, ⟨.inr ⟨g, 0, rfl, fun j hj => ?_⟩, fun p hp => (ha p hp).1⟩⟩, ⟨(fun sb so e => by cases e; exact (h.lt _ rfl).1), (fun p hp sb so e => ((ha p hp).2 sb so e).1)⟩⟩
    · obtain ⟨_, _, h1, _⟩ := hr
      omega
    · obtain ⟨_, _, _, h2, _⟩ := hr
      exact h2
    · rw [Nat.zero_add, World.ownsRow.cellAt h j (by omega)]
      simp [pv, Part.val, hj]

set_option maxRecDepth 100000 in
theorem owns_keep {w w' : World} {base n : Nat} {e : TypeId} {s : Nat} {v : Value} {xs : List Value} (h : w.ownsRow base e s v n xs) (hb : Below w.heap.size w w') : w'.ownsRow base e s v n xs := by
  have hB : ∀ q, v.ownBlock = some q → q < w.heap.size := fun q e => (h.lt q e).2
  obtain ⟨h1, h2⟩ := h
  refine ⟨h1, ?_⟩
  rcases h2 with h2 | ⟨g, cap, cur, rfl, hg, hc, r⟩
  · exact .inl h2
  · exact .inr ⟨g, cap, cur, rfl, hg, (hb.block g (hB g rfl)).trans hc, r⟩
set_option maxRecDepth 100000 in
theorem nilSlice (w : World) : SliceAt w none 0 [] := ⟨Nat.le_refl _, by decide, .inl rfl, fun _ => rfl, .inl rfl⟩
set_option maxRecDepth 100000 in
/-- One list more: it lies apart, too. -/
theorem Apart.more {w w2 w3 : World} {B : Nat} {v v1 : Value} {qs : List Part} {q : Part} {o : Obj} {k n : Nat} {e : TypeId} {xs : List Value} (h : Apart w B v qs) (hB : B ≤ w.heap.size) (ho : w.ownsRow B e 1 v n xs) (hb2 : Below w.heap.size w w2)
    (ho2 : w2.ownsRow w.heap.size 5 1 (.slice q.sa k q.cap) k (ub q.bs)) (hs2 : SliceAt w2 q.sa q.cap q.bs) (G : Grew (w2.alloc o) v w3 v1) : Apart w3 B v1 (qs ++ [q]) := by
  have hA : Below w2.heap.size w2 (w2.alloc o) := (Below.refl _ _).alloc (Nat.le_refl _) _
  have hsz : w2.heap.size < (w2.alloc o).heap.size := by rw [size_alloc]; omega
  have h3 := G.grown.size
  have h2 := hb2.size
  intro p hp
  rcases List.mem_append.1 hp with hp | hp
  · obtain ⟨hs, ha⟩ := h p hp
    refine ⟨G.slice ((hs.below hb2).below hA) (fun sb so e => (ha sb so e).2.2), fun sb so e => ?_⟩
    obtain ⟨a1, a2, a3⟩ := ha sb so e
    refine ⟨a1, by omega, fun hv => ?_⟩
    rcases G.fresh sb hv with g | g
    · exact a3 g
    · omega
  · obtain rfl : p = q := by simpa using hp
    have hne : ∀ sb so, p.sa = some ⟨sb, so, none⟩ → w.heap.size ≤ sb ∧ sb < w2.heap.size ∧ v.ownBlock ≠ some sb := fun sb so e => by
      have hl := ho2.lt sb (by rw [e]; rfl)
      exact ⟨hl.1, hl.2, fun hv => by have := (ho.lt sb hv).2; omega⟩
    refine ⟨G.slice (hs2.below hA) (fun sb so e => (hne sb so e).2.2), fun sb so e => ?_⟩
    obtain ⟨a1, a2, a3⟩ := hne sb so e
    refine ⟨by omega, by omega, fun hv => ?_⟩
    rcases G.fresh sb hv with g | g
    · exact a3 g
    · omega
end Go.Proofs.YtcecjdoabnhcgaaDoor

namespace Go.Proofs.YtcecjdoabnhcgaaDoor
open Go.RowKit

set_option maxRecDepth 100000 in
theorem psz_le (ps : List Part) (k : Nat) (hk : k ≤ ps.length) : psz ps k ≤ psz ps ps.length := psz_mono ps k ps.length hk
set_option maxRecDepth 100000 in
theorem psz_two (ps : List Part) (k : Nat) : 2 * k ≤ psz ps k := by
  induction k with
  | zero => exact Nat.le_refl _
  | succ k ih => simp [psz]; omega
set_option maxRecDepth 100000 in
theorem getD_bs {ps qs : List Part} (h : Same ps qs) (k : Nat) : (ps.getD k ⟨none, 0, []⟩).bs = (qs.getD k ⟨none, 0, []⟩).bs := by
  have hk : (ps.map (·.bs))[k]? = (qs.map (·.bs))[k]? := by rw [h]
  simp only [List.getElem?_map] at hk
  simp only [List.getD]
  cases h1 : ps[k]? <;> cases h2 : qs[k]? <;> simp_all
set_option maxRecDepth 100000 in
theorem psz_same {ps qs : List Part} (h : Same ps qs) (k : Nat) : psz ps k = psz qs k := by
  induction k with
  | zero => rfl
  | succ k ih => rw [psz, psz, ih, getD_bs h]
set_option maxRecDepth 100000 in
theorem tagTo_same (tag : Int) {ps qs : List Part} (h : Same ps qs) (k : Nat) : tagTo tag ps k = tagTo tag qs k := by
  induction k with
  | zero => rfl
  | succ k ih => rw [tagTo, tagTo, ih, getD_bs h]
set_option maxRecDepth 100000 in
theorem tagTo_u8 (tag : Int) (ps : List Part) (ht : 0 ≤ tag ∧ tag ≤ 255) (hu : ∀ p ∈ ps, AllU8 p.bs) (k : Nat) (hk : k ≤ ps.length) : AllU8 (tagTo tag ps k) := by
  induction k with
  | zero => intro x hx; simp [tagTo] at hx; subst hx; exact ht
  | succ k ih =>
    have hlt : k < ps.length := by omega
    have hp : ps.getD k ⟨none, 0, []⟩ = ps[k] := by simp [hlt]
    intro x hx
    rw [tagTo, hp] at hx
    rcases List.mem_append.1 hx with hx | hx
    · rcases List.mem_append.1 hx with hx | hx
      · exact ih (by omega) x hx
      · simp at hx
        omega
    · exact hu _ (List.getElem_mem hlt) x hx

set_option maxRecDepth 100000 in
set_option maxHeartbeats 2000000 in
theorem taggedOf_any (tag : Int) (ps : List Part) (sa : Option Addr) (n cap : Nat) (w : World) (ht : 0 ≤ tag ∧ tag ≤ 255) (hn : n = ps.length) (hm : n ≤ 9000000000000000000) (hp : PartsAt w sa ps) (hu : ∀ p ∈ ps, AllU8 p.bs) :
    Calls Tryd.prog 47 #[.int .u8 tag, .slice sa n cap] w fun e w' => Below w.heap.size w w' ∧ ((4000 < 1 + psz ps ps.length ∧ e = .returned (.tuple #[.slice none 0 0, .int .i64 1])) ∨ (1 + psz ps ps.length ≤ 4000 ∧ ∃ g c, e = .returned (.tuple #[.slice (some ⟨g, 0, none⟩) 32 c, .int .i64 0]) ∧ SliceAt w' (some ⟨g, 0, none⟩) c (sumL (tagTo tag ps ps.length)))) := by
  subst hn
  obtain ⟨i, hi, hz0, hz1, hz2⟩ := info_parts infoU8
  have hlit := World.ownsRow_lit (base := w.heap.size) (e := 5) (size := 1) w (ub [tag]).toArray 1 (Nat.le_refl _) (by decide) rfl
  go_enter Tryd.func47, Tryd.ntmps47
  go_wp2_with fail
  go_loopw [7, 6] (fun j v wr => ∃ k : Nat, k ≤ ps.length ∧ j = .int .i64 k ∧ 1 + psz ps k ≤ 4000 ∧ Below w.heap.size w wr ∧ wr.ownsRow w.heap.size 5 1 v (1 + psz ps k) (ub (tagTo tag ps k))) (fun j _ _ => ps.length - (intOf j).toNat)
  case atStart => exact ⟨0, Nat.zero_le _, rfl, by simp [psz], (Below.refl _ _).alloc (Nat.le_refl _) _, hlit⟩
  case round =>
    clear hlit
    obtain ⟨k, hk, rfl, hz, hb, ho⟩ := hrel
    obtain ⟨xa, xc, hv, hxl, hxs⟩ := owns_form ho
    subst hv
    by_cases hlt : k < ps.length
    · have hpw := hp.below hb
      obtain ⟨sb, so, rfl, hc⟩ : ∃ sb so, sa = some ⟨sb, so, none⟩ ∧ ∀ j (h : j < ps.length), wr.cell? ⟨sb, so + j, none⟩ = some (.slice (ps[j]).sa (ps[j]).bs.length (ps[j]).cap) := by
        rcases hpw.cells with h | h
        · rw [h] at hlt; simp at hlt
        · exact h
      have ck := hc k hlt
      have hx := hpw.each (ps[k]) (List.getElem_mem hlt)
      have hxw := hp.each (ps[k]) (List.getElem_mem hlt)
      have hsb : sb < w.heap.size := by
        rcases hp.cells with h | ⟨sb', so', e, h⟩
        · rw [h] at hlt; simp at hlt
        · cases e; exact block_lt_of_cell (h k hlt)
      have hg : ps.getD k ⟨none, 0, []⟩ = ps[k] := by simp [hlt]
      have h2 : Hid (psz ps (k + 1) = psz ps k + (2 + (ps[k]).bs.length)) := by show _ = _; rw [psz, hg]
      have h3 : Hid (tagTo tag ps (k + 1) = tagTo tag ps k ++ [((ps[k]).bs.length : Int) / 256 % 256, ((ps[k]).bs.length : Int) % 256] ++ (ps[k]).bs) := by show _ = _; rw [tagTo, hg]
      have h4 := psz_le ps (k + 1) hlt
      rw [h2.out] at h4
      have hltI : (k : Int) < ps.length := by omega
      have hxm : (ps[k]).bs.length ≤ 9223372036854775807 := Nat.le_trans hx.le hx.max
      clear hc hg hxl
      generalize ps[k] = p at *
      have Hs : Hid (SliceAt wr xa xc (tagTo tag ps k)) := hxs
      clear hxs
      generalize hZ : psz ps ps.length = Z at *
      have hlT := tagTo_length tag ps k
      generalize tagTo tag ps k = T at *
      generalize psz ps k = z at *
      by_cases hA : 4000 < p.bs.length
      · have hAI : (4000 : Int) < p.bs.length := by omega
        have hbig : Hid (4000 < 1 + Z) := by show _ < _; omega
        clear h2 h3
        go_wp2_with fail
        go_ret2
        exact ⟨hb, .inl ⟨by first | exact hbig.out | (rw [hZ]; exact hbig.out), rfl⟩⟩
      · have hAI : ¬ (4000 : Int) < p.bs.length := by omega
        by_cases hB : 4000 < 1 + z + 2 + p.bs.length
        · have hBI : (4000 : Int) < (1 + z : Nat) + 2 + (p.bs.length : Int) := by omega
          have hbig : Hid (4000 < 1 + Z) := by show _ < _; omega
          clear h2 h3
          go_wp2_with fail
          go_ret2
          exact ⟨hb, .inl ⟨by first | exact hbig.out | (rw [hZ]; exact hbig.out), rfl⟩⟩
        · have hBI : ¬ (4000 : Int) < (1 + z : Nat) + 2 + (p.bs.length : Int) := by omega
          go_wp2_with (at_builtin; refine wpList_append_own _ rfl _ _ 25 rfl w.heap.size 5 i (.int .u8 0) 1 1 Tryd.underlying25 hi hz0 hz1 hz2 rfl (by decide) _ (1 + z) _ rfl (World.ownsRow.alloc ho _) ⟨wr.heap.size, 0, none⟩ 2 2 [.int .u8 ((p.bs.length : Int) / 256), .int .u8 ((p.bs.length : Int) % 256)] rfl rfl (cells_new _ _ _) (u8_one [_, _]) (by unfold maxLen; omega) (by omega) (le_alloc hb.size _) ?_; intro v1 w2 ho1 hg1 _; have hbr := Below.grown ((Below.refl w.heap.size wr).alloc hb.size _) hg1 (le_alloc hb.size _) (fun q e => (ho.lt q e).1); have ck2 := (hbr.cell (p := ⟨sb, so + k, none⟩) hsb).trans ck)
          have hb2 := hb.trans hbr
          have ho1' : w2.ownsRow w.heap.size 5 1 v1 (1 + z + 2) (ub (T ++ [(p.bs.length : Int) / 256, (p.bs.length : Int) % 256])) := by simpa [ub] using ho1
          obtain ⟨ya, yc, hv, hyl, hy⟩ := owns_form ho1'
          subst hv
          have e1 : (p.bs.length : Int) / 256 % 256 = (p.bs.length : Int) / 256 := by omega
          refine (joined_any (T ++ [(p.bs.length : Int) / 256, (p.bs.length : Int) % 256]) p.bs ya p.sa _ _ yc p.cap w2 hyl rfl hy (hxw.below hb2) (by simp; omega)).mono ?_
          rintro e w3 ⟨v3, he, ho3, hb3⟩
          subst he
          dsimp only
          have hlen : (T ++ [(p.bs.length : Int) / 256, (p.bs.length : Int) % 256]).length + p.bs.length = 1 + psz ps (k + 1) := by rw [h2.out]; simp; omega
          rw [hlen] at ho3
          go_wp2_with fail
          go_roundw
          case rel =>
            have hR : ∃ k' : Nat, k' ≤ ps.length ∧ (Value.int .i64 ((k : Int) + 1)) = .int .i64 k' ∧ 1 + psz ps k' ≤ 4000 ∧ Below w.heap.size w w3 ∧ w3.ownsRow w.heap.size 5 1 v3 (1 + psz ps k') (ub (tagTo tag ps k')) :=
              ⟨k + 1, by omega, by go_num, by rw [h2.out]; omega, hb2.trans (hb3.mono hb2.size), by rw [h3.out, e1]; exact ownsRow_base' ho3 hb2.size⟩
            first | exact hR | ((repeat apply Exists.intro); exact ⟨hR, rfl⟩)
          case measure => simp [intOf]; omega
    · obtain rfl : k = ps.length := by omega
      have hu8 := tagTo_u8 tag ps ht hu ps.length (Nat.le_refl _)
      have hl4 : (tagTo tag ps ps.length).length ≤ 4000 := by omega
      go_wp2_with fail
      refine (digested_any (tagTo tag ps ps.length) xa _ xc wr (by first | rfl | exact hxl) hl4 hxs hu8).mono ?_
      rintro e w3 ⟨g, c, he, hb3, ho3⟩
      subst he
      dsimp only
      go_wp2_with fail
      go_ret2
      exact ⟨hb.trans (hb3.mono hb.size), .inr ⟨hz, g, c, rfl, (sliceAt_of_owns ho3).2⟩⟩
end Go.Proofs.YtcecjdoabnhcgaaDoor

namespace Go.Proofs.YtcecjdoabnhcgaaDoor
open Go.RowKit

set_option maxRecDepth 100000 in
theorem isNode_bool (n : Int) (r : Bool) (w : World) (h : r = decide (0 ≤ n ∧ n < 4)) : Calls Tryd.prog 41 #[.int .i64 n] w fun e w' => e = .returned (.bool r) ∧ w = w' := by
  by_cases h1 : 0 ≤ n
  · by_cases h2 : n < 4
    · obtain rfl : r = true := by simp [h, h1, h2]
      clear h
      go_enter Tryd.func41, Tryd.ntmps41
      go_wp2
      go_ret
      exact ⟨rfl, rfl⟩
    · obtain rfl : r = false := by simp [h, h2]
      clear h
      go_enter Tryd.func41, Tryd.ntmps41
      go_wp2
      go_ret
      exact ⟨rfl, rfl⟩
  · obtain rfl : r = false := by simp [h, h1]
    clear h
    go_enter Tryd.func41, Tryd.ntmps41
    go_wp2
    go_ret
    exact ⟨rfl, rfl⟩
set_option maxRecDepth 100000 in
theorem isRound_bool (n : Int) (r : Bool) (w : World) (h : r = decide (1 ≤ n ∧ n ≤ 1048576)) : Calls Tryd.prog 42 #[.int .i64 n] w fun e w' => e = .returned (.bool r) ∧ w = w' := by
  by_cases h1 : 1 ≤ n
  · by_cases h2 : n ≤ 1048576
    · obtain rfl : r = true := by simp [h, h1, h2]
      clear h
      go_enter Tryd.func42, Tryd.ntmps42
      go_wp2
      go_ret
      exact ⟨rfl, rfl⟩
    · obtain rfl : r = false := by simp [h, h2]
      clear h
      go_enter Tryd.func42, Tryd.ntmps42
      go_wp2
      go_ret
      exact ⟨rfl, rfl⟩
  · obtain rfl : r = false := by simp [h, h1]
    clear h
    go_enter Tryd.func42, Tryd.ntmps42
    go_wp2
    go_ret
    exact ⟨rfl, rfl⟩
set_option maxRecDepth 100000 in
theorem isNode_true (n : Int) (w : World) (h : 0 ≤ n ∧ n < 4) : Calls Tryd.prog 41 #[.int .i64 n] w fun e w' => e = .returned (.bool true) ∧ w = w' := isNode_bool n true w (by simp [h])
set_option maxRecDepth 100000 in
theorem isNode_false (n : Int) (w : World) (h : ¬ (0 ≤ n ∧ n < 4)) : Calls Tryd.prog 41 #[.int .i64 n] w fun e w' => e = .returned (.bool false) ∧ w = w' := isNode_bool n false w (by rw [decide_eq_false h])
set_option maxRecDepth 100000 in
theorem isRound_true (n : Int) (w : World) (h : 1 ≤ n ∧ n ≤ 1048576) : Calls Tryd.prog 42 #[.int .i64 n] w fun e w' => e = .returned (.bool true) ∧ w = w' := isRound_bool n true w (by simp [h])
set_option maxRecDepth 100000 in
theorem isRound_false (n : Int) (w : World) (h : ¬ (1 ≤ n ∧ n ≤ 1048576)) : Calls Tryd.prog 42 #[.int .i64 n] w fun e w' => e = .returned (.bool false) ∧ w = w' := isRound_bool n false w (by rw [decide_eq_false h])
end Go.Proofs.YtcecjdoabnhcgaaDoor

namespace Go.Proofs.YtcecjdoabnhcgaaDoor
open Go.RowKit

set_option maxRecDepth 100000 in
theorem all_false {α : Type} (l : List α) (p : α → Bool) (d : α) (k : Nat) (hk : k < l.length) (h : p (l.getD k d) = false) : l.all p = false := by
  rw [List.all_eq_false]
  refine ⟨l[k], List.getElem_mem hk, ?_⟩
  rw [List.getD, List.getElem?_eq_getElem hk] at h
  simpa using h
set_option maxRecDepth 100000 in
theorem all_true {α : Type} (l : List α) (p : α → Bool) (d : α) (h : ∀ j, j < l.length → p (l.getD j d) = true) : l.all p = true := by
  rw [List.all_eq_true]
  intro x hx
  obtain ⟨j, hj, rfl⟩ := List.getElem_of_mem hx
  have := h j hj
  rwa [List.getD, List.getElem?_eq_getElem hj] at this
/-- A transaction that may be. -/
def txOk (s : ByteArray) : Bool := decide (1 ≤ s.size ∧ s.size ≤ 20)
/-- P2.2 -/
def batchF (au nu : Int) (ss : List ByteArray) : Int := if ¬ (0 ≤ au ∧ au < 4) ∨ ¬ (1 ≤ nu ∧ nu ≤ 1048576) then 2 else if ss.length < 1 ∨ 4 < ss.length then 1 else if ss.all txOk then 0 else 1
end Go.Proofs.YtcecjdoabnhcgaaDoor

namespace Go.Proofs.YtcecjdoabnhcgaaDoor
open Go.RowKit

set_option maxRecDepth 100000 in
set_option maxHeartbeats 1000000 in
theorem checkBatch_any (au nu : Int) (sa : Option Addr) (n cap : Nat) (ss : List ByteArray) (w : World) (hn : n = ss.length) (hm : n ≤ maxLen) (hs : StrsAt w sa ss) :
    Calls Tryd.prog 24 #[.agg #[.int .i64 au, .int .i64 nu, .slice sa n cap]] w fun e w' => e = .returned (.int .i64 (batchF au nu ss)) ∧ Below w.heap.size w w' := by
  subst hn
  unfold maxLen at hm
  by_cases ha : 0 ≤ au ∧ au < 4
  · by_cases hr : 1 ≤ nu ∧ nu ≤ 1048576
    · by_cases hl : ss.length < 1 ∨ 4 < ss.length
      · have hF : Hid (batchF au nu ss = 1) := by show _ = _; rw [batchF, if_neg (by simp [ha, hr]), if_pos hl]
        have hlI : ¬ (1 ≤ (ss.length : Int) ∧ (ss.length : Int) ≤ 4) := by omega
        rcases hl with hl | hl
        · have hl0 : ss.length = 0 := by omega
          rw [hl0]
          go_enter Tryd.func24, Tryd.ntmps24
          go_wp2_with (first | (go_at_call 41; first | (refine (isNode_true _ _ (by omega)).mono ?_; rintro e w' ⟨rfl, rfl⟩) | (refine (isNode_false _ _ (by omega)).mono ?_; rintro e w' ⟨rfl, rfl⟩)) | (go_at_call 42; first | (refine (isRound_true _ _ (by omega)).mono ?_; rintro e w' ⟨rfl, rfl⟩) | (refine (isRound_false _ _ (by omega)).mono ?_; rintro e w' ⟨rfl, rfl⟩)))
          go_ret
          exact ⟨ret_int hF.out.symm, (Below.refl _ _).alloc (Nat.le_refl _) _⟩
        · have hl1 : (4 : Int) < ss.length := by omega
          have hl2 : ¬ (ss.length : Int) < 1 := by omega
          go_enter Tryd.func24, Tryd.ntmps24
          go_wp2_with (first | (go_at_call 41; first | (refine (isNode_true _ _ (by omega)).mono ?_; rintro e w' ⟨rfl, rfl⟩) | (refine (isNode_false _ _ (by omega)).mono ?_; rintro e w' ⟨rfl, rfl⟩)) | (go_at_call 42; first | (refine (isRound_true _ _ (by omega)).mono ?_; rintro e w' ⟨rfl, rfl⟩) | (refine (isRound_false _ _ (by omega)).mono ?_; rintro e w' ⟨rfl, rfl⟩)))
          go_ret
          exact ⟨ret_int hF.out.symm, (Below.refl _ _).alloc (Nat.le_refl _) _⟩
      · have hF : Hid (batchF au nu ss = if ss.all txOk then 0 else 1) := by show _ = _; rw [batchF, if_neg (by simp [ha, hr]), if_neg hl]
        have hl1 : ¬ (4 : Int) < ss.length := by omega
        have hl2 : ¬ (ss.length : Int) < 1 := by omega
        go_enter Tryd.func24, Tryd.ntmps24
        go_wp2_with (first | (go_at_call 41; first | (refine (isNode_true _ _ (by omega)).mono ?_; rintro e w' ⟨rfl, rfl⟩) | (refine (isNode_false _ _ (by omega)).mono ?_; rintro e w' ⟨rfl, rfl⟩)) | (go_at_call 42; first | (refine (isRound_true _ _ (by omega)).mono ?_; rintro e w' ⟨rfl, rfl⟩) | (refine (isRound_false _ _ (by omega)).mono ?_; rintro e w' ⟨rfl, rfl⟩)))
        go_loop [28] (fun i => ∃ k : Nat, k ≤ ss.length ∧ i = .int .i64 k ∧ ∀ q, q < k → txOk (ss.getD q ByteArray.empty) = true) (fun i => ss.length - (intOf i).toNat)
        case atStart => exact ⟨0, Nat.zero_le _, rfl, fun q hq => by omega⟩
        case round =>
          obtain ⟨k, hk, rfl, hall⟩ := hrel
          by_cases hlt : k < ss.length
          · rcases hs.cells with hc | ⟨sb, so, rfl, hc⟩
            · subst hc; simp at hlt
            have hltI : (k : Int) < ss.length := by omega
            have ck := hc k hlt
            have ck2 := (((Below.refl w.heap.size w).alloc (Nat.le_refl _) (.cells #[.int .i64 au, .int .i64 nu, .slice (some ⟨sb, so, none⟩) ss.length cap] 24)).cell (p := ⟨sb, so + k, none⟩) (block_lt_of_cell ck)).trans ck
            have hz : (ss.getD k ByteArray.empty).size ≤ 9223372036854775807 := hs.size _ (by simp [List.getD, hlt])
            have hT : txOk (ss.getD k ByteArray.empty) = decide (1 ≤ (ss.getD k ByteArray.empty).size ∧ (ss.getD k ByteArray.empty).size ≤ 20) := rfl
            have hstep : Hid (txOk (ss.getD k ByteArray.empty) = true → ∀ q, q < k + 1 → txOk (ss.getD q ByteArray.empty) = true) := by
              show _ → _
              intro h q hq
              rcases Nat.lt_or_ge q k with g | g
              · exact hall q g
              · obtain rfl : q = k := by omega
                exact h
            have hno : Hid (txOk (ss.getD k ByteArray.empty) = false → ss.all txOk = false) := by
              show _ → _
              exact all_false ss txOk ByteArray.empty k hlt
            clear hall hc ck
            generalize ss.getD k ByteArray.empty = s at *
            by_cases h1 : 1 ≤ s.size
            · have h1I : ¬ (s.size : Int) < 1 := by omega
              by_cases h2 : s.size ≤ 20
              · have h2I : ¬ (20 : Int) < s.size := by omega
                have hst := hstep.out (by rw [hT]; simp [h1, h2])
                clear hT hstep hno
                go_wp2_with fail
                go_round
                case rel => exact ⟨k + 1, by omega, by go_num, hst⟩
                case measure => simp [intOf]; omega
              · have h2I : (20 : Int) < s.size := by omega
                have hst := hno.out (by rw [hT]; simp [h2])
                clear hT hstep hno
                rw [hst] at hF
                go_wp2_with fail
                go_ret
                exact ⟨ret_int (by rw [hF.out]; rfl), (Below.refl _ _).alloc (Nat.le_refl _) _⟩
            · have h1I : (s.size : Int) < 1 := by omega
              have hst := hno.out (by rw [hT]; simp [h1])
              clear hT hstep hno
              rw [hst] at hF
              go_wp2_with fail
              go_ret
              exact ⟨ret_int (by rw [hF.out]; rfl), (Below.refl _ _).alloc (Nat.le_refl _) _⟩
          · obtain rfl : k = ss.length := by omega
            have hst := all_true ss txOk ByteArray.empty hall
            rw [hst] at hF
            go_wp2_with fail
            go_ret
            exact ⟨ret_int (by rw [hF.out]; rfl), (Below.refl _ _).alloc (Nat.le_refl _) _⟩
    · have hF : Hid (batchF au nu ss = 2) := by show _ = _; simp [batchF, hr]
      go_enter Tryd.func24, Tryd.ntmps24
      go_wp2_with (first | (go_at_call 41; first | (refine (isNode_true _ _ (by omega)).mono ?_; rintro e w' ⟨rfl, rfl⟩) | (refine (isNode_false _ _ (by omega)).mono ?_; rintro e w' ⟨rfl, rfl⟩)) | (go_at_call 42; first | (refine (isRound_true _ _ (by omega)).mono ?_; rintro e w' ⟨rfl, rfl⟩) | (refine (isRound_false _ _ (by omega)).mono ?_; rintro e w' ⟨rfl, rfl⟩)))
      go_ret
      exact ⟨ret_int hF.out.symm, (Below.refl _ _).alloc (Nat.le_refl _) _⟩
  · have hF : Hid (batchF au nu ss = 2) := by show _ = _; simp [batchF, ha]
    go_enter Tryd.func24, Tryd.ntmps24
    go_wp2_with (first | (go_at_call 41; first | (refine (isNode_true _ _ (by omega)).mono ?_; rintro e w' ⟨rfl, rfl⟩) | (refine (isNode_false _ _ (by omega)).mono ?_; rintro e w' ⟨rfl, rfl⟩)) | (go_at_call 42; first | (refine (isRound_true _ _ (by omega)).mono ?_; rintro e w' ⟨rfl, rfl⟩) | (refine (isRound_false _ _ (by omega)).mono ?_; rintro e w' ⟨rfl, rfl⟩)))
    go_ret
    exact ⟨ret_int hF.out.symm, (Below.refl _ _).alloc (Nat.le_refl _) _⟩
end Go.Proofs.YtcecjdoabnhcgaaDoor

namespace Go.Proofs.YtcecjdoabnhcgaaDoor
open Go.RowKit

def anyOf (ps : List Part) (q : Part) (k : Nat) : Bool := (List.range k).any fun j => decide (txL (partAt ps j).bs = txL q.bs)
set_option maxRecDepth 100000 in
theorem anyOf_yes (ps : List Part) (q : Part) (k m : Nat) (hm : m < k) (h : txL (partAt ps m).bs = txL q.bs) : anyOf ps q k = true := by
  simp only [anyOf, List.any_eq_true]
  exact ⟨m, by simpa using hm, by simpa using h⟩
set_option maxRecDepth 100000 in
theorem anyOf_no (ps : List Part) (q : Part) (k : Nat) (h : ∀ j, j < k → ¬ txL (partAt ps j).bs = txL q.bs) : anyOf ps q k = false := by
  simp only [anyOf, List.any_eq_false]
  intro j hj
  simpa using h j (by simpa using hj)

set_option maxRecDepth 100000 in
set_option maxHeartbeats 1000000 in
theorem indexFunc_any (ps : List Part) (q : Part) (sa : Option Addr) (k cap g : Nat) (w : World) (hk : k ≤ ps.length) (hk2 : k ≤ 9000000000000000000) (hp : PartsAt w sa ps) (hq : SliceAt w q.sa q.cap q.bs) (hg : w.cell? ⟨g, 0, none⟩ = some (.slice q.sa q.bs.length q.cap)) :
    Calls Tryd.prog 72 #[.slice sa k cap, .func (.func 59) #[] #[.pointer (some ⟨g, 0, none⟩)]] w fun e w' => w = w' ∧ ∃ r : Int, e = .returned (.int .i64 r) ∧ ((anyOf ps q k = true ∧ 0 ≤ r) ∨ (anyOf ps q k = false ∧ r = -1)) := by
  go_enter Tryd.func72, Tryd.ntmps72
  go_wp2_with fail
  go_loop [8] (fun i => ∃ m : Nat, m ≤ k ∧ i = .int .i64 m ∧ ∀ j, j < m → ¬ txL (partAt ps j).bs = txL q.bs) (fun i => k - (intOf i).toNat)
  case atStart => exact ⟨0, Nat.zero_le _, rfl, fun j hj => by omega⟩
  case round =>
    obtain ⟨m, hm, rfl, hno⟩ := hrel
    by_cases hlt : m < k
    · rcases hp.cells with hc | ⟨sb, so, rfl, hc⟩
      · subst hc; simp at hk; omega
      have hmp : m < ps.length := by omega
      have ck := hc m hmp
      have hx := hp.each (ps[m]) (List.getElem_mem hmp)
      have hltI : (m : Int) < k := by omega
      have hpe := partAt_get ps m hmp
      have Hyes : Hid (txL (ps[m]).bs = txL q.bs → anyOf ps q k = true) := by
        show _ → _
        intro h
        exact anyOf_yes ps q k m hlt (by rw [hpe]; exact h)
      have Hno : Hid (¬ txL (ps[m]).bs = txL q.bs → ∀ j, j < m + 1 → ¬ txL (partAt ps j).bs = txL q.bs) := by
        show _ → _
        intro h j hj
        rcases Nat.lt_or_ge j m with g | g
        · exact hno j g
        · obtain rfl : j = m := by omega
          rw [hpe]; exact h
      clear hno hpe hc
      generalize ps[m] = p at *
      go_wp2_with fail
      refine (same_closure p.bs q.bs p.sa q.sa _ _ p.cap q.cap g w rfl rfl hx hq hg).mono ?_
      rintro e w1 ⟨he, rfl⟩
      subst he
      dsimp only
      by_cases h : txL p.bs = txL q.bs
      · have hy := Hyes.out h
        rw [decide_eq_true h]
        clear Hyes Hno h
        go_wp2_with fail
        go_ret
        exact ⟨rfl, (m : Int), rfl, .inl ⟨hy, by omega⟩⟩
      · have hn := Hno.out h
        rw [decide_eq_false h]
        clear Hyes Hno h
        go_wp2_with fail
        go_round
        case rel => exact ⟨m + 1, by omega, by go_num, hn⟩
        case measure => simp [intOf]; omega
    · obtain rfl : m = k := by omega
      have hn : Hid (anyOf ps q m = false) := anyOf_no ps q m hno
      go_wp2_with fail
      go_ret
      refine ⟨rfl, (-1 : Int), rfl, ?_⟩
      exact .inr ⟨hn.out, rfl⟩
set_option maxRecDepth 100000 in
set_option maxHeartbeats 400000 in
theorem containsFunc_any (ps : List Part) (q : Part) (sa : Option Addr) (k cap g : Nat) (w : World) (hk : k ≤ ps.length) (hk2 : k ≤ 9000000000000000000) (hp : PartsAt w sa ps) (hq : SliceAt w q.sa q.cap q.bs) (hg : w.cell? ⟨g, 0, none⟩ = some (.slice q.sa q.bs.length q.cap)) :
    Calls Tryd.prog 61 #[.slice sa k cap, .func (.func 59) #[] #[.pointer (some ⟨g, 0, none⟩)]] w fun e w' => e = .returned (.bool (anyOf ps q k)) ∧ w = w' := by
  go_enter Tryd.func61, Tryd.ntmps61
  go_wp2_with fail
  refine (indexFunc_any ps q sa k cap g w hk hk2 hp hq hg).mono ?_
  rintro e w1 ⟨rfl, r, he, hr⟩
  subst he
  dsimp only
  rcases hr with ⟨ha, hr⟩ | ⟨ha, rfl⟩
  · go_wp2_with fail
    go_ret
    exact ⟨ret_bool (by rw [ha]), rfl⟩
  · go_wp2_with fail
    go_ret
    exact ⟨ret_bool (by rw [ha]), rfl⟩

set_option maxRecDepth 100000 in
set_option maxHeartbeats 1000000 in
theorem checkDigests_any (ps : List Part) (sa : Option Addr) (n cap : Nat) (w : World) (hn : n = ps.length) (hc0 : n ≤ cap) (_hcm : cap ≤ 9223372036854775807) (hnm : n ≤ 9000000000000000000) (hsa : cap = 0 ∨ ∃ sb so, sa = some ⟨sb, so, none⟩) (hp : PartsAt w sa ps) :
    Calls Tryd.prog 43 #[.slice sa n cap] w fun e w' => e = .returned (.int .i64 (digF ps)) ∧ Below w.heap.size w w' := by
  subst hn
  have hmf : ∀ (fn : Fn) (first cap : Array Value) (w : World), (Instr.makeFunc fn first cap).run Tryd.prog w = .ok (.func fn first cap) w := fun _ _ _ _ => rfl
  go_enter Tryd.func43, Tryd.ntmps43
  go_wp2_with fail
  go_loopw [8] (fun i wr => ∃ k : Nat, k ≤ ps.length ∧ i = .int .i64 k ∧ digTo1 ps k = 0 ∧ Below w.heap.size w wr) (fun i _ => ps.length - (intOf i).toNat)
  case atStart => exact ⟨0, Nat.zero_le _, rfl, rfl, Below.refl _ _⟩
  case round =>
    obtain ⟨k, hk, rfl, h0, hb⟩ := hrel
    by_cases hlt : k < ps.length
    · obtain ⟨sb, so, rfl⟩ : ∃ sb so, sa = some ⟨sb, so, none⟩ := by
        rcases hsa with h | h
        · omega
        · exact h
      have hpw := hp.below hb
      have hx := hpw.each (ps[k]) (List.getElem_mem hlt)
      have hpe := partAt_get ps k hlt
      have ck : wr.cell? ⟨sb, so + k, none⟩ = some (.slice (ps[k]).sa (ps[k]).bs.length (ps[k]).cap) := by
        rcases hpw.cells with hc | ⟨sb', so', e, hc⟩
        · rw [hc] at hlt; simp at hlt
        · cases e; exact hc k hlt
      have hltI : (k : Int) < ps.length := by omega
      have hkc : (k : Int) ≤ cap := by omega
      have hAt : Hid (digAt ps k = if (ps[k]).bs.length ≠ 32 then 4 else if anyOf ps (ps[k]) k then 7 else 0) := by
        show _ = _
        rw [digAt, twice, hpe]
        rfl
      have hF : Hid (digAt ps k ≠ 0 → digF ps = digAt ps k) := by
        show _ → _
        exact digF_at ps k hlt h0
      have hS : Hid (digAt ps k = 0 → digTo1 ps (k + 1) = 0) := by
        show _ → _
        intro h
        rw [digTo1, h0, h]; rfl
      clear hpe
      have hxl : (ps[k]).bs.length ≤ 9223372036854775807 := Nat.le_trans hx.le hx.max
      generalize ps[k] = p at *
      by_cases h32 : p.bs.length = 32
      · have hAl : Below wr.heap.size wr (wr.alloc (.cells #[.slice p.sa 32 p.cap] 25)) := (Below.refl _ _).alloc (Nat.le_refl _) _
        have hg : (wr.alloc (.cells #[.slice p.sa 32 p.cap] 25)).cell? ⟨wr.heap.size, 0, none⟩ = some (.slice p.sa p.bs.length p.cap) := by
          rw [h32]; exact laid_cell _ _ _ 0 _ rfl
        have hC := containsFunc_any ps p (some ⟨sb, so, none⟩) k cap wr.heap.size _ hk (by omega) (hpw.below hAl) (hx.below hAl) hg
        clear hg hx hpw
        by_cases hT : anyOf ps p k = true
        · rw [hT] at hC
          have e7 : digF ps = 7 := by
            have : digAt ps k = 7 := by rw [hAt.out, if_neg (by simp [h32]), hT]; rfl
            rw [hF.out (by rw [this]; decide), this]
          clear hAt hF hS hT
          go_wp2_with fail
          refine hC.mono ?_
          rintro e w2 ⟨he, rfl⟩
          subst he
          dsimp only
          go_wp2_with fail
          go_ret
          exact ⟨ret_int e7.symm, hb.alloc hb.size _⟩
        · have hT' : anyOf ps p k = false := by simpa using hT
          rw [hT'] at hC
          have e0 := hS.out (by rw [hAt.out, if_neg (by simp [h32]), hT']; rfl)
          clear hAt hF hS hT hT'
          go_wp2_with fail
          refine hC.mono ?_
          rintro e w2 ⟨he, rfl⟩
          subst he
          dsimp only
          go_wp2_with fail
          go_roundw
          case rel => exact ⟨k + 1, by omega, by go_num, e0, hb.alloc hb.size _⟩
          case measure => simp [intOf]; omega
      · have h32I : ¬ (p.bs.length : Int) = 32 := by omega
        have e4 : digF ps = 4 := by
          have : digAt ps k = 4 := by rw [hAt.out, if_pos h32]
          rw [hF.out (by rw [this]; decide), this]
        clear hAt hF hS
        go_wp2_with fail
        go_ret
        exact ⟨ret_int e4.symm, hb.alloc hb.size _⟩
    · obtain rfl : k = ps.length := by omega
      go_wp2_with fail
      go_ret
      exact ⟨ret_int h0.symm, hb⟩
end Go.Proofs.YtcecjdoabnhcgaaDoor
