/- blake.fits and blake.Tagged: for every tag and every list of parts: more than 4000 bytes, the lengths and the tag among them, are refused with ErrSize; else the digest of the tag and of each part behind its length. -/
import Derived.Test.YtbmodfegcmaieaaDoorGDigest
import Derived.Test.YtbmodfegcmaieaaDoorGApp
import Derived.Test.YtbmodfegcmaieaaDoorGAppD
namespace Go.Proofs.YtbmodfegcmaieaaDoor
open Go.RowKit

set_option maxRecDepth 100000 in
theorem list8 (l : List Int) (h : l.length = 8) : ∃ a b c d e f g i, l = [a, b, c, d, e, f, g, i] := by
  match l, h with
  | [a, b, c, d, e, f, g, i], _ => exact ⟨a, b, c, d, e, f, g, i, rfl⟩
set_option maxRecDepth 100000 in
theorem cells8 {W : World} {b : Nat} {t : TypeId} {x0 x1 x2 x3 x4 x5 x6 x7 : Int} (h : W.heap[b]? = some (.cells (ua [x0, x1, x2, x3, x4, x5, x6, x7]) t (0, 0))) :
    W.cell? ⟨b, 0, none⟩ = some (.int .u32 x0) ∧ W.cell? ⟨b, 1, none⟩ = some (.int .u32 x1) ∧ W.cell? ⟨b, 2, none⟩ = some (.int .u32 x2) ∧ W.cell? ⟨b, 3, none⟩ = some (.int .u32 x3) ∧
    W.cell? ⟨b, 4, none⟩ = some (.int .u32 x4) ∧ W.cell? ⟨b, 5, none⟩ = some (.int .u32 x5) ∧ W.cell? ⟨b, 6, none⟩ = some (.int .u32 x6) ∧ W.cell? ⟨b, 7, none⟩ = some (.int .u32 x7) ∧ ∀ j, W.frozen? ⟨b, j, none⟩ = false :=
  ⟨cell_of_row W b 0 _ _ _ h, cell_of_row W b 1 _ _ _ h, cell_of_row W b 2 _ _ _ h, cell_of_row W b 3 _ _ _ h, cell_of_row W b 4 _ _ _ h, cell_of_row W b 5 _ _ _ h, cell_of_row W b 6 _ _ _ h, cell_of_row W b 7 _ _ _ h, fun j => frozen_of_row W b j _ _ h⟩
set_option maxRecDepth 100000 in
theorem upd8 {W : World} {b : Nat} {t : TypeId} {x0 x1 x2 x3 x4 x5 x6 x7 : Int} (y0 y1 y2 y3 y4 y5 y6 y7 : Int) (h : W.heap[b]? = some (.cells (ua [x0, x1, x2, x3, x4, x5, x6, x7]) t (0, 0))) :
    Upd b (.cells (ua [y0, y1, y2, y3, y4, y5, y6, y7]) t (0, 0)) W ((((((((W.setCell ⟨b, 0, none⟩ (.int .u32 y0)).setCell ⟨b, 1, none⟩ (.int .u32 y1)).setCell ⟨b, 2, none⟩ (.int .u32 y2)).setCell ⟨b, 3, none⟩ (.int .u32 y3)).setCell ⟨b, 4, none⟩ (.int .u32 y4)).setCell ⟨b, 5, none⟩ (.int .u32 y5)).setCell ⟨b, 6, none⟩ (.int .u32 y6)).setCell ⟨b, 7, none⟩ (.int .u32 y7)) := by
  have k := ((((((((Upd.refl h).setCell 0 (.int .u32 y0)).setCell 1 (.int .u32 y1)).setCell 2 (.int .u32 y2)).setCell 3 (.int .u32 y3)).setCell 4 (.int .u32 y4)).setCell 5 (.int .u32 y5)).setCell 6 (.int .u32 y6)).setCell 7 (.int .u32 y7)
  simp only [ua_set, List.set_cons_zero, List.set_cons_succ] at k
  exact k
/-- The state behind k whole blocks: P1.4. -/
def sumTo (bs : List Int) : Nat → List Int
  | 0 => beginL
  | k + 1 => takeL (sumTo bs k) ((bs.drop (64 * k)).take 64) ((64 * k + 64 : Nat) : Int) false
set_option maxRecDepth 100000 in
theorem sumTo_length (bs : List Int) (k : Nat) : (sumTo bs k).length = 8 := by
  induction k with
  | zero => exact beginL_length
  | succ k ih => rw [sumTo, takeL_length, ih]
/-- How many whole blocks stand ahead of the last one. -/
def fullB (n : Nat) : Nat := (n - 1) / 64
def sumL (bs : List Int) : List Int :=
  digTo (takeL (sumTo bs (fullB bs.length)) (bs.drop (64 * fullB bs.length)) (bs.length : Int) true) 8

set_option maxRecDepth 100000 in
/-- take, its words one by one. -/
theorem take_ex (x0 x1 x2 x3 x4 x5 x6 x7 : Int) (bs : List Int) (sa : Option Addr) (cap : Nat) (taken : Int) (last : Bool) (n : Nat) (w : World) (hn : n = bs.length) (hbl : bs.length ≤ 64) (hc : BytesAt w sa bs) (hT : Tabs w) :
    Calls Tryd.prog 106 #[.agg #[.int .u32 x0, .int .u32 x1, .int .u32 x2, .int .u32 x3, .int .u32 x4, .int .u32 x5, .int .u32 x6, .int .u32 x7], .slice sa n cap, .int .i64 taken, .bool last] w fun e w' =>
      ∃ y0 y1 y2 y3 y4 y5 y6 y7, e = .returned (.agg #[.int .u32 y0, .int .u32 y1, .int .u32 y2, .int .u32 y3, .int .u32 y4, .int .u32 y5, .int .u32 y6, .int .u32 y7]) ∧ Hid (takeL [x0, x1, x2, x3, x4, x5, x6, x7] bs taken last = [y0, y1, y2, y3, y4, y5, y6, y7]) ∧ Below w.heap.size w w' := by
  subst hn
  refine (take_any [x0, x1, x2, x3, x4, x5, x6, x7] bs sa cap taken last w rfl hbl hc hT).mono ?_
  rintro e w' ⟨rfl, hb⟩
  obtain ⟨y0, y1, y2, y3, y4, y5, y6, y7, hy⟩ := list8 (takeL [x0, x1, x2, x3, x4, x5, x6, x7] bs taken last) (takeL_length _ _ _ _)
  exact ⟨y0, y1, y2, y3, y4, y5, y6, y7, by rw [hy]; rfl, hy, hb⟩

set_option maxRecDepth 100000 in
theorem digest_ex (x0 x1 x2 x3 x4 x5 x6 x7 : Int) (w : World) :
    Calls Tryd.prog 107 #[.agg #[.int .u32 x0, .int .u32 x1, .int .u32 x2, .int .u32 x3, .int .u32 x4, .int .u32 x5, .int .u32 x6, .int .u32 x7]] w fun e w' =>
      e = .returned (.slice (some ⟨w.heap.size + 1, 0, none⟩) 32 32) ∧ Below w.heap.size w w' ∧ w'.ownsRow w.heap.size 5 1 (.slice (some ⟨w.heap.size + 1, 0, none⟩) 32 32) 32 (ub (digTo [x0, x1, x2, x3, x4, x5, x6, x7] 8)) :=
  digest_any [x0, x1, x2, x3, x4, x5, x6, x7] w rfl
set_option maxRecDepth 100000 in
theorem ownsRow_base {w : World} {b b' : Nat} {e : TypeId} {size : Nat} {v : Value} {n : Nat} {xs : List Value} (h : w.ownsRow b e size v n xs) (hb : b' ≤ b) : w.ownsRow b' e size v n xs := by
  obtain ⟨h1, h2⟩ := h
  refine ⟨h1, ?_⟩
  rcases h2 with h2 | ⟨g, cap, cur, hv, hg, r⟩
  · exact .inl h2
  · exact .inr ⟨g, cap, cur, hv, by omega, r⟩

set_option maxRecDepth 100000 in
set_option maxHeartbeats 400000 in
theorem sum_big (n : Nat) (sa : Option Addr) (cap : Nat) (w : World) (hn : 4000 < n) (hm : n ≤ maxLen) :
    Calls Tryd.prog 84 #[.slice sa n cap] w fun e w' => e = .returned (.tuple #[.slice none 0 0, .int .i64 1]) ∧ w = w' := by
  unfold maxLen at hm
  have h1 : (4000 : Int) < n := by omega
  go_enter Tryd.func84, Tryd.ntmps84
  go_wp2
  go_ret2
  exact ⟨rfl, rfl⟩

set_option maxRecDepth 100000 in
set_option maxHeartbeats 1000000 in
theorem sum_any (bs : List Int) (sa : Option Addr) (cap : Nat) (w : World) (hl : bs.length ≤ 4000) (hcap : bs.length ≤ cap) (hm : cap ≤ maxLen) (hsa : cap = 0 ∨ ∃ sb so, sa = some ⟨sb, so, none⟩) (hc : BytesAt w sa bs) (hT : Tabs w) :
    Calls Tryd.prog 84 #[.slice sa bs.length cap] w fun e w' => ∃ b, e = .returned (.tuple #[.slice (some ⟨b, 0, none⟩) 32 32, .int .i64 0]) ∧ w.heap.size ≤ b ∧ Below w.heap.size w w' ∧ w'.ownsRow w.heap.size 5 1 (.slice (some ⟨b, 0, none⟩) 32 32) 32 (ub (sumL bs)) := by
  unfold maxLen at hm
  have h1 : decide ((4000 : Int) < (bs.length : Int)) = false := by simp; omega
  have hzb := state_size beginL beginL_length
  have hob : (ua (List.replicate 8 0)).size = (ua beginL).size := by rw [ua_size, ua_size, beginL_length]; rfl
  have hg := hT.lt
  go_enter Tryd.func84, Tryd.ntmps84
  go_wp2_with (first | (go_at_call 105; refine (begin_any _ hT.words).mono ?_; rintro e w1 ⟨rfl, hb1⟩) | refine wpList_store_row rfl 143 _ _ rfl _ (ua beginL) rfl rfl 143 (ua (List.replicate 8 0)) (heap_alloc_new _ _) hzb hob (ua_one _) ?_)
  go_loopw [5] (fun i wr => ∃ k d : Nat, i = .int .i64 d ∧ Hid (d = 64 * k) ∧ (d < bs.length ∨ d = 0) ∧ Below w.heap.size w wr ∧ wr.heap[w1.heap.size]? = some (.cells (ua (sumTo bs k)) 143 (0, 0))) (fun i _ => bs.length - (intOf i).toNat)
  case atStart =>
    have hn := heap_alloc_new w1 (.cells (ua (List.replicate 8 0)) 143)
    exact ⟨0, 0, rfl, rfl, .inr rfl, (Upd.setRow hn).below (hb1.alloc hb1.size _) (by simp; exact Nat.le_succ_of_le hb1.size) hb1.size, setRow_heap _ _ _ _ _ _ hn⟩
  case round =>
    obtain ⟨k, d, rfl, hd, hdn, hb, hh⟩ := hrel
    have hsz1 := hb1.size
    have hlt4 := lt_of_heap hh
    by_cases hlt : 64 < bs.length - d
    · have hltI : (64 : Int) < (bs.length : Int) - d := by omega
      rcases hc with hc | ⟨sb, so, rfl, hc⟩
      · subst hc; simp at hlt
      have hsb : sb < w.heap.size := block_lt_of_cell (hc 0 (by omega))
      have hcw : BytesAt w (some ⟨sb, so, none⟩) bs := .inr ⟨sb, so, rfl, hc⟩
      have hcut : BytesAt w (some ⟨sb, so + d, none⟩) ((bs.drop d).take 64) := hcw.cut d 64
      have hcl : Hid (64 = ((bs.drop d).take 64).length) := by show _ = _; simp; omega
      have hS := sumTo_length bs k
      have hs1 : Hid (sumTo bs (k + 1) = takeL (sumTo bs k) ((bs.drop d).take 64) ((d : Int) + 64) false) := by
        have hd' := hd.out
        have e : ((64 * k + 64 : Nat) : Int) = (d : Int) + 64 := by omega
        show _ = _
        rw [sumTo, e, ← hd']
      generalize sumTo bs k = S at hh hS hs1
      obtain ⟨x0, x1, x2, x3, x4, x5, x6, x7, rfl⟩ := list8 S hS
      obtain ⟨c0, c1, c2, c3, c4, c5, c6, c7, f0⟩ := cells8 hh
      have hdc : (d : Int) + 64 ≤ cap := by omega
      go_wp2_with fail
      go_region_with (go_at_call 106; refine (take_ex x0 x1 x2 x3 x4 x5 x6 x7 ((bs.drop d).take 64) _ _ _ _ _ _ hcl.out (by simp; omega) ?_ ?_).mono ?_; exact hcut.below' hb.drew; exact hT.below hb.drew; rintro e w2 ⟨y0, y1, y2, y3, y4, y5, y6, y7, rfl, hy, hb2⟩; have hh2 := (hb2.block w1.heap.size hlt4).trans hh; obtain ⟨e0, e1, e2, e3, e4, e5, e6, e7, g0⟩ := cells8 hh2)
      all_goals
        go_wp2_with fail
        go_roundw
        case rel =>
          have hU := upd8 y0 y1 y2 y3 y4 y5 y6 y7 hh2
          have hbb : Below w.heap.size w w2 := hb.drew.trans (hb2.mono hb.size)
          refine ⟨k + 1, d + 64, by go_num, by rw [hd.out]; exact (Nat.mul_succ 64 k).symm, .inl (by omega), hU.below hbb hbb.size hsz1, ?_⟩
          rw [hs1.out, hy.out]; exact hU.here
        case measure => simp [intOf]; omega
    · have hk : k = fullB bs.length := by
        have := hd.out
        unfold fullB
        omega
      have hS := sumTo_length bs k
      have hcl : Hid (bs.length - d = (bs.drop d).length) := by show _ = _; simp
      have hfin : Hid (sumL bs = digTo (takeL (sumTo bs k) (bs.drop d) (bs.length : Int) true) 8) := by
        show _ = _
        rw [sumL, ← hk, ← hd.out]
      have hcut : BytesAt w (sa.map fun a => ⟨a.block, a.off + d, none⟩) (bs.drop d) := by
        rcases hc with hc | ⟨sb, so, rfl, hc⟩
        · exact .inl (by rw [hc]; simp)
        · have := BytesAt.cut (.inr ⟨sb, so, rfl, hc⟩) d (bs.length)
          rwa [List.take_of_length_le (by simp)] at this
      generalize sumTo bs k = S at hh hS hfin
      obtain ⟨x0, x1, x2, x3, x4, x5, x6, x7, rfl⟩ := list8 S hS
      obtain ⟨c0, c1, c2, c3, c4, c5, c6, c7, f0⟩ := cells8 hh
      clear hk
      have hlen : (bs.drop d).length ≤ 64 := by simp; omega
      rcases hsa with rfl | ⟨sb, so, rfl⟩
      · have hnil : bs = [] := List.eq_nil_of_length_eq_zero (by omega)
        subst hnil
        obtain rfl : d = 0 := hdn.elim (fun h => absurd h (Nat.not_lt_zero _)) id
        have hfin' : sumL [] = digTo (takeL [x0, x1, x2, x3, x4, x5, x6, x7] [] 0 true) 8 := hfin.out
        have hH : Hid (sumL [] = digTo (takeL [x0, x1, x2, x3, x4, x5, x6, x7] [] 0 true) 8) := hfin'
        clear hfin hfin' hcut hcl hlen hlt hcap hl h1 hc
        cases sa
        all_goals
          go_wp2_with fail
          go_region_with (first | (go_at_call 106; refine (take_ex x0 x1 x2 x3 x4 x5 x6 x7 [] _ _ _ _ _ _ rfl (by simp) ?_ ?_).mono ?_; exact .inl rfl; exact hT.below hb.drew; rintro e w2 ⟨y0, y1, y2, y3, y4, y5, y6, y7, rfl, hy, hb2⟩) | (go_at_call 107; refine (digest_ex _ _ _ _ _ _ _ _ _).mono ?_; rintro e w3 ⟨rfl, hb3, ho3⟩))
          all_goals
            go_wp2_with fail
            go_ret2
            have hbb : Below w.heap.size w w2 := hb.drew.trans (hb2.mono hb.size)
            refine ⟨_, rfl, Nat.le_succ_of_le hbb.size, hbb.trans (hb3.mono hbb.size), ?_⟩
            rw [hH.out, hy.out]
            exact ownsRow_base ho3 hbb.size
      · by_cases hdc : d < cap
        · have hdcI : (d : Int) < cap := by omega
          have hdl : d ≤ bs.length := by omega
          go_wp2_with fail
          go_region_with (first | (go_at_call 106; refine (take_ex x0 x1 x2 x3 x4 x5 x6 x7 (bs.drop d) _ _ _ _ _ _ hcl.out hlen ?_ ?_).mono ?_; exact hcut.below' hb.drew; exact hT.below hb.drew; rintro e w2 ⟨y0, y1, y2, y3, y4, y5, y6, y7, rfl, hy, hb2⟩) | (go_at_call 107; refine (digest_ex _ _ _ _ _ _ _ _ _).mono ?_; rintro e w3 ⟨rfl, hb3, ho3⟩))
          all_goals
            go_wp2_with fail
            go_ret2
            have hbb : Below w.heap.size w w2 := hb.drew.trans (hb2.mono hb.size)
            refine ⟨_, rfl, Nat.le_succ_of_le hbb.size, hbb.trans (hb3.mono hbb.size), ?_⟩
            rw [hfin.out, hy.out]
            exact ownsRow_base ho3 hbb.size
        · have hnil : bs = [] := List.eq_nil_of_length_eq_zero (by omega)
          have hcap0 : cap = 0 := by rcases hdn with h | h <;> omega
          subst hnil
          subst hcap0
          obtain rfl : d = 0 := hdn.elim (fun h => absurd h (Nat.not_lt_zero _)) id
          have hfin' : sumL [] = digTo (takeL [x0, x1, x2, x3, x4, x5, x6, x7] [] 0 true) 8 := hfin.out
          have hH : Hid (sumL [] = digTo (takeL [x0, x1, x2, x3, x4, x5, x6, x7] [] 0 true) 8) := hfin'
          clear hfin hfin' hcut hcl hlen hlt hcap hl h1 hc
          go_wp2_with fail
          go_region_with (first | (go_at_call 106; refine (take_ex x0 x1 x2 x3 x4 x5 x6 x7 [] _ _ _ _ _ _ rfl (by simp) ?_ ?_).mono ?_; exact .inl rfl; exact hT.below hb.drew; rintro e w2 ⟨y0, y1, y2, y3, y4, y5, y6, y7, rfl, hy, hb2⟩) | (go_at_call 107; refine (digest_ex _ _ _ _ _ _ _ _ _).mono ?_; rintro e w3 ⟨rfl, hb3, ho3⟩))
          all_goals
            go_wp2_with fail
            go_ret2
            have hbb : Below w.heap.size w w2 := hb.drew.trans (hb2.mono hb.size)
            refine ⟨_, rfl, Nat.le_succ_of_le hbb.size, hbb.trans (hb3.mono hbb.size), ?_⟩
            rw [hH.out, hy.out]
            exact ownsRow_base ho3 hbb.size
end Go.Proofs.YtbmodfegcmaieaaDoor

namespace Go.Proofs.YtbmodfegcmaieaaDoor
open Go.RowKit

set_option maxRecDepth 100000 in
theorem digTo8_length (s : List Int) : (digTo s 8).length = 32 := digTo_length s 8
set_option maxRecDepth 100000 in
theorem sumL_length (bs : List Int) : (sumL bs).length = 32 := digTo_length _ 8
set_option maxRecDepth 100000 in
/-- blake.Sum of a slice with room: a new slice of 32 bytes, and OK. -/
theorem sum_ok (bs : List Int) (sa : Option Addr) (n cap : Nat) (w : World) (hn : n = bs.length) (hl : bs.length ≤ 4000) (hs : SliceAt w sa cap bs) (hT : Tabs w) :
    Calls Tryd.prog 84 #[.slice sa n cap] w fun e w' => ∃ b, e = .returned (.tuple #[.slice (some ⟨b, 0, none⟩) 32 32, .int .i64 0]) ∧ w.heap.size ≤ b ∧ Below w.heap.size w w' ∧ SliceAt w' (some ⟨b, 0, none⟩) 32 (sumL bs) := by
  subst hn
  refine (sum_any bs sa cap w hl hs.le hs.max hs.some hs.bytes hT).mono ?_
  rintro e w' ⟨b, rfl, h1, h2, h3⟩
  exact ⟨b, rfl, h1, h2, (sliceAt_of_owns h3).2⟩
end Go.Proofs.YtbmodfegcmaieaaDoor

namespace Go.Proofs.YtbmodfegcmaieaaDoor
open Go.RowKit

/-- How many bytes the first k parts take, their lengths with them. -/
def psz (ps : List Part) : Nat → Nat
  | 0 => 0
  | k + 1 => psz ps k + (2 + (ps.getD k ⟨none, 0, []⟩).bs.length)
set_option maxRecDepth 100000 in
theorem psz_mono (ps : List Part) (j k : Nat) (h : j ≤ k) : psz ps j ≤ psz ps k := by
  induction k with
  | zero => obtain rfl : j = 0 := by omega
            exact Nat.le_refl _
  | succ k ih =>
    rcases Nat.lt_or_ge j (k + 1) with g | g
    · exact Nat.le_trans (ih (by omega)) (by simp [psz])
    · obtain rfl : j = k + 1 := by omega
      exact Nat.le_refl _

set_option maxRecDepth 100000 in
set_option maxHeartbeats 1000000 in
theorem fits_yes (ps : List Part) (sa : Option Addr) (n cap : Nat) (w : World) (hn : n = ps.length) (hp : PartsAt w sa ps) (hs : 1 + psz ps ps.length ≤ 4000) :
    Calls Tryd.prog 83 #[.slice sa n cap] w fun e w' => e = .returned (.bool true) ∧ w = w' := by
  subst hn
  have hlen : ps.length ≤ 2000 := by
    have : ∀ k, 2 * k ≤ psz ps k := by
      intro k
      induction k with
      | zero => exact Nat.le_refl _
      | succ k ih => simp [psz]; omega
    have := this ps.length
    omega
  go_enter Tryd.func83, Tryd.ntmps83
  go_wp2_with fail
  go_loop [8, 3] (fun i r => ∃ k : Nat, k ≤ ps.length ∧ i = .int .i64 k ∧ r = .int .i64 (3999 - (psz ps k : Int))) (fun i _ => ps.length - (intOf i).toNat)
  case atStart => exact ⟨0, Nat.zero_le _, rfl, rfl⟩
  case round =>
    obtain ⟨k, hk, rfl, rfl⟩ := hrel
    by_cases hlt : k < ps.length
    · rcases hp.cells with hc | ⟨sb, so, rfl, hc⟩
      · subst hc; simp at hlt
      have ck := hc k hlt
      have h1 := psz_mono ps (k + 1) ps.length hlt
      have h2 : Hid (psz ps (k + 1) = psz ps k + (2 + (ps[k]).bs.length)) := by show _ = _; simp [psz, hlt]
      have h3 : psz ps k + (2 + (ps[k]).bs.length) ≤ 3999 := by have := h2.out; omega
      generalize (ps[k]).bs.length = m at ck h2 h3
      generalize (ps[k]).sa = pa at ck
      generalize (ps[k]).cap = pc at ck
      clear h1 hc hp
      generalize psz ps k = z at *
      have h4 : ¬ ((3999 : Int) - z - 2 < m) := by omega
      go_wp2_with fail
      go_round
      case rel => exact ⟨k + 1, by omega, by go_num, by rw [h2.out]; go_num⟩
      case measure => simp [intOf]; omega
    · go_wp2_with fail
      go_ret
      exact ⟨rfl, rfl⟩

set_option maxRecDepth 100000 in
set_option maxHeartbeats 1000000 in
theorem fits_no (ps : List Part) (sa : Option Addr) (n cap : Nat) (w : World) (hn : n = ps.length) (hm : n ≤ maxLen) (hp : PartsAt w sa ps) (hs : 4000 < 1 + psz ps ps.length) :
    Calls Tryd.prog 83 #[.slice sa n cap] w fun e w' => e = .returned (.bool false) ∧ w = w' := by
  subst hn
  unfold maxLen at hm
  go_enter Tryd.func83, Tryd.ntmps83
  go_wp2_with fail
  go_loop [8, 3] (fun i r => ∃ k : Nat, k ≤ ps.length ∧ psz ps k ≤ 3999 ∧ i = .int .i64 k ∧ r = .int .i64 (3999 - (psz ps k : Int))) (fun i _ => ps.length - (intOf i).toNat)
  case atStart => exact ⟨0, Nat.zero_le _, Nat.zero_le _, rfl, rfl⟩
  case round =>
    obtain ⟨k, hk, hz, rfl, rfl⟩ := hrel
    by_cases hlt : k < ps.length
    · rcases hp.cells with hc | ⟨sb, so, rfl, hc⟩
      · subst hc; simp at hlt
      have ck := hc k hlt
      have h2 : Hid (psz ps (k + 1) = psz ps k + (2 + (ps[k]).bs.length)) := by show _ = _; simp [psz, hlt]
      have hx := hp.each (ps[k]) (List.getElem_mem hlt)
      have hm2 : (ps[k]).bs.length ≤ 9223372036854775807 := Nat.le_trans hx.le hx.max
      clear hx
      generalize (ps[k]).bs.length = m at ck h2 hm2
      generalize (ps[k]).sa = pa at ck
      generalize (ps[k]).cap = pc at ck
      clear hc hp
      have hzk : Hid (psz ps k ≤ 3999) := hz
      generalize psz ps k = z at *
      by_cases h4 : (3999 : Int) - z - 2 < m
      · go_wp2_with fail
        go_ret
        exact ⟨rfl, rfl⟩
      · go_wp2_with fail
        go_round
        case rel => exact ⟨k + 1, by omega, by rw [h2.out]; omega, by go_num, by rw [h2.out]; go_num⟩
        case measure => simp [intOf]; omega
    · obtain rfl : k = ps.length := by omega
      omega
set_option maxRecDepth 100000 in
theorem ub_app {w : World} {base n : Nat} {v : Value} {bs cs : List Int} (h : w.ownsRow base 5 1 v n (ub bs ++ cs.map (Value.int .u8))) : w.ownsRow base 5 1 v n (ub (bs ++ cs)) := by
  simpa [ub] using h
/-- P1.5: the tag, and each part behind its length. -/
def tagTo (tag : Int) (ps : List Part) : Nat → List Int
  | 0 => [tag]
  | k + 1 => tagTo tag ps k ++ [((ps.getD k ⟨none, 0, []⟩).bs.length : Int) / 256 % 256, ((ps.getD k ⟨none, 0, []⟩).bs.length : Int) % 256] ++ (ps.getD k ⟨none, 0, []⟩).bs
set_option maxRecDepth 100000 in
theorem tagTo_length (tag : Int) (ps : List Part) (k : Nat) : (tagTo tag ps k).length = 1 + psz ps k := by
  induction k with
  | zero => rfl
  | succ k ih => simp [tagTo, psz, ih]; omega

set_option maxRecDepth 100000 in
set_option maxHeartbeats 400000 in
theorem tagged_big (tag : Int) (ps : List Part) (sa : Option Addr) (n cap : Nat) (w : World) (hn : n = ps.length) (hm : n ≤ maxLen) (hp : PartsAt w sa ps) (hs : 4000 < 1 + psz ps ps.length) :
    Calls Tryd.prog 61 #[.int .u8 tag, .slice sa n cap] w fun e w' => e = .returned (.tuple #[.slice none 0 0, .int .i64 1]) ∧ w = w' := by
  subst hn
  go_enter Tryd.func61, Tryd.ntmps61
  go_wp2_with fail
  refine (fits_no ps sa _ cap w rfl hm hp hs).mono ?_
  rintro e w' ⟨rfl, rfl⟩
  go_wp2_with fail
  go_ret2
  exact ⟨rfl, rfl⟩

set_option maxRecDepth 100000 in
set_option maxHeartbeats 1000000 in
theorem tagged_ok (tag : Int) (ps : List Part) (sa : Option Addr) (n cap : Nat) (w : World) (hn : n = ps.length) (hp : PartsAt w sa ps) (hs : 1 + psz ps ps.length ≤ 4000) (hT : Tabs w) :
    Calls Tryd.prog 61 #[.int .u8 tag, .slice sa n cap] w fun e w' => ∃ b, e = .returned (.tuple #[.slice (some ⟨b, 0, none⟩) 32 32, .int .i64 0]) ∧ w.heap.size ≤ b ∧ Below w.heap.size w w' ∧ SliceAt w' (some ⟨b, 0, none⟩) 32 (sumL (tagTo tag ps ps.length)) := by
  subst hn
  have hlen : ps.length ≤ 2000 := by
    have : ∀ k, 2 * k ≤ psz ps k := by
      intro k
      induction k with
      | zero => exact Nat.le_refl _
      | succ k ih => simp [psz]; omega
    have := this ps.length
    omega
  obtain ⟨i, hi, hz0, hz1, hz2⟩ := info_parts infoU8
  have hown0 : (w.alloc (.cells #[.int .u8 tag] 5)).ownsRow w.heap.size 5 1 (.slice (some ⟨w.heap.size, 0, none⟩) 1 1) 1 (ub (tagTo tag ps 0)) :=
    World.ownsRow_lit w #[.int .u8 tag] 1 (Nat.le_refl _) (by decide) rfl
  go_enter Tryd.func61, Tryd.ntmps61
  go_wp2_with fail
  refine (fits_yes ps sa _ cap w rfl hp hs).mono ?_
  rintro e w' ⟨rfl, rfl⟩
  go_wp2_with fail
  go_loopw [16, 6] (fun j v wr => ∃ k : Nat, k ≤ ps.length ∧ j = .int .i64 k ∧ Below w.heap.size w wr ∧ wr.ownsRow w.heap.size 5 1 v (1 + psz ps k) (ub (tagTo tag ps k))) (fun j _ _ => ps.length - (intOf j).toNat)
  case atStart => exact ⟨0, Nat.zero_le _, rfl, (Below.refl _ _).alloc (Nat.le_refl _) _, hown0⟩
  case round =>
    obtain ⟨k, hk, rfl, hb, ho⟩ := hrel
    by_cases hlt : k < ps.length
    · have hp' := hp.below hb
      rcases hp'.cells with hc | ⟨sb, so, rfl, hc⟩
      · subst hc; simp at hlt
      have ck := hc k hlt
      have h1 := psz_mono ps (k + 1) ps.length hlt
      have h2 : Hid (psz ps (k + 1) = psz ps k + (2 + (ps[k]).bs.length)) := by show _ = _; simp [psz, hlt]
      have h3 : psz ps k + (2 + (ps[k]).bs.length) ≤ 3999 := by have := h2.out; omega
      have hq : ((ps[k]).bs.length : Int) / 256 % 256 = ((ps[k]).bs.length : Int) / 256 := by omega
      have ht : Hid (tagTo tag ps (k + 1) = tagTo tag ps k ++ [((ps[k]).bs.length : Int) / 256, ((ps[k]).bs.length : Int) % 256] ++ (ps[k]).bs) := by
        show _ = _
        rw [← hq]
        simp [tagTo, hlt]
      have hpk := hp.each (ps[k]) (List.getElem_mem hlt)
      have hm : Hid ((ps[k]).bs.length = (ps[k]).bs.length) := rfl
      clear h1 hc hp' hp hq
      generalize ps[k] = p at *
      obtain ⟨pa, pc, bs⟩ := p
      simp only at ck h2 h3 ht hpk
      clear hm
      have tok : True := trivial
      go_wp2_with (first | (at_builtin; have _t := tok; refine wpList_append_own _ rfl _ _ 46 rfl w.heap.size 5 i (.int .u8 0) 1 1 Tryd.underlying46 hi hz0 hz1 hz2 rfl (by decide) _ (1 + psz ps k) _ rfl (ho.alloc _) ⟨wr.heap.size, 0, none⟩ 2 2 [.int .u8 ((bs.length : Int) / 256), .int .u8 ((bs.length : Int) % 256)] rfl rfl (cells_new _ _ _) (u8_one [_, _]) (by unfold maxLen; omega) (by omega) (le_alloc hb.size _) ?_; clear tok; intro v1 w1 ho1 hg1 _) | (at_builtin; refine wpList_append_part rfl _ _ rfl w.heap.size _ _ (tagTo tag ps k ++ [(bs.length : Int) / 256, (bs.length : Int) % 256]) rfl (ub_app ho1) pa bs.length pc bs rfl rfl (hpk.below (Below.grown (hb.alloc hb.size _) hg1 (le_alloc hb.size _) (fun q e => (ho.lt q e).1))) (by omega) (Nat.le_trans (le_alloc hb.size _) hg1.size) ?_; intro v2 w2 ho2 hg2))
      have hb1 := Below.grown (hb.alloc hb.size _) hg1 (le_alloc hb.size _) (fun q e => (ho.lt q e).1)
      have hb2 := Below.grown hb1 hg2 hb1.size (fun q e => (ho1.lt q e).1)
      go_roundw
      case rel =>
        refine ⟨k + 1, by omega, by go_num, hb2, ?_⟩
        rw [ht.out, h2.out, show 1 + (psz ps k + (2 + bs.length)) = 1 + psz ps k + 2 + bs.length by omega]
        exact ho2
      case measure => simp [intOf]; omega
    · obtain rfl : k = ps.length := by omega
      obtain ⟨sa', cap', hv, hl', hsl⟩ := owns_form ho
      subst hv
      have HL : Hid (1 + psz ps ps.length = (tagTo tag ps ps.length).length) := hl'
      clear hl'
      go_wp2_with fail
      refine (sum_ok (tagTo tag ps ps.length) sa' _ cap' wr HL.out (by rw [tagTo_length]; exact hs) hsl (hT.below hb)).mono ?_
      rintro e w2 ⟨b, rfl, hle, hb2, hr⟩
      go_wp2_with fail
      go_ret2
      exact ⟨b, rfl, Nat.le_trans hb.size hle, hb.trans (hb2.mono hb.size), hr⟩
end Go.Proofs.YtbmodfegcmaieaaDoor
