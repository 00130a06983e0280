/- The document's answer, package sheavesref: TaggedOf, for every tag and every list of parts. -/
import Derived.Test.YtgbomdikhidkoaaDoorDagInsertsM36
import Derived.Deep.RegionWith
import Derived.Deep.RegionHeld2
import Derived.Test.YtgbomdikhidkoaaDoorRows
import Derived.Test.YtgbomdikhidkoaaDoorK
import Derived.Test.YtgbomdikhidkoaaDoorDagInsertsM18
import Derived.Lib.LaidTab
import Derived.OpenShut
import Derived.Stop.LaidErr
import Derived.Test.YtgbomdikhidkoaaDoorLib
import Derived.ProofKit
import Derived.Test.YtgbomdikhidkoaaDoorApp
import Derived.Test.YtgbomdikhidkoaaDoorTagged
import Derived.Test.YtgbomdikhidkoaaDoorDagInsertsM24
import Derived.Test.YtgbomdikhidkoaaDoorOwnL
namespace Go.Proofs.YtgbomdikhidkoaaDoor
open Go.RowKit

set_option maxRecDepth 100000 in
theorem getD_W1 {vs : List Int} (h : ∀ z ∈ vs, W1 z) (j : Nat) : W1 (vs.getD j 0) := by
  rcases Nat.lt_or_ge j vs.length with g | g
  · rw [List.getD, List.getElem?_eq_getElem g]; exact h _ (List.getElem_mem g)
  · rw [List.getD, List.getElem?_eq_none g]; exact ⟨by decide, by decide⟩
set_option maxRecDepth 100000 in
theorem set_W1 {vs : List Int} (h : ∀ z ∈ vs, W1 z) (i : Nat) {x : Int} (hx : W1 x) : ∀ z ∈ vs.set i x, W1 z := by
  intro z hz
  rcases List.mem_or_eq_of_mem_set hz with hz | rfl
  · exact h z hz
  · exact hx
set_option maxRecDepth 100000 in
theorem fw_W1 : ∀ z ∈ fw, W1 z := by unfold W1; decide
set_option maxRecDepth 100000 in
theorem spreadTo_eq (s : List Int) (hs : s.length = 8) : spreadTo s 8 = s ++ fw := by
  obtain ⟨a, b, c, d, e, f, g, i, rfl⟩ := list8 s hs
  rfl
set_option maxRecDepth 100000 in
theorem spread_W1 (s : List Int) (_hs : s.length = 8) (hw : ∀ z ∈ s, W1 z) : ∀ z ∈ s ++ fw, W1 z := by
  intro z hz
  rcases List.mem_append.1 hz with h | h
  · exact hw z h
  · exact fw_W1 z h
set_option maxRecDepth 100000 in
/-- The document's v[12] and v[14]. -/
theorem spreadA_eq (s : List Int) (hs : s.length = 8) (hw : ∀ z ∈ s, W1 z) (n : Int) (hn : W1 n) : (s ++ fw).set 12 (bits .xor .i64 ((s ++ fw).getD 12 0) n) = spreadA s n := by
  rw [spreadA, spreadTo_eq s hs, xor64 (getD_W1 (spread_W1 s hs hw) 12) hn, Int.emod_eq_of_lt hn.1 hn.2]
set_option maxRecDepth 100000 in
theorem spreadA_W1 (s : List Int) (hs : s.length = 8) (hw : ∀ z ∈ s, W1 z) (n : Int) (hn : W1 n) : ∀ z ∈ spreadA s n, W1 z := by
  rw [← spreadA_eq s hs hw n hn]
  refine set_W1 (spread_W1 s hs hw) 12 ?_
  rw [xor64 (getD_W1 (spread_W1 s hs hw) 12) hn]
  exact W1.xor (getD_W1 (spread_W1 s hs hw) 12) hn
set_option maxRecDepth 100000 in
theorem xor_comm32 {x y : Int} (hx : W1 x) (hy : W1 y) : bits .xor .u32 x y = bits .xor .u32 y x := by
  obtain ⟨a, rfl, ha⟩ := hx.nat
  obtain ⟨b, rfl, hb⟩ := hy.nat
  rw [u32_xor_nat a b ha hb, u32_xor_nat b a hb ha, Nat.xor_comm]
set_option maxRecDepth 100000 in
theorem xor_assoc32 {x y z : Int} (hx : W1 x) (hy : W1 y) (hz : W1 z) : bits .xor .u32 (bits .xor .u32 x y) z = bits .xor .u32 x (bits .xor .u32 y z) := by
  obtain ⟨a, rfl, ha⟩ := hx.nat
  obtain ⟨b, rfl, hb⟩ := hy.nat
  obtain ⟨c, rfl, hc⟩ := hz.nat
  have h1 : a ^^^ b < 2 ^ 32 := Nat.xor_lt_two_pow (by omega) (by omega)
  have h2 : b ^^^ c < 2 ^ 32 := Nat.xor_lt_two_pow (by omega) (by omega)
  rw [u32_xor_nat a b ha hb, u32_xor_nat b c hb hc, u32_xor_nat _ c (by omega) hc, u32_xor_nat a _ ha (by omega), Nat.xor_assoc]
set_option maxRecDepth 100000 in
theorem max_W1 : W1 IntKind.u32.max := by unfold W1; decide
set_option maxRecDepth 100000 in
theorem mask_W1 : W1 4294967295 := by unfold W1; decide
set_option maxRecDepth 100000 in
theorem spreadL_true (s : List Int) (hs : s.length = 8) (hw : ∀ z ∈ s, W1 z) (n : Int) (hn : W1 n) : (spreadA s n).set 14 (bits .xor .i64 ((spreadA s n).getD 14 0) 4294967295) = spreadL s n true := by
  have e : (spreadA s n).getD 14 0 = (spreadTo s 8).getD 14 0 := by rw [spreadA, getD_set_ne _ _ _ _ (by decide)]
  have hw14 := getD_W1 (spreadA_W1 s hs hw n hn) 14
  rw [xor64 hw14 mask_W1, xor_comm32 hw14 mask_W1, e]
  rfl
set_option maxRecDepth 100000 in
theorem spreadL_W1 (s : List Int) (hs : s.length = 8) (hw : ∀ z ∈ s, W1 z) (n : Int) (hn : W1 n) (last : Bool) : ∀ z ∈ spreadL s n last, W1 z := by
  cases last
  · exact spreadA_W1 s hs hw n hn
  · rw [← spreadL_true s hs hw n hn]
    refine set_W1 (spreadA_W1 s hs hw n hn) 14 ?_
    rw [xor64 (getD_W1 (spreadA_W1 s hs hw n hn) 14) mask_W1]
    exact W1.xor (getD_W1 (spreadA_W1 s hs hw n hn) 14) mask_W1
set_option maxRecDepth 100000 in
theorem lane_lo : ∀ k, k < 4 → laneF.getD (k * 4) 0 = k ∧ laneF.getD (k * 4 + 1) 0 = k + 4 ∧ laneF.getD (k * 4 + 2) 0 = k + 8 ∧ laneF.getD (k * 4 + 3) 0 = k + 12 := by decide
set_option maxRecDepth 100000 in
theorem lane_hi : ∀ k, k < 4 → laneF.getD ((4 + k) * 4) 0 = k ∧ laneF.getD ((4 + k) * 4 + 1) 0 = 4 + (k + 1) % 4 ∧ laneF.getD ((4 + k) * 4 + 2) 0 = 8 + (k + 2) % 4 ∧ laneF.getD ((4 + k) * 4 + 3) 0 = 12 + (k + 3) % 4 := by decide
set_option maxRecDepth 100000 in
theorem lanesTo_W1 (m v : List Int) (hl : v.length = 16) (hv : ∀ z ∈ v, W1 z) (r k : Nat) (hk : k ≤ 8) : ∀ z ∈ lanesTo m r v k, W1 z := by
  induction k with
  | zero => exact hv
  | succ k ih =>
    have h := laneF_ok k (by omega)
    exact mixL_W1 _ (ih (by omega)) (by rw [lanesTo_length, hl]) _ _ _ _ h.2.1 h.2.2.2.1 _ _
set_option maxRecDepth 100000 in
theorem roundsTo_W1 (m v : List Int) (hl : v.length = 16) (hv : ∀ z ∈ v, W1 z) (r : Nat) : ∀ z ∈ roundsTo m v r, W1 z := by
  induction r with
  | zero => exact hv
  | succ r ih => exact lanesTo_W1 m _ (by rw [roundsTo_length, hl]) ih r 8 (Nat.le_refl _)
def oRow (r : Nat) : List Int := ((ordF.drop (r * 16)).take 16).map Int.ofNat
set_option maxRecDepth 100000 in
theorem oRow_length (r : Nat) (hr : r < 10) : (oRow r).length = 16 := by
  have : ordF.length = 160 := rfl
  simp [oRow]; omega
set_option maxRecDepth 100000 in
theorem oRow_get (r j : Nat) (hr : r < 10) (hj : j < 16) : (oRow r).getD j 0 = ((ordF.getD (r * 16 + j) 0 : Nat) : Int) := by
  have h : r * 16 + j < ordF.length := by have : ordF.length = 160 := rfl; omega
  simp [oRow, List.getD, hj, h]
set_option maxRecDepth 100000 in
theorem owns_below {w w' : World} {base B n : Nat} {e : TypeId} {s : Nat} {v : Value} {xs : List Value} (h : w.ownsRow base e s v n xs) (hb : Below B w w') (hB : ∀ q, v.ownBlock = some q → q < B) : w'.ownsRow base e s v n xs := by
  obtain ⟨h1, h2⟩ := h
  refine ⟨h1, ?_⟩
  rcases h2 with h2 | ⟨g, cap, cur, rfl, hg, hc, r⟩
  · exact .inl h2
  · exact .inr ⟨g, cap, cur, rfl, hg, (hb.block g (hB g rfl)).trans hc, r⟩
set_option maxRecDepth 100000 in
theorem owns_below' {w w' : World} {base n : Nat} {e : TypeId} {s : Nat} {v : Value} {xs : List Value} (h : w.ownsRow base e s v n xs) (hb : Below w.heap.size w w') : w'.ownsRow base e s v n xs :=
  owns_below h hb fun q e => (h.lt q e).2
set_option maxRecDepth 100000 in
/-- A row stays where another one is rewritten. -/
theorem owns_other {w w' : World} {base n g g' c : Nat} {e : TypeId} {s : Nat} {xs : List Value} (h : w.ownsRow base e s (.slice (some ⟨g, 0, none⟩) n c) n xs) (hg : w.grownBy w' (some g')) (hne : g ≠ g') : w'.ownsRow base e s (.slice (some ⟨g, 0, none⟩) n c) n xs := by
  obtain ⟨h1, h2⟩ := h
  refine ⟨h1, ?_⟩
  rcases h2 with ⟨h2, _⟩ | ⟨g2, cap, cur, e2, hg2, hc, r⟩
  · cases h2
  · cases e2
    exact .inr ⟨g, c, cur, rfl, hg2, (hg.block g (lt_of_heap hc) (by simpa using hne)).trans hc, r⟩
set_option maxRecDepth 100000 in
theorem ia_app (a b : List Int) : ia (a ++ b) = ia a ++ ia b := by simp [ia]
set_option maxRecDepth 100000 in
theorem below_of_grown {w w' : World} {B g : Nat} (h : w.grownBy w' (some g)) (hB : B ≤ w.heap.size) (hg : B ≤ g) : Below B w w' := ⟨h.os, h.tape, h.output, h.size, fun k hk => h.block k (by omega) (by simp; omega)⟩
/-- What lies in memory inside taken: the sixteen words, and the block's. -/
structure TkS (w w1 : World) (M X : List Int) (gv cv : Nat) (wx : World) : Prop where
  bel : Below w.heap.size w wx
  v : wx.ownsRow w1.heap.size 3 1 (.slice (some ⟨gv, 0, none⟩) 16 cv) 16 (ia X)
  m : wx.ownsRow w.heap.size 3 1 (.slice (some ⟨w.heap.size, 0, none⟩) 16 16) 16 (ia M)
set_option maxRecDepth 100000 in
theorem TkS.gv {w w1 : World} {M X : List Int} {gv cv : Nat} {wx : World} (h : TkS w w1 M X gv cv wx) : w1.heap.size ≤ gv := (h.v.lt _ rfl).1
set_option maxRecDepth 100000 in
theorem TkS.upd {w w1 : World} {M X X' : List Int} {gv cv : Nat} {wx w2 : World} (h : TkS w w1 M X gv cv wx) (hm : w.heap.size < w1.heap.size) (ho : w2.ownsRow w1.heap.size 3 1 (.slice (some ⟨gv, 0, none⟩) 16 cv) 16 (ia X')) (hg : wx.grownBy w2 (some gv)) : TkS w w1 M X' gv cv w2 := by
  have h1 := h.gv
  exact ⟨h.bel.trans (below_of_grown hg h.bel.size (by omega)), ho, owns_other h.m hg (by omega)⟩
set_option maxRecDepth 100000 in
theorem TkS.below {w w1 : World} {M X : List Int} {gv cv : Nat} {wx w2 : World} (h : TkS w w1 M X gv cv wx) (hb : Below wx.heap.size wx w2) : TkS w w1 M X gv cv w2 :=
  ⟨h.bel.trans (hb.mono h.bel.size), owns_below' h.v hb, owns_below' h.m hb⟩
set_option maxRecDepth 100000 in
theorem TkS.drewN {w w1 : World} {M X : List Int} {gv cv : Nat} {wx : World} (h : TkS w w1 M X gv cv wx) (n : Nat) : TkS w w1 M X gv cv (wx.drewN n) :=
  h.below ⟨rfl, rfl, rfl, Nat.le_refl _, fun _ _ => rfl⟩
set_option maxRecDepth 100000 in
theorem grown_drew {w w1 : World} {r : Option Nat} (k : w.drew.grownBy w1 r) : w.grownBy w1 r := ⟨k.os, k.tape, k.output, k.size, k.block⟩
set_option maxRecDepth 100000 in
theorem fw_take : fw.take 8 = fw := rfl
set_option maxRecDepth 100000 in
theorem TkS.belowB {w w1 : World} {M X : List Int} {gv cv B : Nat} {wx w2 : World} (h : TkS w w1 M X gv cv wx) (hb : Below B wx w2) (hg : gv < B) (hm : w.heap.size < B) : TkS w w1 M X gv cv w2 :=
  ⟨h.bel.trans (hb.mono (Nat.le_of_lt hm)), owns_below h.v hb (by intro q e; cases e; exact hg), owns_below h.m hb (by intro q e; cases e; exact hm)⟩
set_option maxRecDepth 100000 in
theorem foldTo_part (s v : List Int) (hs : s.length = 8) (n : Nat) (hn : n ≤ 8) (j : Nat) : (foldTo s v n).getD j 0 = if j < n then bits .xor .u32 (s.getD j 0) (bits .xor .u32 (v.getD j 0) (v.getD (j + 8) 0)) else s.getD j 0 := by
  induction n with
  | zero => simp [foldTo]
  | succ n ih =>
    have hih := ih (by omega)
    rw [foldTo]
    by_cases hj : j = n
    · subst hj
      rw [getD_set_eq _ _ _ (by rw [foldTo_length, hs]; omega), hih, if_neg (Nat.lt_irrefl _), if_pos (Nat.lt_succ_self _)]
    · rw [getD_set_ne _ _ _ _ hj, hih]
      by_cases hl : j < n
      · rw [if_pos hl, if_pos (by omega)]
      · rw [if_neg hl, if_neg (by omega)]
set_option maxRecDepth 100000 in
theorem foldTo_get (s v : List Int) (hs : s.length = 8) (hsw : ∀ z ∈ s, W1 z) (hv : ∀ z ∈ v, W1 z) (k : Nat) (hk : k < 8) : (foldTo s v 8).getD k 0 = bits .xor .i64 (bits .xor .i64 (s.getD k 0) (v.getD k 0)) (v.getD (k + 8) 0) := by
  have a := getD_W1 hsw k
  have b := getD_W1 hv k
  have c := getD_W1 hv (k + 8)
  rw [foldTo_part s v hs 8 (Nat.le_refl _) k, if_pos hk, xor64 a b, xor64 (W1.xor a b) c, xor_assoc32 a b c]
end Go.Proofs.YtgbomdikhidkoaaDoor

namespace Go.Proofs.YtgbomdikhidkoaaDoor
open Go.RowKit

set_option maxRecDepth 100000 in
set_option maxHeartbeats 4000000 in
theorem taken_any (s bs : List Int) (gs cs : Nat) (sa : Option Addr) (n cap : Nat) (many : Int) (last : Bool) (w : World) (hn : n = bs.length) (hl : s.length = 8) (hsw : ∀ z ∈ s, W1 z) (hbl : bs.length ≤ 64) (hc : BytesAt w sa bs) (hu : ∀ j, 0 ≤ bs.getD j 0 ∧ bs.getD j 0 ≤ 255) (hmany : W1 many)
    (hs : ∀ j, j < 8 → w.cell? ⟨gs, j, none⟩ = some (.int .i64 (s.getD j 0))) :
    Calls Tryd.prog 84 #[.slice (some ⟨gs, 0, none⟩) 8 cs, .slice sa n cap, .int .i64 many, .bool last] w fun e w' => ∃ g c, e = .returned (.slice (some ⟨g, 0, none⟩) 8 c) ∧ Below w.heap.size w w' ∧ w'.ownsRow w.heap.size 3 1 (.slice (some ⟨g, 0, none⟩) 8 c) 8 (ia (takeL s bs many last)) := by
  subst hn
  obtain ⟨i, hi, hz0, hz1, hz2⟩ := info_parts infoInt
  have hgs : gs < w.heap.size := block_lt_of_cell (hs 0 (by decide))
  go_enter Tryd.func84, Tryd.ntmps84
  go_wp2_with fail
  refine (wordsOf_any bs sa _ cap w rfl hbl hc hu).mono ?_
  rintro e w1 ⟨rfl, hb1, hom⟩
  have hm1 : w.heap.size < w1.heap.size := (hom.lt _ rfl).2
  go_wp2_with fail
  go_loopw [11, 10] (fun j v wr => ∃ k : Nat, k ≤ 8 ∧ j = .int .i64 k ∧ Below w1.heap.size w1 wr ∧ wr.ownsRow w1.heap.size 3 1 v k (ia (s.take k))) (fun j _ _ => 8 - (intOf j).toNat)
  case atStart => exact ⟨0, Nat.zero_le _, rfl, Below.refl _ _, World.ownsRow_nil _ _ _ _⟩
  case round =>
    obtain ⟨k, hk, rfl, hb, ho⟩ := hrel
    by_cases hlt : k < 8
    · have hltI : (k : Int) < 8 := by omega
      have ck : wr.cell? ⟨gs, k, none⟩ = some (.int .i64 (s.getD k 0)) := (hb.cell (p := ⟨gs, k, none⟩) (Nat.lt_trans hgs hm1)).trans ((hb1.cell (p := ⟨gs, k, none⟩) hgs).trans (hs k hlt))
      have hst : Hid (s.take (k + 1) = s.take k ++ [s.getD k 0]) := by
        show _ = _
        rw [List.take_succ_eq_append_getElem (by omega)]
        simp [List.getD, hl, hlt]
      generalize s.getD k 0 = x at ck hst
      go_wp2_with (at_builtin; refine wpList_append_own _ rfl _ _ 33 rfl w1.heap.size 3 i (.int .i64 0) 1 8 Tryd.underlying33 hi hz0 hz1 hz2 rfl (by decide) _ k _ rfl (World.ownsRow.alloc ho _) ⟨wr.heap.size, 0, none⟩ 1 1 [.int .i64 x] rfl rfl (cells_new _ _ _) (i64_one [_]) (by unfold maxLen; omega) (by omega) (le_alloc hb.size _) ?_; intro v1 w2 ho1 hg1 _)
      have hb2 := Below.grown (hb.alloc hb.size _) hg1 (le_alloc hb.size _) (fun q e => (ho.lt q e).1)
      go_roundw
      case rel =>
        refine ⟨k + 1, by omega, by go_num, hb2, ?_⟩
        rw [hst.out, ia_app]
        exact ho1
      case measure => simp [intOf]; omega
    · obtain rfl : k = 8 := by omega
      rw [List.take_of_length_le (by omega)] at ho
      go_wp2_with fail
      go_loopw [12, 10] (fun j v wr => ∃ k : Nat, k ≤ 8 ∧ j = .int .i64 k ∧ Below w1.heap.size w1 wr ∧ wr.ownsRow w1.heap.size 3 1 v (8 + k) (ia (s ++ fw.take k))) (fun j _ _ => 8 - (intOf j).toNat)
      case atStart => exact ⟨0, Nat.zero_le _, rfl, hb, by simpa using ho⟩
      case round =>
        clear ho hb
        obtain ⟨k, hk, rfl, hb, ho⟩ := hrel
        by_cases hlt : k < 8
        · have hltI : (k : Int) < 8 := by omega
          have hst : Hid (s ++ fw.take (k + 1) = (s ++ fw.take k) ++ [fw.getD k 0]) := by
            show _ = _
            have hf : k < fw.length := hlt
            rw [List.take_succ_eq_append_getElem hf, List.append_assoc]
            simp [List.getD, hf]
          go_wp2_with fail
          refine (firstWord_any k hlt _).mono ?_
          rintro e w3 ⟨rfl, hb3⟩
          have ho3 := owns_below' ho hb3
          have hB3 := hb.trans (hb3.mono hb.size)
          generalize fw.getD k 0 = x at hst ⊢
          go_wp2_with (at_builtin; refine wpList_append_own _ rfl _ _ 33 rfl w1.heap.size 3 i (.int .i64 0) 1 8 Tryd.underlying33 hi hz0 hz1 hz2 rfl (by decide) _ (8 + k) _ rfl (World.ownsRow.alloc ho3 _) ⟨w3.heap.size, 0, none⟩ 1 1 [.int .i64 x] rfl rfl (cells_new _ _ _) (i64_one [_]) (by unfold maxLen; omega) (by omega) (le_alloc hB3.size _) ?_; intro v1 w2 ho1 hg1 _)
          have hb2 := Below.grown (hB3.alloc hB3.size _) hg1 (le_alloc hB3.size _) (fun q e => (ho3.lt q e).1)
          go_roundw
          case rel =>
            have hR : ∃ k' : Nat, k' ≤ 8 ∧ (Value.int .i64 ((k : Int) + 1)) = .int .i64 k' ∧ Below w1.heap.size w1 w2 ∧ w2.ownsRow w1.heap.size 3 1 v1 (8 + k') (ia (s ++ fw.take k')) :=
              ⟨k + 1, by omega, by go_num, hb2, by rw [hst.out, ia_app, show 8 + (k + 1) = 8 + k + 1 by omega]; exact ho1⟩
            first | exact hR | ((repeat apply Exists.intro); exact ⟨hR, rfl⟩)
          case measure => simp [intOf]; omega
        · obtain rfl : k = 8 := by omega
          rw [fw_take] at ho
          have hf : ∃ gv cv, u10 = .slice (some ⟨gv, 0, none⟩) 16 cv := by
            rcases ho.2 with ⟨_, h0⟩ | ⟨g, c, cur, rfl, _⟩
            · cases h0
            · exact ⟨g, c, rfl⟩
          obtain ⟨gv, cv, hv⟩ := hf
          subst hv
          have hX : TkS w w1 (wordsTo bs bs.length) (s ++ fw) gv cv wr := ⟨hb1.trans (hb.mono (Nat.le_of_lt hm1)), ho, owns_below' hom hb⟩
          have hgv := hX.gv
          have hMw := wordsTo_W1 bs hu bs.length hbl
          have hMl := wordsTo_length bs bs.length
          have hA := spreadA_eq s hl hsw many hmany
          have hlx : (s ++ fw).length = 16 := by simp [hl]; rfl
          have hfin : Hid (takeL s bs many last = foldTo s (roundsTo (wordsTo bs bs.length) (spreadL s many last) 10) 8) := rfl
          clear ho hb hb1 hom hc hu
          generalize wordsTo bs bs.length = M at *
          go_upto_region 11 with (fail)
          go_cut [] (fun wx => TkS w w1 M (spreadA s many) gv cv wx)
          case first =>
            have c12 := (World.ownsRow.cellAt hX.v 12 (by omega)).trans (ia_get _ _ (by rw [hlx]; decide))
            have f12 := World.ownsRow.frozenAt hX.v 12
            have hst := World.ownsRow.stored hX.v 12 (.int .i64 (bits .xor .i64 ((s ++ fw).getD 12 0) many))
            rw [ia_set, hA] at hst
            have Hst : Hid ((wr.setCell ⟨gv, 12, none⟩ (.int .i64 (bits .xor .i64 ((s ++ fw).getD 12 0) many))).ownsRow w1.heap.size 3 1 (.slice (some ⟨gv, 0, none⟩) 16 cv) 16 (ia (spreadA s many)) ∧ wr.grownBy (wr.setCell ⟨gv, 12, none⟩ (.int .i64 (bits .xor .i64 ((s ++ fw).getD 12 0) many))) (some gv)) := hst
            clear hst hA
            generalize (s ++ fw).getD 12 0 = x at *
            go_wp2_with fail
            go_meet
            case rel => exact hX.upd hm1 Hst.out.1 Hst.out.2
          case rest =>
            clear hX hA
            have hX := hcut
            have hlA := spreadA_length s hl many
            have hLt := spreadL_true s hl hsw many hmany
            go_upto_if 48 with (fail)
            go_cut [] (fun wx => TkS w w1 M (spreadL s many last) gv cv wx)
            case first =>
              have c14 := (World.ownsRow.cellAt hX.v 14 (by omega)).trans (ia_get _ _ (by rw [hlA]; decide))
              have f14 := World.ownsRow.frozenAt hX.v 14
              have hst := World.ownsRow.stored hX.v 14 (.int .i64 (bits .xor .i64 ((spreadA s many).getD 14 0) 4294967295))
              rw [ia_set, hLt] at hst
              have Hst : Hid ((wc.setCell ⟨gv, 14, none⟩ (.int .i64 (bits .xor .i64 ((spreadA s many).getD 14 0) 4294967295))).ownsRow w1.heap.size 3 1 (.slice (some ⟨gv, 0, none⟩) 16 cv) 16 (ia (spreadL s many true)) ∧ wc.grownBy (wc.setCell ⟨gv, 14, none⟩ (.int .i64 (bits .xor .i64 ((spreadA s many).getD 14 0) 4294967295))) (some gv)) := hst
              clear hst hLt
              generalize (spreadA s many).getD 14 0 = x at *
              cases last
              · go_wp2_with fail
                go_meet
                case rel => exact hX
              · go_wp2_with fail
                go_meet
                case rel => exact hX.upd hm1 Hst.out.1 Hst.out.2
            case rest =>
              have hY := hcut
              clear hX hLt hlA hcut
              have hXl := spreadL_length s hl many last
              have hXw := spreadL_W1 s hl hsw many hmany last
              generalize spreadL s many last = X0 at *
              go_wp2_with fail
              go_loopw [13] (fun j wr => ∃ r : Nat, r ≤ 10 ∧ j = .int .i64 r ∧ TkS w w1 M (roundsTo M X0 r) gv cv wr) (fun j _ => 10 - (intOf j).toNat)
              case atStart => exact ⟨0, Nat.zero_le _, rfl, hY⟩
              case round =>
                clear hY
                obtain ⟨r, hr, rfl, hX⟩ := hrel
                by_cases hr10 : r < 10
                · have hrI : (r : Int) < 10 := by omega
                  go_wp2_with fail
                  refine (turnsOf_any r hr10 _).mono ?_
                  rintro e w3 ⟨go, co, rfl, hgo, hb3, hO0⟩
                  have hgov : gv < go := Nat.lt_of_lt_of_le (hX.v.lt _ rfl).2 hgo
                  have hO : w3.ownsRow 0 3 1 (.slice (some ⟨go, 0, none⟩) 16 co) 16 (ia (oRow r)) := ownsRow_base hO0 (Nat.zero_le _)
                  replace hX := hX.below hb3
                  have hZ : Hid (roundsTo M X0 (r + 1) = lanesTo M r (roundsTo M X0 r) 8) := rfl
                  replace hXw := roundsTo_W1 M X0 hXl hXw r
                  replace hXl := (roundsTo_length M X0 r).trans hXl
                  clear hO0 hb3 hgo
                  have hfin0 := hfin
                  clear hfin
                  generalize roundsTo M X0 r = X at *
                  go_wp2_with fail
                  go_loopw [15] (fun j wr => ∃ k : Nat, k ≤ 4 ∧ j = .int .i64 k ∧ TkS w w1 M (lanesTo M r X k) gv cv wr ∧ wr.ownsRow 0 3 1 (.slice (some ⟨go, 0, none⟩) 16 co) 16 (ia (oRow r))) (fun j _ => 4 - (intOf j).toNat)
                  case atStart => exact ⟨0, Nat.zero_le _, rfl, hX, hO⟩
                  case round =>
                    clear hX hO
                    obtain ⟨k, hk, rfl, hX, hO⟩ := hrel
                    by_cases hk4 : k < 4
                    · have hkI : (k : Int) < 4 := by omega
                      have o1 := (World.ownsRow.cellAt hO (2 * k) (by omega)).trans (ia_get _ _ (by rw [oRow_length r hr10]; omega))
                      have o2 := (World.ownsRow.cellAt hO (2 * k + 1) (by omega)).trans (ia_get _ _ (by rw [oRow_length r hr10]; omega))
                      rw [oRow_get r _ hr10 (by omega)] at o1 o2
                      have b1 := ordF_lt (r * 16 + (2 * k)) (by omega)
                      have b2 := ordF_lt (r * 16 + (2 * k + 1)) (by omega)
                      obtain ⟨e0, e1, e2, e3⟩ := lane_lo k hk4
                      have hst : Hid (lanesTo M r X (k + 1) = mixL (lanesTo M r X k) (k) (k + 4) (k + 8) (k + 12) (M.getD (ordF.getD (r * 16 + (2 * k)) 0) 0) (M.getD (ordF.getD (r * 16 + (2 * k + 1)) 0) 0)) := by
                        show _ = _
                        rw [lanesTo, laneStep, e0, e1, e2, e3]
                      clear e0 e1 e2 e3
                      generalize ordF.getD (r * 16 + (2 * k)) 0 = q1 at *
                      generalize ordF.getD (r * 16 + (2 * k + 1)) 0 = q2 at *
                      have m1 := (World.ownsRow.cellAt hX.m q1 (by omega)).trans (ia_get _ _ (by rw [hMl]; omega))
                      have m2 := (World.ownsRow.cellAt hX.m q2 (by omega)).trans (ia_get _ _ (by rw [hMl]; omega))
                      have wx := getD_W1 hMw q1
                      have wy := getD_W1 hMw q2
                      generalize M.getD q1 0 = x at m1 wx hst
                      generalize M.getD q2 0 = y at m2 wy hst
                      have g1 : (q1 : Int) < 16 := by omega
                      have g2 : (q2 : Int) < 16 := by omega
                      have hLl : (lanesTo M r X k).length = 16 := by rw [lanesTo_length, hXl]
                      have hLw := lanesTo_W1 M X hXl hXw r k (by omega)
                      have h2k : 2 * (k : Int) < 16 := by omega
                      go_wp2_with fail
                      have hn1 : (some go : Option Nat) ≠ some gv := by simp; omega
                      have hn2 : (some w.heap.size : Option Nat) ≠ some gv := by simp; omega
                      clear hs hsw hMw hXw hXl hmany hfin0 hZ
                      have h2k1 : 2 * (k : Int) + 1 < 16 := by omega
                      have t0 : ((2 * (k : Int) : Int)).toNat = 2 * k := by omega
                      have u0_ : IntKind.i64.wrap (2 * (k : Int)) = 2 * (k : Int) := by rw [IntKind.wrap_i64]; omega
                      have z0 : (0 : Int) ≤ 2 * (k : Int) := by omega
                      have t1 : ((2 * (k : Int) + 1 : Int)).toNat = 2 * k + 1 := by omega
                      have u1_ : IntKind.i64.wrap (2 * (k : Int) + 1) = 2 * (k : Int) + 1 := by rw [IntKind.wrap_i64]; omega
                      have z1 : (0 : Int) ≤ 2 * (k : Int) + 1 := by omega
                      have eb : Hid (IntKind.i64.wrap ((k : Int) + 4) = ((k + 4 : Nat) : Int)) := by show _ = _; rw [IntKind.wrap_i64]; omega
                      have ec : Hid (IntKind.i64.wrap ((k : Int) + 8) = ((k + 8 : Nat) : Int)) := by show _ = _; rw [IntKind.wrap_i64]; omega
                      have ed : Hid (IntKind.i64.wrap ((k : Int) + 12) = ((k + 12 : Nat) : Int)) := by show _ = _; rw [IntKind.wrap_i64]; omega
                      go_region_held2 (fun w' => w'.cell? ⟨go, 2 * k, none⟩ = some (.int .i64 q1) ∧ w'.cell? ⟨go, 2 * k + 1, none⟩ = some (.int .i64 q2) ∧ w'.cell? ⟨w.heap.size, q1, none⟩ = some (.int .i64 x) ∧ w'.cell? ⟨w.heap.size, q2, none⟩ = some (.int .i64 y)) (go_keep) ((go_at_call 90; refine (mixed_any _ w1.heap.size gv (k) (k + 4) (k + 8) (k + 12) cv _ _ _ _ x y _ rfl eb.out ec.out ed.out hLl hLw wx wy ?_ (by omega) (by omega) (by omega) (by omega) (by omega) (by omega) (by omega) (by omega) (by omega) (by omega)).mono ?_; exact hX.v; rintro e w5 ⟨rfl, ho5, hg5⟩; have s1 := hg5.cell (a := ⟨go, 2 * k, none⟩) o1 hn1; have s2 := hg5.cell (a := ⟨go, 2 * k + 1, none⟩) o2 hn1; have s3 := hg5.cell (a := ⟨w.heap.size, q1, none⟩) m1 hn2; have s4 := hg5.cell (a := ⟨w.heap.size, q2, none⟩) m2 hn2))
                      all_goals
                        go_wp2_with fail
                        go_roundw
                        case rel =>
                          have hg6 := grown_drew hg5
                          refine ⟨k + 1, by omega, by go_num, ?_, owns_other hO hg6 (by omega)⟩
                          rw [hst.out]
                          exact hX.upd hm1 ho5 hg6
                        case measure => simp [intOf]; omega
                    · obtain rfl : k = 4 := by omega
                      go_wp2_with fail
                      go_loopw [16] (fun j wr => ∃ k : Nat, k ≤ 4 ∧ j = .int .i64 k ∧ TkS w w1 M (lanesTo M r X (4 + k)) gv cv wr ∧ wr.ownsRow 0 3 1 (.slice (some ⟨go, 0, none⟩) 16 co) 16 (ia (oRow r))) (fun j _ => 4 - (intOf j).toNat)
                      case atStart => exact ⟨0, Nat.zero_le _, rfl, hX, hO⟩
                      case round =>
                        clear hX hO
                        obtain ⟨k, hk, rfl, hX, hO⟩ := hrel
                        by_cases hk4 : k < 4
                        · have hkI : (k : Int) < 4 := by omega
                          have o1 := (World.ownsRow.cellAt hO (2 * k + 8) (by omega)).trans (ia_get _ _ (by rw [oRow_length r hr10]; omega))
                          have o2 := (World.ownsRow.cellAt hO (2 * k + 9) (by omega)).trans (ia_get _ _ (by rw [oRow_length r hr10]; omega))
                          rw [oRow_get r _ hr10 (by omega)] at o1 o2
                          have b1 := ordF_lt (r * 16 + (2 * k + 8)) (by omega)
                          have b2 := ordF_lt (r * 16 + (2 * k + 9)) (by omega)
                          obtain ⟨e0, e1, e2, e3⟩ := lane_hi k hk4
                          have hst : Hid (lanesTo M r X (4 + (k + 1)) = mixL (lanesTo M r X (4 + k)) (k) (4 + (k + 1) % 4) (8 + (k + 2) % 4) (12 + (k + 3) % 4) (M.getD (ordF.getD (r * 16 + (2 * k + 8)) 0) 0) (M.getD (ordF.getD (r * 16 + (2 * k + 9)) 0) 0)) := by
                            show _ = _
                            rw [show 4 + (k + 1) = (4 + k) + 1 by omega, lanesTo, laneStep, e0, e1, e2, e3, show 2 * (4 + k) = 2 * k + 8 by omega]
                          clear e0 e1 e2 e3
                          generalize ordF.getD (r * 16 + (2 * k + 8)) 0 = q1 at *
                          generalize ordF.getD (r * 16 + (2 * k + 9)) 0 = q2 at *
                          have m1 := (World.ownsRow.cellAt hX.m q1 (by omega)).trans (ia_get _ _ (by rw [hMl]; omega))
                          have m2 := (World.ownsRow.cellAt hX.m q2 (by omega)).trans (ia_get _ _ (by rw [hMl]; omega))
                          have wx := getD_W1 hMw q1
                          have wy := getD_W1 hMw q2
                          generalize M.getD q1 0 = x at m1 wx hst
                          generalize M.getD q2 0 = y at m2 wy hst
                          have g1 : (q1 : Int) < 16 := by omega
                          have g2 : (q2 : Int) < 16 := by omega
                          have hLl : (lanesTo M r X (4 + k)).length = 16 := by rw [lanesTo_length, hXl]
                          have hLw := lanesTo_W1 M X hXl hXw r (4 + k) (by omega)
                          have h2k : 2 * (k : Int) < 16 := by omega
                          go_wp2_with fail
                          have hn1 : (some go : Option Nat) ≠ some gv := by simp; omega
                          have hn2 : (some w.heap.size : Option Nat) ≠ some gv := by simp; omega
                          clear hs hsw hMw hXw hXl hmany hfin0 hZ
                          have h2k1 : 2 * (k : Int) + 8 < 16 := by omega
                          have h2k2 : 2 * (k : Int) + 9 < 16 := by omega
                          have u9_ : IntKind.i64.wrap (2 * (k : Int)) = 2 * (k : Int) := by rw [IntKind.wrap_i64]; omega
                          have t0 : ((2 * (k : Int) + 8 : Int)).toNat = 2 * k + 8 := by omega
                          have u0_ : IntKind.i64.wrap (2 * (k : Int) + 8) = 2 * (k : Int) + 8 := by rw [IntKind.wrap_i64]; omega
                          have z0 : (0 : Int) ≤ 2 * (k : Int) + 8 := by omega
                          have t1 : ((2 * (k : Int) + 9 : Int)).toNat = 2 * k + 9 := by omega
                          have u1_ : IntKind.i64.wrap (2 * (k : Int) + 9) = 2 * (k : Int) + 9 := by rw [IntKind.wrap_i64]; omega
                          have z1 : (0 : Int) ≤ 2 * (k : Int) + 9 := by omega
                          have eb : Hid (IntKind.i64.wrap (4 + (IntKind.i64.wrap ((k : Int) + 1)).tmod 4) = ((4 + (k + 1) % 4 : Nat) : Int)) := by
                            show _ = _
                            rw [show IntKind.i64.wrap ((k : Int) + 1) = (k : Int) + 1 by rw [IntKind.wrap_i64]; omega, Int.tmod_eq_emod_of_nonneg (by omega), IntKind.wrap_i64]; omega
                          have ec : Hid (IntKind.i64.wrap (8 + (IntKind.i64.wrap ((k : Int) + 2)).tmod 4) = ((8 + (k + 2) % 4 : Nat) : Int)) := by
                            show _ = _
                            rw [show IntKind.i64.wrap ((k : Int) + 2) = (k : Int) + 2 by rw [IntKind.wrap_i64]; omega, Int.tmod_eq_emod_of_nonneg (by omega), IntKind.wrap_i64]; omega
                          have ed : Hid (IntKind.i64.wrap (12 + (IntKind.i64.wrap ((k : Int) + 3)).tmod 4) = ((12 + (k + 3) % 4 : Nat) : Int)) := by
                            show _ = _
                            rw [show IntKind.i64.wrap ((k : Int) + 3) = (k : Int) + 3 by rw [IntKind.wrap_i64]; omega, Int.tmod_eq_emod_of_nonneg (by omega), IntKind.wrap_i64]; omega
                          go_region_held2 (fun w' => w'.cell? ⟨go, 2 * k + 8, none⟩ = some (.int .i64 q1) ∧ w'.cell? ⟨go, 2 * k + 9, none⟩ = some (.int .i64 q2) ∧ w'.cell? ⟨w.heap.size, q1, none⟩ = some (.int .i64 x) ∧ w'.cell? ⟨w.heap.size, q2, none⟩ = some (.int .i64 y)) (go_keep) ((go_at_call 90; refine (mixed_any _ w1.heap.size gv (k) (4 + (k + 1) % 4) (8 + (k + 2) % 4) (12 + (k + 3) % 4) cv _ _ _ _ x y _ rfl eb.out ec.out ed.out hLl hLw wx wy ?_ (by omega) (by omega) (by omega) (by omega) (by omega) (by omega) (by omega) (by omega) (by omega) (by omega)).mono ?_; exact hX.v; rintro e w5 ⟨rfl, ho5, hg5⟩; have s1 := hg5.cell (a := ⟨go, 2 * k + 8, none⟩) o1 hn1; have s2 := hg5.cell (a := ⟨go, 2 * k + 9, none⟩) o2 hn1; have s3 := hg5.cell (a := ⟨w.heap.size, q1, none⟩) m1 hn2; have s4 := hg5.cell (a := ⟨w.heap.size, q2, none⟩) m2 hn2))
                          all_goals
                            go_wp2_with fail
                            go_roundw
                            case rel =>
                              have hg6 := grown_drew hg5
                              have hR : ∃ k' : Nat, k' ≤ 4 ∧ (Value.int .i64 ((k : Int) + 1)) = .int .i64 k' ∧ TkS w w1 M (lanesTo M r X (4 + k')) gv cv w5 ∧ w5.ownsRow 0 3 1 (.slice (some ⟨go, 0, none⟩) 16 co) 16 (ia (oRow r)) := ⟨k + 1, by omega, by go_num, by rw [hst.out]; exact hX.upd hm1 ho5 hg6, owns_other hO hg6 (by omega)⟩
                              first | exact hR | ((repeat apply Exists.intro); exact ⟨hR, rfl⟩)
                            case measure => simp [intOf]; omega
                        · obtain rfl : k = 4 := by omega
                          go_wp2_with fail
                          go_roundw
                          case rel =>
                            have hR : ∃ r' : Nat, r' ≤ 10 ∧ (Value.int .i64 ((r : Int) + 1)) = .int .i64 r' ∧ TkS w w1 M (roundsTo M X0 r') gv cv wr := ⟨r + 1, by omega, by go_num, by rw [hZ.out]; exact hX⟩
                            first | exact hR | ((repeat apply Exists.intro); exact ⟨hR, rfl⟩)
                          case measure => simp [intOf]; omega
                · obtain rfl : r = 10 := by omega
                  have hVw := roundsTo_W1 M X0 hXl hXw 10
                  have hVl := (roundsTo_length M X0 10).trans hXl
                  obtain ⟨B, hB⟩ : ∃ B, B = wr.heap.size := ⟨_, rfl⟩
                  have hgB : gv < B := by have h9 : gv < wr.heap.size := (hX.v.lt _ rfl).2; omega
                  have hmB : w.heap.size < B := by omega
                  have hFl : (foldTo s (roundsTo M X0 10) 8).length = 8 := (foldTo_length _ _ _).trans hl
                  have hFg := fun k hk => foldTo_get s (roundsTo M X0 10) hl hsw hVw k hk
                  clear hMw hMl hXw hXl hmany
                  generalize roundsTo M X0 10 = V at *
                  generalize foldTo s V 8 = F at *
                  go_wp2_with fail
                  go_loopw [18, 17] (fun j v wq => ∃ k : Nat, k ≤ 8 ∧ j = .int .i64 k ∧ TkS w w1 M V gv cv wq ∧ B ≤ wq.heap.size ∧ wq.ownsRow B 3 1 v k (ia (F.take k))) (fun j _ _ => 8 - (intOf j).toNat)
                  case atStart => exact ⟨0, Nat.zero_le _, rfl, hX, by omega, World.ownsRow_nil _ _ _ _⟩
                  case round =>
                    clear hX hB
                    obtain ⟨k, hk, rfl, hX, hBs, ho⟩ := hrel
                    by_cases hk8 : k < 8
                    · have hkI : (k : Int) < 8 := by omega
                      have hkJ : (k : Int) < 16 := by omega
                      have hkL : (k : Int) + 8 < 16 := by omega
                      have t0 : ((k : Int) + 8).toNat = k + 8 := by omega
                      have u0_ : IntKind.i64.wrap ((k : Int) + 8) = (k : Int) + 8 := by rw [IntKind.wrap_i64]; omega
                      have z0 : (0 : Int) ≤ (k : Int) + 8 := by omega
                      have c0 : wr.cell? ⟨gs, k, none⟩ = some (.int .i64 (s.getD k 0)) := (hX.bel.cell (p := ⟨gs, k, none⟩) hgs).trans (hs k hk8)
                      have c1 := (World.ownsRow.cellAt hX.v k (by omega)).trans (ia_get _ _ (by rw [hVl]; omega))
                      have c2 := (World.ownsRow.cellAt hX.v (k + 8) (by omega)).trans (ia_get _ _ (by rw [hVl]; omega))
                      have hst : Hid (F.take (k + 1) = F.take k ++ [F.getD k 0]) := by
                        show _ = _
                        rw [List.take_succ_eq_append_getElem (by omega)]
                        simp [List.getD, hFl, hk8]
                      have hval : Hid (F.getD k 0 = bits .xor .i64 (bits .xor .i64 (s.getD k 0) (V.getD k 0)) (V.getD (k + 8) 0)) := hFg k hk8
                      clear hFg hsw hVw hs
                      generalize F.getD k 0 = f at hst hval
                      generalize s.getD k 0 = a at c0 hval
                      generalize V.getD k 0 = b at c1 hval
                      generalize V.getD (k + 8) 0 = c at c2 hval
                      go_wp2_with fail
                      go_region_law (refine step_append_own rfl _ _ 33 rfl B 3 i (.int .i64 0) 1 8 Tryd.underlying33 hi hz0 hz1 hz2 rfl (by decide) _ k _ rfl (World.ownsRow.alloc ho.drew _) ⟨wr.heap.size, 0, none⟩ 1 1 [.int .i64 (bits .xor .i64 (bits .xor .i64 a b) c)] rfl rfl (cells_new _ _ _) (i64_one [_]) (by unfold maxLen; omega) (by omega) (le_alloc hBs _) ?_; intro v' w2 ho1 hg1)
                      all_goals
                        go_wp2_with fail
                        go_roundw
                        case rel =>
                          have hb2 := Below.grown ((Below.refl B wr).drew.alloc hBs _) hg1 (le_alloc hBs _) (fun q e => (ho.lt q e).1)
                          have hR : ∃ k' : Nat, k' ≤ 8 ∧ (Value.int .i64 ((k : Int) + 1)) = .int .i64 k' ∧ TkS w w1 M V gv cv w2 ∧ B ≤ w2.heap.size ∧ w2.ownsRow B 3 1 v' k' (ia (F.take k')) :=
                            ⟨k + 1, by omega, by go_num, hX.belowB hb2 hgB hmB, Nat.le_trans hBs hb2.size, by rw [hst.out, ia_app, hval.out]; exact ho1⟩
                          first | exact hR | ((repeat apply Exists.intro); exact ⟨hR, rfl⟩)
                        case measure => simp [intOf]; omega
                    · obtain rfl : k = 8 := by omega
                      rw [List.take_of_length_le (by omega)] at ho
                      have hf : ∃ g c, u17 = .slice (some ⟨g, 0, none⟩) 8 c := by
                        rcases ho.2 with ⟨_, h0⟩ | ⟨g, c, cur, rfl, _⟩
                        · cases h0
                        · exact ⟨g, c, rfl⟩
                      obtain ⟨g, c, hv⟩ := hf
                      subst hv
                      go_wp2_with fail
                      go_ret
                      refine ⟨g, c, rfl, hX.bel, ?_⟩
                      rw [hfin.out]
                      exact ownsRow_base ho (Nat.le_of_lt hmB)
end Go.Proofs.YtgbomdikhidkoaaDoor

namespace Go.Proofs.YtgbomdikhidkoaaDoor
open Go.RowKit

set_option maxRecDepth 100000 in
/-- An array of arrays of integers that reads as a table of rows holds the rows' numbers, cell for cell. -/
theorem cells_of_tab2 {H : Type} {enc : TypeId × Value → H} {P : Program} {w : World} {base : Nat} {sp : Nat → Bool} {held : Bool} {fuel : Nat} {t e i : TypeId} {n m : Nat} {k : IntKind} {cs : List Value} {rows : List (List Int)} {p : List MemPlace}
    (ht : P.underlying t = some (.array n e)) (he : P.underlying e = some (.array m i)) (hi : P.underlying i = some (.int k)) (hci : P.cellsOf i = 1) (hce : P.cellsOf e = m) (hm : 0 < m)
    (h : DataW.trod enc P w base sp held fuel t cs = some (.agg (rows.map (Lib.tabData k)), p)) (q : Nat) (hq : q < n * m) : cs[q]? = ((rows.getD (q / m) []).map (Value.int k))[q % m]? := by
  obtain ⟨xs, f, rfl, hx, hl, hn, hr⟩ := DataW.trod_array ht h
  have hin : q / m < n := Nat.div_lt_of_lt_mul (by rw [Nat.mul_comm]; exact hq)
  have hrow := hr (q / m) hin
  have hxs : xs.map (·.1) = rows.map (Lib.tabData k) := by
    have := congrArg Prod.fst hx
    simpa using this.symm
  have hg : (xs.map (·.1))[q / m]? = some (xs[q / m]'(by omega)).1 := by simp [hn, hin]
  rw [hxs] at hg
  simp only [List.getElem?_map, Option.map_eq_some_iff] at hg
  obtain ⟨r, hr1, hr2⟩ := hg
  rw [List.getElem?_eq_getElem (by omega), hce] at hrow
  have hrow' : DataW.trod enc P w base sp held f e ((cs.drop (q / m * m)).take m) = some (Lib.tabData k r, (xs[q / m]'(by omega)).2) := by
    rw [hrow, hr2]
  have hc := Lib.cells_of_tab he hi hci hce hrow'
  have hj : q % m < m := Nat.mod_lt _ hm
  have e1 : ((cs.drop (q / m * m)).take m)[q % m]? = cs[q]? := by
    rw [List.getElem?_take, if_pos hj, List.getElem?_drop, Nat.mul_comm, Nat.div_add_mod]
  rw [← e1, hc]
  simp [List.getD, hr1]

set_option maxRecDepth 100000 in
theorem tFirst : (Tryd.prog.globals[0]?).map (·.type) = some 107 := by kernel_rfl
set_option maxRecDepth 100000 in
theorem tOrders : (Tryd.prog.globals[1]?).map (·.type) = some 120 := by kernel_rfl
set_option maxRecDepth 100000 in
theorem tLanes : (Tryd.prog.globals[2]?).map (·.type) = some 122 := by kernel_rfl
set_option maxRecDepth 100000 in
theorem cU32 : Tryd.prog.cellsOf 106 = 1 := by kernel_rfl
set_option maxRecDepth 100000 in
theorem c8U32 : Tryd.prog.cellsOf 107 = 8 := by kernel_rfl
set_option maxRecDepth 100000 in
theorem c16U8 : Tryd.prog.cellsOf 119 = 16 := by kernel_rfl
set_option maxRecDepth 100000 in
theorem c4U8 : Tryd.prog.cellsOf 121 = 4 := by kernel_rfl
def ordRows : List (List Int) := [[0, 1, 2, 3, 4, 5, 6, 7, 8, 9, 10, 11, 12, 13, 14, 15], [14, 10, 4, 8, 9, 15, 13, 6, 1, 12, 0, 2, 11, 7, 5, 3], [11, 8, 12, 0, 5, 2, 15, 13, 10, 14, 3, 6, 7, 1, 9, 4], [7, 9, 3, 1, 13, 12, 11, 14, 2, 6, 5, 10, 4, 0, 15, 8], [9, 0, 5, 7, 2, 4, 10, 15, 14, 1, 11, 12, 6, 8, 3, 13], [2, 12, 6, 10, 0, 11, 8, 3, 4, 13, 7, 5, 15, 14, 1, 9], [12, 5, 1, 15, 14, 13, 4, 10, 0, 7, 6, 3, 9, 2, 8, 11], [13, 11, 7, 14, 12, 1, 3, 9, 5, 0, 15, 4, 8, 6, 2, 10], [6, 15, 14, 9, 11, 3, 0, 8, 12, 2, 13, 7, 1, 4, 10, 5], [10, 2, 8, 4, 7, 6, 1, 5, 15, 11, 9, 14, 3, 12, 13, 0]]
def laneRows : List (List Int) := [[0, 4, 8, 12], [1, 5, 9, 13], [2, 6, 10, 14], [3, 7, 11, 15], [0, 5, 10, 15], [1, 6, 11, 12], [2, 7, 8, 13], [3, 4, 9, 14]]
set_option maxRecDepth 100000 in
theorem ordRows_flat : ∀ q, q < 160 → (ordRows.getD (q / 16) [])[q % 16]? = some ((ordF.getD q 0 : Nat) : Int) := by decide +kernel
set_option maxRecDepth 100000 in
theorem laneRows_flat : ∀ q, q < 32 → (laneRows.getD (q / 4) [])[q % 4]? = some ((laneF.getD q 0 : Nat) : Int) := by decide +kernel
set_option maxRecDepth 100000 in
theorem dFirst : Rows.laid_sheaves_blake_firstWords (H := Unit) = Lib.tabData .u32 fw := rfl
set_option maxRecDepth 100000 in
theorem dOrders : Rows.laid_sheaves_blake_orders (H := Unit) = .agg (ordRows.map (Lib.tabData .u8)) := rfl
set_option maxRecDepth 100000 in
theorem dLanes : Rows.laid_sheaves_blake_lanes (H := Unit) = .agg (laneRows.map (Lib.tabData .u8)) := rfl

set_option maxRecDepth 100000 in
theorem tabs_of_laid {W : World} {n1 n2 n3 : String} (gFirst : Tryd.prog.globalNamed n1 = some 0) (gOrders : Tryd.prog.globalNamed n2 = some 1) (gLanes : Tryd.prog.globalNamed n3 = some 2)
    (h : laidMetH Tryd.prog [(n1, Rows.laid_sheaves_blake_firstWords), (n2, Rows.laid_sheaves_blake_orders), (n3, Rows.laid_sheaves_blake_lanes)] W) : Tabs W := by
  have h1 : laidMet Tryd.prog [(n1, Rows.laid_sheaves_blake_firstWords), (n2, Rows.laid_sheaves_blake_orders), (n3, Rows.laid_sheaves_blake_lanes)] W := h
  clear h
  have h2 := h1.tail
  have h3 := h2.tail
  rw [dFirst] at h1
  rw [dOrders] at h2
  rw [dLanes] at h3
  have t1 := Lib.tabIs_of_head gFirst tFirst Tryd.underlying107 Tryd.underlying106 cU32 c8U32 h1
  refine ⟨fun i hi => t1.cell gFirst i hi, fun i hi => ?_, fun i hi => ?_⟩
  · obtain ⟨ps, ⟨g', t', cs, fuel, p, q, hg', ht', hvar, hd, _, _⟩, _⟩ := h2
    obtain rfl := Option.some.inj (gOrders.symm.trans hg')
    obtain rfl := Option.some.inj (tOrders.symm.trans ht')
    have hc := World.var?_cell gOrders hvar i
    have he := cells_of_tab2 Tryd.underlying120 Tryd.underlying119 Tryd.underlying5 cU8 c16U8 (by decide) hd i hi
    rw [hc]
    have := ordRows_flat i hi
    simp only [List.getElem?_map, this, Option.map_some] at he
    simpa using he
  · obtain ⟨ps, ⟨g', t', cs, fuel, p, q, hg', ht', hvar, hd, _, _⟩, _⟩ := h3
    obtain rfl := Option.some.inj (gLanes.symm.trans hg')
    obtain rfl := Option.some.inj (tLanes.symm.trans ht')
    have hc := World.var?_cell gLanes hvar i
    have he := cells_of_tab2 Tryd.underlying122 Tryd.underlying121 Tryd.underlying5 cU8 c4U8 (by decide) hd i hi
    rw [hc]
    have := laneRows_flat i hi
    simp only [List.getElem?_map, this, Option.map_some] at he
    simpa using he
end Go.Proofs.YtgbomdikhidkoaaDoor

namespace Go.Proofs.YtgbomdikhidkoaaDoor
open Go.ChangeShapes Go.WideShapes Go.ChangeAt Go.RowKit

/-- What the initialisers of the three tables lay, in the first blocks. -/
def layBlock (c : Array Value) : Obj → Obj
  | .cells _ t frozen => .cells c t frozen
  | o => o
def layTabs (w : World) : World :=
  { w with heap := ((w.heap.modify 0 (layBlock (ua fw))).modify 1 (layBlock (ub (ordF.map Int.ofNat)).toArray)).modify 2 (layBlock (ub (laneF.map Int.ofNat)).toArray) }
end Go.Proofs.YtgbomdikhidkoaaDoor

namespace Go.Proofs.YtgbomdikhidkoaaDoor
open Go.RowKit

set_option maxRecDepth 100000 in
theorem foldTo_W1 (s v : List Int) (hsw : ∀ z ∈ s, W1 z) (hv : ∀ z ∈ v, W1 z) (n : Nat) : ∀ z ∈ foldTo s v n, W1 z := by
  induction n with
  | zero => exact hsw
  | succ n ih =>
    rw [foldTo]
    exact set_W1 ih n (W1.xor (getD_W1 ih n) (W1.xor (getD_W1 hv n) (getD_W1 hv (n + 8))))
set_option maxRecDepth 100000 in
theorem takeL_W1 (s bs : List Int) (hs : s.length = 8) (hsw : ∀ z ∈ s, W1 z) (n : Int) (hn : W1 n) (last : Bool) : ∀ z ∈ takeL s bs n last, W1 z :=
  foldTo_W1 s _ hsw (roundsTo_W1 _ _ (spreadL_length s hs n last) (spreadL_W1 s hs hsw n hn last) 10) 8
set_option maxRecDepth 100000 in
theorem beginL_eq : fw.set 0 (bits .xor .i64 (fw.getD 0 0) 16842784) = beginL := by decide +kernel
set_option maxRecDepth 100000 in
theorem beginL_W1 : ∀ z ∈ beginL, W1 z := by unfold W1; decide +kernel
set_option maxRecDepth 100000 in
theorem sumTo_W1 (bs : List Int) (k : Nat) (hk : k ≤ 1000) : ∀ z ∈ sumTo bs k, W1 z := by
  induction k with
  | zero => exact beginL_W1
  | succ k ih => exact takeL_W1 _ _ (sumTo_length bs k) (ih (by omega)) _ ⟨by omega, by omega⟩ false
set_option maxRecDepth 100000 in
theorem dig_get (s : List Int) (k i : Nat) (h : i < 4 * k) : (digTo s k).getD i 0 = s.getD (i / 4) 0 / 2 ^ (8 * (i % 4)) % 256 := by
  induction k with
  | zero => omega
  | succ k ih =>
    have hl := digTo_length s k
    rw [digTo]
    by_cases hi : i < 4 * k
    · rw [← ih hi]
      simp [List.getD, List.getElem?_append, hl, hi]
    · have hq : i / 4 = k := by omega
      have hr : i = 4 * k ∨ i = 4 * k + 1 ∨ i = 4 * k + 2 ∨ i = 4 * k + 3 := by omega
      rw [hq]
      rcases hr with rfl | rfl | rfl | rfl
      · simp [List.getD, hl]
      · rw [show (4 * k + 1) % 4 = 1 by omega]; simp [List.getD, hl]
      · rw [show (4 * k + 2) % 4 = 2 by omega]; simp [List.getD, hl]
      · rw [show (4 * k + 3) % 4 = 3 by omega]; simp [List.getD, hl]

set_option maxRecDepth 100000 in
set_option maxHeartbeats 4000000 in
theorem digested_any (bs : List Int) (sa : Option Addr) (n cap : Nat) (w : World) (hn : n = bs.length) (hl : bs.length ≤ 4000) (hs : SliceAt w sa cap bs) (hu : AllU8 bs) :
    Calls Tryd.prog 78 #[.slice sa n cap] w fun e w' => ∃ g c, e = .returned (.slice (some ⟨g, 0, none⟩) 32 c) ∧ Below w.heap.size w w' ∧ w'.ownsRow w.heap.size 5 1 (.slice (some ⟨g, 0, none⟩) 32 c) 32 (ub (sumL bs)) := by
  subst hn
  obtain ⟨i, hi, hz0, hz1, hz2⟩ := info_parts infoInt
  obtain ⟨iu, hui, hu0, hu1, hu2⟩ := info_parts infoU8
  go_enter Tryd.func78, Tryd.ntmps78
  go_wp2_with fail
  go_loopw [4, 3] (fun j v wr => ∃ k : Nat, k ≤ 8 ∧ j = .int .i64 k ∧ Below w.heap.size w wr ∧ wr.ownsRow w.heap.size 3 1 v k (ia (fw.take k))) (fun j _ _ => 8 - (intOf j).toNat)
  case atStart => exact ⟨0, Nat.zero_le _, rfl, Below.refl _ _, World.ownsRow_nil _ _ _ _⟩
  case round =>
    obtain ⟨k, hk, rfl, hb, ho⟩ := hrel
    by_cases hlt : k < 8
    · have hltI : (k : Int) < 8 := by omega
      have hst : Hid (fw.take (k + 1) = fw.take k ++ [fw.getD k 0]) := by
        show _ = _
        have hf : k < fw.length := hlt
        rw [List.take_succ_eq_append_getElem hf]
        simp [List.getD, hf]
      go_wp2_with fail
      refine (firstWord_any k hlt _).mono ?_
      rintro e w3 ⟨rfl, hb3⟩
      have ho3 := owns_below' ho hb3
      have hB3 := hb.trans (hb3.mono hb.size)
      generalize fw.getD k 0 = x at hst ⊢
      go_wp2_with (at_builtin; refine wpList_append_own _ rfl _ _ 33 rfl w.heap.size 3 i (.int .i64 0) 1 8 Tryd.underlying33 hi hz0 hz1 hz2 rfl (by decide) _ k _ rfl (World.ownsRow.alloc ho3 _) ⟨w3.heap.size, 0, none⟩ 1 1 [.int .i64 x] rfl rfl (cells_new _ _ _) (i64_one [_]) (by unfold maxLen; omega) (by omega) (le_alloc hB3.size _) ?_; intro v1 w2 ho1 hg1 _)
      have hb2 := Below.grown (hB3.alloc hB3.size _) hg1 (le_alloc hB3.size _) (fun q e => (ho3.lt q e).1)
      go_roundw
      case rel =>
        have hR : ∃ k' : Nat, k' ≤ 8 ∧ (Value.int .i64 ((k : Int) + 1)) = .int .i64 k' ∧ Below w.heap.size w w2 ∧ w2.ownsRow w.heap.size 3 1 v1 k' (ia (fw.take k')) :=
          ⟨k + 1, by omega, by go_num, hb2, by rw [hst.out, ia_app]; exact ho1⟩
        first | exact hR | ((repeat apply Exists.intro); exact ⟨hR, rfl⟩)
      case measure => simp [intOf]; omega
    · obtain rfl : k = 8 := by omega
      rw [fw_take] at ho
      have hf : ∃ g c, u3 = .slice (some ⟨g, 0, none⟩) 8 c := by
        rcases ho.2 with ⟨_, h0⟩ | ⟨g, c, cur, rfl, _⟩
        · cases h0
        · exact ⟨g, c, rfl⟩
      obtain ⟨g, c, hv⟩ := hf
      subst hv
      have c0 := (World.ownsRow.cellAt ho 0 (by omega)).trans (ia_get _ _ (by decide))
      have f0 := World.ownsRow.frozenAt ho 0
      have hst := World.ownsRow.stored ho 0 (.int .i64 (bits .xor .i64 (fw.getD 0 0) 16842784))
      rw [ia_set, beginL_eq] at hst
      have Hst : Hid ((wr.setCell ⟨g, 0, none⟩ (.int .i64 (bits .xor .i64 (fw.getD 0 0) 16842784))).ownsRow w.heap.size 3 1 (.slice (some ⟨g, 0, none⟩) 8 c) 8 (ia beginL) ∧ wr.grownBy (wr.setCell ⟨g, 0, none⟩ (.int .i64 (bits .xor .i64 (fw.getD 0 0) 16842784))) (some g)) := hst
      have hgw : w.heap.size ≤ g := (ho.lt _ rfl).1
      clear hst
      generalize fw.getD 0 0 = x at *
      go_wp2_with fail
      go_loopw [5, 3] (fun j v wq => ∃ (k d g c : Nat), j = .int .i64 d ∧ v = .slice (some ⟨g, 0, none⟩) 8 c ∧ Hid (d = 64 * k) ∧ (d < bs.length ∨ d = 0) ∧ Below w.heap.size w wq ∧ wq.ownsRow w.heap.size 3 1 (.slice (some ⟨g, 0, none⟩) 8 c) 8 (ia (sumTo bs k))) (fun j _ _ => bs.length - (intOf j).toNat)
      case atStart => exact ⟨0, 0, g, c, rfl, rfl, rfl, .inr rfl, hb.trans (below_of_grown Hst.out.2 hb.size hgw), Hst.out.1⟩
      case round =>
        clear Hst ho c0 f0 hb hgw
        obtain ⟨k, d, g, c, rfl, rfl, hd, hdl, hb, ho⟩ := hrel
        have hgw : g < wr.heap.size := (ho.lt _ rfl).2
        have hSl := sumTo_length bs k
        have hSw := sumTo_W1 bs k (by have := hd.out; omega)
        have hcs : ∀ j, j < 8 → wr.cell? ⟨g, j, none⟩ = some (.int .i64 ((sumTo bs k).getD j 0)) := fun j hj => (World.ownsRow.cellAt ho j (by omega)).trans (ia_get _ _ (by rw [hSl]; exact hj))
        have hub : ∀ l : List Int, (∀ x ∈ l, x ∈ bs) → ∀ j, 0 ≤ l.getD j 0 ∧ l.getD j 0 ≤ 255 := fun l hx j => by
          rcases Nat.lt_or_ge j l.length with q | q
          · rw [List.getD, List.getElem?_eq_getElem q]; exact hu _ (hx _ (List.getElem_mem q))
          · rw [List.getD, List.getElem?_eq_none q]; exact ⟨by decide, by decide⟩
        by_cases hlt : d + 64 < bs.length
        · obtain ⟨sb, so, rfl⟩ : ∃ sb so, sa = some ⟨sb, so, none⟩ := by
            rcases hs.some with h0 | h0
            · have := hs.le; omega
            · exact h0
          have hltI : (64 : Int) < (bs.length : Int) - d := by omega
          have hm : W1 ((d : Int) + 64) := ⟨by omega, by omega⟩
          have hcut : BytesAt w (some ⟨sb, so + d, none⟩) ((bs.drop d).take 64) := hs.bytes.cut d 64
          have hcl : Hid (64 = ((bs.drop d).take 64).length) := by show _ = _; simp; omega
          have hu1 := hub ((bs.drop d).take 64) (fun x hx => List.mem_of_mem_drop (List.mem_of_mem_take hx))
          have hs1 : Hid (sumTo bs (k + 1) = takeL (sumTo bs k) ((bs.drop d).take 64) ((d : Int) + 64) false) := by
            have hd' := hd.out
            have e : ((64 * k + 64 : Nat) : Int) = (d : Int) + 64 := by omega
            show _ = _
            rw [sumTo, e, ← hd']
          have hdc : (d : Int) + 64 ≤ cap := by have := hs.le; omega
          generalize sumTo bs k = S at *
          go_wp2_with fail
          refine (taken_any S ((bs.drop d).take 64) g c _ _ _ _ _ _ hcl.out hSl hSw (by simp; omega) (hcut.below' hb) hu1 hm hcs).mono ?_
          rintro e w2 ⟨g2, c2, rfl, hb2, ho2⟩
          go_wp2_with fail
          go_roundw
          case rel =>
            have hR : ∃ (k' d' g' c' : Nat), (Value.int .i64 ((d : Int) + 64)) = .int .i64 d' ∧ (Value.slice (some ⟨g2, 0, none⟩) 8 c2) = .slice (some ⟨g', 0, none⟩) 8 c' ∧ Hid (d' = 64 * k') ∧ (d' < bs.length ∨ d' = 0) ∧ Below w.heap.size w w2 ∧ w2.ownsRow w.heap.size 3 1 (.slice (some ⟨g', 0, none⟩) 8 c') 8 (ia (sumTo bs k')) :=
              ⟨k + 1, d + 64, g2, c2, by go_num, rfl, by rw [hd.out]; exact (Nat.mul_succ 64 k).symm, .inl (by omega), hb.trans (hb2.mono hb.size), by rw [hs1.out]; exact ownsRow_base ho2 hb.size⟩
            first | exact hR | ((repeat apply Exists.intro); exact ⟨hR, rfl⟩)
          case measure => simp [intOf]; omega
        · have hk : k = fullB bs.length := by
            have := hd.out
            unfold fullB
            omega
          have hltI : ¬ (64 : Int) < (bs.length : Int) - d := by omega
          have hfin : Hid (sumL bs = digTo (takeL (sumTo bs k) (bs.drop d) (bs.length : Int) true) 8) := by
            show _ = _
            rw [sumL, ← hk, ← hd.out]
          have hby : BytesAt w (sa.map fun a => ⟨a.block, a.off + d, none⟩) (bs.drop d) := by
            rcases hs.bytes with hc | ⟨sb, so, rfl, hc⟩
            · exact .inl (by rw [hc]; simp)
            · have := BytesAt.cut (.inr ⟨sb, so, rfl, hc⟩) d (bs.length)
              rwa [List.take_of_length_le (by simp)] at this
          have hcl : Hid (bs.length - d = (bs.drop d).length) := by show _ = _; simp
          have hv1 := hub (bs.drop d) (fun x hx => List.mem_of_mem_drop hx)
          have hm : W1 (bs.length : Int) := ⟨by omega, by omega⟩
          have hlen : (bs.drop d).length ≤ 64 := by simp; omega
          have hdc : (d : Int) ≤ bs.length := by omega
          have hTl := takeL_length (sumTo bs k) (bs.drop d) (bs.length : Int) true
          have hTw := takeL_W1 (sumTo bs k) (bs.drop d) hSl hSw (bs.length : Int) hm true
          rw [hSl] at hTl
          clear hk
          generalize sumTo bs k = S at *
          go_upto_region 11 with (fail)
          go_cut [3] (fun v wx => ∃ g2 c2, v = .slice (some ⟨g2, 0, none⟩) 8 c2 ∧ Below w.heap.size w wx ∧ wx.ownsRow w.heap.size 3 1 (.slice (some ⟨g2, 0, none⟩) 8 c2) 8 (ia (takeL S (bs.drop d) (bs.length : Int) true)))
          case first =>
            cases sa with
            | none =>
              obtain rfl := hs.nil rfl
              obtain rfl : bs = [] := List.eq_nil_of_length_eq_zero (by have := hs.le; omega)
              obtain rfl : d = 0 := by simpa using hdl
              go_wp2_with fail
              refine (taken_any S _ g c _ _ _ _ _ _ rfl hSl hSw hlen (.inl rfl) hv1 hm hcs).mono ?_
              rintro e w2 ⟨g2, c2, rfl, hb2, ho2⟩
              go_wp2_with fail
              go_meet
              case rel => exact ⟨g2, c2, rfl, hb.trans (hb2.mono hb.size), ownsRow_base ho2 hb.size⟩
            | some a =>
              by_cases hc0 : cap = 0
              · subst hc0
                obtain rfl : bs = [] := List.eq_nil_of_length_eq_zero (by have := hs.le; omega)
                obtain rfl : d = 0 := by simpa using hdl
                go_wp2_with fail
                refine (taken_any S _ g c _ _ _ _ _ _ rfl hSl hSw hlen (.inl rfl) hv1 hm hcs).mono ?_
                rintro e w2 ⟨g2, c2, rfl, hb2, ho2⟩
                go_wp2_with fail
                go_meet
                case rel => exact ⟨g2, c2, rfl, hb.trans (hb2.mono hb.size), ownsRow_base ho2 hb.size⟩
              · obtain ⟨sb, so, ha⟩ : ∃ sb so, some a = some (⟨sb, so, none⟩ : Addr) := by
                  rcases hs.some with h0 | h0
                  · exact absurd h0 hc0
                  · exact h0
                cases ha
                have hl9 := hs.le
                have hdc2 : (d : Int) < cap := by omega
                have hn1 : ¬ d = cap := by omega
                have hn2 : ¬ cap = d := by omega
                have hn3 : ¬ (d : Int) = cap := by omega
                go_wp2_with fail
                refine (taken_any S _ g c _ _ _ _ _ _ hcl.out hSl hSw hlen (hby.below' hb) hv1 hm hcs).mono ?_
                rintro e w2 ⟨g2, c2, rfl, hb2, ho2⟩
                go_wp2_with fail
                go_meet
                case rel => exact ⟨g2, c2, rfl, hb.trans (hb2.mono hb.size), ownsRow_base ho2 hb.size⟩
          case rest =>
            obtain ⟨g2, c2, rfl, hb3, ho2⟩ := hcut
            clear ho hcs hSl hSw hv1 hb hcl hlen hub hu hby hs hgw
            generalize takeL S (bs.drop d) (bs.length : Int) true = T at *
            have hg2 : g2 < wc.heap.size := (ho2.lt _ rfl).2
            have hcs : ∀ j, j < 8 → wc.cell? ⟨g2, j, none⟩ = some (.int .i64 (T.getD j 0)) := fun j hj => (World.ownsRow.cellAt ho2 j (by omega)).trans (ia_get _ _ (by rw [hTl]; exact hj))
            obtain ⟨B, hB⟩ : ∃ B, B = wc.heap.size := ⟨_, rfl⟩
            have hwB : w.heap.size ≤ B := by rw [hB]; exact hb3.size
            have hgB : g2 < B := by rw [hB]; exact hg2
            go_wp2_with fail
            go_loopw [7, 6] (fun j v wq => ∃ k : Nat, k ≤ 32 ∧ j = .int .i64 k ∧ Below w.heap.size w wq ∧ B ≤ wq.heap.size ∧ (∀ j, j < 8 → wq.cell? ⟨g2, j, none⟩ = some (.int .i64 (T.getD j 0))) ∧ wq.ownsRow B 5 1 v k (ub ((digTo T 8).take k))) (fun j _ _ => 32 - (intOf j).toNat)
            case atStart => exact ⟨0, Nat.zero_le _, rfl, hb3, by omega, hcs, World.ownsRow_nil _ _ _ _⟩
            case round =>
              clear hcs hb3 hB ho2 hg2
              obtain ⟨k, hk, rfl, hb, hBs, hcs, ho⟩ := hrel
              by_cases hk32 : k < 32
              · have hkI : (k : Int) < 32 := by omega
                have ck := hcs (k / 4) (by omega)
                obtain ⟨hx0, hx1⟩ := getD_W1 hTw (k / 4)
                have hst : Hid ((digTo T 8).take (k + 1) = (digTo T 8).take k ++ [T.getD (k / 4) 0 / 2 ^ (8 * (k % 4)) % 256]) := by
                  show _ = _
                  have hlk : k < (digTo T 8).length := by rw [digTo_length]; exact hk32
                  rw [List.take_succ_eq_append_getElem hlk, ← dig_get T 8 k (by omega)]
                  simp [List.getD, hlk]
                have Hcs : Hid (∀ j, j < 8 → wr.cell? ⟨g2, j, none⟩ = some (.int .i64 (T.getD j 0))) := hcs
                clear hcs
                generalize T.getD (k / 4) 0 = x at ck hst hx0 hx1
                have hr : k % 4 = 0 ∨ k % 4 = 1 ∨ k % 4 = 2 ∨ k % 4 = 3 := by omega
                have hqI : (k : Int) / 4 < 8 := by omega
                have hqt : ((k : Int) / 4).toNat = k / 4 := by omega
                rcases hr with hr | hr | hr | hr
                · have hrI : (k : Int) % 4 = ((k % 4 : Nat) : Int) := by omega
                  rw [hr] at hrI hst
                  simp only [Nat.reduceMul, Int.reducePow] at hst
                  rw [Int.ediv_one] at hst
                  clear hr
                  go_wp2_with (at_builtin; refine wpList_append_own _ rfl _ _ 29 rfl B 5 iu (.int .u8 0) 1 1 Tryd.underlying29 hui hu0 hu1 hu2 rfl (by decide) _ k _ rfl (World.ownsRow.alloc ho _) ⟨wr.heap.size, 0, none⟩ 1 1 [.int .u8 (x % 256)] rfl rfl (cells_new _ _ _) (u8_one [_]) (by unfold maxLen; omega) (by omega) (le_alloc hBs _) ?_; intro v1 w2 ho1 hg1 _)
                  have hbB := Below.grown ((Below.refl B wr).alloc hBs _) hg1 (le_alloc hBs _) (fun q e => (ho.lt q e).1)
                  go_roundw
                  case rel =>
                    have hR : ∃ k' : Nat, k' ≤ 32 ∧ (Value.int .i64 ((k : Int) + 1)) = .int .i64 k' ∧ Below w.heap.size w w2 ∧ B ≤ w2.heap.size ∧ (∀ j, j < 8 → w2.cell? ⟨g2, j, none⟩ = some (.int .i64 (T.getD j 0))) ∧ w2.ownsRow B 5 1 v1 k' (ub ((digTo T 8).take k')) :=
                      ⟨k + 1, by omega, by go_num, hb.trans (hbB.mono hwB), Nat.le_trans hBs hbB.size, fun j hj => (hbB.cell (p := ⟨g2, j, none⟩) hgB).trans (Hcs.out j hj), by rw [hst.out]; simpa [ub] using ho1⟩
                    first | exact hR | ((repeat apply Exists.intro); exact ⟨hR, rfl⟩)
                  case measure => simp [intOf]; omega
                · have hrI : (k : Int) % 4 = ((k % 4 : Nat) : Int) := by omega
                  rw [hr] at hrI hst
                  simp only [Nat.reduceMul, Int.reducePow] at hst
                  clear hr
                  go_wp2_with (at_builtin; refine wpList_append_own _ rfl _ _ 29 rfl B 5 iu (.int .u8 0) 1 1 Tryd.underlying29 hui hu0 hu1 hu2 rfl (by decide) _ k _ rfl (World.ownsRow.alloc ho _) ⟨wr.heap.size, 0, none⟩ 1 1 [.int .u8 (x / 256 % 256)] rfl rfl (cells_new _ _ _) (u8_one [_]) (by unfold maxLen; omega) (by omega) (le_alloc hBs _) ?_; intro v1 w2 ho1 hg1 _)
                  have hbB := Below.grown ((Below.refl B wr).alloc hBs _) hg1 (le_alloc hBs _) (fun q e => (ho.lt q e).1)
                  go_roundw
                  case rel =>
                    have hR : ∃ k' : Nat, k' ≤ 32 ∧ (Value.int .i64 ((k : Int) + 1)) = .int .i64 k' ∧ Below w.heap.size w w2 ∧ B ≤ w2.heap.size ∧ (∀ j, j < 8 → w2.cell? ⟨g2, j, none⟩ = some (.int .i64 (T.getD j 0))) ∧ w2.ownsRow B 5 1 v1 k' (ub ((digTo T 8).take k')) :=
                      ⟨k + 1, by omega, by go_num, hb.trans (hbB.mono hwB), Nat.le_trans hBs hbB.size, fun j hj => (hbB.cell (p := ⟨g2, j, none⟩) hgB).trans (Hcs.out j hj), by rw [hst.out]; simpa [ub] using ho1⟩
                    first | exact hR | ((repeat apply Exists.intro); exact ⟨hR, rfl⟩)
                  case measure => simp [intOf]; omega
                · have hrI : (k : Int) % 4 = ((k % 4 : Nat) : Int) := by omega
                  rw [hr] at hrI hst
                  simp only [Nat.reduceMul, Int.reducePow] at hst
                  clear hr
                  go_wp2_with (at_builtin; refine wpList_append_own _ rfl _ _ 29 rfl B 5 iu (.int .u8 0) 1 1 Tryd.underlying29 hui hu0 hu1 hu2 rfl (by decide) _ k _ rfl (World.ownsRow.alloc ho _) ⟨wr.heap.size, 0, none⟩ 1 1 [.int .u8 (x / 65536 % 256)] rfl rfl (cells_new _ _ _) (u8_one [_]) (by unfold maxLen; omega) (by omega) (le_alloc hBs _) ?_; intro v1 w2 ho1 hg1 _)
                  have hbB := Below.grown ((Below.refl B wr).alloc hBs _) hg1 (le_alloc hBs _) (fun q e => (ho.lt q e).1)
                  go_roundw
                  case rel =>
                    have hR : ∃ k' : Nat, k' ≤ 32 ∧ (Value.int .i64 ((k : Int) + 1)) = .int .i64 k' ∧ Below w.heap.size w w2 ∧ B ≤ w2.heap.size ∧ (∀ j, j < 8 → w2.cell? ⟨g2, j, none⟩ = some (.int .i64 (T.getD j 0))) ∧ w2.ownsRow B 5 1 v1 k' (ub ((digTo T 8).take k')) :=
                      ⟨k + 1, by omega, by go_num, hb.trans (hbB.mono hwB), Nat.le_trans hBs hbB.size, fun j hj => (hbB.cell (p := ⟨g2, j, none⟩) hgB).trans (Hcs.out j hj), by rw [hst.out]; simpa [ub] using ho1⟩
                    first | exact hR | ((repeat apply Exists.intro); exact ⟨hR, rfl⟩)
                  case measure => simp [intOf]; omega
                · have hrI : (k : Int) % 4 = ((k % 4 : Nat) : Int) := by omega
                  rw [hr] at hrI hst
                  simp only [Nat.reduceMul, Int.reducePow] at hst
                  rw [show x / 16777216 % 256 = x / 16777216 by omega] at hst
                  clear hr
                  go_wp2_with (at_builtin; refine wpList_append_own _ rfl _ _ 29 rfl B 5 iu (.int .u8 0) 1 1 Tryd.underlying29 hui hu0 hu1 hu2 rfl (by decide) _ k _ rfl (World.ownsRow.alloc ho _) ⟨wr.heap.size, 0, none⟩ 1 1 [.int .u8 (x / 16777216)] rfl rfl (cells_new _ _ _) (u8_one [_]) (by unfold maxLen; omega) (by omega) (le_alloc hBs _) ?_; intro v1 w2 ho1 hg1 _)
                  have hbB := Below.grown ((Below.refl B wr).alloc hBs _) hg1 (le_alloc hBs _) (fun q e => (ho.lt q e).1)
                  go_roundw
                  case rel =>
                    have hR : ∃ k' : Nat, k' ≤ 32 ∧ (Value.int .i64 ((k : Int) + 1)) = .int .i64 k' ∧ Below w.heap.size w w2 ∧ B ≤ w2.heap.size ∧ (∀ j, j < 8 → w2.cell? ⟨g2, j, none⟩ = some (.int .i64 (T.getD j 0))) ∧ w2.ownsRow B 5 1 v1 k' (ub ((digTo T 8).take k')) :=
                      ⟨k + 1, by omega, by go_num, hb.trans (hbB.mono hwB), Nat.le_trans hBs hbB.size, fun j hj => (hbB.cell (p := ⟨g2, j, none⟩) hgB).trans (Hcs.out j hj), by rw [hst.out]; simpa [ub] using ho1⟩
                    first | exact hR | ((repeat apply Exists.intro); exact ⟨hR, rfl⟩)
                  case measure => simp [intOf]; omega
              · obtain rfl : k = 32 := by omega
                rw [List.take_of_length_le (by rw [digTo_length]; omega)] at ho
                have hf : ∃ g c, u6 = .slice (some ⟨g, 0, none⟩) 32 c := by
                  rcases ho.2 with ⟨_, h0⟩ | ⟨g, c, cur, rfl, _⟩
                  · cases h0
                  · exact ⟨g, c, rfl⟩
                obtain ⟨g9, c9, hv⟩ := hf
                subst hv
                go_wp2_with fail
                go_ret
                refine ⟨g9, c9, rfl, hb, ?_⟩
                rw [hfin.out]
                exact ownsRow_base ho hwB
end Go.Proofs.YtgbomdikhidkoaaDoor

namespace Go.Proofs.YtgbomdikhidkoaaDoor
open Go.RowKit

set_option maxRecDepth 100000 in
theorem psz_le (ps : List Part) (k : Nat) (hk : k ≤ ps.length) : psz ps k ≤ psz ps ps.length := psz_mono ps k ps.length hk
set_option maxRecDepth 100000 in
theorem psz_two (ps : List Part) (k : Nat) : 2 * k ≤ psz ps k := by
  induction k with
  | zero => exact Nat.le_refl _
  | succ k ih => simp [psz]; omega
set_option maxRecDepth 100000 in
theorem getD_bs {ps qs : List Part} (h : Same ps qs) (k : Nat) : (ps.getD k ⟨none, 0, []⟩).bs = (qs.getD k ⟨none, 0, []⟩).bs := by
  have hk : (ps.map (·.bs))[k]? = (qs.map (·.bs))[k]? := by rw [h]
  simp only [List.getElem?_map] at hk
  simp only [List.getD]
  cases h1 : ps[k]? <;> cases h2 : qs[k]? <;> simp_all
set_option maxRecDepth 100000 in
theorem psz_same {ps qs : List Part} (h : Same ps qs) (k : Nat) : psz ps k = psz qs k := by
  induction k with
  | zero => rfl
  | succ k ih => rw [psz, psz, ih, getD_bs h]
set_option maxRecDepth 100000 in
theorem tagTo_same (tag : Int) {ps qs : List Part} (h : Same ps qs) (k : Nat) : tagTo tag ps k = tagTo tag qs k := by
  induction k with
  | zero => rfl
  | succ k ih => rw [tagTo, tagTo, ih, getD_bs h]
set_option maxRecDepth 100000 in
theorem tagTo_u8 (tag : Int) (ps : List Part) (ht : 0 ≤ tag ∧ tag ≤ 255) (hu : ∀ p ∈ ps, AllU8 p.bs) (k : Nat) (hk : k ≤ ps.length) : AllU8 (tagTo tag ps k) := by
  induction k with
  | zero => intro x hx; simp [tagTo] at hx; subst hx; exact ht
  | succ k ih =>
    have hlt : k < ps.length := by omega
    have hp : ps.getD k ⟨none, 0, []⟩ = ps[k] := by simp [hlt]
    intro x hx
    rw [tagTo, hp] at hx
    rcases List.mem_append.1 hx with hx | hx
    · rcases List.mem_append.1 hx with hx | hx
      · exact ih (by omega) x hx
      · simp at hx
        omega
    · exact hu _ (List.getElem_mem hlt) x hx

set_option maxRecDepth 100000 in
set_option maxHeartbeats 2000000 in
theorem taggedOf_new (tag : Int) (ps : List Part) (sa : Option Addr) (n cap : Nat) (w : World) (ht : 0 ≤ tag ∧ tag ≤ 255) (hn : n = ps.length) (hm : n ≤ 9000000000000000000) (hp : PartsAt w sa ps) (hu : ∀ p ∈ ps, AllU8 p.bs) :
    Calls Tryd.prog 63 #[.int .u8 tag, .slice sa n cap] w fun e w' => Below w.heap.size w w' ∧ ((4000 < 1 + psz ps ps.length ∧ e = .returned (.tuple #[.slice none 0 0, .int .i64 1])) ∨ (1 + psz ps ps.length ≤ 4000 ∧ ∃ g c, e = .returned (.tuple #[.slice (some ⟨g, 0, none⟩) 32 c, .int .i64 0]) ∧ SliceAt w' (some ⟨g, 0, none⟩) c (sumL (tagTo tag ps ps.length)) ∧ w.heap.size ≤ g)) := by
  subst hn
  obtain ⟨i, hi, hz0, hz1, hz2⟩ := info_parts infoU8
  have hlit := World.ownsRow_lit (base := w.heap.size) (e := 5) (size := 1) w (ub [tag]).toArray 1 (Nat.le_refl _) (by decide) rfl
  go_enter Tryd.func63, Tryd.ntmps63
  go_wp2_with fail
  go_loopw [7, 6] (fun j v wr => ∃ k : Nat, k ≤ ps.length ∧ j = .int .i64 k ∧ 1 + psz ps k ≤ 4000 ∧ Below w.heap.size w wr ∧ wr.ownsRow w.heap.size 5 1 v (1 + psz ps k) (ub (tagTo tag ps k))) (fun j _ _ => ps.length - (intOf j).toNat)
  case atStart => exact ⟨0, Nat.zero_le _, rfl, by simp [psz], (Below.refl _ _).alloc (Nat.le_refl _) _, hlit⟩
  case round =>
    clear hlit
    obtain ⟨k, hk, rfl, hz, hb, ho⟩ := hrel
    obtain ⟨xa, xc, hv, hxl, hxs⟩ := owns_form ho
    subst hv
    by_cases hlt : k < ps.length
    · have hpw := hp.below hb
      obtain ⟨sb, so, rfl, hc⟩ : ∃ sb so, sa = some ⟨sb, so, none⟩ ∧ ∀ j (h : j < ps.length), wr.cell? ⟨sb, so + j, none⟩ = some (.slice (ps[j]).sa (ps[j]).bs.length (ps[j]).cap) := by
        rcases hpw.cells with h | h
        · rw [h] at hlt; simp at hlt
        · exact h
      have ck := hc k hlt
      have hx := hpw.each (ps[k]) (List.getElem_mem hlt)
      have hxw := hp.each (ps[k]) (List.getElem_mem hlt)
      have hsb : sb < w.heap.size := by
        rcases hp.cells with h | ⟨sb', so', e, h⟩
        · rw [h] at hlt; simp at hlt
        · cases e; exact block_lt_of_cell (h k hlt)
      have hg : ps.getD k ⟨none, 0, []⟩ = ps[k] := by simp [hlt]
      have h2 : Hid (psz ps (k + 1) = psz ps k + (2 + (ps[k]).bs.length)) := by show _ = _; rw [psz, hg]
      have h3 : Hid (tagTo tag ps (k + 1) = tagTo tag ps k ++ [((ps[k]).bs.length : Int) / 256 % 256, ((ps[k]).bs.length : Int) % 256] ++ (ps[k]).bs) := by show _ = _; rw [tagTo, hg]
      have h4 := psz_le ps (k + 1) hlt
      rw [h2.out] at h4
      have hltI : (k : Int) < ps.length := by omega
      have hxm : (ps[k]).bs.length ≤ 9223372036854775807 := Nat.le_trans hx.le hx.max
      clear hc hg hxl
      generalize ps[k] = p at *
      have Hs : Hid (SliceAt wr xa xc (tagTo tag ps k)) := hxs
      clear hxs
      generalize hZ : psz ps ps.length = Z at *
      have hlT := tagTo_length tag ps k
      generalize tagTo tag ps k = T at *
      generalize psz ps k = z at *
      by_cases hA : 4000 < p.bs.length
      · have hAI : (4000 : Int) < p.bs.length := by omega
        have hbig : Hid (4000 < 1 + Z) := by show _ < _; omega
        clear h2 h3
        go_wp2_with fail
        go_ret2
        exact ⟨hb, .inl ⟨by first | exact hbig.out | (rw [hZ]; exact hbig.out), rfl⟩⟩
      · have hAI : ¬ (4000 : Int) < p.bs.length := by omega
        by_cases hB : 4000 < 1 + z + 2 + p.bs.length
        · have hBI : (4000 : Int) < (1 + z : Nat) + 2 + (p.bs.length : Int) := by omega
          have hbig : Hid (4000 < 1 + Z) := by show _ < _; omega
          clear h2 h3
          go_wp2_with fail
          go_ret2
          exact ⟨hb, .inl ⟨by first | exact hbig.out | (rw [hZ]; exact hbig.out), rfl⟩⟩
        · have hBI : ¬ (4000 : Int) < (1 + z : Nat) + 2 + (p.bs.length : Int) := by omega
          go_wp2_with (at_builtin; refine wpList_append_own _ rfl _ _ 29 rfl w.heap.size 5 i (.int .u8 0) 1 1 Tryd.underlying29 hi hz0 hz1 hz2 rfl (by decide) _ (1 + z) _ rfl (World.ownsRow.alloc ho _) ⟨wr.heap.size, 0, none⟩ 2 2 [.int .u8 ((p.bs.length : Int) / 256), .int .u8 ((p.bs.length : Int) % 256)] rfl rfl (cells_new _ _ _) (u8_one [_, _]) (by unfold maxLen; omega) (by omega) (le_alloc hb.size _) ?_; intro v1 w2 ho1 hg1 _; have hbr := Below.grown ((Below.refl w.heap.size wr).alloc hb.size _) hg1 (le_alloc hb.size _) (fun q e => (ho.lt q e).1); have ck2 := (hbr.cell (p := ⟨sb, so + k, none⟩) hsb).trans ck)
          have hb2 := hb.trans hbr
          have ho1' : w2.ownsRow w.heap.size 5 1 v1 (1 + z + 2) (ub (T ++ [(p.bs.length : Int) / 256, (p.bs.length : Int) % 256])) := by simpa [ub] using ho1
          obtain ⟨ya, yc, hv, hyl, hy⟩ := owns_form ho1'
          subst hv
          have e1 : (p.bs.length : Int) / 256 % 256 = (p.bs.length : Int) / 256 := by omega
          refine (joined_any (T ++ [(p.bs.length : Int) / 256, (p.bs.length : Int) % 256]) p.bs ya p.sa _ _ yc p.cap w2 hyl rfl hy (hxw.below hb2) (by simp; omega)).mono ?_
          rintro e w3 ⟨v3, he, ho3, hb3⟩
          subst he
          dsimp only
          have hlen : (T ++ [(p.bs.length : Int) / 256, (p.bs.length : Int) % 256]).length + p.bs.length = 1 + psz ps (k + 1) := by rw [h2.out]; simp; omega
          rw [hlen] at ho3
          go_wp2_with fail
          go_roundw
          case rel =>
            have hR : ∃ k' : Nat, k' ≤ ps.length ∧ (Value.int .i64 ((k : Int) + 1)) = .int .i64 k' ∧ 1 + psz ps k' ≤ 4000 ∧ Below w.heap.size w w3 ∧ w3.ownsRow w.heap.size 5 1 v3 (1 + psz ps k') (ub (tagTo tag ps k')) :=
              ⟨k + 1, by omega, by go_num, by rw [h2.out]; omega, hb2.trans (hb3.mono hb2.size), by rw [h3.out, e1]; exact ownsRow_base' ho3 hb2.size⟩
            first | exact hR | ((repeat apply Exists.intro); exact ⟨hR, rfl⟩)
          case measure => simp [intOf]; omega
    · obtain rfl : k = ps.length := by omega
      have hu8 := tagTo_u8 tag ps ht hu ps.length (Nat.le_refl _)
      have hl4 : (tagTo tag ps ps.length).length ≤ 4000 := by omega
      go_wp2_with fail
      refine (digested_any (tagTo tag ps ps.length) xa _ xc wr (by first | rfl | exact hxl) hl4 hxs hu8).mono ?_
      rintro e w3 ⟨g, c, he, hb3, ho3⟩
      subst he
      dsimp only
      go_wp2_with fail
      go_ret2
      exact ⟨hb.trans (hb3.mono hb.size), .inr ⟨hz, g, c, rfl, (sliceAt_of_owns ho3).2, Nat.le_trans hb.size (ho3.lt g rfl).1⟩⟩
set_option maxRecDepth 100000 in
theorem taggedOf_any (tag : Int) (ps : List Part) (sa : Option Addr) (n cap : Nat) (w : World) (ht : 0 ≤ tag ∧ tag ≤ 255) (hn : n = ps.length) (hm : n ≤ 9000000000000000000) (hp : PartsAt w sa ps) (hu : ∀ p ∈ ps, AllU8 p.bs) :
    Calls Tryd.prog 63 #[.int .u8 tag, .slice sa n cap] w fun e w' => Below w.heap.size w w' ∧ ((4000 < 1 + psz ps ps.length ∧ e = .returned (.tuple #[.slice none 0 0, .int .i64 1])) ∨ (1 + psz ps ps.length ≤ 4000 ∧ ∃ g c, e = .returned (.tuple #[.slice (some ⟨g, 0, none⟩) 32 c, .int .i64 0]) ∧ SliceAt w' (some ⟨g, 0, none⟩) c (sumL (tagTo tag ps ps.length)))) := by
  refine (taggedOf_new tag ps sa n cap w ht hn hm hp hu).mono ?_
  rintro e w' ⟨h1, h2 | ⟨h3, g, c, h4, h5, _⟩⟩
  · exact ⟨h1, .inl h2⟩
  · exact ⟨h1, .inr ⟨h3, g, c, h4, h5⟩⟩
end Go.Proofs.YtgbomdikhidkoaaDoor
