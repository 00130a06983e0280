/- Plain facts for the document's answer, taken: words stay words; the lanes and orders as the document's loops name them; a row behind what is new. -/
import Derived.Test.YtcecjdoabnhcgaaDoorROf
namespace Go.Proofs.YtcecjdoabnhcgaaDoor
open Go.RowKit

set_option maxRecDepth 100000 in
theorem getD_W1 {vs : List Int} (h : ∀ z ∈ vs, W1 z) (j : Nat) : W1 (vs.getD j 0) := by
  rcases Nat.lt_or_ge j vs.length with g | g
  · rw [List.getD, List.getElem?_eq_getElem g]; exact h _ (List.getElem_mem g)
  · rw [List.getD, List.getElem?_eq_none g]; exact ⟨by decide, by decide⟩
set_option maxRecDepth 100000 in
theorem set_W1 {vs : List Int} (h : ∀ z ∈ vs, W1 z) (i : Nat) {x : Int} (hx : W1 x) : ∀ z ∈ vs.set i x, W1 z := by
  intro z hz
  rcases List.mem_or_eq_of_mem_set hz with hz | rfl
  · exact h z hz
  · exact hx
set_option maxRecDepth 100000 in
theorem fw_W1 : ∀ z ∈ fw, W1 z := by unfold W1; decide
set_option maxRecDepth 100000 in
theorem spreadTo_eq (s : List Int) (hs : s.length = 8) : spreadTo s 8 = s ++ fw := by
  obtain ⟨a, b, c, d, e, f, g, i, rfl⟩ := list8 s hs
  rfl
set_option maxRecDepth 100000 in
theorem spread_W1 (s : List Int) (_hs : s.length = 8) (hw : ∀ z ∈ s, W1 z) : ∀ z ∈ s ++ fw, W1 z := by
  intro z hz
  rcases List.mem_append.1 hz with h | h
  · exact hw z h
  · exact fw_W1 z h
set_option maxRecDepth 100000 in
/-- The document's v[12] and v[14]. -/
theorem spreadA_eq (s : List Int) (hs : s.length = 8) (hw : ∀ z ∈ s, W1 z) (n : Int) (hn : W1 n) : (s ++ fw).set 12 (bits .xor .i64 ((s ++ fw).getD 12 0) n) = spreadA s n := by
  rw [spreadA, spreadTo_eq s hs, xor64 (getD_W1 (spread_W1 s hs hw) 12) hn, Int.emod_eq_of_lt hn.1 hn.2]
set_option maxRecDepth 100000 in
theorem spreadA_W1 (s : List Int) (hs : s.length = 8) (hw : ∀ z ∈ s, W1 z) (n : Int) (hn : W1 n) : ∀ z ∈ spreadA s n, W1 z := by
  rw [← spreadA_eq s hs hw n hn]
  refine set_W1 (spread_W1 s hs hw) 12 ?_
  rw [xor64 (getD_W1 (spread_W1 s hs hw) 12) hn]
  exact W1.xor (getD_W1 (spread_W1 s hs hw) 12) hn
set_option maxRecDepth 100000 in
theorem xor_comm32 {x y : Int} (hx : W1 x) (hy : W1 y) : bits .xor .u32 x y = bits .xor .u32 y x := by
  obtain ⟨a, rfl, ha⟩ := hx.nat
  obtain ⟨b, rfl, hb⟩ := hy.nat
  rw [u32_xor_nat a b ha hb, u32_xor_nat b a hb ha, Nat.xor_comm]
set_option maxRecDepth 100000 in
theorem xor_assoc32 {x y z : Int} (hx : W1 x) (hy : W1 y) (hz : W1 z) : bits .xor .u32 (bits .xor .u32 x y) z = bits .xor .u32 x (bits .xor .u32 y z) := by
  obtain ⟨a, rfl, ha⟩ := hx.nat
  obtain ⟨b, rfl, hb⟩ := hy.nat
  obtain ⟨c, rfl, hc⟩ := hz.nat
  have h1 : a ^^^ b < 2 ^ 32 := Nat.xor_lt_two_pow (by omega) (by omega)
  have h2 : b ^^^ c < 2 ^ 32 := Nat.xor_lt_two_pow (by omega) (by omega)
  rw [u32_xor_nat a b ha hb, u32_xor_nat b c hb hc, u32_xor_nat _ c (by omega) hc, u32_xor_nat a _ ha (by omega), Nat.xor_assoc]
set_option maxRecDepth 100000 in
theorem max_W1 : W1 IntKind.u32.max := by unfold W1; decide
set_option maxRecDepth 100000 in
theorem mask_W1 : W1 4294967295 := by unfold W1; decide
set_option maxRecDepth 100000 in
theorem spreadL_true (s : List Int) (hs : s.length = 8) (hw : ∀ z ∈ s, W1 z) (n : Int) (hn : W1 n) : (spreadA s n).set 14 (bits .xor .i64 ((spreadA s n).getD 14 0) 4294967295) = spreadL s n true := by
  have e : (spreadA s n).getD 14 0 = (spreadTo s 8).getD 14 0 := by rw [spreadA, getD_set_ne _ _ _ _ (by decide)]
  have hw14 := getD_W1 (spreadA_W1 s hs hw n hn) 14
  rw [xor64 hw14 mask_W1, xor_comm32 hw14 mask_W1, e]
  rfl
set_option maxRecDepth 100000 in
theorem spreadL_W1 (s : List Int) (hs : s.length = 8) (hw : ∀ z ∈ s, W1 z) (n : Int) (hn : W1 n) (last : Bool) : ∀ z ∈ spreadL s n last, W1 z := by
  cases last
  · exact spreadA_W1 s hs hw n hn
  · rw [← spreadL_true s hs hw n hn]
    refine set_W1 (spreadA_W1 s hs hw n hn) 14 ?_
    rw [xor64 (getD_W1 (spreadA_W1 s hs hw n hn) 14) mask_W1]
    exact W1.xor (getD_W1 (spreadA_W1 s hs hw n hn) 14) mask_W1
set_option maxRecDepth 100000 in
theorem lane_lo : ∀ k, k < 4 → laneF.getD (k * 4) 0 = k ∧ laneF.getD (k * 4 + 1) 0 = k + 4 ∧ laneF.getD (k * 4 + 2) 0 = k + 8 ∧ laneF.getD (k * 4 + 3) 0 = k + 12 := by decide
set_option maxRecDepth 100000 in
theorem lane_hi : ∀ k, k < 4 → laneF.getD ((4 + k) * 4) 0 = k ∧ laneF.getD ((4 + k) * 4 + 1) 0 = 4 + (k + 1) % 4 ∧ laneF.getD ((4 + k) * 4 + 2) 0 = 8 + (k + 2) % 4 ∧ laneF.getD ((4 + k) * 4 + 3) 0 = 12 + (k + 3) % 4 := by decide
set_option maxRecDepth 100000 in
theorem lanesTo_W1 (m v : List Int) (hl : v.length = 16) (hv : ∀ z ∈ v, W1 z) (r k : Nat) (hk : k ≤ 8) : ∀ z ∈ lanesTo m r v k, W1 z := by
  induction k with
  | zero => exact hv
  | succ k ih =>
    have h := laneF_ok k (by omega)
    exact mixL_W1 _ (ih (by omega)) (by rw [lanesTo_length, hl]) _ _ _ _ h.2.1 h.2.2.2.1 _ _
set_option maxRecDepth 100000 in
theorem roundsTo_W1 (m v : List Int) (hl : v.length = 16) (hv : ∀ z ∈ v, W1 z) (r : Nat) : ∀ z ∈ roundsTo m v r, W1 z := by
  induction r with
  | zero => exact hv
  | succ r ih => exact lanesTo_W1 m _ (by rw [roundsTo_length, hl]) ih r 8 (Nat.le_refl _)
def oRow (r : Nat) : List Int := ((ordF.drop (r * 16)).take 16).map Int.ofNat
set_option maxRecDepth 100000 in
theorem oRow_length (r : Nat) (hr : r < 10) : (oRow r).length = 16 := by
  have : ordF.length = 160 := rfl
  simp [oRow]; omega
set_option maxRecDepth 100000 in
theorem oRow_get (r j : Nat) (hr : r < 10) (hj : j < 16) : (oRow r).getD j 0 = ((ordF.getD (r * 16 + j) 0 : Nat) : Int) := by
  have h : r * 16 + j < ordF.length := by have : ordF.length = 160 := rfl; omega
  simp [oRow, List.getD, hj, h]
set_option maxRecDepth 100000 in
theorem owns_below {w w' : World} {base B n : Nat} {e : TypeId} {s : Nat} {v : Value} {xs : List Value} (h : w.ownsRow base e s v n xs) (hb : Below B w w') (hB : ∀ q, v.ownBlock = some q → q < B) : w'.ownsRow base e s v n xs := by
  obtain ⟨h1, h2⟩ := h
  refine ⟨h1, ?_⟩
  rcases h2 with h2 | ⟨g, cap, cur, rfl, hg, hc, r⟩
  · exact .inl h2
  · exact .inr ⟨g, cap, cur, rfl, hg, (hb.block g (hB g rfl)).trans hc, r⟩
set_option maxRecDepth 100000 in
theorem owns_below' {w w' : World} {base n : Nat} {e : TypeId} {s : Nat} {v : Value} {xs : List Value} (h : w.ownsRow base e s v n xs) (hb : Below w.heap.size w w') : w'.ownsRow base e s v n xs :=
  owns_below h hb fun q e => (h.lt q e).2
set_option maxRecDepth 100000 in
/-- A row stays where another one is rewritten. -/
theorem owns_other {w w' : World} {base n g g' c : Nat} {e : TypeId} {s : Nat} {xs : List Value} (h : w.ownsRow base e s (.slice (some ⟨g, 0, none⟩) n c) n xs) (hg : w.grownBy w' (some g')) (hne : g ≠ g') : w'.ownsRow base e s (.slice (some ⟨g, 0, none⟩) n c) n xs := by
  obtain ⟨h1, h2⟩ := h
  refine ⟨h1, ?_⟩
  rcases h2 with ⟨h2, _⟩ | ⟨g2, cap, cur, e2, hg2, hc, r⟩
  · cases h2
  · cases e2
    exact .inr ⟨g, c, cur, rfl, hg2, (hg.block g (lt_of_heap hc) (by simpa using hne)).trans hc, r⟩
set_option maxRecDepth 100000 in
theorem ia_app (a b : List Int) : ia (a ++ b) = ia a ++ ia b := by simp [ia]
set_option maxRecDepth 100000 in
theorem below_of_grown {w w' : World} {B g : Nat} (h : w.grownBy w' (some g)) (hB : B ≤ w.heap.size) (hg : B ≤ g) : Below B w w' := ⟨h.os, h.tape, h.output, h.size, fun k hk => h.block k (by omega) (by simp; omega)⟩
/-- What lies in memory inside taken: the sixteen words, and the block's. -/
structure TkS (w w1 : World) (M X : List Int) (gv cv : Nat) (wx : World) : Prop where
  bel : Below w.heap.size w wx
  v : wx.ownsRow w1.heap.size 3 1 (.slice (some ⟨gv, 0, none⟩) 16 cv) 16 (ia X)
  m : wx.ownsRow w.heap.size 3 1 (.slice (some ⟨w.heap.size, 0, none⟩) 16 16) 16 (ia M)
set_option maxRecDepth 100000 in
theorem TkS.gv {w w1 : World} {M X : List Int} {gv cv : Nat} {wx : World} (h : TkS w w1 M X gv cv wx) : w1.heap.size ≤ gv := (h.v.lt _ rfl).1
set_option maxRecDepth 100000 in
theorem TkS.upd {w w1 : World} {M X X' : List Int} {gv cv : Nat} {wx w2 : World} (h : TkS w w1 M X gv cv wx) (hm : w.heap.size < w1.heap.size) (ho : w2.ownsRow w1.heap.size 3 1 (.slice (some ⟨gv, 0, none⟩) 16 cv) 16 (ia X')) (hg : wx.grownBy w2 (some gv)) : TkS w w1 M X' gv cv w2 := by
  have h1 := h.gv
  exact ⟨h.bel.trans (below_of_grown hg h.bel.size (by omega)), ho, owns_other h.m hg (by omega)⟩
set_option maxRecDepth 100000 in
theorem TkS.below {w w1 : World} {M X : List Int} {gv cv : Nat} {wx w2 : World} (h : TkS w w1 M X gv cv wx) (hb : Below wx.heap.size wx w2) : TkS w w1 M X gv cv w2 :=
  ⟨h.bel.trans (hb.mono h.bel.size), owns_below' h.v hb, owns_below' h.m hb⟩
set_option maxRecDepth 100000 in
theorem TkS.drewN {w w1 : World} {M X : List Int} {gv cv : Nat} {wx : World} (h : TkS w w1 M X gv cv wx) (n : Nat) : TkS w w1 M X gv cv (wx.drewN n) :=
  h.below ⟨rfl, rfl, rfl, Nat.le_refl _, fun _ _ => rfl⟩
set_option maxRecDepth 100000 in
theorem grown_drew {w w1 : World} {r : Option Nat} (k : w.drew.grownBy w1 r) : w.grownBy w1 r := ⟨k.os, k.tape, k.output, k.size, k.block⟩
set_option maxRecDepth 100000 in
theorem fw_take : fw.take 8 = fw := rfl
set_option maxRecDepth 100000 in
theorem TkS.belowB {w w1 : World} {M X : List Int} {gv cv B : Nat} {wx w2 : World} (h : TkS w w1 M X gv cv wx) (hb : Below B wx w2) (hg : gv < B) (hm : w.heap.size < B) : TkS w w1 M X gv cv w2 :=
  ⟨h.bel.trans (hb.mono (Nat.le_of_lt hm)), owns_below h.v hb (by intro q e; cases e; exact hg), owns_below h.m hb (by intro q e; cases e; exact hm)⟩
set_option maxRecDepth 100000 in
theorem foldTo_part (s v : List Int) (hs : s.length = 8) (n : Nat) (hn : n ≤ 8) (j : Nat) : (foldTo s v n).getD j 0 = if j < n then bits .xor .u32 (s.getD j 0) (bits .xor .u32 (v.getD j 0) (v.getD (j + 8) 0)) else s.getD j 0 := by
  induction n with
  | zero => simp [foldTo]
  | succ n ih =>
    have hih := ih (by omega)
    rw [foldTo]
    by_cases hj : j = n
    · subst hj
      rw [getD_set_eq _ _ _ (by rw [foldTo_length, hs]; omega), hih, if_neg (Nat.lt_irrefl _), if_pos (Nat.lt_succ_self _)]
    · rw [getD_set_ne _ _ _ _ hj, hih]
      by_cases hl : j < n
      · rw [if_pos hl, if_pos (by omega)]
      · rw [if_neg hl, if_neg (by omega)]
set_option maxRecDepth 100000 in
theorem foldTo_get (s v : List Int) (hs : s.length = 8) (hsw : ∀ z ∈ s, W1 z) (hv : ∀ z ∈ v, W1 z) (k : Nat) (hk : k < 8) : (foldTo s v 8).getD k 0 = bits .xor .i64 (bits .xor .i64 (s.getD k 0) (v.getD k 0)) (v.getD (k + 8) 0) := by
  have a := getD_W1 hsw k
  have b := getD_W1 hv k
  have c := getD_W1 hv (k + 8)
  rw [foldTo_part s v hs 8 (Nat.le_refl _) k, if_pos hk, xor64 a b, xor64 (W1.xor a b) c, xor_assoc32 a b c]
end Go.Proofs.YtcecjdoabnhcgaaDoor
