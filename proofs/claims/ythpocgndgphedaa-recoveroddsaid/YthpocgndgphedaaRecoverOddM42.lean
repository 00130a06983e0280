/- wire's reader.message. -/
import Derived.Test.YthpocgndgphedaaRecoverOddM36
import Derived.Deep.CutRange
import Derived.Deep.DeepCutAuto
import Derived.Test.YthpocgndgphedaaRecoverOddM6
import Derived.Test.YthpocgndgphedaaRecoverOddM12
import Derived.Test.YthpocgndgphedaaCalls
import Derived.Test.YthpocgndgphedaaRecoverOddM0
import Derived.Deep.RegionHeld3
import Derived.Test.YthpocgndgphedaaRecoverOddM24
namespace Go.Proofs.Ythpocgndgphedaa
open Go.RowKit

set_option maxRecDepth 100000 in
theorem i64_andor (a b : Nat) (ha : a < 9223372036854775808) (hb : b < 9223372036854775808) :
    bits .and .i64 (a : Int) (b : Int) = ((a &&& b : Nat) : Int) ∧ bits .or .i64 (a : Int) (b : Int) = ((a ||| b : Nat) : Int) := by
  refine bits_nat .i64 63 (by decide) (fun n h0 h1 => ?_) a b (by omega) (by omega)
  rw [IntKind.wrap_i64]
  have : n < 9223372036854775808 := by simpa using h1
  omega
set_option maxRecDepth 100000 in
theorem or_byte (y x : Int) (hy0 : 0 ≤ y) (hy1 : y ≤ 65535) (hx0 : 0 ≤ x) (hx1 : x ≤ 255) : bits .or .i64 (y * 256) x = 256 * y + x := by
  obtain ⟨a, rfl⟩ := Int.eq_ofNat_of_zero_le hy0
  obtain ⟨b, rfl⟩ := Int.eq_ofNat_of_zero_le hx0
  have h := (i64_andor (a * 256) b (by omega) (by omega)).2
  rw [show ((a : Int) * 256) = ((a * 256 : Nat) : Int) by omega, h]
  have e : a * 256 ||| b = a * 256 + b := by
    have := Nat.shiftLeft_add_eq_or_of_lt (i := 8) (b := b) (by omega) a
    rw [Nat.shiftLeft_eq] at this
    exact this.symm
  rw [e]
  omega
/-- A number, the highest byte first. -/
def numB (l : List Int) : Int := l.foldl (fun n x => 256 * n + x) 0
set_option maxRecDepth 100000 in
theorem numB_snoc (l : List Int) (x : Int) : numB (l ++ [x]) = 256 * numB l + x := by simp [numB]
def U8s (l : List Int) : Prop := ∀ x ∈ l, 0 ≤ x ∧ x ≤ 255
set_option maxRecDepth 100000 in
theorem numB_bounds (l : List Int) (h : U8s l) (hl : l.length ≤ 3) : 0 ≤ numB l ∧ numB l ≤ 16777215 := by
  match l, hl with
  | [], _ => decide
  | [a], _ => have := h a (by simp); simp [numB]; omega
  | [a, b], _ => have := h a (by simp); have := h b (by simp); simp [numB]; omega
  | [a, b, c], _ => have := h a (by simp); have := h b (by simp); have := h c (by simp); simp [numB]; omega
set_option maxRecDepth 100000 in
theorem U8s.tkT {n : Nat} {l : List Int} {sh : Bool} (h : U8s l) : U8s (tkT n l sh) := by
  unfold Go.Proofs.Ythpocgndgphedaa.tkT
  split
  · intro x hx; cases hx
  · intro x hx; exact h x (List.mem_of_mem_take hx)
set_option maxRecDepth 100000 in
theorem U8s.tkL {n : Nat} {l : List Int} {sh : Bool} (h : U8s l) : U8s (tkL n l sh) := by
  unfold Go.Proofs.Ythpocgndgphedaa.tkL
  split
  · exact h
  · intro x hx; exact h x (List.mem_of_mem_drop hx)
set_option maxRecDepth 100000 in
theorem tkT_len {n : Nat} {l : List Int} {sh : Bool} : (tkT n l sh).length ≤ n := by
  unfold tkT
  split
  · simp
  · rw [List.length_take]; omega
structure NumIs (w w' : World) (e : Ending) (R : Nat) (x : Int) (l : List Int) (sh : Bool) : Prop where
  out : e = .returned (.int .i64 x) ∧ RdrAt w' R l sh ∧ Only R w w'
set_option maxRecDepth 100000 in
set_option maxHeartbeats 1000000 in
theorem number_any (R n : Nat) (l : List Int) (sh : Bool) (w : World) (hR : RdrAt w R l sh) (hl : l.length ≤ 100000) (hn : n ≤ 3) (hu : U8s l) :
    Calls Try.prog 64 #[.pointer (some ⟨R, 0, none⟩), .int .i64 (n : Int)] w fun e w' => NumIs w w' e R (numB (tkT n l sh)) (tkL n l sh) (tkS n l sh) := by
  have hT := take_any R n l sh w hR hl (by omega)
  have hut := hu.tkT (n := n) (sh := sh)
  have htl := tkT_len (n := n) (l := l) (sh := sh)
  generalize tkT n l sh = t at *
  generalize tkL n l sh = l2 at *
  generalize tkS n l sh = s2 at *
  go_enter Try.func64, Try.ntmps64
  go_wp2_with fail
  refine hT.mono ?_
  rintro e w1 ⟨ta, tc, he, hs, -, hR1, ho⟩
  subst he
  dsimp only
  clear hT
  have htI : (t.length : Int) ≤ 3 := by omega
  go_upto_region 3 with fail
  go_loopw [12, 5] (fun j v wr => ∃ (k : Nat), k ≤ t.length ∧ j = .int .i64 k ∧ v = .int .i64 (numB (t.take k)) ∧ wr = w1) (fun j _ _ => t.length - (intOf j).toNat)
  case atStart => exact ⟨0, Nat.zero_le _, rfl, rfl, rfl⟩
  case round =>
    obtain ⟨k, hk, rfl, rfl, rfl⟩ := hrel
    by_cases hlt : k < t.length
    · have hltI : (k : Int) < t.length := by omega
      obtain ⟨sb, so, rfl, hc⟩ : ∃ sb so, ta = some ⟨sb, so, none⟩ ∧ ∀ j, j < t.length → wr.cell? ⟨sb, so + j, none⟩ = some (.int .u8 (t.getD j 0)) := by
        rcases hs.bytes with h | h
        · rw [h] at hlt; simp at hlt
        · exact h
      have ck := hc k hlt
      obtain ⟨hx0, hx1⟩ := hut (t.getD k 0) (by simp [List.getD, hlt])
      have hst : Hid (t.take (k + 1) = t.take k ++ [t.getD k 0]) := by
        show _ = _
        rw [List.take_succ_eq_append_getElem hlt]
        simp [List.getD, hlt]
      obtain ⟨hb0, hb1⟩ := numB_bounds (t.take k) (fun x hx => hut x (List.mem_of_mem_take hx)) (by rw [List.length_take]; omega)
      have hb2 : numB (t.take k) ≤ 65535 := by
        match k, hlt with
        | 0, _ => simp [numB]
        | 1, _ =>
          match t, hut with
          | [], _ => simp [numB]
          | a :: r, hu' => have := hu' a (by simp); simp [numB]; omega
        | 2, _ =>
          match t, hut with
          | [], _ => simp [numB]
          | [a], hu' => have := hu' a (by simp); simp [numB]; omega
          | a :: b :: r, hu' => have := hu' a (by simp); have := hu' b (by simp); simp [numB]; omega
        | k + 3, h => omega
      clear hc
      have hS : Hid (numB (t.take (k + 1)) = 256 * numB (t.take k) + t.getD k 0) := by show _ = _; rw [hst.out, numB_snoc]
      clear hst
      generalize t.getD k 0 = X at *
      generalize numB (t.take k) = Y at *
      have hOr : Hid (bits .or .i64 (Y * 256) X = 256 * Y + X) := or_byte Y X hb0 hb2 hx0 hx1
      go_wp2_with fail
      go_roundw
      case rel =>
        have hR : ∃ (k' : Nat), k' ≤ t.length ∧ (Value.int .i64 ((k : Int) + 1)) = .int .i64 k' ∧ Value.int .i64 (bits .or .i64 (Y * 256) X) = .int .i64 (numB (t.take k')) ∧ wr = wr :=
          ⟨k + 1, by omega, by go_num, by rw [hS.out, hOr.out], rfl⟩
        first | exact hR | simpa using hR
      case measure => simp [intOf]; omega
    · obtain rfl : k = t.length := by omega
      have hltI : ¬ (t.length : Int) < t.length := by omega
      go_wp2_with fail
      go_ret
      exact ⟨rfl, hR1, ho⟩
set_option maxRecDepth 100000 in
set_option maxHeartbeats 400000 in
theorem round_any (R : Nat) (l : List Int) (sh : Bool) (w : World) (hR : RdrAt w R l sh) (hl : l.length ≤ 100000) (hu : U8s l) :
    Calls Try.prog 69 #[.pointer (some ⟨R, 0, none⟩)] w fun e w' => NumIs w w' e R (numB (tkT 3 l sh)) (tkL 3 l sh) (tkS 3 l sh) := by
  have hN := number_any R 3 l sh w hR hl (by omega) hu
  go_enter Try.func69, Try.ntmps69
  go_wp2_with fail
  refine hN.mono ?_
  rintro e w1 ⟨he, h1, h2⟩
  subst he
  dsimp only
  go_wp2_with fail
  go_ret
  exact ⟨rfl, h1, h2⟩
end Go.Proofs.Ythpocgndgphedaa

namespace Go.Proofs.Ythpocgndgphedaa
open Go.RowKit

set_option maxRecDepth 100000 in
theorem owns_only {R : Nat} {w w' : World} {base n : Nat} {e : TypeId} {s : Nat} {v : Value} {xs : List Value} (h : w.ownsRow base e s v n xs) (ho : Only R w w') (hR : R < base) : w'.ownsRow base e s v n xs := by
  have hB : ∀ q, v.ownBlock = some q → base ≤ q ∧ q < w.heap.size := fun q e => h.lt q e
  obtain ⟨h1, h2⟩ := h
  refine ⟨h1, ?_⟩
  rcases h2 with h2 | ⟨g, cap, cur, rfl, hg, hc, r⟩
  · exact .inl h2
  · exact .inr ⟨g, cap, cur, rfl, hg, (ho.block g (hB g rfl).2 (by omega)).trans hc, r⟩
set_option maxRecDepth 100000 in
theorem apart_only {R : Nat} {w w' : World} {B : Nat} {v : Value} {qs : List Part} (h : Apart w B v qs) (ho : Only R w w') (hR : R < B) : Apart w' B v qs := fun p hp => by
  obtain ⟨h1, h2⟩ := h p hp
  exact ⟨h1.only ho (fun sb so e => by have := (h2 sb so e).1; omega), fun sb so e => ⟨(h2 sb so e).1, Nat.lt_of_lt_of_le (h2 sb so e).2.1 ho.size, (h2 sb so e).2.2⟩⟩
set_option maxRecDepth 100000 in
theorem apart_snoc {w w3 : World} {B : Nat} {v v1 : Value} {qs : List Part} {q : Part} {o : Obj} (h : Apart w B v qs) (hs : SliceAt w q.sa q.cap q.bs) (hq : ∀ sb so, q.sa = some ⟨sb, so, none⟩ → B ≤ sb ∧ sb < w.heap.size ∧ v.ownBlock ≠ some sb) (G : Grew (w.alloc o) v w3 v1) : Apart w3 B v1 (qs ++ [q]) := by
  have hA : Below w.heap.size w (w.alloc o) := (Below.refl _ _).alloc (Nat.le_refl _) _
  have hsz : (w.alloc o).heap.size = w.heap.size + 1 := by simp
  have h3 := G.grown.size
  have one : ∀ p : Part, SliceAt w p.sa p.cap p.bs → (∀ sb so, p.sa = some ⟨sb, so, none⟩ → B ≤ sb ∧ sb < w.heap.size ∧ v.ownBlock ≠ some sb) → SliceAt w3 p.sa p.cap p.bs ∧ ∀ sb so, p.sa = some ⟨sb, so, none⟩ → B ≤ sb ∧ sb < w3.heap.size ∧ v1.ownBlock ≠ some sb := fun p h1 h2 => by
    refine ⟨G.slice (h1.below hA) (fun sb so e => (h2 sb so e).2.2), fun sb so e => ?_⟩
    obtain ⟨a1, a2, a3⟩ := h2 sb so e
    refine ⟨a1, by omega, fun hv => ?_⟩
    rcases G.fresh sb hv with g | g
    · exact a3 g
    · omega
  intro p hp
  rcases List.mem_append.1 hp with hp | hp
  · exact one p (h p hp).1 (h p hp).2
  · obtain rfl : p = q := by simpa using hp
    exact one p hs hq
structure DigIs (w w' : World) (e : Ending) (R : Nat) (t l : List Int) (sh : Bool) : Prop where
  out : ∃ da dc, e = .returned (.slice da t.length dc) ∧ SliceAt w' da dc t ∧ (∀ sb so, da = some ⟨sb, so, none⟩ → w.heap.size ≤ sb ∧ sb < w'.heap.size) ∧ RdrAt w' R l sh ∧ Only R w w'
set_option maxRecDepth 100000 in
set_option maxHeartbeats 400000 in
theorem digest_any (R : Nat) (l : List Int) (sh : Bool) (w : World) (hR : RdrAt w R l sh) (hl : l.length ≤ 100000) :
    Calls Try.prog 74 #[.pointer (some ⟨R, 0, none⟩)] w fun e w' => DigIs w w' e R (tkT 32 l sh) (tkL 32 l sh) (tkS 32 l sh) := by
  have hN := take_any R 32 l sh w hR hl (by omega)
  have htl := tkT_len (n := 32) (l := l) (sh := sh)
  generalize tkT 32 l sh = t at *
  generalize tkL 32 l sh = l2 at *
  generalize tkS 32 l sh = s2 at *
  go_enter Try.func74, Try.ntmps74
  go_wp2_with fail
  refine hN.mono ?_
  rintro e w1 ⟨ta, tc, he, hs, -, hR1, ho1⟩
  subst he
  dsimp only
  go_wp2_with fail
  refine (clone_any t ta _ tc w1 rfl hs (by omega)).mono ?_
  rintro e w2 ⟨da, dc, he, hs2, hf, hb2⟩
  subst he
  dsimp only
  go_wp2_with fail
  go_ret
  exact ⟨da, dc, rfl, hs2, fun sb so e => by have := hf sb so e; have := ho1.size; omega, hR1.below hb2, ho1.trans (only_of_below hb2)⟩
/-- So many digests: what is left behind them, and these. -/
def dgL (l : List Int) (sh : Bool) : Nat → List Int × Bool
  | 0 => (l, sh)
  | k + 1 => (tkL 32 (dgL l sh k).1 (dgL l sh k).2, tkS 32 (dgL l sh k).1 (dgL l sh k).2)
def dgD (l : List Int) (sh : Bool) : Nat → List (List Int)
  | 0 => []
  | k + 1 => dgD l sh k ++ [tkT 32 (dgL l sh k).1 (dgL l sh k).2]
set_option maxRecDepth 100000 in
theorem dgL_len (l : List Int) (sh : Bool) (k : Nat) : (dgL l sh k).1.length ≤ l.length := by
  induction k with
  | zero => exact Nat.le_refl _
  | succ k ih => exact Nat.le_trans tk_len ih
set_option maxRecDepth 100000 in
theorem dgD_length (l : List Int) (sh : Bool) (k : Nat) : (dgD l sh k).length = k := by
  induction k with
  | zero => rfl
  | succ k ih => simp [dgD, ih]
set_option maxRecDepth 100000 in
theorem dgL_u8 (l : List Int) (sh : Bool) (k : Nat) (h : U8s l) : U8s (dgL l sh k).1 := by
  induction k with
  | zero => exact h
  | succ k ih => exact ih.tkL
def dN (l : List Int) (sh : Bool) : Nat := (numB (tkT 1 l sh)).toNat
/-- Lists of a reader. -/
structure DigsIs (w w' : World) (e : Ending) (R : Nat) (ls : List (List Int)) (l : List Int) (sh : Bool) : Prop where
  out : ∃ ra rc qs, e = .returned (.slice ra (List.length qs) rc) ∧ qs.map (·.bs) = ls ∧ ListAt w' ra rc qs ∧ Fresh w.heap.size ra qs ∧ RdrAt w' R l sh ∧ Only R w w'
set_option maxRecDepth 100000 in
theorem numB1_bounds {l : List Int} {sh : Bool} (h : U8s l) : 0 ≤ numB (tkT 1 l sh) ∧ numB (tkT 1 l sh) ≤ 255 := by
  have h1 := h.tkT (n := 1) (sh := sh)
  have h2 := tkT_len (n := 1) (l := l) (sh := sh)
  match tkT 1 l sh, h1, h2 with
  | [], _, _ => simp [numB]
  | [a], h, _ => have := h a (by simp); simp [numB]; omega
set_option maxRecDepth 100000 in
set_option maxHeartbeats 1000000 in
theorem digests_any (R : Nat) (l : List Int) (sh : Bool) (w : World) (hR : RdrAt w R l sh) (hl : l.length ≤ 100000) (hu : U8s l) :
    Calls Try.prog 73 #[.pointer (some ⟨R, 0, none⟩)] w fun e w' => DigsIs w w' e R (dgD (tkL 1 l sh) (tkS 1 l sh) (dN l sh)) (dgL (tkL 1 l sh) (tkS 1 l sh) (dN l sh)).1 (dgL (tkL 1 l sh) (tkS 1 l sh) (dN l sh)).2 := by
  obtain ⟨i, hi, hz0, hz1, hz2⟩ := info_parts infoBs
  have hN := number_any R 1 l sh w hR hl (by omega) hu
  obtain ⟨hb0, hb1⟩ := numB1_bounds (sh := sh) hu
  have hNI : ((dN l sh : Nat) : Int) = numB (tkT 1 l sh) := by unfold dN; omega
  have hl1 : (tkL 1 l sh).length ≤ 100000 := Nat.le_trans tk_len hl
  have hlt := hR.lt
  rw [← hNI] at hN hb1
  generalize dN l sh = N at *
  generalize tkL 1 l sh = l1 at *
  generalize tkS 1 l sh = s1 at *
  clear hNI hb0
  go_enter Try.func73, Try.ntmps73
  go_wp2_with fail
  refine hN.mono ?_
  rintro e w1 ⟨he, hR1, ho1⟩
  subst he
  dsimp only
  clear hN
  go_upto_region 3 with fail
  go_loopw [6, 3] (fun j v wr => ∃ (k : Nat) (qs : List Part) (tv : Value), k ≤ N ∧ j = .int .i64 k ∧ tv = v ∧ Hid (qs.map (·.bs) = dgD l1 s1 k) ∧ wr.ownsRow w.heap.size 26 1 tv k (pv qs) ∧ Apart wr w.heap.size tv qs ∧ RdrAt wr R (dgL l1 s1 k).1 (dgL l1 s1 k).2 ∧ Only R w wr) (fun j _ _ => N - (intOf j).toNat)
  case atStart => exact ⟨0, [], _, Nat.zero_le _, rfl, rfl, rfl, World.ownsRow_nil _ _ _ _, (fun p hp => by cases hp), hR1, ho1⟩
  case round =>
    obtain ⟨k, qs, tv, hk, rfl, rfl, hq, ho, hap, hRk, hok⟩ := hrel
    by_cases hltk : k < N
    · have hltI : (k : Int) < N := by omega
      have hD := digest_any R _ _ wr hRk (Nat.le_trans (dgL_len l1 s1 k) hl1)
      have hst : Hid (dgD l1 s1 (k + 1) = dgD l1 s1 k ++ [tkT 32 (dgL l1 s1 k).1 (dgL l1 s1 k).2]) := rfl
      have hst2 : Hid ((dgL l1 s1 (k + 1)).1 = tkL 32 (dgL l1 s1 k).1 (dgL l1 s1 k).2 ∧ (dgL l1 s1 (k + 1)).2 = tkS 32 (dgL l1 s1 k).1 (dgL l1 s1 k).2) := ⟨rfl, rfl⟩
      have htl := tkT_len (n := 32) (l := (dgL l1 s1 k).1) (sh := (dgL l1 s1 k).2)
      generalize tkT 32 (dgL l1 s1 k).1 (dgL l1 s1 k).2 = t at *
      go_wp2_with fail
      refine hD.mono ?_
      rintro e w2 ⟨da, dc, he, hs2, hf2, hR2, ho2⟩
      subst he
      dsimp only
      clear hD
      have hB2 := hok.trans ho2
      have hob := owns_only ho ho2 hlt
      have hap2 := apart_only hap ho2 hlt
      have hszw := hok.size
      have hszr := hB2.size
      go_wp2_with (at_builtin; refine wpList_append_own_at _ rfl _ _ 38 rfl w.heap.size 26 i (.slice none 0 0) 1 24 Try.underlying38 hi hz0 hz1 hz2 rfl (by decide) _ k _ rfl (World.ownsRow.alloc hob _) ⟨w2.heap.size, 0, none⟩ 1 1 [.slice da t.length dc] rfl rfl (cells_new _ _ _) (by intro u hu; simp at hu; subst hu; rfl) (by unfold maxLen; omega) (by omega) (le_alloc hB2.size _) ?_; intro v3 w3 ho3 hg3 _ hat3)
      have G := Grew.of hg3 hat3
      have hap3 := apart_snoc (q := ⟨da, dc, t⟩) hap2 hs2 (fun sb so e => by
        have h := hf2 sb so e
        exact ⟨by omega, h.2, fun hv => by have := (ho.lt sb hv).2; omega⟩) G
      have hb3 : Below w2.heap.size w2 (w2.alloc (.cells #[.slice da t.length dc] 26)) := (Below.refl _ _).alloc (Nat.le_refl _) _
      have ho3w : Only R w w3 := by
        have hg := G.grown
        refine ⟨hg.os.trans hB2.os, hg.tape.trans hB2.tape, hg.output.trans hB2.output, Nat.le_trans hB2.size (Nat.le_trans hb3.size hg.size), fun q hq hn => ?_⟩
        exact (hg.block q (by have := hb3.size; omega) (fun e => by have := (ho.lt q e.symm).1; omega)).trans ((hb3.block q (by omega)).trans (hB2.block q hq hn))
      have hR3 : RdrAt w3 R (dgL l1 s1 (k + 1)).1 (dgL l1 s1 (k + 1)).2 := by
        rw [hst2.out.1, hst2.out.2]
        refine (hR2.below hb3).stays (fun q hq => G.grown.block q (by have := hb3.size; have := hR2.lt; omega) (fun e => by have := (ho.lt q e.symm).1; omega))
      go_roundw
      case rel =>
        have hR : ∃ (k' : Nat) (qs' : List Part) (tv' : Value), k' ≤ N ∧ (Value.int .i64 ((k : Int) + 1)) = .int .i64 k' ∧ tv' = v3 ∧ Hid (qs'.map (·.bs) = dgD l1 s1 k') ∧ w3.ownsRow w.heap.size 26 1 tv' k' (pv qs') ∧ Apart w3 w.heap.size tv' qs' ∧ RdrAt w3 R (dgL l1 s1 k').1 (dgL l1 s1 k').2 ∧ Only R w w3 :=
          ⟨k + 1, qs ++ [⟨da, dc, t⟩], v3, by omega, by go_num, rfl, (show _ = _ by rw [hst.out, List.map_append, hq.out]; rfl), by simpa [pv, Part.val] using ho3, hap3, hR3, ho3w⟩
        first | exact hR | ((repeat apply Exists.intro); exact ⟨hR, rfl⟩)
      case measure => simp [intOf]; omega
    · obtain rfl : k = N := by omega
      have hltI : ¬ (k : Int) < k := by omega
      obtain ⟨ra, rc, hv, hlq, hL, hfr⟩ := listAt_of_owns ho hap
      subst hv
      have HL : Hid (k = qs.length) := hlq
      clear hlq
      go_wp2_with fail
      go_ret
      exact ⟨ra, rc, qs, by rw [← HL.out]; rfl, hq.out, hL (by omega), hfr, hRk, hok⟩
end Go.Proofs.Ythpocgndgphedaa

namespace Go.Proofs.Ythpocgndgphedaa
open Go.RowKit

/-- What is left to a reader, and whether it was too short. -/
abbrev St := List Int × Bool
def nx (n : Nat) (s : St) : St := (tkL n s.1 s.2, tkS n s.1 s.2)
def tT (n : Nat) (s : St) : List Int := tkT n s.1 s.2
def nB (n : Nat) (s : St) : Int := numB (tT n s)
def dgs (s : St) : List (List Int) := dgD (nx 1 s).1 (nx 1 s).2 (dN s.1 s.2)
def dgS (s : St) : St := dgL (nx 1 s).1 (nx 1 s).2 (dN s.1 s.2)
structure GoodS (s : St) : Prop where
  len : s.1.length ≤ 100000
  u8 : U8s s.1
set_option maxRecDepth 100000 in
theorem GoodS.nx {n : Nat} {s : St} (h : GoodS s) : GoodS (nx n s) := ⟨Nat.le_trans tk_len h.len, h.u8.tkL⟩
set_option maxRecDepth 100000 in
theorem GoodS.dgS {s : St} (h : GoodS s) : GoodS (dgS s) := ⟨Nat.le_trans (dgL_len _ _ _) (h.nx (n := 1)).len, dgL_u8 _ _ _ (h.nx (n := 1)).u8⟩
def RdS (w : World) (R : Nat) (s : St) : Prop := RdrAt w R s.1 s.2
set_option maxRecDepth 100000 in
theorem number_st (R n : Nat) (s : St) (w : World) (hR : RdS w R s) (hs : GoodS s) (hn : n ≤ 3) :
    Calls Try.prog 64 #[.pointer (some ⟨R, 0, none⟩), .int .i64 (n : Int)] w fun e w' => e = .returned (.int .i64 (nB n s)) ∧ RdS w' R (nx n s) ∧ Only R w w' :=
  (number_any R n s.1 s.2 w hR hs.len hn hs.u8).mono (fun _ _ h => h.out)
set_option maxRecDepth 100000 in
theorem round_st (R : Nat) (s : St) (w : World) (hR : RdS w R s) (hs : GoodS s) :
    Calls Try.prog 69 #[.pointer (some ⟨R, 0, none⟩)] w fun e w' => e = .returned (.int .i64 (nB 3 s)) ∧ RdS w' R (nx 3 s) ∧ Only R w w' :=
  (round_any R s.1 s.2 w hR hs.len hs.u8).mono (fun _ _ h => h.out)
set_option maxRecDepth 100000 in
theorem list_only {R B : Nat} {w w' : World} {ra : Option Addr} {rc : Nat} {qs : List Part} (h : ListAt w ra rc qs) (hf : Fresh B ra qs) (ho : Only R w w') (hR : R < B) : ListAt w' ra rc qs := by
  refine ⟨h.le, h.max, h.small, h.some, ⟨?_, fun p hp => (h.parts.each p hp).only ho (fun sb so e => by have := hf.each p hp sb so e; omega)⟩⟩
  rcases h.parts.cells with hc | ⟨sb, so, e, hc⟩
  · exact .inl hc
  · exact .inr ⟨sb, so, e, fun j hj => (World.cell?_of_block (ho.block sb (block_lt_of_cell (hc j hj)) (by have := hf.row sb so e; omega))).trans (hc j hj)⟩
structure SlotR (w w' : World) (e : Ending) (R : Nat) (s : St) : Prop where
  out : ∃ da dc, e = .returned (.agg #[.int .i64 (nB 1 s), .int .i64 (nB 3 (nx 1 s)), .slice da (tT 32 (nx 3 (nx 1 s))).length dc]) ∧ SliceAt w' da dc (tT 32 (nx 3 (nx 1 s))) ∧ (∀ sb so, da = some ⟨sb, so, none⟩ → w.heap.size ≤ sb) ∧ RdS w' R (nx 32 (nx 3 (nx 1 s))) ∧ Only R w w'
set_option maxRecDepth 100000 in
set_option maxHeartbeats 1000000 in
theorem slot_any (R : Nat) (s : St) (w : World) (hR : RdS w R s) (hs : GoodS s) :
    Calls Try.prog 67 #[.pointer (some ⟨R, 0, none⟩)] w fun e w' => SlotR w w' e R s := by
  have hlt : R < w.heap.size := hR.lt
  have hA : Below w.heap.size w (w.alloc (.cells #[.int .i64 0, .int .i64 0, .slice none 0 0] 42)) := (Below.refl _ _).alloc (Nat.le_refl _) _
  have q0 := heap_alloc_new w (.cells #[.int .i64 0, .int .i64 0, .slice none 0 0] 42)
  have hsz : w.heap.size < (w.alloc (.cells #[.int .i64 0, .int .i64 0, .slice none 0 0] 42)).heap.size := lt_of_heap q0
  go_enter Try.func67, Try.ntmps67
  go_wp2_with fail
  generalize w.alloc (.cells #[.int .i64 0, .int .i64 0, .slice none 0 0] 42) = W0 at hA q0 hsz ⊢
  refine (number_st R 1 s W0 (RdrAt.below hR hA) hs (by omega)).mono ?_
  rintro e w1 ⟨he, hR1, ho1⟩
  subst he
  dsimp only
  go_wp2_with fail
  refine (round_st R _ w1 hR1 hs.nx).mono ?_
  rintro e w2 ⟨he, hR2, ho2⟩
  subst he
  dsimp only
  go_wp2_with fail
  refine (digest_any R _ _ w2 hR2 hs.nx.nx.len).mono ?_
  rintro e w3 ⟨da, dc, he, hs3, hf3, hR3, ho3⟩
  subst he
  dsimp only
  have hO := (ho1.trans ho2).trans ho3
  have p3 := (hO.block _ hsz (by omega)).trans q0
  have d0 := cells_at p3 0 _ rfl
  have d1 := cells_at p3 1 _ rfl
  have d2 := cells_at p3 2 _ rfl
  have f0 := frozen_at p3 0
  have f1 := frozen_at p3 1
  have f2 := frozen_at p3 2
  have hX : Hid (SlotR w (((w3.setCell ⟨w.heap.size, 0, none⟩ (.int .i64 (nB 1 s))).setCell ⟨w.heap.size, 1, none⟩ (.int .i64 (nB 3 (nx 1 s)))).setCell ⟨w.heap.size, 2, none⟩ (.slice da (tT 32 (nx 3 (nx 1 s))).length dc)) (.returned (.agg #[.int .i64 (nB 1 s), .int .i64 (nB 3 (nx 1 s)), .slice da (tT 32 (nx 3 (nx 1 s))).length dc])) R s) := by
    have hsz2 := (ho1.trans ho2).size
    have hne : ∀ sb so, da = some ⟨sb, so, none⟩ → w.heap.size ≠ sb := fun sb so e => by have := (hf3 sb so e).1; omega
    refine ⟨da, dc, rfl, ?_, fun sb so e => by have := (hf3 sb so e).1; omega, ((hR3.far hlt).far hlt).far hlt, ?_⟩
    · have far : ∀ (W : World) (j : Nat) (v : Value), SliceAt W da dc (tT 32 (nx 3 (nx 1 s))) → SliceAt (W.setCell ⟨w.heap.size, j, none⟩ v) da dc (tT 32 (nx 3 (nx 1 s))) := fun W j v h => h.only (R := w.heap.size) ((Only.refl _ W).setCell) (fun sb so e e2 => hne sb so e e2.symm)
      exact far _ _ _ (far _ _ _ (far _ _ _ hs3))
    · have hOw := (only_of_below (R := R) hA).trans hO
      refine ⟨hOw.os, hOw.tape, hOw.output, by simpa using hOw.size, fun k hk hn => ?_⟩
      exact (heap_setCell_other _ ⟨w.heap.size, 2, none⟩ k _ (by show k ≠ w.heap.size; omega)).trans ((heap_setCell_other _ ⟨w.heap.size, 1, none⟩ k _ (by show k ≠ w.heap.size; omega)).trans ((heap_setCell_other _ ⟨w.heap.size, 0, none⟩ k _ (by show k ≠ w.heap.size; omega)).trans (hOw.block k hk hn)))
  clear hs3 hf3 hR3 hR1 hR2 hO ho1 ho2 ho3 p3
  change Hid (SlotR w (((w3.setCell ⟨w.heap.size, 0, none⟩ (.int .i64 (nB 1 s))).setCell ⟨w.heap.size, 1, none⟩ (.int .i64 (nB 3 (nx 1 s)))).setCell ⟨w.heap.size, 2, none⟩ (.slice da (tkT 32 (nx 3 (nx 1 s)).1 (nx 3 (nx 1 s)).2).length dc)) (.returned (.agg #[.int .i64 (nB 1 s), .int .i64 (nB 3 (nx 1 s)), .slice da (tkT 32 (nx 3 (nx 1 s)).1 (nx 3 (nx 1 s)).2).length dc])) R s) at hX
  go_wp2_with fail
  exact bodyPost_ret (v := .agg #[.int .i64 (nB 1 s), .int .i64 (nB 3 (nx 1 s)), .slice da (tkT 32 (nx 3 (nx 1 s)).1 (nx 3 (nx 1 s)).2).length dc]) (by simp [results, Try.results67, go_sem, d0, d1, d2]) rfl hX.out
structure HeadRd (w w' : World) (e : Ending) (R : Nat) (s : St) : Prop where
  out : ∃ ba bc bl pa pc pl, e = .returned (.agg #[.int .i64 (nB 1 s), .int .i64 (nB 3 (nx 1 s)), .slice ba (List.length bl) bc, .slice pa (List.length pl) pc]) ∧ bl.map (·.bs) = dgs (nx 3 (nx 1 s)) ∧ pl.map (·.bs) = dgs (dgS (nx 3 (nx 1 s))) ∧ ListAt w' ba bc bl ∧ ListAt w' pa pc pl ∧ Fresh w.heap.size ba bl ∧ Fresh w.heap.size pa pl ∧ RdS w' R (dgS (dgS (nx 3 (nx 1 s)))) ∧ Only R w w'
set_option maxRecDepth 100000 in
set_option maxHeartbeats 1000000 in
theorem header_rd (R : Nat) (s : St) (w : World) (hR : RdS w R s) (hs : GoodS s) :
    Calls Try.prog 66 #[.pointer (some ⟨R, 0, none⟩)] w fun e w' => HeadRd w w' e R s := by
  have hlt : R < w.heap.size := hR.lt
  have hA : Below w.heap.size w (w.alloc (.cells #[.int .i64 0, .int .i64 0, .slice none 0 0, .slice none 0 0] 40)) := (Below.refl _ _).alloc (Nat.le_refl _) _
  have q0 := heap_alloc_new w (.cells #[.int .i64 0, .int .i64 0, .slice none 0 0, .slice none 0 0] 40)
  have hsz : w.heap.size < (w.alloc (.cells #[.int .i64 0, .int .i64 0, .slice none 0 0, .slice none 0 0] 40)).heap.size := lt_of_heap q0
  go_enter Try.func66, Try.ntmps66
  go_wp2_with fail
  generalize w.alloc (.cells #[.int .i64 0, .int .i64 0, .slice none 0 0, .slice none 0 0] 40) = W0 at hA q0 hsz ⊢
  refine (number_st R 1 s W0 (RdrAt.below hR hA) hs (by omega)).mono ?_
  rintro e w1 ⟨he, hR1, ho1⟩
  subst he
  dsimp only
  go_wp2_with fail
  refine (round_st R _ w1 hR1 hs.nx).mono ?_
  rintro e w2 ⟨he, hR2, ho2⟩
  subst he
  dsimp only
  go_wp2_with fail
  refine (digests_any R _ _ w2 hR2 hs.nx.nx.len hs.nx.nx.u8).mono ?_
  rintro e w3 ⟨ba, bc, bl, he, hq3, hL3, hF3, hR3, ho3⟩
  subst he
  dsimp only
  go_wp2_with fail
  refine (digests_any R _ _ w3 hR3 (GoodS.dgS hs.nx.nx).len (GoodS.dgS hs.nx.nx).u8).mono ?_
  rintro e w4 ⟨pa, pc, pl, he, hq4, hL4, hF4, hR4, ho4⟩
  subst he
  dsimp only
  have hO := ((ho1.trans ho2).trans ho3).trans ho4
  have hsz2 := (ho1.trans ho2).size
  have hsz3 := ((ho1.trans ho2).trans ho3).size
  have p3 := (hO.block _ hsz (by omega)).trans q0
  have d0 := cells_at p3 0 _ rfl
  have d1 := cells_at p3 1 _ rfl
  have d2 := cells_at p3 2 _ rfl
  have d3 := cells_at p3 3 _ rfl
  have f0 := frozen_at p3 0
  have f1 := frozen_at p3 1
  have f2 := frozen_at p3 2
  have f3 := frozen_at p3 3
  have hX : Hid (HeadRd w ((((w4.setCell ⟨w.heap.size, 0, none⟩ (.int .i64 (nB 1 s))).setCell ⟨w.heap.size, 1, none⟩ (.int .i64 (nB 3 (nx 1 s)))).setCell ⟨w.heap.size, 2, none⟩ (.slice ba bl.length bc)).setCell ⟨w.heap.size, 3, none⟩ (.slice pa pl.length pc)) (.returned (.agg #[.int .i64 (nB 1 s), .int .i64 (nB 3 (nx 1 s)), .slice ba bl.length bc, .slice pa pl.length pc])) R s) := by
    have hL3' := list_only hL3 hF3 ho4 (by omega)
    have far : ∀ (W : World) (ra : Option Addr) (rc : Nat) (qs : List Part) (B j : Nat) (v : Value), w.heap.size < B → Fresh B ra qs → ListAt W ra rc qs → ListAt (W.setCell ⟨w.heap.size, j, none⟩ v) ra rc qs := fun W ra rc qs B j v hB hF h => h.setCell hF _ _ _ hB
    refine ⟨ba, bc, bl, pa, pc, pl, rfl, hq3, hq4, ?_, ?_, ⟨fun sb so e => by have := hF3.row sb so e; omega, fun p hp sb so e => by have := hF3.each p hp sb so e; omega⟩, ⟨fun sb so e => by have := hF4.row sb so e; omega, fun p hp sb so e => by have := hF4.each p hp sb so e; omega⟩, (((hR4.far hlt).far hlt).far hlt).far hlt, ?_⟩
    · exact far _ _ _ _ _ _ _ (by omega) hF3 (far _ _ _ _ _ _ _ (by omega) hF3 (far _ _ _ _ _ _ _ (by omega) hF3 (far _ _ _ _ w2.heap.size _ _ (by omega) hF3 hL3')))
    · exact far _ _ _ _ _ _ _ (by omega) hF4 (far _ _ _ _ _ _ _ (by omega) hF4 (far _ _ _ _ _ _ _ (by omega) hF4 (far _ _ _ _ w3.heap.size _ _ (by omega) hF4 hL4)))
    · have hOw := (only_of_below (R := R) hA).trans hO
      refine ⟨hOw.os, hOw.tape, hOw.output, by simpa using hOw.size, fun k hk hn => ?_⟩
      exact (heap_setCell_other _ ⟨w.heap.size, 3, none⟩ k _ (by show k ≠ w.heap.size; omega)).trans ((heap_setCell_other _ ⟨w.heap.size, 2, none⟩ k _ (by show k ≠ w.heap.size; omega)).trans ((heap_setCell_other _ ⟨w.heap.size, 1, none⟩ k _ (by show k ≠ w.heap.size; omega)).trans ((heap_setCell_other _ ⟨w.heap.size, 0, none⟩ k _ (by show k ≠ w.heap.size; omega)).trans (hOw.block k hk hn))))
  clear hq3 hq4 hL3 hL4 hF3 hF4 hR3 hR4 hR1 hR2 hO ho1 ho2 ho3 ho4 p3 hsz2 hsz3
  go_wp2_with fail
  exact bodyPost_ret (v := .agg #[.int .i64 (nB 1 s), .int .i64 (nB 3 (nx 1 s)), .slice ba bl.length bc, .slice pa pl.length pc]) (by simp [results, Try.results66, go_sem, d0, d1, d2, d3]) rfl hX.out
end Go.Proofs.Ythpocgndgphedaa

namespace Go.Proofs.Ythpocgndgphedaa
open Go.RowKit

/-- So many numbers of one byte. -/
def nL (s : St) : Nat → St
  | 0 => s
  | k + 1 => nx 1 (nL s k)
def nV (s : St) : Nat → List Int
  | 0 => []
  | k + 1 => nV s k ++ [nB 1 (nL s k)]
set_option maxRecDepth 100000 in
theorem nL_good {s : St} (h : GoodS s) (k : Nat) : GoodS (nL s k) := by
  induction k with
  | zero => exact h
  | succ k ih => exact ih.nx
set_option maxRecDepth 100000 in
theorem nV_length (s : St) (k : Nat) : (nV s k).length = k := by
  induction k with
  | zero => rfl
  | succ k ih => simp [nV, ih]
set_option maxRecDepth 100000 in
theorem infoIntR : (Try.prog.info? 3).map (fun i => (i.zero, i.size, i.bytes)) = some (some (.int .i64 0), 1, 8) := by kernel_rfl
set_option maxRecDepth 100000 in
theorem only_of_drew {R : Nat} {w w' : World} (h : Only R w.drew w') : Only R w w' := ⟨h.os, h.tape, h.output, h.size, h.block⟩
def hS4 (s : St) : St := dgS (dgS (nx 3 (nx 1 s)))
def cN (s : St) : Nat := (nB 1 (hS4 s)).toNat
structure CertRd (w w' : World) (e : Ending) (R : Nat) (s : St) : Prop where
  out : ∃ ba bc bl pa pc pl va vc, e = .returned (.agg #[.int .i64 (nB 1 s), .int .i64 (nB 3 (nx 1 s)), .slice ba (List.length bl) bc, .slice pa (List.length pl) pc, .slice va (cN s) vc]) ∧ bl.map (·.bs) = dgs (nx 3 (nx 1 s)) ∧ pl.map (·.bs) = dgs (dgS (nx 3 (nx 1 s))) ∧ ListAt w' ba bc bl ∧ ListAt w' pa pc pl ∧ Fresh w.heap.size ba bl ∧ Fresh w.heap.size pa pl ∧ IntsAt w' va (nV (nx 1 (hS4 s)) (cN s)) ∧ (∀ sb so, va = some ⟨sb, so, none⟩ → w.heap.size ≤ sb) ∧ RdS w' R (nL (nx 1 (hS4 s)) (cN s)) ∧ Only R w w'
set_option maxRecDepth 100000 in
theorem ints_ownedR {w : World} {base n : Nat} {v : Value} {vl : List Int} (h : w.ownsRow base 3 1 v n (iv vl)) : ∃ va vc, v = .slice va n vc ∧ IntsAt w va vl ∧ ∀ sb so, va = some ⟨sb, so, none⟩ → base ≤ sb := by
  have hl : n = vl.length := by have := h.1; simp [iv] at this; omega
  have hlt := h.lt
  rcases h.2 with ⟨e, hn⟩ | ⟨g, cap, cur, e, hg, _⟩
  · exact ⟨none, 0, by rw [e, hn], ⟨.inl (List.eq_nil_of_length_eq_zero (by omega))⟩, fun _ _ e => by cases e⟩
  · subst e
    refine ⟨_, _, rfl, ⟨.inr ⟨g, 0, rfl, fun j hj => ?_⟩⟩, fun sb so e => by cases e; exact hg⟩
    rw [Nat.zero_add, World.ownsRow.cellAt h j (by omega)]
    simp [iv, hj]
set_option maxRecDepth 100000 in
theorem ints_only {R : Nat} {w w' : World} {va : Option Addr} {vl : List Int} (h : IntsAt w va vl) (ho : Only R w w') (hne : ∀ sb so, va = some ⟨sb, so, none⟩ → sb ≠ R) : IntsAt w' va vl := by
  refine ⟨?_⟩
  rcases h.cells with hb | ⟨sb, so, e, hc⟩
  · exact .inl hb
  · exact .inr ⟨sb, so, e, fun j hj => (World.cell?_of_block (ho.block sb (block_lt_of_cell (hc j hj)) (hne sb so e))).trans (hc j hj)⟩
set_option maxRecDepth 100000 in
set_option maxHeartbeats 4000000 in
theorem cert_rd (R : Nat) (s : St) (w : World) (hR : RdS w R s) (hs : GoodS s) :
    Calls Try.prog 68 #[.pointer (some ⟨R, 0, none⟩)] w fun e w' => CertRd w w' e R s := by
  obtain ⟨i, hi, hz0, hz1, hz2⟩ := info_parts infoIntR
  have hlt : R < w.heap.size := hR.lt
  have hA : Below w.heap.size w (w.alloc (.cells #[.int .i64 0, .int .i64 0, .slice none 0 0, .slice none 0 0, .slice none 0 0] 45)) := (Below.refl _ _).alloc (Nat.le_refl _) _
  have q0 := heap_alloc_new w (.cells #[.int .i64 0, .int .i64 0, .slice none 0 0, .slice none 0 0, .slice none 0 0] 45)
  have hsz : w.heap.size < (w.alloc (.cells #[.int .i64 0, .int .i64 0, .slice none 0 0, .slice none 0 0, .slice none 0 0] 45)).heap.size := lt_of_heap q0
  have hg4 : GoodS (hS4 s) := GoodS.dgS (GoodS.dgS hs.nx.nx)
  obtain ⟨hb0, hb1⟩ := numB1_bounds (l := (hS4 s).1) (sh := (hS4 s).2) hg4.u8
  have hNI : Hid (((cN s : Nat) : Int) = nB 1 (hS4 s)) := by show _ = _; show ((numB (tkT 1 (hS4 s).1 (hS4 s).2)).toNat : Int) = numB (tkT 1 (hS4 s).1 (hS4 s).2); omega
  have hN255 : cN s ≤ 255 := by show (numB (tkT 1 (hS4 s).1 (hS4 s).2)).toNat ≤ 255; omega
  clear hb0 hb1
  go_enter Try.func68, Try.ntmps68
  go_wp2_with fail
  generalize w.alloc (.cells #[.int .i64 0, .int .i64 0, .slice none 0 0, .slice none 0 0, .slice none 0 0] 45) = W0 at hA q0 hsz ⊢
  refine (header_rd R s W0 (RdrAt.below hR hA) hs).mono ?_
  rintro e w1 ⟨ba, bc, bl, pa, pc, pl, he, hq1, hq2, hL1, hL2, hF1, hF2, hR1, ho1⟩
  subst he
  dsimp only
  have p0 := (ho1.block _ hsz (by omega)).trans q0
  have hOw1 := (only_of_below (R := R) hA).trans ho1
  have hlt1 : w.heap.size < w1.heap.size := lt_of_heap p0
  generalize hAU' : nB 1 s = AU at *
  generalize hRD' : nB 3 (nx 1 s) = RD at *
  have hAU : Hid (nB 1 s = AU) := hAU'
  have hRD : Hid (nB 3 (nx 1 s) = RD) := hRD'
  clear hAU' hRD'
  go_upto_region 2 with fail
  have hA1 : Below w1.heap.size w1 (w1.alloc (.cells #[.int .i64 AU, .int .i64 RD, .slice ba bl.length bc, .slice pa pl.length pc, .slice none 0 0] 45)) := (Below.refl _ _).alloc (Nat.le_refl _) _
  have qC := heap_alloc_new w1 (.cells #[.int .i64 AU, .int .i64 RD, .slice ba bl.length bc, .slice pa pl.length pc, .slice none 0 0] 45)
  have hszC : w1.heap.size < (w1.alloc (.cells #[.int .i64 AU, .int .i64 RD, .slice ba bl.length bc, .slice pa pl.length pc, .slice none 0 0] 45)).heap.size := lt_of_heap qC
  generalize hCB : w1.heap.size = CB at qC hszC ⊢
  generalize w1.alloc (.cells #[.int .i64 AU, .int .i64 RD, .slice ba bl.length bc, .slice pa pl.length pc, .slice none 0 0] 45) = W1 at hA1 qC hszC ⊢
  have HCB : Hid (w1.heap.size = CB) := hCB
  have hRCB : R < CB := by omega
  have hwCB : w.heap.size < CB := by omega
  clear hCB
  have hN := number_st R 1 (hS4 s) W1 (RdrAt.below hR1 hA1) hg4 (by omega)
  rw [← hNI.out] at hN
  go_wp2_with fail
  refine hN.mono ?_
  rintro e w2 ⟨he, hR2, ho2⟩
  subst he
  dsimp only
  clear hN
  have p2 := (ho2.block _ hszC (by omega)).trans qC
  have hO12 : Only R w1 w2 := (only_of_below hA1).trans ho2
  have hg5 : GoodS (nx 1 (hS4 s)) := hg4.nx
  generalize hs5 : nx 1 (hS4 s) = s5 at *
  generalize hcn : cN s = N at *
  have HS5 : Hid (nx 1 (hS4 s) = s5) := hs5
  have HK : Hid (cN s = N) := hcn
  clear hs5 hcn
  go_upto_region 3 with fail
  go_loopw [9] (fun j wr => ∃ (k : Nat) (tv : Value), k ≤ N ∧ j = .int .i64 k ∧ wr.ownsRow W1.heap.size 3 1 tv k (iv (nV s5 k)) ∧ wr.heap[CB]? = some (.cells #[.int .i64 AU, .int .i64 RD, .slice ba bl.length bc, .slice pa pl.length pc, tv] 45 (0, 0)) ∧ RdS wr R (nL s5 k) ∧ Only R w1 wr ∧ W1.heap.size ≤ wr.heap.size) (fun j _ => N - (intOf j).toNat)
  case atStart => exact ⟨0, .slice none 0 0, Nat.zero_le _, rfl, World.ownsRow_nil _ _ _ _, p2, hR2, hO12, ho2.size⟩
  case round =>
    obtain ⟨k, tv, hk, rfl, ho, r0, hRk, hok, hszk⟩ := hrel
    by_cases hltk : k < N
    · have hltI : (k : Int) < N := by omega
      have hNk := number_st R 1 (nL s5 k) wr.drew (RdrAt.below hRk ((Below.refl _ _).drew)) (nL_good hg5 k) (by omega)
      have hst : Hid (nV s5 (k + 1) = nV s5 k ++ [nB 1 (nL s5 k)]) := rfl
      have hst2 : Hid (nL s5 (k + 1) = nx 1 (nL s5 k)) := rfl
      have hE2 : Hid (∀ args w, (callFunc 64 args).run Try.prog w = .ok (.enter 64 args) w) := enters_of Try.func64 (by kernel_rfl) rfl
      have hCBlt : CB < wr.heap.size := lt_of_heap r0
      have hneC : CB ≠ R := by omega
      have c4 : wr.cell? ⟨CB, 4, none⟩ = some tv := cells_at r0 4 _ rfl
      have c4d : wr.drew.cell? ⟨CB, 4, none⟩ = some tv := c4
      generalize nB 1 (nL s5 k) = X at *
      generalize nx 1 (nL s5 k) = s6 at *
      have HNk : Hid _ := hNk
      have hvC : tv.ownBlock ≠ some CB := fun e => by have := (ho.lt _ e).1; omega
      go_wp2_with fail
      go_region_law (first
        | (refine step_calls rfl 64 _ _ rfl [.pointer (some ⟨R, 0, none⟩), .int .i64 1] rfl hE2.out (fun u w9 => u = .int .i64 X ∧ RdS w9 R s6 ∧ Only R wr w9) (hNk.mono (fun e w9 ⟨he, h1, h2⟩ => ⟨_, he, rfl, h1, only_of_drew h2⟩)) ?_; rintro u w5 ⟨rfl, hR5, ho5⟩; have v5 := (ho5.block _ hCBlt hneC).trans r0; have d4 : w5.cell? ⟨CB, 4, none⟩ = some tv := cells_at v5 4 _ rfl; have d4a : (w5.alloc (.cells #[.int .i64 X] 3)).cell? ⟨CB, 4, none⟩ = some tv := cells_at (heap_keep v5) 4 _ rfl; have hob := owns_only ho ho5 (by omega); have hw5 : W1.heap.size ≤ w5.heap.size := Nat.le_trans hszk ho5.size)
        | (refine step_append_at rfl _ _ 43 rfl W1.heap.size 3 i (.int .i64 0) 1 8 Try.underlying43 hi hz0 hz1 hz2 rfl (by decide) tv k (iv (nV s5 k)) rfl (World.ownsRow.alloc hob _) ⟨w5.heap.size, 0, none⟩ 1 1 [.int .i64 X] rfl rfl (cells_new _ _ _) (by intro u hu; simp at hu; subst hu; rfl) (by unfold maxLen; omega) (by omega) (le_alloc hw5 _) ?_; intro v6 w6 ho6 G6; have x5 := G6.row (heap_keep v5) hvC; have xd4 := cells_at x5 4 _ rfl; have xf4 := frozen_at x5 4; obtain ⟨fa, fc, hvf⟩ := owns_shape ho6; subst hvf))
      all_goals
        have hG := G6.grown
        have hb5 : Below w5.heap.size w5 (w5.alloc (.cells #[.int .i64 X] 3)) := (Below.refl _ _).alloc (Nat.le_refl _) _
        have hOw5 := hok.trans ho5
        have hvlt : ∀ q, tv.ownBlock = some q → W1.heap.size ≤ q := fun q e => (ho.lt q e).1
        have ho6' := ownsRow_base' ho6 (Nat.le_refl _)
        have hO6 : Only R w1 w6 := by
          refine ⟨hG.os.trans hOw5.os, hG.tape.trans hOw5.tape, hG.output.trans hOw5.output, Nat.le_trans hOw5.size (Nat.le_trans hb5.size hG.size), fun q hq hn => ?_⟩
          have := HCB.out
          exact (hG.block q (by have := hb5.size; have := hOw5.size; omega) (fun e => by have := hvlt q e.symm; omega)).trans ((hb5.block q (by have := hOw5.size; omega)).trans (hOw5.block q hq hn))
        have hR6 : RdS w6 R s6 := (hR5.below hb5).stays (fun q hq => hG.block q (by have := hb5.size; have := hR5.lt; omega) (fun e => by have := hvlt q e.symm; omega))
        go_wp2_with fail
        go_roundw
        case rel =>
          refine ⟨k + 1, .slice fa (k + 1) fc, by omega, by go_num, ?_, by simpa using heap_setCell_same _ _ 4 _ _ (.slice fa (k + 1) fc) x5, ?_, ?_, ?_⟩
          · rw [hst.out]
            have h := owns_far ho6' CB 4 (.slice fa (k + 1) fc) hszC
            simpa [iv] using h
          · rw [hst2.out]
            exact RdrAt.far hR6 hRCB
          · have := HCB.out
            exact ⟨hO6.os, hO6.tape, hO6.output, by simpa using hO6.size, fun q hq hn => (heap_setCell_other _ ⟨CB, 4, none⟩ q _ (by show q ≠ CB; omega)).trans (hO6.block q hq hn)⟩
          · have := hb5.size
            have := hG.size
            simp
            omega
        case measure => simp [intOf]; omega
    · obtain rfl : k = N := by omega
      have hltI : ¬ (k : Int) < k := by omega
      have hL1k := list_only hL1 hF1 hok (by omega)
      have hL2k := list_only hL2 hF2 hok (by omega)
      obtain ⟨va, vc, hv, hI, hfv⟩ := ints_ownedR ho
      subst hv
      have z0 := (hok.block _ hlt1 (by omega)).trans p0
      have hOw := hOw1.trans hok
      have c0 := cells_at r0 0 _ rfl
      have c1 := cells_at r0 1 _ rfl
      have c2 := cells_at r0 2 _ rfl
      have c3 := cells_at r0 3 _ rfl
      have c4 := cells_at r0 4 _ rfl
      have d0 := cells_at z0 0 _ rfl
      have d1 := cells_at z0 1 _ rfl
      have d2 := cells_at z0 2 _ rfl
      have d3 := cells_at z0 3 _ rfl
      have d4 := cells_at z0 4 _ rfl
      have f0 := frozen_at z0 0
      have f1 := frozen_at z0 1
      have f2 := frozen_at z0 2
      have f3 := frozen_at z0 3
      have f4 := frozen_at z0 4
      have HAU : Hid (nB 1 s = AU ∧ nB 3 (nx 1 s) = RD ∧ cN s = k ∧ nx 1 (hS4 s) = s5) := ⟨hAU.out, hRD.out, HK.out, HS5.out⟩
      have hX : Hid (CertRd w (((((wr.setCell ⟨w.heap.size, 0, none⟩ (.int .i64 AU)).setCell ⟨w.heap.size, 1, none⟩ (.int .i64 RD)).setCell ⟨w.heap.size, 2, none⟩ (.slice ba bl.length bc)).setCell ⟨w.heap.size, 3, none⟩ (.slice pa pl.length pc)).setCell ⟨w.heap.size, 4, none⟩ (.slice va k vc)) (.returned (.agg #[.int .i64 AU, .int .i64 RD, .slice ba bl.length bc, .slice pa pl.length pc, .slice va k vc])) R s) := by
        have far : ∀ (W : World) (ra : Option Addr) (rc : Nat) (qs : List Part) (j : Nat) (v : Value), Fresh W0.heap.size ra qs → ListAt W ra rc qs → ListAt (W.setCell ⟨w.heap.size, j, none⟩ v) ra rc qs := fun W ra rc qs j v hF h => h.setCell hF _ _ _ hsz
        have farI : ∀ (W : World) (j : Nat) (v : Value), IntsAt W va (nV s5 k) → IntsAt (W.setCell ⟨w.heap.size, j, none⟩ v) va (nV s5 k) := fun W j v h => ints_only (R := w.heap.size) h ((Only.refl _ W).setCell) (fun sb so e e2 => by have := hfv sb so e; omega)
        refine ⟨ba, bc, bl, pa, pc, pl, va, vc, ?_, hq1, hq2, ?_, ?_, ⟨fun sb so e => by have := hF1.row sb so e; omega, fun p hp sb so e => by have := hF1.each p hp sb so e; omega⟩, ⟨fun sb so e => by have := hF2.row sb so e; omega, fun p hp sb so e => by have := hF2.each p hp sb so e; omega⟩, ?_, fun sb so e => by have := hfv sb so e; omega, ?_, ?_⟩
        · rw [HAU.out.1, HAU.out.2.1, HAU.out.2.2.1]
        · exact far _ _ _ _ _ _ hF1 (far _ _ _ _ _ _ hF1 (far _ _ _ _ _ _ hF1 (far _ _ _ _ _ _ hF1 (far _ _ _ _ _ _ hF1 (hL1k)))))
        · exact far _ _ _ _ _ _ hF2 (far _ _ _ _ _ _ hF2 (far _ _ _ _ _ _ hF2 (far _ _ _ _ _ _ hF2 (far _ _ _ _ _ _ hF2 (hL2k)))))
        · rw [HAU.out.2.2.1, HAU.out.2.2.2]
          exact farI _ _ _ (farI _ _ _ (farI _ _ _ (farI _ _ _ (farI _ _ _ (hI)))))
        · rw [HAU.out.2.2.1, HAU.out.2.2.2]
          exact RdrAt.far (RdrAt.far (RdrAt.far (RdrAt.far (RdrAt.far (hRk) hlt) hlt) hlt) hlt) hlt
        · exact ⟨hOw.os, hOw.tape, hOw.output, by simpa using hOw.size, fun q hq hn => ((heap_setCell_other _ ⟨w.heap.size, 4, none⟩ q _ (by show q ≠ w.heap.size; omega)).trans ((heap_setCell_other _ ⟨w.heap.size, 3, none⟩ q _ (by show q ≠ w.heap.size; omega)).trans ((heap_setCell_other _ ⟨w.heap.size, 2, none⟩ q _ (by show q ≠ w.heap.size; omega)).trans ((heap_setCell_other _ ⟨w.heap.size, 1, none⟩ q _ (by show q ≠ w.heap.size; omega)).trans ((heap_setCell_other _ ⟨w.heap.size, 0, none⟩ q _ (by show q ≠ w.heap.size; omega)).trans (hOw.block q hq hn))))))⟩
      clear hq1 hq2 hL1 hL2 hF1 hF2 hL1k hL2k hI hfv hRk hok hOw hOw1 ho z0 r0
      go_wp2_with fail
      exact bodyPost_ret (v := .agg #[.int .i64 AU, .int .i64 RD, .slice ba bl.length bc, .slice pa pl.length pc, .slice va k vc]) (by simp [results, Try.results68, go_sem, d0, d1, d2, d3, d4]) rfl hX.out
end Go.Proofs.Ythpocgndgphedaa

namespace Go.Proofs.Ythpocgndgphedaa
open Go.RowKit

set_option maxRecDepth 100000 in
theorem bstr_size (bs : List Int) : (bstr bs).size = bs.length := by
  have h := congrArg List.length (bstr_data bs)
  simpa using h
/-- So many texts, each behind its length. -/
def bL (s : St) : Nat → St
  | 0 => s
  | k + 1 => nx (nB 1 (bL s k)).toNat (nx 1 (bL s k))
def bT (s : St) : Nat → List ByteArray
  | 0 => []
  | k + 1 => bT s k ++ [bstr (tT (nB 1 (bL s k)).toNat (nx 1 (bL s k)))]
set_option maxRecDepth 100000 in
theorem bL_good {s : St} (h : GoodS s) (k : Nat) : GoodS (bL s k) := by
  induction k with
  | zero => exact h
  | succ k ih => exact ih.nx.nx
set_option maxRecDepth 100000 in
theorem bT_length (s : St) (k : Nat) : (bT s k).length = k := by
  induction k with
  | zero => rfl
  | succ k ih => simp [bT, ih]
set_option maxRecDepth 100000 in
theorem nB1_bounds {s : St} (h : GoodS s) : 0 ≤ nB 1 s ∧ nB 1 s ≤ 255 := numB1_bounds h.u8
set_option maxRecDepth 100000 in
theorem bT_size {s : St} (h : GoodS s) (k : Nat) : ∀ t ∈ bT s k, t.size ≤ maxLen := by
  induction k with
  | zero => intro t ht; cases ht
  | succ k ih =>
    intro t ht
    rcases List.mem_append.1 ht with ht | ht
    · exact ih t ht
    · obtain rfl : t = _ := by simpa using ht
      rw [bstr_size]
      have h1 := tkT_len (n := (nB 1 (bL s k)).toNat) (l := (nx 1 (bL s k)).1) (sh := (nx 1 (bL s k)).2)
      have h2 := nB1_bounds (bL_good h k)
      unfold maxLen
      show (tkT _ _ _).length ≤ _
      omega
def bS3 (s : St) : St := nx 3 (nx 1 s)
def bN (s : St) : Nat := (nB 1 (bS3 s)).toNat
structure BatchRd (w w' : World) (e : Ending) (R : Nat) (s : St) : Prop where
  out : ∃ ta tc, e = .returned (.agg #[.int .i64 (nB 1 s), .int .i64 (nB 3 (nx 1 s)), .slice ta (bN s) tc]) ∧ StrsAt w' ta (bT (nx 1 (bS3 s)) (bN s)) ∧ (∀ sb so, ta = some ⟨sb, so, none⟩ → w.heap.size ≤ sb) ∧ RdS w' R (bL (nx 1 (bS3 s)) (bN s)) ∧ Only R w w'
set_option maxRecDepth 100000 in
theorem strs_only {R : Nat} {w w' : World} {va : Option Addr} {ss : List ByteArray} (h : StrsAt w va ss) (ho : Only R w w') (hne : ∀ sb so, va = some ⟨sb, so, none⟩ → sb ≠ R) : StrsAt w' va ss := by
  refine ⟨?_, h.size⟩
  rcases h.cells with hb | ⟨sb, so, e, hc⟩
  · exact .inl hb
  · exact .inr ⟨sb, so, e, fun j hj => (World.cell?_of_block (ho.block sb (block_lt_of_cell (hc j hj)) (hne sb so e))).trans (hc j hj)⟩
set_option maxRecDepth 100000 in
set_option maxHeartbeats 4000000 in
theorem batch_rd (R : Nat) (s : St) (w : World) (hR : RdS w R s) (hs : GoodS s) :
    Calls Try.prog 65 #[.pointer (some ⟨R, 0, none⟩)] w fun e w' => BatchRd w w' e R s := by
  obtain ⟨i, hi, hz0, hz1, hz2⟩ := info_parts infoStr
  have hlt : R < w.heap.size := hR.lt
  have hA : Below w.heap.size w (w.alloc (.cells #[.int .i64 0, .int .i64 0, .slice none 0 0] 37)) := (Below.refl _ _).alloc (Nat.le_refl _) _
  have q0 := heap_alloc_new w (.cells #[.int .i64 0, .int .i64 0, .slice none 0 0] 37)
  have hsz : w.heap.size < (w.alloc (.cells #[.int .i64 0, .int .i64 0, .slice none 0 0] 37)).heap.size := lt_of_heap q0
  have hg3 : GoodS (bS3 s) := hs.nx.nx
  obtain ⟨hb0, hb1⟩ := nB1_bounds hg3
  have hNI : Hid (((bN s : Nat) : Int) = nB 1 (bS3 s)) := by show _ = _; show ((nB 1 (bS3 s)).toNat : Int) = _; omega
  have hN255 : bN s ≤ 255 := by show (nB 1 (bS3 s)).toNat ≤ 255; omega
  clear hb0 hb1
  go_enter Try.func65, Try.ntmps65
  go_wp2_with fail
  generalize w.alloc (.cells #[.int .i64 0, .int .i64 0, .slice none 0 0] 37) = W0 at hA q0 hsz ⊢
  refine (number_st R 1 s W0 (RdrAt.below hR hA) hs (by omega)).mono ?_
  rintro e w0 ⟨he, hR0, ho0⟩
  subst he
  dsimp only
  go_wp2_with fail
  refine (round_st R _ w0 hR0 hs.nx).mono ?_
  rintro e w1 ⟨he, hR1, ho1'⟩
  subst he
  dsimp only
  have ho1 := ho0.trans ho1'
  have p0 := (ho1.block _ hsz (by omega)).trans q0
  have hOw1 := (only_of_below (R := R) hA).trans ho1
  have hlt1 : w.heap.size < w1.heap.size := lt_of_heap p0
  generalize hAU' : nB 1 s = AU at *
  generalize hRD' : nB 3 (nx 1 s) = RD at *
  have hAU : Hid (nB 1 s = AU) := hAU'
  have hRD : Hid (nB 3 (nx 1 s) = RD) := hRD'
  clear hAU' hRD'
  go_upto_region 2 with fail
  have hA1 : Below w1.heap.size w1 (w1.alloc (.cells #[.int .i64 AU, .int .i64 RD, .slice none 0 0] 37)) := (Below.refl _ _).alloc (Nat.le_refl _) _
  have qC := heap_alloc_new w1 (.cells #[.int .i64 AU, .int .i64 RD, .slice none 0 0] 37)
  have hszC : w1.heap.size < (w1.alloc (.cells #[.int .i64 AU, .int .i64 RD, .slice none 0 0] 37)).heap.size := lt_of_heap qC
  generalize hCB : w1.heap.size = CB at qC hszC ⊢
  generalize w1.alloc (.cells #[.int .i64 AU, .int .i64 RD, .slice none 0 0] 37) = W1 at hA1 qC hszC ⊢
  have HCB : Hid (w1.heap.size = CB) := hCB
  have hRCB : R < CB := by omega
  have hwCB : w.heap.size < CB := by omega
  clear hCB
  have hN := number_st R 1 (bS3 s) W1 (RdrAt.below hR1 hA1) hg3 (by omega)
  rw [← hNI.out] at hN
  go_wp2_with fail
  refine hN.mono ?_
  rintro e w2 ⟨he, hR2, ho2⟩
  subst he
  dsimp only
  clear hN
  have p2 := (ho2.block _ hszC (by omega)).trans qC
  have hO12 : Only R w1 w2 := (only_of_below hA1).trans ho2
  have hg5 : GoodS (nx 1 (bS3 s)) := hg3.nx
  generalize hs5 : nx 1 (bS3 s) = s5 at *
  generalize hcn : bN s = N at *
  have HS5 : Hid (nx 1 (bS3 s) = s5) := hs5
  have HK : Hid (bN s = N) := hcn
  clear hs5 hcn
  go_upto_region 3 with fail
  go_loopw [11] (fun j wr => ∃ (k : Nat) (tv : Value), k ≤ N ∧ j = .int .i64 k ∧ wr.ownsRow W1.heap.size 9 1 tv k (sv (bT s5 k)) ∧ wr.heap[CB]? = some (.cells #[.int .i64 AU, .int .i64 RD, tv] 37 (0, 0)) ∧ RdS wr R (bL s5 k) ∧ Only R w1 wr ∧ W1.heap.size ≤ wr.heap.size) (fun j _ => N - (intOf j).toNat)
  case atStart => exact ⟨0, .slice none 0 0, Nat.zero_le _, rfl, World.ownsRow_nil _ _ _ _, p2, hR2, hO12, ho2.size⟩
  case round =>
    obtain ⟨k, tv, hk, rfl, ho, r0, hRk, hok, hszk⟩ := hrel
    by_cases hltk : k < N
    · have hltI : (k : Int) < N := by omega
      have hgk := bL_good hg5 k
      have hNk := number_st R 1 (bL s5 k) wr.drew (RdrAt.below hRk ((Below.refl _ _).drew)) hgk (by omega)
      obtain ⟨hx0, hx1⟩ := nB1_bounds hgk
      have hst : Hid (bT s5 (k + 1) = bT s5 k ++ [bstr (tT (nB 1 (bL s5 k)).toNat (nx 1 (bL s5 k)))]) := rfl
      have hst2 : Hid (bL s5 (k + 1) = nx (nB 1 (bL s5 k)).toNat (nx 1 (bL s5 k))) := rfl
      have HTk : Hid (∀ W : World, RdS W R (nx 1 (bL s5 k)) → Calls Try.prog 72 #[.pointer (some ⟨R, 0, none⟩), .int .i64 (nB 1 (bL s5 k))] W fun e w' => TakeIs W w' e R (tT (nB 1 (bL s5 k)).toNat (nx 1 (bL s5 k))) (nx (nB 1 (bL s5 k)).toNat (nx 1 (bL s5 k))).1 (nx (nB 1 (bL s5 k)).toNat (nx 1 (bL s5 k))).2) := by
        show ∀ _, _
        intro W hW
        have h := take_any R (nB 1 (bL s5 k)).toNat (nx 1 (bL s5 k)).1 (nx 1 (bL s5 k)).2 W hW hgk.nx.len (by omega)
        rw [show (((nB 1 (bL s5 k)).toNat : Nat) : Int) = nB 1 (bL s5 k) by omega] at h
        exact h
      have hE2 : Hid (∀ args w, (callFunc 64 args).run Try.prog w = .ok (.enter 64 args) w) := enters_of Try.func64 (by kernel_rfl) rfl
      have hE3 : Hid (∀ args w, (callFunc 72 args).run Try.prog w = .ok (.enter 72 args) w) := enters_of Try.func72 (by kernel_rfl) rfl
      have hCBlt : CB < wr.heap.size := lt_of_heap r0
      have hneC : CB ≠ R := by omega
      have c4 : wr.cell? ⟨CB, 2, none⟩ = some tv := cells_at r0 2 _ rfl
      have c4d : wr.drew.cell? ⟨CB, 2, none⟩ = some tv := c4
      generalize tT (nB 1 (bL s5 k)).toNat (nx 1 (bL s5 k)) = TX at *
      generalize nx (nB 1 (bL s5 k)).toNat (nx 1 (bL s5 k)) = s7 at *
      generalize nB 1 (bL s5 k) = X at *
      generalize nx 1 (bL s5 k) = s6 at *
      have hvC : tv.ownBlock ≠ some CB := fun e => by have := (ho.lt _ e).1; omega
      go_wp2_with fail
      go_region_law (first
        | (refine step_calls rfl 64 _ _ rfl [.pointer (some ⟨R, 0, none⟩), .int .i64 1] rfl hE2.out (fun u w9 => u = .int .i64 X ∧ RdS w9 R s6 ∧ Only R wr w9) (hNk.mono (fun e w9 ⟨he, h1, h2⟩ => ⟨_, he, rfl, h1, only_of_drew h2⟩)) ?_; rintro u w4 ⟨rfl, hR4, ho4⟩; have v4 := (ho4.block _ hCBlt hneC).trans r0; have b4 : w4.cell? ⟨CB, 2, none⟩ = some tv := cells_at v4 2 _ rfl)
        | (refine step_calls rfl 72 _ _ rfl [.pointer (some ⟨R, 0, none⟩), .int .i64 X] rfl hE3.out (fun u w9 => ∃ ta tc, u = .slice ta TX.length tc ∧ SliceAt w9 ta tc TX ∧ RdS w9 R s7 ∧ Only R w4 w9) ((HTk.out w4 hR4).mono (fun e w9 h => by obtain ⟨ta, tc, he, h1, _, h2, h3⟩ := h.out; exact ⟨_, he, ta, tc, rfl, h1, h2, h3⟩)) ?_; rintro u w5 ⟨ta, tc, rfl, hs5', hR5, ho5'⟩; have ho5 := ho4.trans ho5'; have v5 := (ho5.block _ hCBlt hneC).trans r0; have d4 : w5.cell? ⟨CB, 2, none⟩ = some tv := cells_at v5 2 _ rfl; have d4a : (w5.alloc (.cells #[.string (bstr TX)] 9)).cell? ⟨CB, 2, none⟩ = some tv := cells_at (heap_keep v5) 2 _ rfl; have hob := owns_only ho ho5 (by omega); have hw5 : W1.heap.size ≤ w5.heap.size := Nat.le_trans hszk ho5.size; have htx := run_text w5 ta _ tc TX rfl hs5')
        | (refine step_append_at rfl _ _ 35 rfl W1.heap.size 9 i (.string ByteArray.empty) 1 16 Try.underlying35 hi hz0 hz1 hz2 rfl (by decide) tv k (sv (bT s5 k)) rfl (World.ownsRow.alloc hob _) ⟨w5.heap.size, 0, none⟩ 1 1 [.string (bstr TX)] rfl rfl (cells_new _ _ _) (by intro u hu; simp at hu; subst hu; rfl) (by unfold maxLen; omega) (by omega) (le_alloc hw5 _) ?_; intro v6 w6 ho6 G6; have x5 := G6.row (heap_keep v5) hvC; have xd4 := cells_at x5 2 _ rfl; have xf4 := frozen_at x5 2; obtain ⟨fa, fc, hvf⟩ := owns_shape ho6; subst hvf))
      all_goals
        have hG := G6.grown
        have hb5 : Below w5.heap.size w5 (w5.alloc (.cells #[.string (bstr TX)] 9)) := (Below.refl _ _).alloc (Nat.le_refl _) _
        have hOw5 := hok.trans ho5
        have hvlt : ∀ q, tv.ownBlock = some q → W1.heap.size ≤ q := fun q e => (ho.lt q e).1
        have hO6 : Only R w1 w6 := by
          refine ⟨hG.os.trans hOw5.os, hG.tape.trans hOw5.tape, hG.output.trans hOw5.output, Nat.le_trans hOw5.size (Nat.le_trans hb5.size hG.size), fun q hq hn => ?_⟩
          have := HCB.out
          exact (hG.block q (by have := hb5.size; have := hOw5.size; omega) (fun e => by have := hvlt q e.symm; omega)).trans ((hb5.block q (by have := hOw5.size; omega)).trans (hOw5.block q hq hn))
        have hR6 : RdS w6 R s7 := (RdrAt.below hR5 hb5).stays (fun q hq => hG.block q (by have := hb5.size; have := RdrAt.lt hR5; omega) (fun e => by have := hvlt q e.symm; omega))
        go_wp2_with fail
        go_roundw
        case rel =>
          refine ⟨k + 1, .slice fa (k + 1) fc, by omega, by go_num, ?_, by simpa using heap_setCell_same _ _ 2 _ _ (.slice fa (k + 1) fc) x5, ?_, ?_, ?_⟩
          · rw [hst.out]
            have h := owns_far ho6 CB 2 (.slice fa (k + 1) fc) hszC
            simpa [sv] using h
          · rw [hst2.out]
            exact RdrAt.far hR6 hRCB
          · have := HCB.out
            exact ⟨hO6.os, hO6.tape, hO6.output, by simpa using hO6.size, fun q hq hn => (heap_setCell_other _ ⟨CB, 2, none⟩ q _ (by show q ≠ CB; omega)).trans (hO6.block q hq hn)⟩
          · have := hb5.size
            have := hG.size
            simp
            omega
        case measure => simp [intOf]; omega
    · obtain rfl : k = N := by omega
      have hltI : ¬ (k : Int) < k := by omega
      obtain ⟨va, vc, hv, -, hI, hfv⟩ := strsAt_of_owns ho (bT_size hg5 k)
      subst hv
      have z0 := (hok.block _ hlt1 (by omega)).trans p0
      have hOw := hOw1.trans hok
      have c0 := cells_at r0 0 _ rfl
      have c1 := cells_at r0 1 _ rfl
      have c2 := cells_at r0 2 _ rfl
      have d0 := cells_at z0 0 _ rfl
      have d1 := cells_at z0 1 _ rfl
      have d2 := cells_at z0 2 _ rfl
      have f0 := frozen_at z0 0
      have f1 := frozen_at z0 1
      have f2 := frozen_at z0 2
      have HAU : Hid (nB 1 s = AU ∧ nB 3 (nx 1 s) = RD ∧ bN s = k ∧ nx 1 (bS3 s) = s5) := ⟨hAU.out, hRD.out, HK.out, HS5.out⟩
      have hX : Hid (BatchRd w (((wr.setCell ⟨w.heap.size, 0, none⟩ (.int .i64 AU)).setCell ⟨w.heap.size, 1, none⟩ (.int .i64 RD)).setCell ⟨w.heap.size, 2, none⟩ (.slice va k vc)) (.returned (.agg #[.int .i64 AU, .int .i64 RD, .slice va k vc])) R s) := by
        have farI : ∀ (W : World) (j : Nat) (v : Value), StrsAt W va (bT s5 k) → StrsAt (W.setCell ⟨w.heap.size, j, none⟩ v) va (bT s5 k) := fun W j v h => strs_only (R := w.heap.size) h ((Only.refl _ W).setCell) (fun sb so e e2 => by have := hfv sb so e; omega)
        refine ⟨va, vc, ?_, ?_, fun sb so e => by have := hfv sb so e; omega, ?_, ?_⟩
        · rw [HAU.out.1, HAU.out.2.1, HAU.out.2.2.1]
        · rw [HAU.out.2.2.1, HAU.out.2.2.2]
          exact farI _ _ _ (farI _ _ _ (farI _ _ _ hI))
        · rw [HAU.out.2.2.1, HAU.out.2.2.2]
          exact RdrAt.far (RdrAt.far (RdrAt.far hRk hlt) hlt) hlt
        · exact ⟨hOw.os, hOw.tape, hOw.output, by simpa using hOw.size, fun q hq hn => (heap_setCell_other _ ⟨w.heap.size, 2, none⟩ q _ (by show q ≠ w.heap.size; omega)).trans ((heap_setCell_other _ ⟨w.heap.size, 1, none⟩ q _ (by show q ≠ w.heap.size; omega)).trans ((heap_setCell_other _ ⟨w.heap.size, 0, none⟩ q _ (by show q ≠ w.heap.size; omega)).trans (hOw.block q hq hn)))⟩
      clear hI hfv hRk hok hOw hOw1 ho z0 r0
      go_wp2_with fail
      exact bodyPost_ret (v := .agg #[.int .i64 AU, .int .i64 RD, .slice va k vc]) (by simp [results, Try.results65, go_sem, d0, d1, d2]) rfl hX.out
end Go.Proofs.Ythpocgndgphedaa

namespace Go.Proofs.Ythpocgndgphedaa
open Go.RowKit

/-- What a message says. -/
structure MC where
  (fr tt ki bau bnu : Int) (ss : List ByteArray) (hau hrd : Int) (bl pl : List (List Int)) (sau srd : Int) (ds : List Int) (cau crd : Int) (cbl cpl : List (List Int)) (vl : List Int) (ro : Int)
def MV.c (x : MV) : MC := ⟨x.m.fr, x.m.tt, x.m.ki, x.m.bau, x.m.bnu, x.ss, x.m.hau, x.m.hrd, x.bl.map (·.bs), x.pl.map (·.bs), x.m.sau, x.m.srd, x.ds, x.m.cau, x.m.crd, x.cbl.map (·.bs), x.cpl.map (·.bs), x.vl, x.m.ro⟩
/-- The message that bytes tell, by its kind. -/
def pM (s : St) : MC :=
  if nB 1 s = 1 then ⟨nB 1 (nx 1 s), nB 1 (nx 1 (nx 1 s)), nB 1 s, nB 1 (nx 1 (nx 1 (nx 1 s))), nB 3 (nx 1 (nx 1 (nx 1 (nx 1 s)))), bT (nx 1 (bS3 (nx 1 (nx 1 (nx 1 s))))) (bN (nx 1 (nx 1 (nx 1 s)))), 0, 0, [], [], 0, 0, [], 0, 0, [], [], [], 0⟩
  else if nB 1 s = 2 then ⟨nB 1 (nx 1 s), nB 1 (nx 1 (nx 1 s)), nB 1 s, 0, 0, [], nB 1 (nx 1 (nx 1 (nx 1 s))), nB 3 (nx 1 (nx 1 (nx 1 (nx 1 s)))), dgs (nx 3 (nx 1 (nx 1 (nx 1 (nx 1 s))))), dgs (dgS (nx 3 (nx 1 (nx 1 (nx 1 (nx 1 s)))))), 0, 0, [], 0, 0, [], [], [], 0⟩
  else if nB 1 s = 3 then ⟨nB 1 (nx 1 s), nB 1 (nx 1 (nx 1 s)), nB 1 s, 0, 0, [], 0, 0, [], [], nB 1 (nx 1 (nx 1 (nx 1 s))), nB 3 (nx 1 (nx 1 (nx 1 (nx 1 s)))), tT 32 (nx 3 (nx 1 (nx 1 (nx 1 (nx 1 s))))), 0, 0, [], [], [], 0⟩
  else if nB 1 s = 4 then ⟨nB 1 (nx 1 s), nB 1 (nx 1 (nx 1 s)), nB 1 s, 0, 0, [], 0, 0, [], [], 0, 0, [], nB 1 (nx 1 (nx 1 (nx 1 s))), nB 3 (nx 1 (nx 1 (nx 1 (nx 1 s)))), dgs (nx 3 (nx 1 (nx 1 (nx 1 (nx 1 s))))), dgs (dgS (nx 3 (nx 1 (nx 1 (nx 1 (nx 1 s)))))), nV (nx 1 (hS4 (nx 1 (nx 1 (nx 1 s))))) (cN (nx 1 (nx 1 (nx 1 s)))), 0⟩
  else ⟨nB 1 (nx 1 s), nB 1 (nx 1 (nx 1 s)), nB 1 s, 0, 0, [], 0, 0, [], [], 0, 0, [], 0, 0, [], [], [], nB 3 (nx 1 (nx 1 (nx 1 s)))⟩
/-- What is left behind it. -/
def mS (s : St) : St :=
  if nB 1 s = 1 then bL (nx 1 (bS3 (nx 1 (nx 1 (nx 1 s))))) (bN (nx 1 (nx 1 (nx 1 s)))) else if nB 1 s = 2 then dgS (dgS (nx 3 (nx 1 (nx 1 (nx 1 (nx 1 s)))))) else if nB 1 s = 3 then nx 32 (nx 3 (nx 1 (nx 1 (nx 1 (nx 1 s))))) else if nB 1 s = 4 then nL (nx 1 (hS4 (nx 1 (nx 1 (nx 1 s))))) (cN (nx 1 (nx 1 (nx 1 s)))) else nx 3 (nx 1 (nx 1 (nx 1 s)))
structure MsgRd (w w' : World) (e : Ending) (R : Nat) (s : St) : Prop where
  out : ∃ x : MV, e = .returned (.agg #[.int .i64 x.m.fr, .int .i64 x.m.tt, .int .i64 x.m.ki, .int .i64 x.m.bau, .int .i64 x.m.bnu, .slice x.m.bta x.m.btn x.m.btc, .int .i64 x.m.hau, .int .i64 x.m.hrd, .slice x.m.hba x.m.hbn x.m.hbc, .slice x.m.hpa x.m.hpn x.m.hpc, .int .i64 x.m.sau, .int .i64 x.m.srd, .slice x.m.sda x.m.sdn x.m.sdc, .int .i64 x.m.cau, .int .i64 x.m.crd, .slice x.m.cba x.m.cbn x.m.cbc, .slice x.m.cpa x.m.cpn x.m.cpc, .slice x.m.cva x.m.cvn x.m.cvc, .int .i64 x.m.ro]) ∧ MAt w' x ∧ HasM (fun q => w.heap.size ≤ q) x ∧ x.c = pM s ∧ RdS w' R (mS s) ∧ Only R w w'
set_option maxRecDepth 100000 in
set_option maxHeartbeats 8000000 in
theorem message_rd (R : Nat) (s : St) (w : World) (hR : RdS w R s) (hs : GoodS s) (hk : 1 ≤ nB 1 s ∧ nB 1 s ≤ 5) :
    Calls Try.prog 54 #[.pointer (some ⟨R, 0, none⟩)] w fun e w' => MsgRd w w' e R s := by
  have hlt : R < w.heap.size := RdrAt.lt hR
  have hA : Below w.heap.size w (w.alloc (.cells #[.int .i64 0, .int .i64 0, .int .i64 0, .int .i64 0, .int .i64 0, .slice none 0 0, .int .i64 0, .int .i64 0, .slice none 0 0, .slice none 0 0, .int .i64 0, .int .i64 0, .slice none 0 0, .int .i64 0, .int .i64 0, .slice none 0 0, .slice none 0 0, .slice none 0 0, .int .i64 0] 47)) := (Below.refl _ _).alloc (Nat.le_refl _) _
  have q0 := heap_alloc_new w (.cells #[.int .i64 0, .int .i64 0, .int .i64 0, .int .i64 0, .int .i64 0, .slice none 0 0, .int .i64 0, .int .i64 0, .slice none 0 0, .slice none 0 0, .int .i64 0, .int .i64 0, .slice none 0 0, .int .i64 0, .int .i64 0, .slice none 0 0, .slice none 0 0, .slice none 0 0, .int .i64 0] 47)
  have hsz : w.heap.size < (w.alloc (.cells #[.int .i64 0, .int .i64 0, .int .i64 0, .int .i64 0, .int .i64 0, .slice none 0 0, .int .i64 0, .int .i64 0, .slice none 0 0, .slice none 0 0, .int .i64 0, .int .i64 0, .slice none 0 0, .int .i64 0, .int .i64 0, .slice none 0 0, .slice none 0 0, .slice none 0 0, .int .i64 0] 47)).heap.size := lt_of_heap q0
  have hgs3 : GoodS (nx 1 (nx 1 (nx 1 s))) := hs.nx.nx.nx
  have hn1 : bN (nx 1 (nx 1 (nx 1 s))) ≤ 255 := by have := nB1_bounds (s := bS3 (nx 1 (nx 1 (nx 1 s)))) hgs3.nx.nx; show (nB 1 (bS3 (nx 1 (nx 1 (nx 1 s))))).toNat ≤ 255; omega
  have hn4 : cN (nx 1 (nx 1 (nx 1 s))) ≤ 255 := by have := nB1_bounds (s := hS4 (nx 1 (nx 1 (nx 1 s)))) (GoodS.dgS (GoodS.dgS hgs3.nx.nx)); show (nB 1 (hS4 (nx 1 (nx 1 (nx 1 s))))).toNat ≤ 255; omega
  go_enter Try.func54, Try.ntmps54
  go_wp2_with fail
  generalize w.alloc (.cells #[.int .i64 0, .int .i64 0, .int .i64 0, .int .i64 0, .int .i64 0, .slice none 0 0, .int .i64 0, .int .i64 0, .slice none 0 0, .slice none 0 0, .int .i64 0, .int .i64 0, .slice none 0 0, .int .i64 0, .int .i64 0, .slice none 0 0, .slice none 0 0, .slice none 0 0, .int .i64 0] 47) = W0 at hA q0 hsz ⊢
  refine (number_st R 1 s W0 (RdrAt.below hR hA) hs (by omega)).mono ?_
  rintro e w1 ⟨he, hR1, ho1⟩
  subst he
  dsimp only
  go_wp2_with fail
  refine (number_st R 1 _ w1 hR1 hs.nx (by omega)).mono ?_
  rintro e w2 ⟨he, hR2, ho2⟩
  subst he
  dsimp only
  go_wp2_with fail
  refine (number_st R 1 _ w2 hR2 hs.nx.nx (by omega)).mono ?_
  rintro e w3 ⟨he, hR3, ho3⟩
  subst he
  dsimp only
  have hO3 := (ho1.trans ho2).trans ho3
  have p3 := (hO3.block _ hsz (by omega)).trans q0
  have hlt3 : w.heap.size < w3.heap.size := lt_of_heap p3
  have qz := heap_alloc_new w3 (.cells #[.int .i64 0, .int .i64 0, .int .i64 0, .int .i64 0, .int .i64 0, .slice none 0 0, .int .i64 0, .int .i64 0, .slice none 0 0, .slice none 0 0, .int .i64 0, .int .i64 0, .slice none 0 0, .int .i64 0, .int .i64 0, .slice none 0 0, .slice none 0 0, .slice none 0 0, .int .i64 0] 47)
  have hAM : Below w3.heap.size w3 ((w3.alloc (.cells #[.int .i64 0, .int .i64 0, .int .i64 0, .int .i64 0, .int .i64 0, .slice none 0 0, .int .i64 0, .int .i64 0, .slice none 0 0, .slice none 0 0, .int .i64 0, .int .i64 0, .slice none 0 0, .int .i64 0, .int .i64 0, .slice none 0 0, .slice none 0 0, .slice none 0 0, .int .i64 0] 47)).setRow w3.heap.size #[.int .i64 (nB 1 (nx 1 s)), .int .i64 (nB 1 (nx 1 (nx 1 s))), .int .i64 (nB 1 s), .int .i64 0, .int .i64 0, .slice none 0 0, .int .i64 0, .int .i64 0, .slice none 0 0, .slice none 0 0, .int .i64 0, .int .i64 0, .slice none 0 0, .int .i64 0, .int .i64 0, .slice none 0 0, .slice none 0 0, .slice none 0 0, .int .i64 0]) := laid_row w3 #[.int .i64 0, .int .i64 0, .int .i64 0, .int .i64 0, .int .i64 0, .slice none 0 0, .int .i64 0, .int .i64 0, .slice none 0 0, .slice none 0 0, .int .i64 0, .int .i64 0, .slice none 0 0, .int .i64 0, .int .i64 0, .slice none 0 0, .slice none 0 0, .slice none 0 0, .int .i64 0] #[.int .i64 (nB 1 (nx 1 s)), .int .i64 (nB 1 (nx 1 (nx 1 s))), .int .i64 (nB 1 s), .int .i64 0, .int .i64 0, .slice none 0 0, .int .i64 0, .int .i64 0, .slice none 0 0, .slice none 0 0, .int .i64 0, .int .i64 0, .slice none 0 0, .int .i64 0, .int .i64 0, .slice none 0 0, .slice none 0 0, .slice none 0 0, .int .i64 0] 47
  have qM := setRow_heap _ _ _ #[.int .i64 (nB 1 (nx 1 s)), .int .i64 (nB 1 (nx 1 (nx 1 s))), .int .i64 (nB 1 s), .int .i64 0, .int .i64 0, .slice none 0 0, .int .i64 0, .int .i64 0, .slice none 0 0, .slice none 0 0, .int .i64 0, .int .i64 0, .slice none 0 0, .int .i64 0, .int .i64 0, .slice none 0 0, .slice none 0 0, .slice none 0 0, .int .i64 0] _ _ qz
  have zM := (hAM.block _ hlt3).trans p3
  have hszM : w3.heap.size < ((w3.alloc (.cells #[.int .i64 0, .int .i64 0, .int .i64 0, .int .i64 0, .int .i64 0, .slice none 0 0, .int .i64 0, .int .i64 0, .slice none 0 0, .slice none 0 0, .int .i64 0, .int .i64 0, .slice none 0 0, .int .i64 0, .int .i64 0, .slice none 0 0, .slice none 0 0, .slice none 0 0, .int .i64 0] 47)).setRow w3.heap.size #[.int .i64 (nB 1 (nx 1 s)), .int .i64 (nB 1 (nx 1 (nx 1 s))), .int .i64 (nB 1 s), .int .i64 0, .int .i64 0, .slice none 0 0, .int .i64 0, .int .i64 0, .slice none 0 0, .slice none 0 0, .int .i64 0, .int .i64 0, .slice none 0 0, .int .i64 0, .int .i64 0, .slice none 0 0, .slice none 0 0, .slice none 0 0, .int .i64 0]).heap.size := lt_of_heap qM
  go_upto_region 2 with (refine wpList_store_row rfl 47 _ _ rfl w3.heap.size #[.int .i64 (nB 1 (nx 1 s)), .int .i64 (nB 1 (nx 1 (nx 1 s))), .int .i64 (nB 1 s), .int .i64 0, .int .i64 0, .slice none 0 0, .int .i64 0, .int .i64 0, .slice none 0 0, .slice none 0 0, .int .i64 0, .int .i64 0, .slice none 0 0, .int .i64 0, .int .i64 0, .slice none 0 0, .slice none 0 0, .slice none 0 0, .int .i64 0] rfl rfl 47 _ qz sMsg' rfl (by simp [Value.oneCell']) ?_)
  generalize (w3.alloc (.cells #[.int .i64 0, .int .i64 0, .int .i64 0, .int .i64 0, .int .i64 0, .slice none 0 0, .int .i64 0, .int .i64 0, .slice none 0 0, .slice none 0 0, .int .i64 0, .int .i64 0, .slice none 0 0, .int .i64 0, .int .i64 0, .slice none 0 0, .slice none 0 0, .slice none 0 0, .int .i64 0] 47)).setRow w3.heap.size #[.int .i64 (nB 1 (nx 1 s)), .int .i64 (nB 1 (nx 1 (nx 1 s))), .int .i64 (nB 1 s), .int .i64 0, .int .i64 0, .slice none 0 0, .int .i64 0, .int .i64 0, .slice none 0 0, .slice none 0 0, .int .i64 0, .int .i64 0, .slice none 0 0, .int .i64 0, .int .i64 0, .slice none 0 0, .slice none 0 0, .slice none 0 0, .int .i64 0] = WB at hAM qM zM hszM ⊢
  have hRM : RdS WB R (nx 1 (nx 1 (nx 1 s))) := RdrAt.below hR3 hAM
  have hOM : Only R W0 WB := hO3.trans (only_of_below hAM)
  have hOw0 : Only R w W0 := only_of_below hA
  generalize hMB : w3.heap.size = MB at qM hszM hlt3 ⊢
  clear hMB hAM qz p3 hO3 ho1 ho2 ho3 hR1 hR2 hR3 q0
  have c2 : WB.cell? ⟨MB, 2, none⟩ = some (.int .i64 (nB 1 s)) := cells_at qM 2 _ rfl
  have hkk : nB 1 s = 1 ∨ nB 1 s = 2 ∨ nB 1 s = 3 ∨ nB 1 s = 4 ∨ nB 1 s = 5 := by omega
  clear hk
  rcases hkk with hk | hk | hk | hk | hk
  · rw [hk] at qM c2 ⊢
    have HKI : Hid (nB 1 s = 1) := hk
    clear hk
    go_wp2_with fail
    refine (batch_rd R (nx 1 (nx 1 (nx 1 s))) WB hRM hgs3).mono ?_
    rintro e w5 ⟨ta, tc, he, hS5, hf5, hR5, ho5⟩
    subst he
    dsimp only
    have r5 := (ho5.block _ hszM (by omega)).trans qM
    have z5 := (ho5.block _ (by omega) (by omega)).trans zM
    have hO5 := hOM.trans ho5
    have hne0 : w.heap.size ≠ MB := by omega
    have hneM := hne0
    have x3 : w5.cell? ⟨MB, 3, none⟩ = some (.int .i64 0) := cells_at r5 3 _ rfl
    have y3 := frozen_at r5 3
    have x4 : w5.cell? ⟨MB, 4, none⟩ = some (.int .i64 0) := cells_at r5 4 _ rfl
    have y4 := frozen_at r5 4
    have x5 : w5.cell? ⟨MB, 5, none⟩ = some (.slice none 0 0) := cells_at r5 5 _ rfl
    have y5 := frozen_at r5 5
    have rF : (((w5.setCell ⟨MB, 3, none⟩ (.int .i64 (nB 1 (nx 1 (nx 1 (nx 1 s)))))).setCell ⟨MB, 4, none⟩ (.int .i64 (nB 3 (nx 1 (nx 1 (nx 1 (nx 1 s))))))).setCell ⟨MB, 5, none⟩ (.slice ta (bN (nx 1 (nx 1 (nx 1 s)))) tc)).heap[MB]? = some (.cells #[.int .i64 (nB 1 (nx 1 s)), .int .i64 (nB 1 (nx 1 (nx 1 s))), .int .i64 1, .int .i64 (nB 1 (nx 1 (nx 1 (nx 1 s)))), .int .i64 (nB 3 (nx 1 (nx 1 (nx 1 (nx 1 s))))), .slice ta (bN (nx 1 (nx 1 (nx 1 s)))) tc, .int .i64 0, .int .i64 0, .slice none 0 0, .slice none 0 0, .int .i64 0, .int .i64 0, .slice none 0 0, .int .i64 0, .int .i64 0, .slice none 0 0, .slice none 0 0, .slice none 0 0, .int .i64 0] 47 (0, 0)) := by simpa using (heap_setCell_same _ _ 5 _ _ (.slice ta (bN (nx 1 (nx 1 (nx 1 s)))) tc) (heap_setCell_same _ _ 4 _ _ (.int .i64 (nB 3 (nx 1 (nx 1 (nx 1 (nx 1 s)))))) (heap_setCell_same _ _ 3 _ _ (.int .i64 (nB 1 (nx 1 (nx 1 (nx 1 s))))) r5)))
    have zF := (heap_far (j := 5) (v := .slice ta (bN (nx 1 (nx 1 (nx 1 s)))) tc) (heap_far (j := 4) (v := .int .i64 (nB 3 (nx 1 (nx 1 (nx 1 (nx 1 s)))))) (heap_far (j := 3) (v := .int .i64 (nB 1 (nx 1 (nx 1 (nx 1 s))))) z5 hneM) hneM) hneM)
    have HX : Hid (∃ x : MV, (.agg #[.int .i64 x.m.fr, .int .i64 x.m.tt, .int .i64 x.m.ki, .int .i64 x.m.bau, .int .i64 x.m.bnu, .slice x.m.bta x.m.btn x.m.btc, .int .i64 x.m.hau, .int .i64 x.m.hrd, .slice x.m.hba x.m.hbn x.m.hbc, .slice x.m.hpa x.m.hpn x.m.hpc, .int .i64 x.m.sau, .int .i64 x.m.srd, .slice x.m.sda x.m.sdn x.m.sdc, .int .i64 x.m.cau, .int .i64 x.m.crd, .slice x.m.cba x.m.cbn x.m.cbc, .slice x.m.cpa x.m.cpn x.m.cpc, .slice x.m.cva x.m.cvn x.m.cvc, .int .i64 x.m.ro] : Value) = .agg #[.int .i64 (nB 1 (nx 1 s)), .int .i64 (nB 1 (nx 1 (nx 1 s))), .int .i64 1, .int .i64 (nB 1 (nx 1 (nx 1 (nx 1 s)))), .int .i64 (nB 3 (nx 1 (nx 1 (nx 1 (nx 1 s))))), .slice ta (bN (nx 1 (nx 1 (nx 1 s)))) tc, .int .i64 0, .int .i64 0, .slice none 0 0, .slice none 0 0, .int .i64 0, .int .i64 0, .slice none 0 0, .int .i64 0, .int .i64 0, .slice none 0 0, .slice none 0 0, .slice none 0 0, .int .i64 0] ∧ MAt w5 x ∧ HasM (fun q => WB.heap.size ≤ q) x ∧ x.c = pM s ∧ RdS w5 R (mS s)) := by
      refine ⟨⟨⟨nB 1 (nx 1 s), nB 1 (nx 1 (nx 1 s)), 1, nB 1 (nx 1 (nx 1 (nx 1 s))), nB 3 (nx 1 (nx 1 (nx 1 (nx 1 s)))), 0, 0, 0, 0, 0, 0, 0, ta, none, none, none, none, none, none, bN (nx 1 (nx 1 (nx 1 s))), tc, 0, 0, 0, 0, 0, 0, 0, 0, 0, 0, 0, 0⟩, bT (nx 1 (bS3 (nx 1 (nx 1 (nx 1 s))))) (bN (nx 1 (nx 1 (nx 1 s)))), [], [], [], [], [], []⟩, rfl, ⟨⟨(bT_length _ _).symm, rfl, rfl, rfl, rfl, rfl, by rw [bT_length]; have := hn1; omega, by simp, by simp, hS5, (list_nilM _), (list_nilM _), (list_nilM _), (list_nilM _), ⟨.inl rfl⟩⟩, (nilM _), rfl⟩, NewM.has (x := ⟨⟨nB 1 (nx 1 s), nB 1 (nx 1 (nx 1 s)), 1, nB 1 (nx 1 (nx 1 (nx 1 s))), nB 3 (nx 1 (nx 1 (nx 1 (nx 1 s)))), 0, 0, 0, 0, 0, 0, 0, ta, none, none, none, none, none, none, bN (nx 1 (nx 1 (nx 1 s))), tc, 0, 0, 0, 0, 0, 0, 0, 0, 0, 0, 0, 0⟩, bT (nx 1 (bS3 (nx 1 (nx 1 (nx 1 s))))) (bN (nx 1 (nx 1 (nx 1 s)))), [], [], [], [], [], []⟩) ⟨hf5, ⟨(fun _ _ e => by cases e), (fun p hp => by cases hp)⟩, ⟨(fun _ _ e => by cases e), (fun p hp => by cases hp)⟩, (fun _ _ e => by cases e), ⟨(fun _ _ e => by cases e), (fun p hp => by cases hp)⟩, ⟨(fun _ _ e => by cases e), (fun p hp => by cases hp)⟩, (fun _ _ e => by cases e)⟩, ?_, ?_⟩
      · simp only [MV.c, pM, HKI.out]; rfl
      · simp only [mS, HKI.out]
        exact hR5
    have HQ : Hid (∀ q, q ≠ MB → (((w5.setCell ⟨MB, 3, none⟩ (.int .i64 (nB 1 (nx 1 (nx 1 (nx 1 s)))))).setCell ⟨MB, 4, none⟩ (.int .i64 (nB 3 (nx 1 (nx 1 (nx 1 (nx 1 s))))))).setCell ⟨MB, 5, none⟩ (.slice ta (bN (nx 1 (nx 1 (nx 1 s)))) tc)).heap[q]? = w5.heap[q]?) := by
      show ∀ _, _
      intro q hq1
      exact ((heap_setCell_other _ ⟨MB, 5, none⟩ q _ hq1).trans ((heap_setCell_other _ ⟨MB, 4, none⟩ q _ hq1).trans ((heap_setCell_other _ ⟨MB, 3, none⟩ q _ hq1).trans (rfl : w5.heap[q]? = w5.heap[q]?))))
    have HZ : Hid ((((w5.setCell ⟨MB, 3, none⟩ (.int .i64 (nB 1 (nx 1 (nx 1 (nx 1 s)))))).setCell ⟨MB, 4, none⟩ (.int .i64 (nB 3 (nx 1 (nx 1 (nx 1 (nx 1 s))))))).setCell ⟨MB, 5, none⟩ (.slice ta (bN (nx 1 (nx 1 (nx 1 s)))) tc)).heap.size = w5.heap.size) := by show _ = _; simp
    have HO : Hid ((((w5.setCell ⟨MB, 3, none⟩ (.int .i64 (nB 1 (nx 1 (nx 1 (nx 1 s)))))).setCell ⟨MB, 4, none⟩ (.int .i64 (nB 3 (nx 1 (nx 1 (nx 1 (nx 1 s))))))).setCell ⟨MB, 5, none⟩ (.slice ta (bN (nx 1 (nx 1 (nx 1 s)))) tc)).os = w5.os ∧ (((w5.setCell ⟨MB, 3, none⟩ (.int .i64 (nB 1 (nx 1 (nx 1 (nx 1 s)))))).setCell ⟨MB, 4, none⟩ (.int .i64 (nB 3 (nx 1 (nx 1 (nx 1 (nx 1 s))))))).setCell ⟨MB, 5, none⟩ (.slice ta (bN (nx 1 (nx 1 (nx 1 s)))) tc)).tape = w5.tape ∧ (((w5.setCell ⟨MB, 3, none⟩ (.int .i64 (nB 1 (nx 1 (nx 1 (nx 1 s)))))).setCell ⟨MB, 4, none⟩ (.int .i64 (nB 3 (nx 1 (nx 1 (nx 1 (nx 1 s))))))).setCell ⟨MB, 5, none⟩ (.slice ta (bN (nx 1 (nx 1 (nx 1 s)))) tc)).output = w5.output) := ⟨rfl, rfl, rfl⟩
    go_upto_region 13 with fail
    generalize (((w5.setCell ⟨MB, 3, none⟩ (.int .i64 (nB 1 (nx 1 (nx 1 (nx 1 s)))))).setCell ⟨MB, 4, none⟩ (.int .i64 (nB 3 (nx 1 (nx 1 (nx 1 (nx 1 s))))))).setCell ⟨MB, 5, none⟩ (.slice ta (bN (nx 1 (nx 1 (nx 1 s)))) tc)) = VF at rF zF HQ HZ HO ⊢
    clear r5 z5 x3 y3 x4 y4 x5 y5
    go_wp2_with (first | refine wpList_load_row rfl 47 _ rfl MB rfl 47 #[.int .i64 (nB 1 (nx 1 s)), .int .i64 (nB 1 (nx 1 (nx 1 s))), .int .i64 1, .int .i64 (nB 1 (nx 1 (nx 1 (nx 1 s)))), .int .i64 (nB 3 (nx 1 (nx 1 (nx 1 (nx 1 s))))), .slice ta (bN (nx 1 (nx 1 (nx 1 s)))) tc, .int .i64 0, .int .i64 0, .slice none 0 0, .slice none 0 0, .int .i64 0, .int .i64 0, .slice none 0 0, .int .i64 0, .int .i64 0, .slice none 0 0, .slice none 0 0, .slice none 0 0, .int .i64 0] (0, 0) _ rF Try.underlying47 rfl sMsg' ?_ | refine wpList_store_row rfl 47 _ _ rfl w.heap.size #[.int .i64 (nB 1 (nx 1 s)), .int .i64 (nB 1 (nx 1 (nx 1 s))), .int .i64 1, .int .i64 (nB 1 (nx 1 (nx 1 (nx 1 s)))), .int .i64 (nB 3 (nx 1 (nx 1 (nx 1 (nx 1 s))))), .slice ta (bN (nx 1 (nx 1 (nx 1 s)))) tc, .int .i64 0, .int .i64 0, .slice none 0 0, .slice none 0 0, .int .i64 0, .int .i64 0, .slice none 0 0, .int .i64 0, .int .i64 0, .slice none 0 0, .slice none 0 0, .slice none 0 0, .int .i64 0] rfl rfl 47 _ zF sMsg' rfl (by simp [Value.oneCell']) ?_)
    obtain ⟨x, hxe, hxM, hxH, hxc, hxR⟩ := HX.out
    refine bodyPost_ret (v := .agg #[.int .i64 (nB 1 (nx 1 s)), .int .i64 (nB 1 (nx 1 (nx 1 s))), .int .i64 1, .int .i64 (nB 1 (nx 1 (nx 1 (nx 1 s)))), .int .i64 (nB 3 (nx 1 (nx 1 (nx 1 (nx 1 s))))), .slice ta (bN (nx 1 (nx 1 (nx 1 s)))) tc, .int .i64 0, .int .i64 0, .slice none 0 0, .slice none 0 0, .int .i64 0, .int .i64 0, .slice none 0 0, .int .i64 0, .int .i64 0, .slice none 0 0, .slice none 0 0, .slice none 0 0, .int .i64 0]) (results_cell_row (fn := Try.f54) (p := 2) (ty := 47) rfl _ _ w.heap.size 47 _ (0, 0) _ rfl (setRow_heap _ _ _ _ _ _ zF) Try.underlying47 rfl sMsg') rfl ⟨x, by rw [hxe], ?_, hxH.mono (fun q hq => by omega), hxc, ?_, ?_⟩
    · refine hxM.stays (G := fun q => WB.heap.size ≤ q) (fun q hq => ?_) hxH
      exact (setRow_other _ w.heap.size q _ (by omega)).trans (HQ.out q (by omega))
    · refine RdrAt.stays hxR (fun q hq => ?_)
      exact (setRow_other _ w.heap.size q _ (by omega)).trans (HQ.out q (by omega))
    · have hOw := hOw0.trans hO5
      refine ⟨HO.out.1.trans hOw.os, HO.out.2.1.trans hOw.tape, HO.out.2.2.trans hOw.output, by have := hOw.size; have := HZ.out; simp [World.setRow]; omega, fun q hq hn => ?_⟩
      exact ((setRow_other _ w.heap.size q _ (by omega)).trans (HQ.out q (by omega))).trans (hOw.block q hq hn)
  · rw [hk] at qM c2 ⊢
    have HKI : Hid (nB 1 s = 2) := hk
    clear hk
    go_wp2_with fail
    refine (header_rd R (nx 1 (nx 1 (nx 1 s))) WB hRM hgs3).mono ?_
    rintro e w5 ⟨ba, bc, bl, pa, pc, pl, he, hq1, hq2, hL1, hL2, hF1, hF2, hR5, ho5⟩
    subst he
    dsimp only
    have r5 := (ho5.block _ hszM (by omega)).trans qM
    have z5 := (ho5.block _ (by omega) (by omega)).trans zM
    have hO5 := hOM.trans ho5
    have hne0 : w.heap.size ≠ MB := by omega
    have hneM := hne0
    have x6 : w5.cell? ⟨MB, 6, none⟩ = some (.int .i64 0) := cells_at r5 6 _ rfl
    have y6 := frozen_at r5 6
    have x7 : w5.cell? ⟨MB, 7, none⟩ = some (.int .i64 0) := cells_at r5 7 _ rfl
    have y7 := frozen_at r5 7
    have x8 : w5.cell? ⟨MB, 8, none⟩ = some (.slice none 0 0) := cells_at r5 8 _ rfl
    have y8 := frozen_at r5 8
    have x9 : w5.cell? ⟨MB, 9, none⟩ = some (.slice none 0 0) := cells_at r5 9 _ rfl
    have y9 := frozen_at r5 9
    have rF : ((((w5.setCell ⟨MB, 6, none⟩ (.int .i64 (nB 1 (nx 1 (nx 1 (nx 1 s)))))).setCell ⟨MB, 7, none⟩ (.int .i64 (nB 3 (nx 1 (nx 1 (nx 1 (nx 1 s))))))).setCell ⟨MB, 8, none⟩ (.slice ba bl.length bc)).setCell ⟨MB, 9, none⟩ (.slice pa pl.length pc)).heap[MB]? = some (.cells #[.int .i64 (nB 1 (nx 1 s)), .int .i64 (nB 1 (nx 1 (nx 1 s))), .int .i64 2, .int .i64 0, .int .i64 0, .slice none 0 0, .int .i64 (nB 1 (nx 1 (nx 1 (nx 1 s)))), .int .i64 (nB 3 (nx 1 (nx 1 (nx 1 (nx 1 s))))), .slice ba bl.length bc, .slice pa pl.length pc, .int .i64 0, .int .i64 0, .slice none 0 0, .int .i64 0, .int .i64 0, .slice none 0 0, .slice none 0 0, .slice none 0 0, .int .i64 0] 47 (0, 0)) := by simpa using (heap_setCell_same _ _ 9 _ _ (.slice pa pl.length pc) (heap_setCell_same _ _ 8 _ _ (.slice ba bl.length bc) (heap_setCell_same _ _ 7 _ _ (.int .i64 (nB 3 (nx 1 (nx 1 (nx 1 (nx 1 s)))))) (heap_setCell_same _ _ 6 _ _ (.int .i64 (nB 1 (nx 1 (nx 1 (nx 1 s))))) r5))))
    have zF := (heap_far (j := 9) (v := .slice pa pl.length pc) (heap_far (j := 8) (v := .slice ba bl.length bc) (heap_far (j := 7) (v := .int .i64 (nB 3 (nx 1 (nx 1 (nx 1 (nx 1 s)))))) (heap_far (j := 6) (v := .int .i64 (nB 1 (nx 1 (nx 1 (nx 1 s))))) z5 hneM) hneM) hneM) hneM)
    have HX : Hid (∃ x : MV, (.agg #[.int .i64 x.m.fr, .int .i64 x.m.tt, .int .i64 x.m.ki, .int .i64 x.m.bau, .int .i64 x.m.bnu, .slice x.m.bta x.m.btn x.m.btc, .int .i64 x.m.hau, .int .i64 x.m.hrd, .slice x.m.hba x.m.hbn x.m.hbc, .slice x.m.hpa x.m.hpn x.m.hpc, .int .i64 x.m.sau, .int .i64 x.m.srd, .slice x.m.sda x.m.sdn x.m.sdc, .int .i64 x.m.cau, .int .i64 x.m.crd, .slice x.m.cba x.m.cbn x.m.cbc, .slice x.m.cpa x.m.cpn x.m.cpc, .slice x.m.cva x.m.cvn x.m.cvc, .int .i64 x.m.ro] : Value) = .agg #[.int .i64 (nB 1 (nx 1 s)), .int .i64 (nB 1 (nx 1 (nx 1 s))), .int .i64 2, .int .i64 0, .int .i64 0, .slice none 0 0, .int .i64 (nB 1 (nx 1 (nx 1 (nx 1 s)))), .int .i64 (nB 3 (nx 1 (nx 1 (nx 1 (nx 1 s))))), .slice ba bl.length bc, .slice pa pl.length pc, .int .i64 0, .int .i64 0, .slice none 0 0, .int .i64 0, .int .i64 0, .slice none 0 0, .slice none 0 0, .slice none 0 0, .int .i64 0] ∧ MAt w5 x ∧ HasM (fun q => WB.heap.size ≤ q) x ∧ x.c = pM s ∧ RdS w5 R (mS s)) := by
      refine ⟨⟨⟨nB 1 (nx 1 s), nB 1 (nx 1 (nx 1 s)), 2, 0, 0, nB 1 (nx 1 (nx 1 (nx 1 s))), nB 3 (nx 1 (nx 1 (nx 1 (nx 1 s)))), 0, 0, 0, 0, 0, none, ba, pa, none, none, none, none, 0, 0, bl.length, bc, pl.length, pc, 0, 0, 0, 0, 0, 0, 0, 0⟩, [], bl, pl, [], [], [], []⟩, rfl, ⟨⟨rfl, rfl, rfl, rfl, rfl, rfl, by simp, by simp, by simp, ⟨.inl rfl, fun s h => by cases h⟩, hL1, hL2, (list_nilM _), (list_nilM _), ⟨.inl rfl⟩⟩, (nilM _), rfl⟩, NewM.has (x := ⟨⟨nB 1 (nx 1 s), nB 1 (nx 1 (nx 1 s)), 2, 0, 0, nB 1 (nx 1 (nx 1 (nx 1 s))), nB 3 (nx 1 (nx 1 (nx 1 (nx 1 s)))), 0, 0, 0, 0, 0, none, ba, pa, none, none, none, none, 0, 0, bl.length, bc, pl.length, pc, 0, 0, 0, 0, 0, 0, 0, 0⟩, [], bl, pl, [], [], [], []⟩) ⟨(fun _ _ e => by cases e), hF1, hF2, (fun _ _ e => by cases e), ⟨(fun _ _ e => by cases e), (fun p hp => by cases hp)⟩, ⟨(fun _ _ e => by cases e), (fun p hp => by cases hp)⟩, (fun _ _ e => by cases e)⟩, ?_, ?_⟩
      · simp only [MV.c, pM, HKI.out, hq1, hq2]; rfl
      · simp only [mS, HKI.out]
        exact hR5
    clear hq1 hq2 hL1 hL2 hF1 hF2
    have HQ : Hid (∀ q, q ≠ MB → ((((w5.setCell ⟨MB, 6, none⟩ (.int .i64 (nB 1 (nx 1 (nx 1 (nx 1 s)))))).setCell ⟨MB, 7, none⟩ (.int .i64 (nB 3 (nx 1 (nx 1 (nx 1 (nx 1 s))))))).setCell ⟨MB, 8, none⟩ (.slice ba bl.length bc)).setCell ⟨MB, 9, none⟩ (.slice pa pl.length pc)).heap[q]? = w5.heap[q]?) := by
      show ∀ _, _
      intro q hq1
      exact ((heap_setCell_other _ ⟨MB, 9, none⟩ q _ hq1).trans ((heap_setCell_other _ ⟨MB, 8, none⟩ q _ hq1).trans ((heap_setCell_other _ ⟨MB, 7, none⟩ q _ hq1).trans ((heap_setCell_other _ ⟨MB, 6, none⟩ q _ hq1).trans (rfl : w5.heap[q]? = w5.heap[q]?)))))
    have HZ : Hid (((((w5.setCell ⟨MB, 6, none⟩ (.int .i64 (nB 1 (nx 1 (nx 1 (nx 1 s)))))).setCell ⟨MB, 7, none⟩ (.int .i64 (nB 3 (nx 1 (nx 1 (nx 1 (nx 1 s))))))).setCell ⟨MB, 8, none⟩ (.slice ba bl.length bc)).setCell ⟨MB, 9, none⟩ (.slice pa pl.length pc)).heap.size = w5.heap.size) := by show _ = _; simp
    have HO : Hid (((((w5.setCell ⟨MB, 6, none⟩ (.int .i64 (nB 1 (nx 1 (nx 1 (nx 1 s)))))).setCell ⟨MB, 7, none⟩ (.int .i64 (nB 3 (nx 1 (nx 1 (nx 1 (nx 1 s))))))).setCell ⟨MB, 8, none⟩ (.slice ba bl.length bc)).setCell ⟨MB, 9, none⟩ (.slice pa pl.length pc)).os = w5.os ∧ ((((w5.setCell ⟨MB, 6, none⟩ (.int .i64 (nB 1 (nx 1 (nx 1 (nx 1 s)))))).setCell ⟨MB, 7, none⟩ (.int .i64 (nB 3 (nx 1 (nx 1 (nx 1 (nx 1 s))))))).setCell ⟨MB, 8, none⟩ (.slice ba bl.length bc)).setCell ⟨MB, 9, none⟩ (.slice pa pl.length pc)).tape = w5.tape ∧ ((((w5.setCell ⟨MB, 6, none⟩ (.int .i64 (nB 1 (nx 1 (nx 1 (nx 1 s)))))).setCell ⟨MB, 7, none⟩ (.int .i64 (nB 3 (nx 1 (nx 1 (nx 1 (nx 1 s))))))).setCell ⟨MB, 8, none⟩ (.slice ba bl.length bc)).setCell ⟨MB, 9, none⟩ (.slice pa pl.length pc)).output = w5.output) := ⟨rfl, rfl, rfl⟩
    go_upto_region 13 with fail
    generalize ((((w5.setCell ⟨MB, 6, none⟩ (.int .i64 (nB 1 (nx 1 (nx 1 (nx 1 s)))))).setCell ⟨MB, 7, none⟩ (.int .i64 (nB 3 (nx 1 (nx 1 (nx 1 (nx 1 s))))))).setCell ⟨MB, 8, none⟩ (.slice ba bl.length bc)).setCell ⟨MB, 9, none⟩ (.slice pa pl.length pc)) = VF at rF zF HQ HZ HO ⊢
    clear r5 z5 x6 y6 x7 y7 x8 y8 x9 y9
    go_wp2_with (first | refine wpList_load_row rfl 47 _ rfl MB rfl 47 #[.int .i64 (nB 1 (nx 1 s)), .int .i64 (nB 1 (nx 1 (nx 1 s))), .int .i64 2, .int .i64 0, .int .i64 0, .slice none 0 0, .int .i64 (nB 1 (nx 1 (nx 1 (nx 1 s)))), .int .i64 (nB 3 (nx 1 (nx 1 (nx 1 (nx 1 s))))), .slice ba bl.length bc, .slice pa pl.length pc, .int .i64 0, .int .i64 0, .slice none 0 0, .int .i64 0, .int .i64 0, .slice none 0 0, .slice none 0 0, .slice none 0 0, .int .i64 0] (0, 0) _ rF Try.underlying47 rfl sMsg' ?_ | refine wpList_store_row rfl 47 _ _ rfl w.heap.size #[.int .i64 (nB 1 (nx 1 s)), .int .i64 (nB 1 (nx 1 (nx 1 s))), .int .i64 2, .int .i64 0, .int .i64 0, .slice none 0 0, .int .i64 (nB 1 (nx 1 (nx 1 (nx 1 s)))), .int .i64 (nB 3 (nx 1 (nx 1 (nx 1 (nx 1 s))))), .slice ba bl.length bc, .slice pa pl.length pc, .int .i64 0, .int .i64 0, .slice none 0 0, .int .i64 0, .int .i64 0, .slice none 0 0, .slice none 0 0, .slice none 0 0, .int .i64 0] rfl rfl 47 _ zF sMsg' rfl (by simp [Value.oneCell']) ?_)
    obtain ⟨x, hxe, hxM, hxH, hxc, hxR⟩ := HX.out
    refine bodyPost_ret (v := .agg #[.int .i64 (nB 1 (nx 1 s)), .int .i64 (nB 1 (nx 1 (nx 1 s))), .int .i64 2, .int .i64 0, .int .i64 0, .slice none 0 0, .int .i64 (nB 1 (nx 1 (nx 1 (nx 1 s)))), .int .i64 (nB 3 (nx 1 (nx 1 (nx 1 (nx 1 s))))), .slice ba bl.length bc, .slice pa pl.length pc, .int .i64 0, .int .i64 0, .slice none 0 0, .int .i64 0, .int .i64 0, .slice none 0 0, .slice none 0 0, .slice none 0 0, .int .i64 0]) (results_cell_row (fn := Try.f54) (p := 2) (ty := 47) rfl _ _ w.heap.size 47 _ (0, 0) _ rfl (setRow_heap _ _ _ _ _ _ zF) Try.underlying47 rfl sMsg') rfl ⟨x, by rw [hxe], ?_, hxH.mono (fun q hq => by omega), hxc, ?_, ?_⟩
    · refine hxM.stays (G := fun q => WB.heap.size ≤ q) (fun q hq => ?_) hxH
      exact (setRow_other _ w.heap.size q _ (by omega)).trans (HQ.out q (by omega))
    · refine RdrAt.stays hxR (fun q hq => ?_)
      exact (setRow_other _ w.heap.size q _ (by omega)).trans (HQ.out q (by omega))
    · have hOw := hOw0.trans hO5
      refine ⟨HO.out.1.trans hOw.os, HO.out.2.1.trans hOw.tape, HO.out.2.2.trans hOw.output, by have := hOw.size; have := HZ.out; simp [World.setRow]; omega, fun q hq hn => ?_⟩
      exact ((setRow_other _ w.heap.size q _ (by omega)).trans (HQ.out q (by omega))).trans (hOw.block q hq hn)
  · rw [hk] at qM c2 ⊢
    have HKI : Hid (nB 1 s = 3) := hk
    clear hk
    go_wp2_with fail
    refine (slot_any R (nx 1 (nx 1 (nx 1 s))) WB hRM hgs3).mono ?_
    rintro e w5 ⟨da, dc, he, hS5, hf5, hR5, ho5⟩
    subst he
    dsimp only
    have r5 := (ho5.block _ hszM (by omega)).trans qM
    have z5 := (ho5.block _ (by omega) (by omega)).trans zM
    have hO5 := hOM.trans ho5
    have hne0 : w.heap.size ≠ MB := by omega
    have hneM := hne0
    have x10 : w5.cell? ⟨MB, 10, none⟩ = some (.int .i64 0) := cells_at r5 10 _ rfl
    have y10 := frozen_at r5 10
    have x11 : w5.cell? ⟨MB, 11, none⟩ = some (.int .i64 0) := cells_at r5 11 _ rfl
    have y11 := frozen_at r5 11
    have x12 : w5.cell? ⟨MB, 12, none⟩ = some (.slice none 0 0) := cells_at r5 12 _ rfl
    have y12 := frozen_at r5 12
    have rF : (((w5.setCell ⟨MB, 10, none⟩ (.int .i64 (nB 1 (nx 1 (nx 1 (nx 1 s)))))).setCell ⟨MB, 11, none⟩ (.int .i64 (nB 3 (nx 1 (nx 1 (nx 1 (nx 1 s))))))).setCell ⟨MB, 12, none⟩ (.slice da (tT 32 (nx 3 (nx 1 (nx 1 (nx 1 (nx 1 s)))))).length dc)).heap[MB]? = some (.cells #[.int .i64 (nB 1 (nx 1 s)), .int .i64 (nB 1 (nx 1 (nx 1 s))), .int .i64 3, .int .i64 0, .int .i64 0, .slice none 0 0, .int .i64 0, .int .i64 0, .slice none 0 0, .slice none 0 0, .int .i64 (nB 1 (nx 1 (nx 1 (nx 1 s)))), .int .i64 (nB 3 (nx 1 (nx 1 (nx 1 (nx 1 s))))), .slice da (tT 32 (nx 3 (nx 1 (nx 1 (nx 1 (nx 1 s)))))).length dc, .int .i64 0, .int .i64 0, .slice none 0 0, .slice none 0 0, .slice none 0 0, .int .i64 0] 47 (0, 0)) := by simpa using (heap_setCell_same _ _ 12 _ _ (.slice da (tT 32 (nx 3 (nx 1 (nx 1 (nx 1 (nx 1 s)))))).length dc) (heap_setCell_same _ _ 11 _ _ (.int .i64 (nB 3 (nx 1 (nx 1 (nx 1 (nx 1 s)))))) (heap_setCell_same _ _ 10 _ _ (.int .i64 (nB 1 (nx 1 (nx 1 (nx 1 s))))) r5)))
    have zF := (heap_far (j := 12) (v := .slice da (tT 32 (nx 3 (nx 1 (nx 1 (nx 1 (nx 1 s)))))).length dc) (heap_far (j := 11) (v := .int .i64 (nB 3 (nx 1 (nx 1 (nx 1 (nx 1 s)))))) (heap_far (j := 10) (v := .int .i64 (nB 1 (nx 1 (nx 1 (nx 1 s))))) z5 hneM) hneM) hneM)
    have HX : Hid (∃ x : MV, (.agg #[.int .i64 x.m.fr, .int .i64 x.m.tt, .int .i64 x.m.ki, .int .i64 x.m.bau, .int .i64 x.m.bnu, .slice x.m.bta x.m.btn x.m.btc, .int .i64 x.m.hau, .int .i64 x.m.hrd, .slice x.m.hba x.m.hbn x.m.hbc, .slice x.m.hpa x.m.hpn x.m.hpc, .int .i64 x.m.sau, .int .i64 x.m.srd, .slice x.m.sda x.m.sdn x.m.sdc, .int .i64 x.m.cau, .int .i64 x.m.crd, .slice x.m.cba x.m.cbn x.m.cbc, .slice x.m.cpa x.m.cpn x.m.cpc, .slice x.m.cva x.m.cvn x.m.cvc, .int .i64 x.m.ro] : Value) = .agg #[.int .i64 (nB 1 (nx 1 s)), .int .i64 (nB 1 (nx 1 (nx 1 s))), .int .i64 3, .int .i64 0, .int .i64 0, .slice none 0 0, .int .i64 0, .int .i64 0, .slice none 0 0, .slice none 0 0, .int .i64 (nB 1 (nx 1 (nx 1 (nx 1 s)))), .int .i64 (nB 3 (nx 1 (nx 1 (nx 1 (nx 1 s))))), .slice da (tT 32 (nx 3 (nx 1 (nx 1 (nx 1 (nx 1 s)))))).length dc, .int .i64 0, .int .i64 0, .slice none 0 0, .slice none 0 0, .slice none 0 0, .int .i64 0] ∧ MAt w5 x ∧ HasM (fun q => WB.heap.size ≤ q) x ∧ x.c = pM s ∧ RdS w5 R (mS s)) := by
      refine ⟨⟨⟨nB 1 (nx 1 s), nB 1 (nx 1 (nx 1 s)), 3, 0, 0, 0, 0, nB 1 (nx 1 (nx 1 (nx 1 s))), nB 3 (nx 1 (nx 1 (nx 1 (nx 1 s)))), 0, 0, 0, none, none, none, da, none, none, none, 0, 0, 0, 0, 0, 0, (tT 32 (nx 3 (nx 1 (nx 1 (nx 1 (nx 1 s)))))).length, dc, 0, 0, 0, 0, 0, 0⟩, [], [], [], [], [], tT 32 (nx 3 (nx 1 (nx 1 (nx 1 (nx 1 s))))), []⟩, rfl, ⟨⟨rfl, rfl, rfl, rfl, rfl, rfl, by simp, by simp, by have := tkT_len (n := 32) (l := (nx 3 (nx 1 (nx 1 (nx 1 (nx 1 s))))).1) (sh := (nx 3 (nx 1 (nx 1 (nx 1 (nx 1 s))))).2); show (tkT _ _ _).length ≤ _; omega, ⟨.inl rfl, fun s h => by cases h⟩, (list_nilM _), (list_nilM _), (list_nilM _), (list_nilM _), ⟨.inl rfl⟩⟩, hS5, rfl⟩, NewM.has (x := ⟨⟨nB 1 (nx 1 s), nB 1 (nx 1 (nx 1 s)), 3, 0, 0, 0, 0, nB 1 (nx 1 (nx 1 (nx 1 s))), nB 3 (nx 1 (nx 1 (nx 1 (nx 1 s)))), 0, 0, 0, none, none, none, da, none, none, none, 0, 0, 0, 0, 0, 0, (tT 32 (nx 3 (nx 1 (nx 1 (nx 1 (nx 1 s)))))).length, dc, 0, 0, 0, 0, 0, 0⟩, [], [], [], [], [], tT 32 (nx 3 (nx 1 (nx 1 (nx 1 (nx 1 s))))), []⟩) ⟨(fun _ _ e => by cases e), ⟨(fun _ _ e => by cases e), (fun p hp => by cases hp)⟩, ⟨(fun _ _ e => by cases e), (fun p hp => by cases hp)⟩, hf5, ⟨(fun _ _ e => by cases e), (fun p hp => by cases hp)⟩, ⟨(fun _ _ e => by cases e), (fun p hp => by cases hp)⟩, (fun _ _ e => by cases e)⟩, ?_, ?_⟩
      · simp only [MV.c, pM, HKI.out]; rfl
      · simp only [mS, HKI.out]
        exact hR5
    have HQ : Hid (∀ q, q ≠ MB → (((w5.setCell ⟨MB, 10, none⟩ (.int .i64 (nB 1 (nx 1 (nx 1 (nx 1 s)))))).setCell ⟨MB, 11, none⟩ (.int .i64 (nB 3 (nx 1 (nx 1 (nx 1 (nx 1 s))))))).setCell ⟨MB, 12, none⟩ (.slice da (tT 32 (nx 3 (nx 1 (nx 1 (nx 1 (nx 1 s)))))).length dc)).heap[q]? = w5.heap[q]?) := by
      show ∀ _, _
      intro q hq1
      exact ((heap_setCell_other _ ⟨MB, 12, none⟩ q _ hq1).trans ((heap_setCell_other _ ⟨MB, 11, none⟩ q _ hq1).trans ((heap_setCell_other _ ⟨MB, 10, none⟩ q _ hq1).trans (rfl : w5.heap[q]? = w5.heap[q]?))))
    have HZ : Hid ((((w5.setCell ⟨MB, 10, none⟩ (.int .i64 (nB 1 (nx 1 (nx 1 (nx 1 s)))))).setCell ⟨MB, 11, none⟩ (.int .i64 (nB 3 (nx 1 (nx 1 (nx 1 (nx 1 s))))))).setCell ⟨MB, 12, none⟩ (.slice da (tT 32 (nx 3 (nx 1 (nx 1 (nx 1 (nx 1 s)))))).length dc)).heap.size = w5.heap.size) := by show _ = _; simp
    have HO : Hid ((((w5.setCell ⟨MB, 10, none⟩ (.int .i64 (nB 1 (nx 1 (nx 1 (nx 1 s)))))).setCell ⟨MB, 11, none⟩ (.int .i64 (nB 3 (nx 1 (nx 1 (nx 1 (nx 1 s))))))).setCell ⟨MB, 12, none⟩ (.slice da (tT 32 (nx 3 (nx 1 (nx 1 (nx 1 (nx 1 s)))))).length dc)).os = w5.os ∧ (((w5.setCell ⟨MB, 10, none⟩ (.int .i64 (nB 1 (nx 1 (nx 1 (nx 1 s)))))).setCell ⟨MB, 11, none⟩ (.int .i64 (nB 3 (nx 1 (nx 1 (nx 1 (nx 1 s))))))).setCell ⟨MB, 12, none⟩ (.slice da (tT 32 (nx 3 (nx 1 (nx 1 (nx 1 (nx 1 s)))))).length dc)).tape = w5.tape ∧ (((w5.setCell ⟨MB, 10, none⟩ (.int .i64 (nB 1 (nx 1 (nx 1 (nx 1 s)))))).setCell ⟨MB, 11, none⟩ (.int .i64 (nB 3 (nx 1 (nx 1 (nx 1 (nx 1 s))))))).setCell ⟨MB, 12, none⟩ (.slice da (tT 32 (nx 3 (nx 1 (nx 1 (nx 1 (nx 1 s)))))).length dc)).output = w5.output) := ⟨rfl, rfl, rfl⟩
    go_upto_region 13 with fail
    generalize (((w5.setCell ⟨MB, 10, none⟩ (.int .i64 (nB 1 (nx 1 (nx 1 (nx 1 s)))))).setCell ⟨MB, 11, none⟩ (.int .i64 (nB 3 (nx 1 (nx 1 (nx 1 (nx 1 s))))))).setCell ⟨MB, 12, none⟩ (.slice da (tT 32 (nx 3 (nx 1 (nx 1 (nx 1 (nx 1 s)))))).length dc)) = VF at rF zF HQ HZ HO ⊢
    clear r5 z5 x10 y10 x11 y11 x12 y12
    go_wp2_with (first | refine wpList_load_row rfl 47 _ rfl MB rfl 47 #[.int .i64 (nB 1 (nx 1 s)), .int .i64 (nB 1 (nx 1 (nx 1 s))), .int .i64 3, .int .i64 0, .int .i64 0, .slice none 0 0, .int .i64 0, .int .i64 0, .slice none 0 0, .slice none 0 0, .int .i64 (nB 1 (nx 1 (nx 1 (nx 1 s)))), .int .i64 (nB 3 (nx 1 (nx 1 (nx 1 (nx 1 s))))), .slice da (tT 32 (nx 3 (nx 1 (nx 1 (nx 1 (nx 1 s)))))).length dc, .int .i64 0, .int .i64 0, .slice none 0 0, .slice none 0 0, .slice none 0 0, .int .i64 0] (0, 0) _ rF Try.underlying47 rfl sMsg' ?_ | refine wpList_store_row rfl 47 _ _ rfl w.heap.size #[.int .i64 (nB 1 (nx 1 s)), .int .i64 (nB 1 (nx 1 (nx 1 s))), .int .i64 3, .int .i64 0, .int .i64 0, .slice none 0 0, .int .i64 0, .int .i64 0, .slice none 0 0, .slice none 0 0, .int .i64 (nB 1 (nx 1 (nx 1 (nx 1 s)))), .int .i64 (nB 3 (nx 1 (nx 1 (nx 1 (nx 1 s))))), .slice da (tT 32 (nx 3 (nx 1 (nx 1 (nx 1 (nx 1 s)))))).length dc, .int .i64 0, .int .i64 0, .slice none 0 0, .slice none 0 0, .slice none 0 0, .int .i64 0] rfl rfl 47 _ zF sMsg' rfl (by simp [Value.oneCell']) ?_)
    obtain ⟨x, hxe, hxM, hxH, hxc, hxR⟩ := HX.out
    refine bodyPost_ret (v := .agg #[.int .i64 (nB 1 (nx 1 s)), .int .i64 (nB 1 (nx 1 (nx 1 s))), .int .i64 3, .int .i64 0, .int .i64 0, .slice none 0 0, .int .i64 0, .int .i64 0, .slice none 0 0, .slice none 0 0, .int .i64 (nB 1 (nx 1 (nx 1 (nx 1 s)))), .int .i64 (nB 3 (nx 1 (nx 1 (nx 1 (nx 1 s))))), .slice da (tT 32 (nx 3 (nx 1 (nx 1 (nx 1 (nx 1 s)))))).length dc, .int .i64 0, .int .i64 0, .slice none 0 0, .slice none 0 0, .slice none 0 0, .int .i64 0]) (results_cell_row (fn := Try.f54) (p := 2) (ty := 47) rfl _ _ w.heap.size 47 _ (0, 0) _ rfl (setRow_heap _ _ _ _ _ _ zF) Try.underlying47 rfl sMsg') rfl ⟨x, by rw [hxe], ?_, hxH.mono (fun q hq => by omega), hxc, ?_, ?_⟩
    · refine hxM.stays (G := fun q => WB.heap.size ≤ q) (fun q hq => ?_) hxH
      exact (setRow_other _ w.heap.size q _ (by omega)).trans (HQ.out q (by omega))
    · refine RdrAt.stays hxR (fun q hq => ?_)
      exact (setRow_other _ w.heap.size q _ (by omega)).trans (HQ.out q (by omega))
    · have hOw := hOw0.trans hO5
      refine ⟨HO.out.1.trans hOw.os, HO.out.2.1.trans hOw.tape, HO.out.2.2.trans hOw.output, by have := hOw.size; have := HZ.out; simp [World.setRow]; omega, fun q hq hn => ?_⟩
      exact ((setRow_other _ w.heap.size q _ (by omega)).trans (HQ.out q (by omega))).trans (hOw.block q hq hn)
  · rw [hk] at qM c2 ⊢
    have HKI : Hid (nB 1 s = 4) := hk
    clear hk
    go_wp2_with fail
    refine (cert_rd R (nx 1 (nx 1 (nx 1 s))) WB hRM hgs3).mono ?_
    rintro e w5 ⟨ba, bc, bl, pa, pc, pl, va, vc, he, hq1, hq2, hL1, hL2, hF1, hF2, hI5, hf5, hR5, ho5⟩
    subst he
    dsimp only
    have r5 := (ho5.block _ hszM (by omega)).trans qM
    have z5 := (ho5.block _ (by omega) (by omega)).trans zM
    have hO5 := hOM.trans ho5
    have hne0 : w.heap.size ≠ MB := by omega
    have hneM := hne0
    have x13 : w5.cell? ⟨MB, 13, none⟩ = some (.int .i64 0) := cells_at r5 13 _ rfl
    have y13 := frozen_at r5 13
    have x14 : w5.cell? ⟨MB, 14, none⟩ = some (.int .i64 0) := cells_at r5 14 _ rfl
    have y14 := frozen_at r5 14
    have x15 : w5.cell? ⟨MB, 15, none⟩ = some (.slice none 0 0) := cells_at r5 15 _ rfl
    have y15 := frozen_at r5 15
    have x16 : w5.cell? ⟨MB, 16, none⟩ = some (.slice none 0 0) := cells_at r5 16 _ rfl
    have y16 := frozen_at r5 16
    have x17 : w5.cell? ⟨MB, 17, none⟩ = some (.slice none 0 0) := cells_at r5 17 _ rfl
    have y17 := frozen_at r5 17
    have rF : (((((w5.setCell ⟨MB, 13, none⟩ (.int .i64 (nB 1 (nx 1 (nx 1 (nx 1 s)))))).setCell ⟨MB, 14, none⟩ (.int .i64 (nB 3 (nx 1 (nx 1 (nx 1 (nx 1 s))))))).setCell ⟨MB, 15, none⟩ (.slice ba bl.length bc)).setCell ⟨MB, 16, none⟩ (.slice pa pl.length pc)).setCell ⟨MB, 17, none⟩ (.slice va (cN (nx 1 (nx 1 (nx 1 s)))) vc)).heap[MB]? = some (.cells #[.int .i64 (nB 1 (nx 1 s)), .int .i64 (nB 1 (nx 1 (nx 1 s))), .int .i64 4, .int .i64 0, .int .i64 0, .slice none 0 0, .int .i64 0, .int .i64 0, .slice none 0 0, .slice none 0 0, .int .i64 0, .int .i64 0, .slice none 0 0, .int .i64 (nB 1 (nx 1 (nx 1 (nx 1 s)))), .int .i64 (nB 3 (nx 1 (nx 1 (nx 1 (nx 1 s))))), .slice ba bl.length bc, .slice pa pl.length pc, .slice va (cN (nx 1 (nx 1 (nx 1 s)))) vc, .int .i64 0] 47 (0, 0)) := by simpa using (heap_setCell_same _ _ 17 _ _ (.slice va (cN (nx 1 (nx 1 (nx 1 s)))) vc) (heap_setCell_same _ _ 16 _ _ (.slice pa pl.length pc) (heap_setCell_same _ _ 15 _ _ (.slice ba bl.length bc) (heap_setCell_same _ _ 14 _ _ (.int .i64 (nB 3 (nx 1 (nx 1 (nx 1 (nx 1 s)))))) (heap_setCell_same _ _ 13 _ _ (.int .i64 (nB 1 (nx 1 (nx 1 (nx 1 s))))) r5)))))
    have zF := (heap_far (j := 17) (v := .slice va (cN (nx 1 (nx 1 (nx 1 s)))) vc) (heap_far (j := 16) (v := .slice pa pl.length pc) (heap_far (j := 15) (v := .slice ba bl.length bc) (heap_far (j := 14) (v := .int .i64 (nB 3 (nx 1 (nx 1 (nx 1 (nx 1 s)))))) (heap_far (j := 13) (v := .int .i64 (nB 1 (nx 1 (nx 1 (nx 1 s))))) z5 hneM) hneM) hneM) hneM) hneM)
    have HX : Hid (∃ x : MV, (.agg #[.int .i64 x.m.fr, .int .i64 x.m.tt, .int .i64 x.m.ki, .int .i64 x.m.bau, .int .i64 x.m.bnu, .slice x.m.bta x.m.btn x.m.btc, .int .i64 x.m.hau, .int .i64 x.m.hrd, .slice x.m.hba x.m.hbn x.m.hbc, .slice x.m.hpa x.m.hpn x.m.hpc, .int .i64 x.m.sau, .int .i64 x.m.srd, .slice x.m.sda x.m.sdn x.m.sdc, .int .i64 x.m.cau, .int .i64 x.m.crd, .slice x.m.cba x.m.cbn x.m.cbc, .slice x.m.cpa x.m.cpn x.m.cpc, .slice x.m.cva x.m.cvn x.m.cvc, .int .i64 x.m.ro] : Value) = .agg #[.int .i64 (nB 1 (nx 1 s)), .int .i64 (nB 1 (nx 1 (nx 1 s))), .int .i64 4, .int .i64 0, .int .i64 0, .slice none 0 0, .int .i64 0, .int .i64 0, .slice none 0 0, .slice none 0 0, .int .i64 0, .int .i64 0, .slice none 0 0, .int .i64 (nB 1 (nx 1 (nx 1 (nx 1 s)))), .int .i64 (nB 3 (nx 1 (nx 1 (nx 1 (nx 1 s))))), .slice ba bl.length bc, .slice pa pl.length pc, .slice va (cN (nx 1 (nx 1 (nx 1 s)))) vc, .int .i64 0] ∧ MAt w5 x ∧ HasM (fun q => WB.heap.size ≤ q) x ∧ x.c = pM s ∧ RdS w5 R (mS s)) := by
      refine ⟨⟨⟨nB 1 (nx 1 s), nB 1 (nx 1 (nx 1 s)), 4, 0, 0, 0, 0, 0, 0, nB 1 (nx 1 (nx 1 (nx 1 s))), nB 3 (nx 1 (nx 1 (nx 1 (nx 1 s)))), 0, none, none, none, none, ba, pa, va, 0, 0, 0, 0, 0, 0, 0, 0, bl.length, bc, pl.length, pc, cN (nx 1 (nx 1 (nx 1 s))), vc⟩, [], [], [], bl, pl, [], nV (nx 1 (hS4 (nx 1 (nx 1 (nx 1 s))))) (cN (nx 1 (nx 1 (nx 1 s))))⟩, rfl, ⟨⟨rfl, rfl, rfl, rfl, rfl, (nV_length _ _).symm, by simp, by rw [nV_length]; have := hn4; omega, by simp, ⟨.inl rfl, fun s h => by cases h⟩, (list_nilM _), (list_nilM _), hL1, hL2, hI5⟩, (nilM _), rfl⟩, NewM.has (x := ⟨⟨nB 1 (nx 1 s), nB 1 (nx 1 (nx 1 s)), 4, 0, 0, 0, 0, 0, 0, nB 1 (nx 1 (nx 1 (nx 1 s))), nB 3 (nx 1 (nx 1 (nx 1 (nx 1 s)))), 0, none, none, none, none, ba, pa, va, 0, 0, 0, 0, 0, 0, 0, 0, bl.length, bc, pl.length, pc, cN (nx 1 (nx 1 (nx 1 s))), vc⟩, [], [], [], bl, pl, [], nV (nx 1 (hS4 (nx 1 (nx 1 (nx 1 s))))) (cN (nx 1 (nx 1 (nx 1 s))))⟩) ⟨(fun _ _ e => by cases e), ⟨(fun _ _ e => by cases e), (fun p hp => by cases hp)⟩, ⟨(fun _ _ e => by cases e), (fun p hp => by cases hp)⟩, (fun _ _ e => by cases e), hF1, hF2, hf5⟩, ?_, ?_⟩
      · simp only [MV.c, pM, HKI.out, hq1, hq2]; rfl
      · simp only [mS, HKI.out]
        exact hR5
    clear hq1 hq2 hL1 hL2 hF1 hF2 hI5
    have HQ : Hid (∀ q, q ≠ MB → (((((w5.setCell ⟨MB, 13, none⟩ (.int .i64 (nB 1 (nx 1 (nx 1 (nx 1 s)))))).setCell ⟨MB, 14, none⟩ (.int .i64 (nB 3 (nx 1 (nx 1 (nx 1 (nx 1 s))))))).setCell ⟨MB, 15, none⟩ (.slice ba bl.length bc)).setCell ⟨MB, 16, none⟩ (.slice pa pl.length pc)).setCell ⟨MB, 17, none⟩ (.slice va (cN (nx 1 (nx 1 (nx 1 s)))) vc)).heap[q]? = w5.heap[q]?) := by
      show ∀ _, _
      intro q hq1
      exact ((heap_setCell_other _ ⟨MB, 17, none⟩ q _ hq1).trans ((heap_setCell_other _ ⟨MB, 16, none⟩ q _ hq1).trans ((heap_setCell_other _ ⟨MB, 15, none⟩ q _ hq1).trans ((heap_setCell_other _ ⟨MB, 14, none⟩ q _ hq1).trans ((heap_setCell_other _ ⟨MB, 13, none⟩ q _ hq1).trans (rfl : w5.heap[q]? = w5.heap[q]?))))))
    have HZ : Hid ((((((w5.setCell ⟨MB, 13, none⟩ (.int .i64 (nB 1 (nx 1 (nx 1 (nx 1 s)))))).setCell ⟨MB, 14, none⟩ (.int .i64 (nB 3 (nx 1 (nx 1 (nx 1 (nx 1 s))))))).setCell ⟨MB, 15, none⟩ (.slice ba bl.length bc)).setCell ⟨MB, 16, none⟩ (.slice pa pl.length pc)).setCell ⟨MB, 17, none⟩ (.slice va (cN (nx 1 (nx 1 (nx 1 s)))) vc)).heap.size = w5.heap.size) := by show _ = _; simp
    have HO : Hid ((((((w5.setCell ⟨MB, 13, none⟩ (.int .i64 (nB 1 (nx 1 (nx 1 (nx 1 s)))))).setCell ⟨MB, 14, none⟩ (.int .i64 (nB 3 (nx 1 (nx 1 (nx 1 (nx 1 s))))))).setCell ⟨MB, 15, none⟩ (.slice ba bl.length bc)).setCell ⟨MB, 16, none⟩ (.slice pa pl.length pc)).setCell ⟨MB, 17, none⟩ (.slice va (cN (nx 1 (nx 1 (nx 1 s)))) vc)).os = w5.os ∧ (((((w5.setCell ⟨MB, 13, none⟩ (.int .i64 (nB 1 (nx 1 (nx 1 (nx 1 s)))))).setCell ⟨MB, 14, none⟩ (.int .i64 (nB 3 (nx 1 (nx 1 (nx 1 (nx 1 s))))))).setCell ⟨MB, 15, none⟩ (.slice ba bl.length bc)).setCell ⟨MB, 16, none⟩ (.slice pa pl.length pc)).setCell ⟨MB, 17, none⟩ (.slice va (cN (nx 1 (nx 1 (nx 1 s)))) vc)).tape = w5.tape ∧ (((((w5.setCell ⟨MB, 13, none⟩ (.int .i64 (nB 1 (nx 1 (nx 1 (nx 1 s)))))).setCell ⟨MB, 14, none⟩ (.int .i64 (nB 3 (nx 1 (nx 1 (nx 1 (nx 1 s))))))).setCell ⟨MB, 15, none⟩ (.slice ba bl.length bc)).setCell ⟨MB, 16, none⟩ (.slice pa pl.length pc)).setCell ⟨MB, 17, none⟩ (.slice va (cN (nx 1 (nx 1 (nx 1 s)))) vc)).output = w5.output) := ⟨rfl, rfl, rfl⟩
    go_upto_region 13 with fail
    generalize (((((w5.setCell ⟨MB, 13, none⟩ (.int .i64 (nB 1 (nx 1 (nx 1 (nx 1 s)))))).setCell ⟨MB, 14, none⟩ (.int .i64 (nB 3 (nx 1 (nx 1 (nx 1 (nx 1 s))))))).setCell ⟨MB, 15, none⟩ (.slice ba bl.length bc)).setCell ⟨MB, 16, none⟩ (.slice pa pl.length pc)).setCell ⟨MB, 17, none⟩ (.slice va (cN (nx 1 (nx 1 (nx 1 s)))) vc)) = VF at rF zF HQ HZ HO ⊢
    clear r5 z5 x13 y13 x14 y14 x15 y15 x16 y16 x17 y17
    go_wp2_with (first | refine wpList_load_row rfl 47 _ rfl MB rfl 47 #[.int .i64 (nB 1 (nx 1 s)), .int .i64 (nB 1 (nx 1 (nx 1 s))), .int .i64 4, .int .i64 0, .int .i64 0, .slice none 0 0, .int .i64 0, .int .i64 0, .slice none 0 0, .slice none 0 0, .int .i64 0, .int .i64 0, .slice none 0 0, .int .i64 (nB 1 (nx 1 (nx 1 (nx 1 s)))), .int .i64 (nB 3 (nx 1 (nx 1 (nx 1 (nx 1 s))))), .slice ba bl.length bc, .slice pa pl.length pc, .slice va (cN (nx 1 (nx 1 (nx 1 s)))) vc, .int .i64 0] (0, 0) _ rF Try.underlying47 rfl sMsg' ?_ | refine wpList_store_row rfl 47 _ _ rfl w.heap.size #[.int .i64 (nB 1 (nx 1 s)), .int .i64 (nB 1 (nx 1 (nx 1 s))), .int .i64 4, .int .i64 0, .int .i64 0, .slice none 0 0, .int .i64 0, .int .i64 0, .slice none 0 0, .slice none 0 0, .int .i64 0, .int .i64 0, .slice none 0 0, .int .i64 (nB 1 (nx 1 (nx 1 (nx 1 s)))), .int .i64 (nB 3 (nx 1 (nx 1 (nx 1 (nx 1 s))))), .slice ba bl.length bc, .slice pa pl.length pc, .slice va (cN (nx 1 (nx 1 (nx 1 s)))) vc, .int .i64 0] rfl rfl 47 _ zF sMsg' rfl (by simp [Value.oneCell']) ?_)
    obtain ⟨x, hxe, hxM, hxH, hxc, hxR⟩ := HX.out
    refine bodyPost_ret (v := .agg #[.int .i64 (nB 1 (nx 1 s)), .int .i64 (nB 1 (nx 1 (nx 1 s))), .int .i64 4, .int .i64 0, .int .i64 0, .slice none 0 0, .int .i64 0, .int .i64 0, .slice none 0 0, .slice none 0 0, .int .i64 0, .int .i64 0, .slice none 0 0, .int .i64 (nB 1 (nx 1 (nx 1 (nx 1 s)))), .int .i64 (nB 3 (nx 1 (nx 1 (nx 1 (nx 1 s))))), .slice ba bl.length bc, .slice pa pl.length pc, .slice va (cN (nx 1 (nx 1 (nx 1 s)))) vc, .int .i64 0]) (results_cell_row (fn := Try.f54) (p := 2) (ty := 47) rfl _ _ w.heap.size 47 _ (0, 0) _ rfl (setRow_heap _ _ _ _ _ _ zF) Try.underlying47 rfl sMsg') rfl ⟨x, by rw [hxe], ?_, hxH.mono (fun q hq => by omega), hxc, ?_, ?_⟩
    · refine hxM.stays (G := fun q => WB.heap.size ≤ q) (fun q hq => ?_) hxH
      exact (setRow_other _ w.heap.size q _ (by omega)).trans (HQ.out q (by omega))
    · refine RdrAt.stays hxR (fun q hq => ?_)
      exact (setRow_other _ w.heap.size q _ (by omega)).trans (HQ.out q (by omega))
    · have hOw := hOw0.trans hO5
      refine ⟨HO.out.1.trans hOw.os, HO.out.2.1.trans hOw.tape, HO.out.2.2.trans hOw.output, by have := hOw.size; have := HZ.out; simp [World.setRow]; omega, fun q hq hn => ?_⟩
      exact ((setRow_other _ w.heap.size q _ (by omega)).trans (HQ.out q (by omega))).trans (hOw.block q hq hn)
  · rw [hk] at qM c2 ⊢
    have HKI : Hid (nB 1 s = 5) := hk
    clear hk
    go_wp2_with fail
    refine (round_st R (nx 1 (nx 1 (nx 1 s))) WB hRM hgs3).mono ?_
    rintro e w5 ⟨he, hR5, ho5⟩
    subst he
    dsimp only
    have r5 := (ho5.block _ hszM (by omega)).trans qM
    have z5 := (ho5.block _ (by omega) (by omega)).trans zM
    have hO5 := hOM.trans ho5
    have hne0 : w.heap.size ≠ MB := by omega
    have hneM := hne0
    have x18 : w5.cell? ⟨MB, 18, none⟩ = some (.int .i64 0) := cells_at r5 18 _ rfl
    have y18 := frozen_at r5 18
    have rF : (w5.setCell ⟨MB, 18, none⟩ (.int .i64 (nB 3 (nx 1 (nx 1 (nx 1 s)))))).heap[MB]? = some (.cells #[.int .i64 (nB 1 (nx 1 s)), .int .i64 (nB 1 (nx 1 (nx 1 s))), .int .i64 5, .int .i64 0, .int .i64 0, .slice none 0 0, .int .i64 0, .int .i64 0, .slice none 0 0, .slice none 0 0, .int .i64 0, .int .i64 0, .slice none 0 0, .int .i64 0, .int .i64 0, .slice none 0 0, .slice none 0 0, .slice none 0 0, .int .i64 (nB 3 (nx 1 (nx 1 (nx 1 s))))] 47 (0, 0)) := by simpa using (heap_setCell_same _ _ 18 _ _ (.int .i64 (nB 3 (nx 1 (nx 1 (nx 1 s))))) r5)
    have zF := (heap_far (j := 18) (v := .int .i64 (nB 3 (nx 1 (nx 1 (nx 1 s))))) z5 hneM)
    have HX : Hid (∃ x : MV, (.agg #[.int .i64 x.m.fr, .int .i64 x.m.tt, .int .i64 x.m.ki, .int .i64 x.m.bau, .int .i64 x.m.bnu, .slice x.m.bta x.m.btn x.m.btc, .int .i64 x.m.hau, .int .i64 x.m.hrd, .slice x.m.hba x.m.hbn x.m.hbc, .slice x.m.hpa x.m.hpn x.m.hpc, .int .i64 x.m.sau, .int .i64 x.m.srd, .slice x.m.sda x.m.sdn x.m.sdc, .int .i64 x.m.cau, .int .i64 x.m.crd, .slice x.m.cba x.m.cbn x.m.cbc, .slice x.m.cpa x.m.cpn x.m.cpc, .slice x.m.cva x.m.cvn x.m.cvc, .int .i64 x.m.ro] : Value) = .agg #[.int .i64 (nB 1 (nx 1 s)), .int .i64 (nB 1 (nx 1 (nx 1 s))), .int .i64 5, .int .i64 0, .int .i64 0, .slice none 0 0, .int .i64 0, .int .i64 0, .slice none 0 0, .slice none 0 0, .int .i64 0, .int .i64 0, .slice none 0 0, .int .i64 0, .int .i64 0, .slice none 0 0, .slice none 0 0, .slice none 0 0, .int .i64 (nB 3 (nx 1 (nx 1 (nx 1 s))))] ∧ MAt w5 x ∧ HasM (fun q => WB.heap.size ≤ q) x ∧ x.c = pM s ∧ RdS w5 R (mS s)) := by
      refine ⟨⟨⟨nB 1 (nx 1 s), nB 1 (nx 1 (nx 1 s)), 5, 0, 0, 0, 0, 0, 0, 0, 0, nB 3 (nx 1 (nx 1 (nx 1 s))), none, none, none, none, none, none, none, 0, 0, 0, 0, 0, 0, 0, 0, 0, 0, 0, 0, 0, 0⟩, [], [], [], [], [], [], []⟩, rfl, ⟨⟨rfl, rfl, rfl, rfl, rfl, rfl, by simp, by simp, by simp, ⟨.inl rfl, fun s h => by cases h⟩, (list_nilM _), (list_nilM _), (list_nilM _), (list_nilM _), ⟨.inl rfl⟩⟩, (nilM _), rfl⟩, NewM.has (x := ⟨⟨nB 1 (nx 1 s), nB 1 (nx 1 (nx 1 s)), 5, 0, 0, 0, 0, 0, 0, 0, 0, nB 3 (nx 1 (nx 1 (nx 1 s))), none, none, none, none, none, none, none, 0, 0, 0, 0, 0, 0, 0, 0, 0, 0, 0, 0, 0, 0⟩, [], [], [], [], [], [], []⟩) ⟨(fun _ _ e => by cases e), ⟨(fun _ _ e => by cases e), (fun p hp => by cases hp)⟩, ⟨(fun _ _ e => by cases e), (fun p hp => by cases hp)⟩, (fun _ _ e => by cases e), ⟨(fun _ _ e => by cases e), (fun p hp => by cases hp)⟩, ⟨(fun _ _ e => by cases e), (fun p hp => by cases hp)⟩, (fun _ _ e => by cases e)⟩, ?_, ?_⟩
      · simp only [MV.c, pM, HKI.out]; rfl
      · simp only [mS, HKI.out]
        exact hR5
    have HQ : Hid (∀ q, q ≠ MB → (w5.setCell ⟨MB, 18, none⟩ (.int .i64 (nB 3 (nx 1 (nx 1 (nx 1 s)))))).heap[q]? = w5.heap[q]?) := by
      show ∀ _, _
      intro q hq1
      exact ((heap_setCell_other _ ⟨MB, 18, none⟩ q _ hq1).trans (rfl : w5.heap[q]? = w5.heap[q]?))
    have HZ : Hid ((w5.setCell ⟨MB, 18, none⟩ (.int .i64 (nB 3 (nx 1 (nx 1 (nx 1 s)))))).heap.size = w5.heap.size) := by show _ = _; simp
    have HO : Hid ((w5.setCell ⟨MB, 18, none⟩ (.int .i64 (nB 3 (nx 1 (nx 1 (nx 1 s)))))).os = w5.os ∧ (w5.setCell ⟨MB, 18, none⟩ (.int .i64 (nB 3 (nx 1 (nx 1 (nx 1 s)))))).tape = w5.tape ∧ (w5.setCell ⟨MB, 18, none⟩ (.int .i64 (nB 3 (nx 1 (nx 1 (nx 1 s)))))).output = w5.output) := ⟨rfl, rfl, rfl⟩
    go_upto_region 13 with fail
    generalize (w5.setCell ⟨MB, 18, none⟩ (.int .i64 (nB 3 (nx 1 (nx 1 (nx 1 s)))))) = VF at rF zF HQ HZ HO ⊢
    clear r5 z5 x18 y18
    go_wp2_with (first | refine wpList_load_row rfl 47 _ rfl MB rfl 47 #[.int .i64 (nB 1 (nx 1 s)), .int .i64 (nB 1 (nx 1 (nx 1 s))), .int .i64 5, .int .i64 0, .int .i64 0, .slice none 0 0, .int .i64 0, .int .i64 0, .slice none 0 0, .slice none 0 0, .int .i64 0, .int .i64 0, .slice none 0 0, .int .i64 0, .int .i64 0, .slice none 0 0, .slice none 0 0, .slice none 0 0, .int .i64 (nB 3 (nx 1 (nx 1 (nx 1 s))))] (0, 0) _ rF Try.underlying47 rfl sMsg' ?_ | refine wpList_store_row rfl 47 _ _ rfl w.heap.size #[.int .i64 (nB 1 (nx 1 s)), .int .i64 (nB 1 (nx 1 (nx 1 s))), .int .i64 5, .int .i64 0, .int .i64 0, .slice none 0 0, .int .i64 0, .int .i64 0, .slice none 0 0, .slice none 0 0, .int .i64 0, .int .i64 0, .slice none 0 0, .int .i64 0, .int .i64 0, .slice none 0 0, .slice none 0 0, .slice none 0 0, .int .i64 (nB 3 (nx 1 (nx 1 (nx 1 s))))] rfl rfl 47 _ zF sMsg' rfl (by simp [Value.oneCell']) ?_)
    obtain ⟨x, hxe, hxM, hxH, hxc, hxR⟩ := HX.out
    refine bodyPost_ret (v := .agg #[.int .i64 (nB 1 (nx 1 s)), .int .i64 (nB 1 (nx 1 (nx 1 s))), .int .i64 5, .int .i64 0, .int .i64 0, .slice none 0 0, .int .i64 0, .int .i64 0, .slice none 0 0, .slice none 0 0, .int .i64 0, .int .i64 0, .slice none 0 0, .int .i64 0, .int .i64 0, .slice none 0 0, .slice none 0 0, .slice none 0 0, .int .i64 (nB 3 (nx 1 (nx 1 (nx 1 s))))]) (results_cell_row (fn := Try.f54) (p := 2) (ty := 47) rfl _ _ w.heap.size 47 _ (0, 0) _ rfl (setRow_heap _ _ _ _ _ _ zF) Try.underlying47 rfl sMsg') rfl ⟨x, by rw [hxe], ?_, hxH.mono (fun q hq => by omega), hxc, ?_, ?_⟩
    · refine hxM.stays (G := fun q => WB.heap.size ≤ q) (fun q hq => ?_) hxH
      exact (setRow_other _ w.heap.size q _ (by omega)).trans (HQ.out q (by omega))
    · refine RdrAt.stays hxR (fun q hq => ?_)
      exact (setRow_other _ w.heap.size q _ (by omega)).trans (HQ.out q (by omega))
    · have hOw := hOw0.trans hO5
      refine ⟨HO.out.1.trans hOw.os, HO.out.2.1.trans hOw.tape, HO.out.2.2.trans hOw.output, by have := hOw.size; have := HZ.out; simp [World.setRow]; omega, fun q hq hn => ?_⟩
      exact ((setRow_other _ w.heap.size q _ (by omega)).trans (HQ.out q (by omega))).trans (hOw.block q hq hn)
end Go.Proofs.Ythpocgndgphedaa
