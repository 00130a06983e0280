/- wire's reader.digest and digests. -/
import Derived.Test.YthlknldicpeobaaRdN
import Derived.Test.YthlknldicpeobaaClone
import Derived.Test.YthlknldicpeobaaOwnL
namespace Go.Proofs.Ythlknldicpeobaa
open Go.RowKit

set_option maxRecDepth 100000 in
theorem owns_only {R : Nat} {w w' : World} {base n : Nat} {e : TypeId} {s : Nat} {v : Value} {xs : List Value} (h : w.ownsRow base e s v n xs) (ho : Only R w w') (hR : R < base) : w'.ownsRow base e s v n xs := by
  have hB : ∀ q, v.ownBlock = some q → base ≤ q ∧ q < w.heap.size := fun q e => h.lt q e
  obtain ⟨h1, h2⟩ := h
  refine ⟨h1, ?_⟩
  rcases h2 with h2 | ⟨g, cap, cur, rfl, hg, hc, r⟩
  · exact .inl h2
  · exact .inr ⟨g, cap, cur, rfl, hg, (ho.block g (hB g rfl).2 (by omega)).trans hc, r⟩
set_option maxRecDepth 100000 in
theorem apart_only {R : Nat} {w w' : World} {B : Nat} {v : Value} {qs : List Part} (h : Apart w B v qs) (ho : Only R w w') (hR : R < B) : Apart w' B v qs := fun p hp => by
  obtain ⟨h1, h2⟩ := h p hp
  exact ⟨h1.only ho (fun sb so e => by have := (h2 sb so e).1; omega), fun sb so e => ⟨(h2 sb so e).1, Nat.lt_of_lt_of_le (h2 sb so e).2.1 ho.size, (h2 sb so e).2.2⟩⟩
set_option maxRecDepth 100000 in
theorem apart_snoc {w w3 : World} {B : Nat} {v v1 : Value} {qs : List Part} {q : Part} {o : Obj} (h : Apart w B v qs) (hs : SliceAt w q.sa q.cap q.bs) (hq : ∀ sb so, q.sa = some ⟨sb, so, none⟩ → B ≤ sb ∧ sb < w.heap.size ∧ v.ownBlock ≠ some sb) (G : Grew (w.alloc o) v w3 v1) : Apart w3 B v1 (qs ++ [q]) := by
  have hA : Below w.heap.size w (w.alloc o) := (Below.refl _ _).alloc (Nat.le_refl _) _
  have hsz : (w.alloc o).heap.size = w.heap.size + 1 := by simp
  have h3 := G.grown.size
  have one : ∀ p : Part, SliceAt w p.sa p.cap p.bs → (∀ sb so, p.sa = some ⟨sb, so, none⟩ → B ≤ sb ∧ sb < w.heap.size ∧ v.ownBlock ≠ some sb) → SliceAt w3 p.sa p.cap p.bs ∧ ∀ sb so, p.sa = some ⟨sb, so, none⟩ → B ≤ sb ∧ sb < w3.heap.size ∧ v1.ownBlock ≠ some sb := fun p h1 h2 => by
    refine ⟨G.slice (h1.below hA) (fun sb so e => (h2 sb so e).2.2), fun sb so e => ?_⟩
    obtain ⟨a1, a2, a3⟩ := h2 sb so e
    refine ⟨a1, by omega, fun hv => ?_⟩
    rcases G.fresh sb hv with g | g
    · exact a3 g
    · omega
  intro p hp
  rcases List.mem_append.1 hp with hp | hp
  · exact one p (h p hp).1 (h p hp).2
  · obtain rfl : p = q := by simpa using hp
    exact one p hs hq
structure DigIs (w w' : World) (e : Ending) (R : Nat) (t l : List Int) (sh : Bool) : Prop where
  out : ∃ da dc, e = .returned (.slice da t.length dc) ∧ SliceAt w' da dc t ∧ (∀ sb so, da = some ⟨sb, so, none⟩ → w.heap.size ≤ sb ∧ sb < w'.heap.size) ∧ RdrAt w' R l sh ∧ Only R w w'
set_option maxRecDepth 100000 in
set_option maxHeartbeats 400000 in
theorem digest_any (R : Nat) (l : List Int) (sh : Bool) (w : World) (hR : RdrAt w R l sh) (hl : l.length ≤ 100000) :
    Calls Try.prog 66 #[.pointer (some ⟨R, 0, none⟩)] w fun e w' => DigIs w w' e R (tkT 32 l sh) (tkL 32 l sh) (tkS 32 l sh) := by
  have hN := take_any R 32 l sh w hR hl (by omega)
  have htl := tkT_len (n := 32) (l := l) (sh := sh)
  generalize tkT 32 l sh = t at *
  generalize tkL 32 l sh = l2 at *
  generalize tkS 32 l sh = s2 at *
  go_enter Try.func66, Try.ntmps66
  go_wp2_with fail
  refine hN.mono ?_
  rintro e w1 ⟨ta, tc, he, hs, -, hR1, ho1⟩
  subst he
  dsimp only
  go_wp2_with fail
  refine (clone_any t ta _ tc w1 rfl hs (by omega)).mono ?_
  rintro e w2 ⟨da, dc, he, hs2, hf, hb2⟩
  subst he
  dsimp only
  go_wp2_with fail
  go_ret
  exact ⟨da, dc, rfl, hs2, fun sb so e => by have := hf sb so e; have := ho1.size; omega, hR1.below hb2, ho1.trans (only_of_below hb2)⟩
/-- So many digests: what is left behind them, and these. -/
def dgL (l : List Int) (sh : Bool) : Nat → List Int × Bool
  | 0 => (l, sh)
  | k + 1 => (tkL 32 (dgL l sh k).1 (dgL l sh k).2, tkS 32 (dgL l sh k).1 (dgL l sh k).2)
def dgD (l : List Int) (sh : Bool) : Nat → List (List Int)
  | 0 => []
  | k + 1 => dgD l sh k ++ [tkT 32 (dgL l sh k).1 (dgL l sh k).2]
set_option maxRecDepth 100000 in
theorem dgL_len (l : List Int) (sh : Bool) (k : Nat) : (dgL l sh k).1.length ≤ l.length := by
  induction k with
  | zero => exact Nat.le_refl _
  | succ k ih => exact Nat.le_trans tk_len ih
set_option maxRecDepth 100000 in
theorem dgD_length (l : List Int) (sh : Bool) (k : Nat) : (dgD l sh k).length = k := by
  induction k with
  | zero => rfl
  | succ k ih => simp [dgD, ih]
set_option maxRecDepth 100000 in
theorem dgL_u8 (l : List Int) (sh : Bool) (k : Nat) (h : U8s l) : U8s (dgL l sh k).1 := by
  induction k with
  | zero => exact h
  | succ k ih => exact ih.tkL
def dN (l : List Int) (sh : Bool) : Nat := (numB (tkT 1 l sh)).toNat
/-- Lists of a reader. -/
structure DigsIs (w w' : World) (e : Ending) (R : Nat) (ls : List (List Int)) (l : List Int) (sh : Bool) : Prop where
  out : ∃ ra rc qs, e = .returned (.slice ra (List.length qs) rc) ∧ qs.map (·.bs) = ls ∧ ListAt w' ra rc qs ∧ Fresh w.heap.size ra qs ∧ RdrAt w' R l sh ∧ Only R w w'
set_option maxRecDepth 100000 in
theorem numB1_bounds {l : List Int} {sh : Bool} (h : U8s l) : 0 ≤ numB (tkT 1 l sh) ∧ numB (tkT 1 l sh) ≤ 255 := by
  have h1 := h.tkT (n := 1) (sh := sh)
  have h2 := tkT_len (n := 1) (l := l) (sh := sh)
  match tkT 1 l sh, h1, h2 with
  | [], _, _ => simp [numB]
  | [a], h, _ => have := h a (by simp); simp [numB]; omega
set_option maxRecDepth 100000 in
set_option maxHeartbeats 1000000 in
theorem digests_any (R : Nat) (l : List Int) (sh : Bool) (w : World) (hR : RdrAt w R l sh) (hl : l.length ≤ 100000) (hu : U8s l) :
    Calls Try.prog 65 #[.pointer (some ⟨R, 0, none⟩)] w fun e w' => DigsIs w w' e R (dgD (tkL 1 l sh) (tkS 1 l sh) (dN l sh)) (dgL (tkL 1 l sh) (tkS 1 l sh) (dN l sh)).1 (dgL (tkL 1 l sh) (tkS 1 l sh) (dN l sh)).2 := by
  obtain ⟨i, hi, hz0, hz1, hz2⟩ := info_parts infoBs
  have hN := number_any R 1 l sh w hR hl (by omega) hu
  obtain ⟨hb0, hb1⟩ := numB1_bounds (sh := sh) hu
  have hNI : ((dN l sh : Nat) : Int) = numB (tkT 1 l sh) := by unfold dN; omega
  have hl1 : (tkL 1 l sh).length ≤ 100000 := Nat.le_trans tk_len hl
  have hlt := hR.lt
  rw [← hNI] at hN hb1
  generalize dN l sh = N at *
  generalize tkL 1 l sh = l1 at *
  generalize tkS 1 l sh = s1 at *
  clear hNI hb0
  go_enter Try.func65, Try.ntmps65
  go_wp2_with fail
  refine hN.mono ?_
  rintro e w1 ⟨he, hR1, ho1⟩
  subst he
  dsimp only
  clear hN
  go_upto_region 3 with fail
  go_loopw [6, 3] (fun j v wr => ∃ (k : Nat) (qs : List Part) (tv : Value), k ≤ N ∧ j = .int .i64 k ∧ tv = v ∧ Hid (qs.map (·.bs) = dgD l1 s1 k) ∧ wr.ownsRow w.heap.size 22 1 tv k (pv qs) ∧ Apart wr w.heap.size tv qs ∧ RdrAt wr R (dgL l1 s1 k).1 (dgL l1 s1 k).2 ∧ Only R w wr) (fun j _ _ => N - (intOf j).toNat)
  case atStart => exact ⟨0, [], _, Nat.zero_le _, rfl, rfl, rfl, World.ownsRow_nil _ _ _ _, (fun p hp => by cases hp), hR1, ho1⟩
  case round =>
    obtain ⟨k, qs, tv, hk, rfl, rfl, hq, ho, hap, hRk, hok⟩ := hrel
    by_cases hltk : k < N
    · have hltI : (k : Int) < N := by omega
      have hD := digest_any R _ _ wr hRk (Nat.le_trans (dgL_len l1 s1 k) hl1)
      have hst : Hid (dgD l1 s1 (k + 1) = dgD l1 s1 k ++ [tkT 32 (dgL l1 s1 k).1 (dgL l1 s1 k).2]) := rfl
      have hst2 : Hid ((dgL l1 s1 (k + 1)).1 = tkL 32 (dgL l1 s1 k).1 (dgL l1 s1 k).2 ∧ (dgL l1 s1 (k + 1)).2 = tkS 32 (dgL l1 s1 k).1 (dgL l1 s1 k).2) := ⟨rfl, rfl⟩
      have htl := tkT_len (n := 32) (l := (dgL l1 s1 k).1) (sh := (dgL l1 s1 k).2)
      generalize tkT 32 (dgL l1 s1 k).1 (dgL l1 s1 k).2 = t at *
      go_wp2_with fail
      refine hD.mono ?_
      rintro e w2 ⟨da, dc, he, hs2, hf2, hR2, ho2⟩
      subst he
      dsimp only
      clear hD
      have hB2 := hok.trans ho2
      have hob := owns_only ho ho2 hlt
      have hap2 := apart_only hap ho2 hlt
      have hszw := hok.size
      have hszr := hB2.size
      go_wp2_with (at_builtin; refine wpList_append_own_at _ rfl _ _ 26 rfl w.heap.size 22 i (.slice none 0 0) 1 24 Try.underlying26 hi hz0 hz1 hz2 rfl (by decide) _ k _ rfl (World.ownsRow.alloc hob _) ⟨w2.heap.size, 0, none⟩ 1 1 [.slice da t.length dc] rfl rfl (cells_new _ _ _) (by intro u hu; simp at hu; subst hu; rfl) (by unfold maxLen; omega) (by omega) (le_alloc hB2.size _) ?_; intro v3 w3 ho3 hg3 _ hat3)
      have G := Grew.of hg3 hat3
      have hap3 := apart_snoc (q := ⟨da, dc, t⟩) hap2 hs2 (fun sb so e => by
        have h := hf2 sb so e
        exact ⟨by omega, h.2, fun hv => by have := (ho.lt sb hv).2; omega⟩) G
      have hb3 : Below w2.heap.size w2 (w2.alloc (.cells #[.slice da t.length dc] 22)) := (Below.refl _ _).alloc (Nat.le_refl _) _
      have ho3w : Only R w w3 := by
        have hg := G.grown
        refine ⟨hg.os.trans hB2.os, hg.tape.trans hB2.tape, hg.output.trans hB2.output, Nat.le_trans hB2.size (Nat.le_trans hb3.size hg.size), fun q hq hn => ?_⟩
        exact (hg.block q (by have := hb3.size; omega) (fun e => by have := (ho.lt q e.symm).1; omega)).trans ((hb3.block q (by omega)).trans (hB2.block q hq hn))
      have hR3 : RdrAt w3 R (dgL l1 s1 (k + 1)).1 (dgL l1 s1 (k + 1)).2 := by
        rw [hst2.out.1, hst2.out.2]
        refine (hR2.below hb3).stays (fun q hq => G.grown.block q (by have := hb3.size; have := hR2.lt; omega) (fun e => by have := (ho.lt q e.symm).1; omega))
      go_roundw
      case rel =>
        have hR : ∃ (k' : Nat) (qs' : List Part) (tv' : Value), k' ≤ N ∧ (Value.int .i64 ((k : Int) + 1)) = .int .i64 k' ∧ tv' = v3 ∧ Hid (qs'.map (·.bs) = dgD l1 s1 k') ∧ w3.ownsRow w.heap.size 22 1 tv' k' (pv qs') ∧ Apart w3 w.heap.size tv' qs' ∧ RdrAt w3 R (dgL l1 s1 k').1 (dgL l1 s1 k').2 ∧ Only R w w3 :=
          ⟨k + 1, qs ++ [⟨da, dc, t⟩], v3, by omega, by go_num, rfl, (show _ = _ by rw [hst.out, List.map_append, hq.out]; rfl), by simpa [pv, Part.val] using ho3, hap3, hR3, ho3w⟩
        first | exact hR | ((repeat apply Exists.intro); exact ⟨hR, rfl⟩)
      case measure => simp [intOf]; omega
    · obtain rfl : k = N := by omega
      have hltI : ¬ (k : Int) < k := by omega
      obtain ⟨ra, rc, hv, hlq, hL, hfr⟩ := listAt_of_owns ho hap
      subst hv
      have HL : Hid (k = qs.length) := hlq
      clear hlq
      go_wp2_with fail
      go_ret
      exact ⟨ra, rc, qs, by rw [← HL.out]; rfl, hq.out, hL (by omega), hfr, hRk, hok⟩
end Go.Proofs.Ythlknldicpeobaa
