/- Rows of texts. -/
import Derived.Test.YtldlknmpkoebbaaApp
import Derived.Test.YtldlknmpkoebbaaSx
import Derived.Deep.CutRange
import Derived.Deep.DeepCutAuto
import Derived.Test.YtldlknmpkoebbaaTapeRecoversM30
import Derived.Test.YtldlknmpkoebbaaTapeRecoversM0
import Derived.Test.YtldlknmpkoebbaaTapeRecoversM6
import Derived.Deep.RegionHeld3
import Derived.Test.YtldlknmpkoebbaaStrsAt
import Derived.Deep.RegionHeld
namespace Go.Proofs.Ytldlknmpkoebbaa
open Go.RowKit

/-- Worlds that have grown, and have changed nothing old but one block. -/
structure Only (R : Nat) (w w' : World) : Prop where
  os : w'.os = w.os
  tape : w'.tape = w.tape
  output : w'.output = w.output
  size : w.heap.size ≤ w'.heap.size
  block : ∀ k, k < w.heap.size → k ≠ R → w'.heap[k]? = w.heap[k]?
set_option maxRecDepth 100000 in
theorem Only.refl (R : Nat) (w : World) : Only R w w := ⟨rfl, rfl, rfl, Nat.le_refl _, fun _ _ _ => rfl⟩
set_option maxRecDepth 100000 in
theorem Only.trans {R : Nat} {a b c : World} (h : Only R a b) (k : Only R b c) : Only R a c :=
  ⟨k.os.trans h.os, k.tape.trans h.tape, k.output.trans h.output, Nat.le_trans h.size k.size, fun i hi hn => (k.block i (Nat.lt_of_lt_of_le hi h.size) hn).trans (h.block i hi hn)⟩
set_option maxRecDepth 100000 in
theorem only_of_below {R : Nat} {w w' : World} (h : Below w.heap.size w w') : Only R w w' := ⟨h.os, h.tape, h.output, h.size, fun k hk _ => h.block k hk⟩
set_option maxRecDepth 100000 in
theorem Only.below {R B : Nat} {w w' : World} (h : Only R w w') (hR : B ≤ R) (hB : B ≤ w.heap.size) : Below B w w' := ⟨h.os, h.tape, h.output, h.size, fun k hk => h.block k (by omega) (by omega)⟩
set_option maxRecDepth 100000 in
theorem Only.setCell {R j : Nat} {w w' : World} {v : Value} (h : Only R w w') : Only R w (w'.setCell ⟨R, j, none⟩ v) :=
  ⟨h.os, h.tape, h.output, by simpa using h.size, fun k hk hn => (heap_setCell_other w' ⟨R, j, none⟩ k v hn).trans (h.block k hk hn)⟩
set_option maxRecDepth 100000 in
theorem SliceAt.only {R : Nat} {w w' : World} {sa : Option Addr} {cap : Nat} {bs : List Int} (h : SliceAt w sa cap bs) (ho : Only R w w') (hne : ∀ sb so, sa = Option.some ⟨sb, so, Option.none⟩ → sb ≠ R) : SliceAt w' sa cap bs := by
  refine ⟨h.le, h.max, h.some, h.nil, ?_⟩
  rcases h.bytes with hb | ⟨sb, so, e, hc⟩
  · exact .inl hb
  · exact .inr ⟨sb, so, e, fun j hj => (World.cell?_of_block (ho.block sb (block_lt_of_cell (hc j hj)) (hne sb so e))).trans (hc j hj)⟩
/-- A reader: these bytes are left to it. -/
structure RdrAt (w : World) (R : Nat) (l : List Int) (sh : Bool) : Prop where
  out : ∃ la c, w.heap[R]? = some (.cells #[.slice la l.length c, .bool sh] 104 (0, 0)) ∧ SliceAt w la c l ∧ ∀ sb so, la = some ⟨sb, so, none⟩ → sb ≠ R ∧ (l ≠ [] → sb < R)
set_option maxRecDepth 100000 in
theorem RdrAt.below {w w' : World} {R : Nat} {l : List Int} {sh : Bool} (h : RdrAt w R l sh) (hb : Below w.heap.size w w') : RdrAt w' R l sh := by
  obtain ⟨la, c, h1, h2, h3⟩ := h.out
  exact ⟨la, c, (hb.block _ (lt_of_heap h1)).trans h1, h2.below hb, h3⟩
set_option maxRecDepth 100000 in
theorem RdrAt.lt {w : World} {R : Nat} {l : List Int} {sh : Bool} (h : RdrAt w R l sh) : R < w.heap.size := by
  obtain ⟨la, c, h1, _⟩ := h.out
  exact lt_of_heap h1
set_option maxRecDepth 100000 in
/-- What changes newer blocks alone leaves it. -/
theorem RdrAt.stays {w w' : World} {R : Nat} {l : List Int} {sh : Bool} (h : RdrAt w R l sh) (hk : ∀ k, k ≤ R → w'.heap[k]? = w.heap[k]?) : RdrAt w' R l sh := by
  obtain ⟨la, c, h1, h2, h3⟩ := h.out
  refine ⟨la, c, (hk R (Nat.le_refl _)).trans h1, ⟨h2.le, h2.max, h2.some, h2.nil, ?_⟩, h3⟩
  rcases h2.bytes with hz | ⟨sb, so, e, hc⟩
  · exact .inl hz
  · by_cases hz : l = []
    · exact .inl hz
    · exact .inr ⟨sb, so, e, fun k hk' => (World.cell?_of_block (hk sb (Nat.le_of_lt ((h3 sb so e).2 hz)))).trans (hc k hk')⟩
set_option maxRecDepth 100000 in
theorem RdrAt.far {w : World} {R b j : Nat} {v : Value} {l : List Int} {sh : Bool} (h : RdrAt w R l sh) (hb : R < b) : RdrAt (w.setCell ⟨b, j, none⟩ v) R l sh :=
  h.stays (fun k hk => heap_setCell_other w ⟨b, j, none⟩ k v (by show k ≠ b; omega))
/-- What is taken, what is left, and whether it was too short. -/
def tkT (n : Nat) (l : List Int) (sh : Bool) : List Int := if sh = true ∨ l.length < n then [] else l.take n
def tkL (n : Nat) (l : List Int) (sh : Bool) : List Int := if sh = true ∨ l.length < n then l else l.drop n
def tkS (n : Nat) (l : List Int) (sh : Bool) : Bool := sh || decide (l.length < n)
set_option maxRecDepth 100000 in
theorem tk_short {n : Nat} {l : List Int} {sh : Bool} (h : sh = true ∨ l.length < n) : tkT n l sh = [] ∧ tkL n l sh = l ∧ tkS n l sh = true := by
  refine ⟨if_pos h, if_pos h, ?_⟩
  rcases h with h | h <;> simp [tkS, h]
set_option maxRecDepth 100000 in
theorem tk_ok {n : Nat} {l : List Int} (h : n ≤ l.length) : tkT n l false = l.take n ∧ tkL n l false = l.drop n ∧ tkS n l false = false := by
  have h' : ¬ ((false : Bool) = true ∨ l.length < n) := by simp; omega
  exact ⟨if_neg h', if_neg h', by simp [tkS]; omega⟩
set_option maxRecDepth 100000 in
theorem tk_len {n : Nat} {l : List Int} {sh : Bool} : (tkL n l sh).length ≤ l.length := by unfold tkL; split <;> simp
structure TakeIs (w w' : World) (e : Ending) (R : Nat) (t l : List Int) (sh : Bool) : Prop where
  out : ∃ ta tc, e = .returned (.slice ta t.length tc) ∧ SliceAt w' ta tc t ∧ (∀ sb so, ta = some ⟨sb, so, none⟩ → sb ≠ R) ∧ RdrAt w' R l sh ∧ Only R w w'
set_option maxRecDepth 100000 in
theorem cut_slice {w : World} {sb so c n : Nat} {l : List Int} (h : SliceAt w (some ⟨sb, so, none⟩) c l) (hn : n ≤ l.length) : SliceAt w (some ⟨sb, so + n, none⟩) (c - n) (l.drop n) := by
  refine ⟨by have := h.le; simp; omega, by have := h.max; omega, .inr ⟨_, _, rfl⟩, (fun e => by cases e), ?_⟩
  rcases h.bytes with hz | ⟨b, o, e, hc⟩
  · exact .inl (by rw [hz]; simp)
  · cases e
    refine .inr ⟨sb, so + n, rfl, fun j hj => ?_⟩
    rw [List.length_drop] at hj
    rw [Nat.add_assoc, hc (n + j) (by omega)]
    simp [List.getD]
set_option maxRecDepth 100000 in
theorem SliceAt.takeR {w : World} {sa : Option Addr} {cap : Nat} {bs : List Int} (h : SliceAt w sa cap bs) (m c : Nat) (hm : m ≤ bs.length) (hc1 : m ≤ c) (hc2 : c ≤ cap) (hn : sa = Option.none → c = 0) : SliceAt w sa c (bs.take m) := by
  refine ⟨by simp; omega, by have := h.max; omega, ?_, hn, ?_⟩
  · rcases h.some with e | e
    · exact .inl (by omega)
    · exact .inr e
  · rcases h.bytes with hb | ⟨sb, so, rfl, hb⟩
    · exact .inl (by rw [hb]; simp)
    · refine .inr ⟨sb, so, rfl, fun j hj => ?_⟩
      rw [List.length_take] at hj
      rw [hb j (by omega)]
      simp [List.getD, show j < m by omega]
set_option maxRecDepth 100000 in
set_option maxHeartbeats 1000000 in
theorem take_any (R n : Nat) (l : List Int) (sh : Bool) (w : World) (hR : RdrAt w R l sh) (hl : l.length ≤ 100000) (hn : n ≤ 100000) :
    Calls Try.prog 97 #[.pointer (some ⟨R, 0, none⟩), .int .i64 (n : Int)] w fun e w' => TakeIs w w' e R (tkT n l sh) (tkL n l sh) (tkS n l sh) := by
  obtain ⟨la, c, h1, h2, h3⟩ := hR.out
  have c0 : w.cell? ⟨R, 0, none⟩ = some (.slice la l.length c) := cells_at h1 0 _ rfl
  have c1 : w.cell? ⟨R, 1, none⟩ = some (.bool sh) := cells_at h1 1 _ rfl
  have f0 := frozen_at h1 0
  have f1 := frozen_at h1 1
  by_cases hs : l.length < n
  · have hsI : (l.length : Int) < n := by omega
    obtain ⟨e1, e2, e3⟩ := tk_short (sh := sh) (.inr hs)
    rw [e1, e2, e3]
    have q2 : (w.setCell ⟨R, 1, none⟩ (.bool true)).heap[R]? = some (.cells #[.slice la l.length c, .bool true] 104 (0, 0)) := by simpa using heap_setCell_same _ _ 1 _ _ (.bool true) h1
    have HF : Hid (TakeIs w (w.setCell ⟨R, 1, none⟩ (.bool true)) (.returned (.slice none 0 0)) R [] l true) := by
      refine ⟨none, 0, rfl, ⟨Nat.le_refl _, by decide, .inl rfl, fun _ => rfl, .inl rfl⟩, (fun _ _ e => by cases e), ⟨la, c, q2, h2.only ((Only.refl R w).setCell) (fun sb so e => (h3 sb so e).1), h3⟩, (Only.refl R w).setCell⟩
    clear q2 h1 h2 h3 hR e1 e2 e3 hs
    go_enter Try.func97, Try.ntmps97
    go_wp2_with fail
    go_ret
    exact HF.out
  · have hsI : ¬ (l.length : Int) < n := by omega
    cases sh with
    | true =>
      obtain ⟨e1, e2, e3⟩ := tk_short (l := l) (n := n) (sh := true) (.inl rfl)
      rw [e1, e2, e3]
      have HF : Hid (TakeIs w w (.returned (.slice none 0 0)) R [] l true) := ⟨none, 0, rfl, ⟨Nat.le_refl _, by decide, .inl rfl, fun _ => rfl, .inl rfl⟩, (fun _ _ e => by cases e), hR, Only.refl R w⟩
      clear h1 h2 h3 hR e1 e2 e3 hs
      go_enter Try.func97, Try.ntmps97
      go_wp2_with fail
      go_ret
      exact HF.out
    | false =>
      obtain ⟨e1, e2, e3⟩ := tk_ok (l := l) (n := n) (by omega)
      rw [e1, e2, e3]
      have hle := h2.le
      have hnc : (n : Int) ≤ c := by omega
      have hn0 : (0 : Int) ≤ n := by omega
      have hlc : (l.length : Int) ≤ c := by omega
      have hnl : (n : Int) ≤ l.length := by omega
      have hT : (l.take n).length = n := by rw [List.length_take]; omega
      have hD : (l.drop n).length = l.length - n := by rw [List.length_drop]
      cases la with
      | none =>
        have hc0 := h2.nil rfl
        have hl0 : l = [] := List.eq_nil_of_length_eq_zero (by omega)
        obtain rfl : n = 0 := by subst hl0; simp at hs; omega
        subst hl0 hc0
        have q2 : (w.setCell ⟨R, 0, none⟩ (.slice none 0 0)).heap[R]? = some (.cells #[.slice none 0 0, .bool false] 104 (0, 0)) := by simpa using heap_setCell_same _ _ 0 _ _ (.slice none 0 0) h1
        have HF : Hid (TakeIs w (w.setCell ⟨R, 0, none⟩ (.slice none 0 0)) (.returned (.slice none 0 0)) R [] [] false) := ⟨none, 0, rfl, ⟨Nat.le_refl _, by decide, .inl rfl, fun _ => rfl, .inl rfl⟩, (fun _ _ e => by cases e), ⟨none, 0, q2, ⟨Nat.le_refl _, by decide, .inl rfl, fun _ => rfl, .inl rfl⟩, fun _ _ e => by cases e⟩, (Only.refl R w).setCell⟩
        clear q2 h1 h2 h3 hR e1 e2 e3 hs hT hD
        go_enter Try.func97, Try.ntmps97
        go_wp2_with fail
        go_ret
        exact HF.out
      | some ad =>
        have hTs := h2.takeR n c (by omega) (by omega) (Nat.le_refl _) (fun e => by cases e)
        by_cases hc : c = n
        · obtain rfl : n = l.length := by omega
          subst hc
          have hdr : l.drop l.length = [] := List.drop_of_length_le (Nat.le_refl _)
          rw [hdr, List.take_of_length_le (Nat.le_refl _)]
          have q2 : (w.setCell ⟨R, 0, none⟩ (.slice (some ad) 0 0)).heap[R]? = some (.cells #[.slice (some ad) 0 0, .bool false] 104 (0, 0)) := by simpa using heap_setCell_same _ _ 0 _ _ (.slice (some ad) 0 0) h1
          have HF : Hid (TakeIs w (w.setCell ⟨R, 0, none⟩ (.slice (some ad) 0 0)) (.returned (.slice (some ad) l.length l.length)) R l [] false) := ⟨some ad, l.length, rfl, h2.only ((Only.refl R w).setCell) (fun sb so e => (h3 sb so e).1), (fun sb so e => (h3 sb so e).1), ⟨some ad, 0, q2, ⟨Nat.le_refl _, by decide, .inl rfl, (fun e => by cases e), .inl rfl⟩, fun sb so e => ⟨(h3 sb so e).1, fun h => absurd rfl h⟩⟩, (Only.refl R w).setCell⟩
          clear q2 h1 h2 h3 hR e1 e2 e3 hs hT hD hTs hdr
          go_enter Try.func97, Try.ntmps97
          go_wp2_with fail
          go_ret
          exact HF.out
        · obtain ⟨sb, so, had⟩ : ∃ sb so, (some ad : Option Addr) = some ⟨sb, so, none⟩ := by
            rcases h2.some with h | h
            · omega
            · exact h
          cases had
          have hcn : ¬ (c : Int) = n := by omega
          have hcn2 : (n : Int) < c := by omega
          have q2 : (w.setCell ⟨R, 0, none⟩ (.slice (some ⟨sb, so + n, none⟩) (l.length - n) (c - n))).heap[R]? = some (.cells #[.slice (some ⟨sb, so + n, none⟩) (l.drop n).length (c - n), .bool false] 104 (0, 0)) := by rw [hD]; simpa using heap_setCell_same _ _ 0 _ _ (.slice (some ⟨sb, so + n, none⟩) (l.length - n) (c - n)) h1
          have hne := h3 sb so rfl
          have HF : Hid (TakeIs w (w.setCell ⟨R, 0, none⟩ (.slice (some ⟨sb, so + n, none⟩) (l.length - n) (c - n))) (.returned (.slice (some ⟨sb, so, none⟩) n c)) R (l.take n) (l.drop n) false) := ⟨some ⟨sb, so, none⟩, c, by rw [hT], hTs.only ((Only.refl R w).setCell) (fun sb so e => (h3 sb so e).1), (fun sb so e => (h3 sb so e).1), ⟨some ⟨sb, so + n, none⟩, c - n, q2, (cut_slice h2 (by omega)).only ((Only.refl R w).setCell) (fun _ _ e => by cases e; exact hne.1), (fun _ _ e => by cases e; exact ⟨hne.1, fun hd => hne.2 (fun h0 => hd (by rw [h0]; simp))⟩)⟩, (Only.refl R w).setCell⟩
          clear q2 h1 h2 h3 hR e1 e2 e3 hs hT hD hTs hc
          go_enter Try.func97, Try.ntmps97
          go_wp2_with fail
          go_ret
          exact HF.out
end Go.Proofs.Ytldlknmpkoebbaa

namespace Go.Proofs.Ytldlknmpkoebbaa
open Go.RowKit

set_option maxRecDepth 100000 in
theorem i64_andor (a b : Nat) (ha : a < 9223372036854775808) (hb : b < 9223372036854775808) :
    bits .and .i64 (a : Int) (b : Int) = ((a &&& b : Nat) : Int) ∧ bits .or .i64 (a : Int) (b : Int) = ((a ||| b : Nat) : Int) := by
  refine bits_nat .i64 63 (by decide) (fun n h0 h1 => ?_) a b (by omega) (by omega)
  rw [IntKind.wrap_i64]
  have : n < 9223372036854775808 := by simpa using h1
  omega
set_option maxRecDepth 100000 in
theorem or_byte (y x : Int) (hy0 : 0 ≤ y) (hy1 : y ≤ 65535) (hx0 : 0 ≤ x) (hx1 : x ≤ 255) : bits .or .i64 (y * 256) x = 256 * y + x := by
  obtain ⟨a, rfl⟩ := Int.eq_ofNat_of_zero_le hy0
  obtain ⟨b, rfl⟩ := Int.eq_ofNat_of_zero_le hx0
  have h := (i64_andor (a * 256) b (by omega) (by omega)).2
  rw [show ((a : Int) * 256) = ((a * 256 : Nat) : Int) by omega, h]
  have e : a * 256 ||| b = a * 256 + b := by
    have := Nat.shiftLeft_add_eq_or_of_lt (i := 8) (b := b) (by omega) a
    rw [Nat.shiftLeft_eq] at this
    exact this.symm
  rw [e]
  omega
/-- A number, the highest byte first. -/
def numB (l : List Int) : Int := l.foldl (fun n x => 256 * n + x) 0
set_option maxRecDepth 100000 in
theorem numB_snoc (l : List Int) (x : Int) : numB (l ++ [x]) = 256 * numB l + x := by simp [numB]
def U8s (l : List Int) : Prop := ∀ x ∈ l, 0 ≤ x ∧ x ≤ 255
set_option maxRecDepth 100000 in
theorem numB_bounds (l : List Int) (h : U8s l) (hl : l.length ≤ 3) : 0 ≤ numB l ∧ numB l ≤ 16777215 := by
  match l, hl with
  | [], _ => decide
  | [a], _ => have := h a (by simp); simp [numB]; omega
  | [a, b], _ => have := h a (by simp); have := h b (by simp); simp [numB]; omega
  | [a, b, c], _ => have := h a (by simp); have := h b (by simp); have := h c (by simp); simp [numB]; omega
set_option maxRecDepth 100000 in
theorem U8s.tkT {n : Nat} {l : List Int} {sh : Bool} (h : U8s l) : U8s (tkT n l sh) := by
  unfold Go.Proofs.Ytldlknmpkoebbaa.tkT
  split
  · intro x hx; cases hx
  · intro x hx; exact h x (List.mem_of_mem_take hx)
set_option maxRecDepth 100000 in
theorem U8s.tkL {n : Nat} {l : List Int} {sh : Bool} (h : U8s l) : U8s (tkL n l sh) := by
  unfold Go.Proofs.Ytldlknmpkoebbaa.tkL
  split
  · exact h
  · intro x hx; exact h x (List.mem_of_mem_drop hx)
set_option maxRecDepth 100000 in
theorem tkT_len {n : Nat} {l : List Int} {sh : Bool} : (tkT n l sh).length ≤ n := by
  unfold tkT
  split
  · simp
  · rw [List.length_take]; omega
structure NumIs (w w' : World) (e : Ending) (R : Nat) (x : Int) (l : List Int) (sh : Bool) : Prop where
  out : e = .returned (.int .i64 x) ∧ RdrAt w' R l sh ∧ Only R w w'
set_option maxRecDepth 100000 in
set_option maxHeartbeats 1000000 in
theorem number_any (R n : Nat) (l : List Int) (sh : Bool) (w : World) (hR : RdrAt w R l sh) (hl : l.length ≤ 100000) (hn : n ≤ 3) (hu : U8s l) :
    Calls Try.prog 81 #[.pointer (some ⟨R, 0, none⟩), .int .i64 (n : Int)] w fun e w' => NumIs w w' e R (numB (tkT n l sh)) (tkL n l sh) (tkS n l sh) := by
  have hT := take_any R n l sh w hR hl (by omega)
  have hut := hu.tkT (n := n) (sh := sh)
  have htl := tkT_len (n := n) (l := l) (sh := sh)
  generalize tkT n l sh = t at *
  generalize tkL n l sh = l2 at *
  generalize tkS n l sh = s2 at *
  go_enter Try.func81, Try.ntmps81
  go_wp2_with fail
  refine hT.mono ?_
  rintro e w1 ⟨ta, tc, he, hs, -, hR1, ho⟩
  subst he
  dsimp only
  clear hT
  have htI : (t.length : Int) ≤ 3 := by omega
  go_upto_region 3 with fail
  go_loopw [12, 5] (fun j v wr => ∃ (k : Nat), k ≤ t.length ∧ j = .int .i64 k ∧ v = .int .i64 (numB (t.take k)) ∧ wr = w1) (fun j _ _ => t.length - (intOf j).toNat)
  case atStart => exact ⟨0, Nat.zero_le _, rfl, rfl, rfl⟩
  case round =>
    obtain ⟨k, hk, rfl, rfl, rfl⟩ := hrel
    by_cases hlt : k < t.length
    · have hltI : (k : Int) < t.length := by omega
      obtain ⟨sb, so, rfl, hc⟩ : ∃ sb so, ta = some ⟨sb, so, none⟩ ∧ ∀ j, j < t.length → wr.cell? ⟨sb, so + j, none⟩ = some (.int .u8 (t.getD j 0)) := by
        rcases hs.bytes with h | h
        · rw [h] at hlt; simp at hlt
        · exact h
      have ck := hc k hlt
      obtain ⟨hx0, hx1⟩ := hut (t.getD k 0) (by simp [List.getD, hlt])
      have hst : Hid (t.take (k + 1) = t.take k ++ [t.getD k 0]) := by
        show _ = _
        rw [List.take_succ_eq_append_getElem hlt]
        simp [List.getD, hlt]
      obtain ⟨hb0, hb1⟩ := numB_bounds (t.take k) (fun x hx => hut x (List.mem_of_mem_take hx)) (by rw [List.length_take]; omega)
      have hb2 : numB (t.take k) ≤ 65535 := by
        match k, hlt with
        | 0, _ => simp [numB]
        | 1, _ =>
          match t, hut with
          | [], _ => simp [numB]
          | a :: r, hu' => have := hu' a (by simp); simp [numB]; omega
        | 2, _ =>
          match t, hut with
          | [], _ => simp [numB]
          | [a], hu' => have := hu' a (by simp); simp [numB]; omega
          | a :: b :: r, hu' => have := hu' a (by simp); have := hu' b (by simp); simp [numB]; omega
        | k + 3, h => omega
      clear hc
      have hS : Hid (numB (t.take (k + 1)) = 256 * numB (t.take k) + t.getD k 0) := by show _ = _; rw [hst.out, numB_snoc]
      clear hst
      generalize t.getD k 0 = X at *
      generalize numB (t.take k) = Y at *
      have hOr : Hid (bits .or .i64 (Y * 256) X = 256 * Y + X) := or_byte Y X hb0 hb2 hx0 hx1
      go_wp2_with fail
      go_roundw
      case rel =>
        have hR : ∃ (k' : Nat), k' ≤ t.length ∧ (Value.int .i64 ((k : Int) + 1)) = .int .i64 k' ∧ Value.int .i64 (bits .or .i64 (Y * 256) X) = .int .i64 (numB (t.take k')) ∧ wr = wr :=
          ⟨k + 1, by omega, by go_num, by rw [hS.out, hOr.out], rfl⟩
        first | exact hR | simpa using hR
      case measure => simp [intOf]; omega
    · obtain rfl : k = t.length := by omega
      have hltI : ¬ (t.length : Int) < t.length := by omega
      go_wp2_with fail
      go_ret
      exact ⟨rfl, hR1, ho⟩
set_option maxRecDepth 100000 in
set_option maxHeartbeats 400000 in
theorem round_any (R : Nat) (l : List Int) (sh : Bool) (w : World) (hR : RdrAt w R l sh) (hl : l.length ≤ 100000) (hu : U8s l) :
    Calls Try.prog 86 #[.pointer (some ⟨R, 0, none⟩)] w fun e w' => NumIs w w' e R (numB (tkT 3 l sh)) (tkL 3 l sh) (tkS 3 l sh) := by
  have hN := number_any R 3 l sh w hR hl (by omega) hu
  go_enter Try.func86, Try.ntmps86
  go_wp2_with fail
  refine hN.mono ?_
  rintro e w1 ⟨he, h1, h2⟩
  subst he
  dsimp only
  go_wp2_with fail
  go_ret
  exact ⟨rfl, h1, h2⟩
end Go.Proofs.Ytldlknmpkoebbaa

namespace Go.Proofs.Ytldlknmpkoebbaa
open Go.RowKit

set_option maxRecDepth 100000 in
theorem owns_only {R : Nat} {w w' : World} {base n : Nat} {e : TypeId} {s : Nat} {v : Value} {xs : List Value} (h : w.ownsRow base e s v n xs) (ho : Only R w w') (hR : R < base) : w'.ownsRow base e s v n xs := by
  have hB : ∀ q, v.ownBlock = some q → base ≤ q ∧ q < w.heap.size := fun q e => h.lt q e
  obtain ⟨h1, h2⟩ := h
  refine ⟨h1, ?_⟩
  rcases h2 with h2 | ⟨g, cap, cur, rfl, hg, hc, r⟩
  · exact .inl h2
  · exact .inr ⟨g, cap, cur, rfl, hg, (ho.block g (hB g rfl).2 (by omega)).trans hc, r⟩
set_option maxRecDepth 100000 in
theorem apart_only {R : Nat} {w w' : World} {B : Nat} {v : Value} {qs : List Part} (h : Apart w B v qs) (ho : Only R w w') (hR : R < B) : Apart w' B v qs := fun p hp => by
  obtain ⟨h1, h2⟩ := h p hp
  exact ⟨h1.only ho (fun sb so e => by have := (h2 sb so e).1; omega), fun sb so e => ⟨(h2 sb so e).1, Nat.lt_of_lt_of_le (h2 sb so e).2.1 ho.size, (h2 sb so e).2.2⟩⟩
set_option maxRecDepth 100000 in
theorem apart_snoc {w w3 : World} {B : Nat} {v v1 : Value} {qs : List Part} {q : Part} {o : Obj} (h : Apart w B v qs) (hs : SliceAt w q.sa q.cap q.bs) (hq : ∀ sb so, q.sa = some ⟨sb, so, none⟩ → B ≤ sb ∧ sb < w.heap.size ∧ v.ownBlock ≠ some sb) (G : Grew (w.alloc o) v w3 v1) : Apart w3 B v1 (qs ++ [q]) := by
  have hA : Below w.heap.size w (w.alloc o) := (Below.refl _ _).alloc (Nat.le_refl _) _
  have hsz : (w.alloc o).heap.size = w.heap.size + 1 := by simp
  have h3 := G.grown.size
  have one : ∀ p : Part, SliceAt w p.sa p.cap p.bs → (∀ sb so, p.sa = some ⟨sb, so, none⟩ → B ≤ sb ∧ sb < w.heap.size ∧ v.ownBlock ≠ some sb) → SliceAt w3 p.sa p.cap p.bs ∧ ∀ sb so, p.sa = some ⟨sb, so, none⟩ → B ≤ sb ∧ sb < w3.heap.size ∧ v1.ownBlock ≠ some sb := fun p h1 h2 => by
    refine ⟨G.slice (h1.below hA) (fun sb so e => (h2 sb so e).2.2), fun sb so e => ?_⟩
    obtain ⟨a1, a2, a3⟩ := h2 sb so e
    refine ⟨a1, by omega, fun hv => ?_⟩
    rcases G.fresh sb hv with g | g
    · exact a3 g
    · omega
  intro p hp
  rcases List.mem_append.1 hp with hp | hp
  · exact one p (h p hp).1 (h p hp).2
  · obtain rfl : p = q := by simpa using hp
    exact one p hs hq
structure DigIs (w w' : World) (e : Ending) (R : Nat) (t l : List Int) (sh : Bool) : Prop where
  out : ∃ da dc, e = .returned (.slice da t.length dc) ∧ SliceAt w' da dc t ∧ (∀ sb so, da = some ⟨sb, so, none⟩ → w.heap.size ≤ sb ∧ sb < w'.heap.size) ∧ RdrAt w' R l sh ∧ Only R w w'
set_option maxRecDepth 100000 in
set_option maxHeartbeats 400000 in
theorem digest_any (R : Nat) (l : List Int) (sh : Bool) (w : World) (hR : RdrAt w R l sh) (hl : l.length ≤ 100000) :
    Calls Try.prog 99 #[.pointer (some ⟨R, 0, none⟩)] w fun e w' => DigIs w w' e R (tkT 32 l sh) (tkL 32 l sh) (tkS 32 l sh) := by
  have hN := take_any R 32 l sh w hR hl (by omega)
  have htl := tkT_len (n := 32) (l := l) (sh := sh)
  generalize tkT 32 l sh = t at *
  generalize tkL 32 l sh = l2 at *
  generalize tkS 32 l sh = s2 at *
  go_enter Try.func99, Try.ntmps99
  go_wp2_with fail
  refine hN.mono ?_
  rintro e w1 ⟨ta, tc, he, hs, -, hR1, ho1⟩
  subst he
  dsimp only
  go_wp2_with fail
  refine (clone_any t ta _ tc w1 rfl hs (by omega)).mono ?_
  rintro e w2 ⟨da, dc, he, hs2, hf, hb2⟩
  subst he
  dsimp only
  go_wp2_with fail
  go_ret
  exact ⟨da, dc, rfl, hs2, fun sb so e => by have := hf sb so e; have := ho1.size; omega, hR1.below hb2, ho1.trans (only_of_below hb2)⟩
/-- So many digests: what is left behind them, and these. -/
def dgL (l : List Int) (sh : Bool) : Nat → List Int × Bool
  | 0 => (l, sh)
  | k + 1 => (tkL 32 (dgL l sh k).1 (dgL l sh k).2, tkS 32 (dgL l sh k).1 (dgL l sh k).2)
def dgD (l : List Int) (sh : Bool) : Nat → List (List Int)
  | 0 => []
  | k + 1 => dgD l sh k ++ [tkT 32 (dgL l sh k).1 (dgL l sh k).2]
set_option maxRecDepth 100000 in
theorem dgL_len (l : List Int) (sh : Bool) (k : Nat) : (dgL l sh k).1.length ≤ l.length := by
  induction k with
  | zero => exact Nat.le_refl _
  | succ k ih => exact Nat.le_trans tk_len ih
set_option maxRecDepth 100000 in
theorem dgD_length (l : List Int) (sh : Bool) (k : Nat) : (dgD l sh k).length = k := by
  induction k with
  | zero => rfl
  | succ k ih => simp [dgD, ih]
set_option maxRecDepth 100000 in
theorem dgL_u8 (l : List Int) (sh : Bool) (k : Nat) (h : U8s l) : U8s (dgL l sh k).1 := by
  induction k with
  | zero => exact h
  | succ k ih => exact ih.tkL
def dN (l : List Int) (sh : Bool) : Nat := (numB (tkT 1 l sh)).toNat
/-- Lists of a reader. -/
structure DigsIs (w w' : World) (e : Ending) (R : Nat) (ls : List (List Int)) (l : List Int) (sh : Bool) : Prop where
  out : ∃ ra rc qs, e = .returned (.slice ra (List.length qs) rc) ∧ qs.map (·.bs) = ls ∧ ListAt w' ra rc qs ∧ Fresh w.heap.size ra qs ∧ RdrAt w' R l sh ∧ Only R w w'
set_option maxRecDepth 100000 in
theorem numB1_bounds {l : List Int} {sh : Bool} (h : U8s l) : 0 ≤ numB (tkT 1 l sh) ∧ numB (tkT 1 l sh) ≤ 255 := by
  have h1 := h.tkT (n := 1) (sh := sh)
  have h2 := tkT_len (n := 1) (l := l) (sh := sh)
  match tkT 1 l sh, h1, h2 with
  | [], _, _ => simp [numB]
  | [a], h, _ => have := h a (by simp); simp [numB]; omega
set_option maxRecDepth 100000 in
set_option maxHeartbeats 1000000 in
theorem digests_any (R : Nat) (l : List Int) (sh : Bool) (w : World) (hR : RdrAt w R l sh) (hl : l.length ≤ 100000) (hu : U8s l) :
    Calls Try.prog 98 #[.pointer (some ⟨R, 0, none⟩)] w fun e w' => DigsIs w w' e R (dgD (tkL 1 l sh) (tkS 1 l sh) (dN l sh)) (dgL (tkL 1 l sh) (tkS 1 l sh) (dN l sh)).1 (dgL (tkL 1 l sh) (tkS 1 l sh) (dN l sh)).2 := by
  obtain ⟨i, hi, hz0, hz1, hz2⟩ := info_parts infoBs
  have hN := number_any R 1 l sh w hR hl (by omega) hu
  obtain ⟨hb0, hb1⟩ := numB1_bounds (sh := sh) hu
  have hNI : ((dN l sh : Nat) : Int) = numB (tkT 1 l sh) := by unfold dN; omega
  have hl1 : (tkL 1 l sh).length ≤ 100000 := Nat.le_trans tk_len hl
  have hlt := hR.lt
  rw [← hNI] at hN hb1
  generalize dN l sh = N at *
  generalize tkL 1 l sh = l1 at *
  generalize tkS 1 l sh = s1 at *
  clear hNI hb0
  go_enter Try.func98, Try.ntmps98
  go_wp2_with fail
  refine hN.mono ?_
  rintro e w1 ⟨he, hR1, ho1⟩
  subst he
  dsimp only
  clear hN
  go_upto_region 3 with fail
  go_loopw [6, 3] (fun j v wr => ∃ (k : Nat) (qs : List Part) (tv : Value), k ≤ N ∧ j = .int .i64 k ∧ tv = v ∧ Hid (qs.map (·.bs) = dgD l1 s1 k) ∧ wr.ownsRow w.heap.size 22 1 tv k (pv qs) ∧ Apart wr w.heap.size tv qs ∧ RdrAt wr R (dgL l1 s1 k).1 (dgL l1 s1 k).2 ∧ Only R w wr) (fun j _ _ => N - (intOf j).toNat)
  case atStart => exact ⟨0, [], _, Nat.zero_le _, rfl, rfl, rfl, World.ownsRow_nil _ _ _ _, (fun p hp => by cases hp), hR1, ho1⟩
  case round =>
    obtain ⟨k, qs, tv, hk, rfl, rfl, hq, ho, hap, hRk, hok⟩ := hrel
    by_cases hltk : k < N
    · have hltI : (k : Int) < N := by omega
      have hD := digest_any R _ _ wr hRk (Nat.le_trans (dgL_len l1 s1 k) hl1)
      have hst : Hid (dgD l1 s1 (k + 1) = dgD l1 s1 k ++ [tkT 32 (dgL l1 s1 k).1 (dgL l1 s1 k).2]) := rfl
      have hst2 : Hid ((dgL l1 s1 (k + 1)).1 = tkL 32 (dgL l1 s1 k).1 (dgL l1 s1 k).2 ∧ (dgL l1 s1 (k + 1)).2 = tkS 32 (dgL l1 s1 k).1 (dgL l1 s1 k).2) := ⟨rfl, rfl⟩
      have htl := tkT_len (n := 32) (l := (dgL l1 s1 k).1) (sh := (dgL l1 s1 k).2)
      generalize tkT 32 (dgL l1 s1 k).1 (dgL l1 s1 k).2 = t at *
      go_wp2_with fail
      refine hD.mono ?_
      rintro e w2 ⟨da, dc, he, hs2, hf2, hR2, ho2⟩
      subst he
      dsimp only
      clear hD
      have hB2 := hok.trans ho2
      have hob := owns_only ho ho2 hlt
      have hap2 := apart_only hap ho2 hlt
      have hszw := hok.size
      have hszr := hB2.size
      go_wp2_with (at_builtin; refine wpList_append_own_at _ rfl _ _ 44 rfl w.heap.size 22 i (.slice none 0 0) 1 24 Try.underlying44 hi hz0 hz1 hz2 rfl (by decide) _ k _ rfl (World.ownsRow.alloc hob _) ⟨w2.heap.size, 0, none⟩ 1 1 [.slice da t.length dc] rfl rfl (cells_new _ _ _) (by intro u hu; simp at hu; subst hu; rfl) (by unfold maxLen; omega) (by omega) (le_alloc hB2.size _) ?_; intro v3 w3 ho3 hg3 _ hat3)
      have G := Grew.of hg3 hat3
      have hap3 := apart_snoc (q := ⟨da, dc, t⟩) hap2 hs2 (fun sb so e => by
        have h := hf2 sb so e
        exact ⟨by omega, h.2, fun hv => by have := (ho.lt sb hv).2; omega⟩) G
      have hb3 : Below w2.heap.size w2 (w2.alloc (.cells #[.slice da t.length dc] 22)) := (Below.refl _ _).alloc (Nat.le_refl _) _
      have ho3w : Only R w w3 := by
        have hg := G.grown
        refine ⟨hg.os.trans hB2.os, hg.tape.trans hB2.tape, hg.output.trans hB2.output, Nat.le_trans hB2.size (Nat.le_trans hb3.size hg.size), fun q hq hn => ?_⟩
        exact (hg.block q (by have := hb3.size; omega) (fun e => by have := (ho.lt q e.symm).1; omega)).trans ((hb3.block q (by omega)).trans (hB2.block q hq hn))
      have hR3 : RdrAt w3 R (dgL l1 s1 (k + 1)).1 (dgL l1 s1 (k + 1)).2 := by
        rw [hst2.out.1, hst2.out.2]
        refine (hR2.below hb3).stays (fun q hq => G.grown.block q (by have := hb3.size; have := hR2.lt; omega) (fun e => by have := (ho.lt q e.symm).1; omega))
      go_roundw
      case rel =>
        have hR : ∃ (k' : Nat) (qs' : List Part) (tv' : Value), k' ≤ N ∧ (Value.int .i64 ((k : Int) + 1)) = .int .i64 k' ∧ tv' = v3 ∧ Hid (qs'.map (·.bs) = dgD l1 s1 k') ∧ w3.ownsRow w.heap.size 22 1 tv' k' (pv qs') ∧ Apart w3 w.heap.size tv' qs' ∧ RdrAt w3 R (dgL l1 s1 k').1 (dgL l1 s1 k').2 ∧ Only R w w3 :=
          ⟨k + 1, qs ++ [⟨da, dc, t⟩], v3, by omega, by go_num, rfl, (show _ = _ by rw [hst.out, List.map_append, hq.out]; rfl), by simpa [pv, Part.val] using ho3, hap3, hR3, ho3w⟩
        first | exact hR | ((repeat apply Exists.intro); exact ⟨hR, rfl⟩)
      case measure => simp [intOf]; omega
    · obtain rfl : k = N := by omega
      have hltI : ¬ (k : Int) < k := by omega
      obtain ⟨ra, rc, hv, hlq, hL, hfr⟩ := listAt_of_owns ho hap
      subst hv
      have HL : Hid (k = qs.length) := hlq
      clear hlq
      go_wp2_with fail
      go_ret
      exact ⟨ra, rc, qs, by rw [← HL.out]; rfl, hq.out, hL (by omega), hfr, hRk, hok⟩
end Go.Proofs.Ytldlknmpkoebbaa

namespace Go.Proofs.Ytldlknmpkoebbaa
open Go.RowKit

/-- What is left to a reader, and whether it was too short. -/
abbrev St := List Int × Bool
def nx (n : Nat) (s : St) : St := (tkL n s.1 s.2, tkS n s.1 s.2)
def tT (n : Nat) (s : St) : List Int := tkT n s.1 s.2
def nB (n : Nat) (s : St) : Int := numB (tT n s)
def dgs (s : St) : List (List Int) := dgD (nx 1 s).1 (nx 1 s).2 (dN s.1 s.2)
def dgS (s : St) : St := dgL (nx 1 s).1 (nx 1 s).2 (dN s.1 s.2)
structure GoodS (s : St) : Prop where
  len : s.1.length ≤ 100000
  u8 : U8s s.1
set_option maxRecDepth 100000 in
theorem GoodS.nx {n : Nat} {s : St} (h : GoodS s) : GoodS (nx n s) := ⟨Nat.le_trans tk_len h.len, h.u8.tkL⟩
set_option maxRecDepth 100000 in
theorem GoodS.dgS {s : St} (h : GoodS s) : GoodS (dgS s) := ⟨Nat.le_trans (dgL_len _ _ _) (h.nx (n := 1)).len, dgL_u8 _ _ _ (h.nx (n := 1)).u8⟩
def RdS (w : World) (R : Nat) (s : St) : Prop := RdrAt w R s.1 s.2
set_option maxRecDepth 100000 in
theorem number_st (R n : Nat) (s : St) (w : World) (hR : RdS w R s) (hs : GoodS s) (hn : n ≤ 3) :
    Calls Try.prog 81 #[.pointer (some ⟨R, 0, none⟩), .int .i64 (n : Int)] w fun e w' => e = .returned (.int .i64 (nB n s)) ∧ RdS w' R (nx n s) ∧ Only R w w' :=
  (number_any R n s.1 s.2 w hR hs.len hn hs.u8).mono (fun _ _ h => h.out)
set_option maxRecDepth 100000 in
theorem round_st (R : Nat) (s : St) (w : World) (hR : RdS w R s) (hs : GoodS s) :
    Calls Try.prog 86 #[.pointer (some ⟨R, 0, none⟩)] w fun e w' => e = .returned (.int .i64 (nB 3 s)) ∧ RdS w' R (nx 3 s) ∧ Only R w w' :=
  (round_any R s.1 s.2 w hR hs.len hs.u8).mono (fun _ _ h => h.out)
set_option maxRecDepth 100000 in
theorem list_only {R B : Nat} {w w' : World} {ra : Option Addr} {rc : Nat} {qs : List Part} (h : ListAt w ra rc qs) (hf : Fresh B ra qs) (ho : Only R w w') (hR : R < B) : ListAt w' ra rc qs := by
  refine ⟨h.le, h.max, h.small, h.some, ⟨?_, fun p hp => (h.parts.each p hp).only ho (fun sb so e => by have := hf.each p hp sb so e; omega)⟩⟩
  rcases h.parts.cells with hc | ⟨sb, so, e, hc⟩
  · exact .inl hc
  · exact .inr ⟨sb, so, e, fun j hj => (World.cell?_of_block (ho.block sb (block_lt_of_cell (hc j hj)) (by have := hf.row sb so e; omega))).trans (hc j hj)⟩
structure SlotR (w w' : World) (e : Ending) (R : Nat) (s : St) : Prop where
  out : ∃ da dc, e = .returned (.agg #[.int .i64 (nB 1 s), .int .i64 (nB 3 (nx 1 s)), .slice da (tT 32 (nx 3 (nx 1 s))).length dc]) ∧ SliceAt w' da dc (tT 32 (nx 3 (nx 1 s))) ∧ (∀ sb so, da = some ⟨sb, so, none⟩ → w.heap.size ≤ sb) ∧ RdS w' R (nx 32 (nx 3 (nx 1 s))) ∧ Only R w w'
set_option maxRecDepth 100000 in
set_option maxHeartbeats 1000000 in
theorem slot_any (R : Nat) (s : St) (w : World) (hR : RdS w R s) (hs : GoodS s) :
    Calls Try.prog 84 #[.pointer (some ⟨R, 0, none⟩)] w fun e w' => SlotR w w' e R s := by
  have hlt : R < w.heap.size := hR.lt
  have hA : Below w.heap.size w (w.alloc (.cells #[.int .i64 0, .int .i64 0, .slice none 0 0] 48)) := (Below.refl _ _).alloc (Nat.le_refl _) _
  have q0 := heap_alloc_new w (.cells #[.int .i64 0, .int .i64 0, .slice none 0 0] 48)
  have hsz : w.heap.size < (w.alloc (.cells #[.int .i64 0, .int .i64 0, .slice none 0 0] 48)).heap.size := lt_of_heap q0
  go_enter Try.func84, Try.ntmps84
  go_wp2_with fail
  generalize w.alloc (.cells #[.int .i64 0, .int .i64 0, .slice none 0 0] 48) = W0 at hA q0 hsz ⊢
  refine (number_st R 1 s W0 (RdrAt.below hR hA) hs (by omega)).mono ?_
  rintro e w1 ⟨he, hR1, ho1⟩
  subst he
  dsimp only
  go_wp2_with fail
  refine (round_st R _ w1 hR1 hs.nx).mono ?_
  rintro e w2 ⟨he, hR2, ho2⟩
  subst he
  dsimp only
  go_wp2_with fail
  refine (digest_any R _ _ w2 hR2 hs.nx.nx.len).mono ?_
  rintro e w3 ⟨da, dc, he, hs3, hf3, hR3, ho3⟩
  subst he
  dsimp only
  have hO := (ho1.trans ho2).trans ho3
  have p3 := (hO.block _ hsz (by omega)).trans q0
  have d0 := cells_at p3 0 _ rfl
  have d1 := cells_at p3 1 _ rfl
  have d2 := cells_at p3 2 _ rfl
  have f0 := frozen_at p3 0
  have f1 := frozen_at p3 1
  have f2 := frozen_at p3 2
  have hX : Hid (SlotR w (((w3.setCell ⟨w.heap.size, 0, none⟩ (.int .i64 (nB 1 s))).setCell ⟨w.heap.size, 1, none⟩ (.int .i64 (nB 3 (nx 1 s)))).setCell ⟨w.heap.size, 2, none⟩ (.slice da (tT 32 (nx 3 (nx 1 s))).length dc)) (.returned (.agg #[.int .i64 (nB 1 s), .int .i64 (nB 3 (nx 1 s)), .slice da (tT 32 (nx 3 (nx 1 s))).length dc])) R s) := by
    have hsz2 := (ho1.trans ho2).size
    have hne : ∀ sb so, da = some ⟨sb, so, none⟩ → w.heap.size ≠ sb := fun sb so e => by have := (hf3 sb so e).1; omega
    refine ⟨da, dc, rfl, ?_, fun sb so e => by have := (hf3 sb so e).1; omega, ((hR3.far hlt).far hlt).far hlt, ?_⟩
    · have far : ∀ (W : World) (j : Nat) (v : Value), SliceAt W da dc (tT 32 (nx 3 (nx 1 s))) → SliceAt (W.setCell ⟨w.heap.size, j, none⟩ v) da dc (tT 32 (nx 3 (nx 1 s))) := fun W j v h => h.only (R := w.heap.size) ((Only.refl _ W).setCell) (fun sb so e e2 => hne sb so e e2.symm)
      exact far _ _ _ (far _ _ _ (far _ _ _ hs3))
    · have hOw := (only_of_below (R := R) hA).trans hO
      refine ⟨hOw.os, hOw.tape, hOw.output, by simpa using hOw.size, fun k hk hn => ?_⟩
      exact (heap_setCell_other _ ⟨w.heap.size, 2, none⟩ k _ (by show k ≠ w.heap.size; omega)).trans ((heap_setCell_other _ ⟨w.heap.size, 1, none⟩ k _ (by show k ≠ w.heap.size; omega)).trans ((heap_setCell_other _ ⟨w.heap.size, 0, none⟩ k _ (by show k ≠ w.heap.size; omega)).trans (hOw.block k hk hn)))
  clear hs3 hf3 hR3 hR1 hR2 hO ho1 ho2 ho3 p3
  change Hid (SlotR w (((w3.setCell ⟨w.heap.size, 0, none⟩ (.int .i64 (nB 1 s))).setCell ⟨w.heap.size, 1, none⟩ (.int .i64 (nB 3 (nx 1 s)))).setCell ⟨w.heap.size, 2, none⟩ (.slice da (tkT 32 (nx 3 (nx 1 s)).1 (nx 3 (nx 1 s)).2).length dc)) (.returned (.agg #[.int .i64 (nB 1 s), .int .i64 (nB 3 (nx 1 s)), .slice da (tkT 32 (nx 3 (nx 1 s)).1 (nx 3 (nx 1 s)).2).length dc])) R s) at hX
  go_wp2_with fail
  exact bodyPost_ret (v := .agg #[.int .i64 (nB 1 s), .int .i64 (nB 3 (nx 1 s)), .slice da (tkT 32 (nx 3 (nx 1 s)).1 (nx 3 (nx 1 s)).2).length dc]) (by simp [results, Try.results84, go_sem, d0, d1, d2]) rfl hX.out
structure HeadRd (w w' : World) (e : Ending) (R : Nat) (s : St) : Prop where
  out : ∃ ba bc bl pa pc pl, e = .returned (.agg #[.int .i64 (nB 1 s), .int .i64 (nB 3 (nx 1 s)), .slice ba (List.length bl) bc, .slice pa (List.length pl) pc]) ∧ bl.map (·.bs) = dgs (nx 3 (nx 1 s)) ∧ pl.map (·.bs) = dgs (dgS (nx 3 (nx 1 s))) ∧ ListAt w' ba bc bl ∧ ListAt w' pa pc pl ∧ Fresh w.heap.size ba bl ∧ Fresh w.heap.size pa pl ∧ RdS w' R (dgS (dgS (nx 3 (nx 1 s)))) ∧ Only R w w'
set_option maxRecDepth 100000 in
set_option maxHeartbeats 1000000 in
theorem header_rd (R : Nat) (s : St) (w : World) (hR : RdS w R s) (hs : GoodS s) :
    Calls Try.prog 83 #[.pointer (some ⟨R, 0, none⟩)] w fun e w' => HeadRd w w' e R s := by
  have hlt : R < w.heap.size := hR.lt
  have hA : Below w.heap.size w (w.alloc (.cells #[.int .i64 0, .int .i64 0, .slice none 0 0, .slice none 0 0] 46)) := (Below.refl _ _).alloc (Nat.le_refl _) _
  have q0 := heap_alloc_new w (.cells #[.int .i64 0, .int .i64 0, .slice none 0 0, .slice none 0 0] 46)
  have hsz : w.heap.size < (w.alloc (.cells #[.int .i64 0, .int .i64 0, .slice none 0 0, .slice none 0 0] 46)).heap.size := lt_of_heap q0
  go_enter Try.func83, Try.ntmps83
  go_wp2_with fail
  generalize w.alloc (.cells #[.int .i64 0, .int .i64 0, .slice none 0 0, .slice none 0 0] 46) = W0 at hA q0 hsz ⊢
  refine (number_st R 1 s W0 (RdrAt.below hR hA) hs (by omega)).mono ?_
  rintro e w1 ⟨he, hR1, ho1⟩
  subst he
  dsimp only
  go_wp2_with fail
  refine (round_st R _ w1 hR1 hs.nx).mono ?_
  rintro e w2 ⟨he, hR2, ho2⟩
  subst he
  dsimp only
  go_wp2_with fail
  refine (digests_any R _ _ w2 hR2 hs.nx.nx.len hs.nx.nx.u8).mono ?_
  rintro e w3 ⟨ba, bc, bl, he, hq3, hL3, hF3, hR3, ho3⟩
  subst he
  dsimp only
  go_wp2_with fail
  refine (digests_any R _ _ w3 hR3 (GoodS.dgS hs.nx.nx).len (GoodS.dgS hs.nx.nx).u8).mono ?_
  rintro e w4 ⟨pa, pc, pl, he, hq4, hL4, hF4, hR4, ho4⟩
  subst he
  dsimp only
  have hO := ((ho1.trans ho2).trans ho3).trans ho4
  have hsz2 := (ho1.trans ho2).size
  have hsz3 := ((ho1.trans ho2).trans ho3).size
  have p3 := (hO.block _ hsz (by omega)).trans q0
  have d0 := cells_at p3 0 _ rfl
  have d1 := cells_at p3 1 _ rfl
  have d2 := cells_at p3 2 _ rfl
  have d3 := cells_at p3 3 _ rfl
  have f0 := frozen_at p3 0
  have f1 := frozen_at p3 1
  have f2 := frozen_at p3 2
  have f3 := frozen_at p3 3
  have hX : Hid (HeadRd w ((((w4.setCell ⟨w.heap.size, 0, none⟩ (.int .i64 (nB 1 s))).setCell ⟨w.heap.size, 1, none⟩ (.int .i64 (nB 3 (nx 1 s)))).setCell ⟨w.heap.size, 2, none⟩ (.slice ba bl.length bc)).setCell ⟨w.heap.size, 3, none⟩ (.slice pa pl.length pc)) (.returned (.agg #[.int .i64 (nB 1 s), .int .i64 (nB 3 (nx 1 s)), .slice ba bl.length bc, .slice pa pl.length pc])) R s) := by
    have hL3' := list_only hL3 hF3 ho4 (by omega)
    have far : ∀ (W : World) (ra : Option Addr) (rc : Nat) (qs : List Part) (B j : Nat) (v : Value), w.heap.size < B → Fresh B ra qs → ListAt W ra rc qs → ListAt (W.setCell ⟨w.heap.size, j, none⟩ v) ra rc qs := fun W ra rc qs B j v hB hF h => h.setCell hF _ _ _ hB
    refine ⟨ba, bc, bl, pa, pc, pl, rfl, hq3, hq4, ?_, ?_, ⟨fun sb so e => by have := hF3.row sb so e; omega, fun p hp sb so e => by have := hF3.each p hp sb so e; omega⟩, ⟨fun sb so e => by have := hF4.row sb so e; omega, fun p hp sb so e => by have := hF4.each p hp sb so e; omega⟩, (((hR4.far hlt).far hlt).far hlt).far hlt, ?_⟩
    · exact far _ _ _ _ _ _ _ (by omega) hF3 (far _ _ _ _ _ _ _ (by omega) hF3 (far _ _ _ _ _ _ _ (by omega) hF3 (far _ _ _ _ w2.heap.size _ _ (by omega) hF3 hL3')))
    · exact far _ _ _ _ _ _ _ (by omega) hF4 (far _ _ _ _ _ _ _ (by omega) hF4 (far _ _ _ _ _ _ _ (by omega) hF4 (far _ _ _ _ w3.heap.size _ _ (by omega) hF4 hL4)))
    · have hOw := (only_of_below (R := R) hA).trans hO
      refine ⟨hOw.os, hOw.tape, hOw.output, by simpa using hOw.size, fun k hk hn => ?_⟩
      exact (heap_setCell_other _ ⟨w.heap.size, 3, none⟩ k _ (by show k ≠ w.heap.size; omega)).trans ((heap_setCell_other _ ⟨w.heap.size, 2, none⟩ k _ (by show k ≠ w.heap.size; omega)).trans ((heap_setCell_other _ ⟨w.heap.size, 1, none⟩ k _ (by show k ≠ w.heap.size; omega)).trans ((heap_setCell_other _ ⟨w.heap.size, 0, none⟩ k _ (by show k ≠ w.heap.size; omega)).trans (hOw.block k hk hn))))
  clear hq3 hq4 hL3 hL4 hF3 hF4 hR3 hR4 hR1 hR2 hO ho1 ho2 ho3 ho4 p3 hsz2 hsz3
  go_wp2_with fail
  exact bodyPost_ret (v := .agg #[.int .i64 (nB 1 s), .int .i64 (nB 3 (nx 1 s)), .slice ba bl.length bc, .slice pa pl.length pc]) (by simp [results, Try.results83, go_sem, d0, d1, d2, d3]) rfl hX.out
end Go.Proofs.Ytldlknmpkoebbaa

namespace Go.Proofs.Ytldlknmpkoebbaa
open Go.RowKit

/-- So many numbers of one byte. -/
def nL (s : St) : Nat → St
  | 0 => s
  | k + 1 => nx 1 (nL s k)
def nV (s : St) : Nat → List Int
  | 0 => []
  | k + 1 => nV s k ++ [nB 1 (nL s k)]
set_option maxRecDepth 100000 in
theorem nL_good {s : St} (h : GoodS s) (k : Nat) : GoodS (nL s k) := by
  induction k with
  | zero => exact h
  | succ k ih => exact ih.nx
set_option maxRecDepth 100000 in
theorem nV_length (s : St) (k : Nat) : (nV s k).length = k := by
  induction k with
  | zero => rfl
  | succ k ih => simp [nV, ih]
set_option maxRecDepth 100000 in
theorem infoIntR : (Try.prog.info? 3).map (fun i => (i.zero, i.size, i.bytes)) = some (some (.int .i64 0), 1, 8) := by kernel_rfl
set_option maxRecDepth 100000 in
theorem only_of_drew {R : Nat} {w w' : World} (h : Only R w.drew w') : Only R w w' := ⟨h.os, h.tape, h.output, h.size, h.block⟩
def hS4 (s : St) : St := dgS (dgS (nx 3 (nx 1 s)))
def cN (s : St) : Nat := (nB 1 (hS4 s)).toNat
structure CertRd (w w' : World) (e : Ending) (R : Nat) (s : St) : Prop where
  out : ∃ ba bc bl pa pc pl va vc, e = .returned (.agg #[.int .i64 (nB 1 s), .int .i64 (nB 3 (nx 1 s)), .slice ba (List.length bl) bc, .slice pa (List.length pl) pc, .slice va (cN s) vc]) ∧ bl.map (·.bs) = dgs (nx 3 (nx 1 s)) ∧ pl.map (·.bs) = dgs (dgS (nx 3 (nx 1 s))) ∧ ListAt w' ba bc bl ∧ ListAt w' pa pc pl ∧ Fresh w.heap.size ba bl ∧ Fresh w.heap.size pa pl ∧ IntsAt w' va (nV (nx 1 (hS4 s)) (cN s)) ∧ (∀ sb so, va = some ⟨sb, so, none⟩ → w.heap.size ≤ sb) ∧ RdS w' R (nL (nx 1 (hS4 s)) (cN s)) ∧ Only R w w'
set_option maxRecDepth 100000 in
theorem ints_ownedR {w : World} {base n : Nat} {v : Value} {vl : List Int} (h : w.ownsRow base 3 1 v n (iv vl)) : ∃ va vc, v = .slice va n vc ∧ IntsAt w va vl ∧ ∀ sb so, va = some ⟨sb, so, none⟩ → base ≤ sb := by
  have hl : n = vl.length := by have := h.1; simp [iv] at this; omega
  have hlt := h.lt
  rcases h.2 with ⟨e, hn⟩ | ⟨g, cap, cur, e, hg, _⟩
  · exact ⟨none, 0, by rw [e, hn], ⟨.inl (List.eq_nil_of_length_eq_zero (by omega))⟩, fun _ _ e => by cases e⟩
  · subst e
    refine ⟨_, _, rfl, ⟨.inr ⟨g, 0, rfl, fun j hj => ?_⟩⟩, fun sb so e => by cases e; exact hg⟩
    rw [Nat.zero_add, World.ownsRow.cellAt h j (by omega)]
    simp [iv, hj]
set_option maxRecDepth 100000 in
theorem ints_only {R : Nat} {w w' : World} {va : Option Addr} {vl : List Int} (h : IntsAt w va vl) (ho : Only R w w') (hne : ∀ sb so, va = some ⟨sb, so, none⟩ → sb ≠ R) : IntsAt w' va vl := by
  refine ⟨?_⟩
  rcases h.cells with hb | ⟨sb, so, e, hc⟩
  · exact .inl hb
  · exact .inr ⟨sb, so, e, fun j hj => (World.cell?_of_block (ho.block sb (block_lt_of_cell (hc j hj)) (hne sb so e))).trans (hc j hj)⟩
set_option maxRecDepth 100000 in
set_option maxHeartbeats 4000000 in
theorem cert_rd (R : Nat) (s : St) (w : World) (hR : RdS w R s) (hs : GoodS s) :
    Calls Try.prog 85 #[.pointer (some ⟨R, 0, none⟩)] w fun e w' => CertRd w w' e R s := by
  obtain ⟨i, hi, hz0, hz1, hz2⟩ := info_parts infoIntR
  have hlt : R < w.heap.size := hR.lt
  have hA : Below w.heap.size w (w.alloc (.cells #[.int .i64 0, .int .i64 0, .slice none 0 0, .slice none 0 0, .slice none 0 0] 51)) := (Below.refl _ _).alloc (Nat.le_refl _) _
  have q0 := heap_alloc_new w (.cells #[.int .i64 0, .int .i64 0, .slice none 0 0, .slice none 0 0, .slice none 0 0] 51)
  have hsz : w.heap.size < (w.alloc (.cells #[.int .i64 0, .int .i64 0, .slice none 0 0, .slice none 0 0, .slice none 0 0] 51)).heap.size := lt_of_heap q0
  have hg4 : GoodS (hS4 s) := GoodS.dgS (GoodS.dgS hs.nx.nx)
  obtain ⟨hb0, hb1⟩ := numB1_bounds (l := (hS4 s).1) (sh := (hS4 s).2) hg4.u8
  have hNI : Hid (((cN s : Nat) : Int) = nB 1 (hS4 s)) := by show _ = _; show ((numB (tkT 1 (hS4 s).1 (hS4 s).2)).toNat : Int) = numB (tkT 1 (hS4 s).1 (hS4 s).2); omega
  have hN255 : cN s ≤ 255 := by show (numB (tkT 1 (hS4 s).1 (hS4 s).2)).toNat ≤ 255; omega
  clear hb0 hb1
  go_enter Try.func85, Try.ntmps85
  go_wp2_with fail
  generalize w.alloc (.cells #[.int .i64 0, .int .i64 0, .slice none 0 0, .slice none 0 0, .slice none 0 0] 51) = W0 at hA q0 hsz ⊢
  refine (header_rd R s W0 (RdrAt.below hR hA) hs).mono ?_
  rintro e w1 ⟨ba, bc, bl, pa, pc, pl, he, hq1, hq2, hL1, hL2, hF1, hF2, hR1, ho1⟩
  subst he
  dsimp only
  have p0 := (ho1.block _ hsz (by omega)).trans q0
  have hOw1 := (only_of_below (R := R) hA).trans ho1
  have hlt1 : w.heap.size < w1.heap.size := lt_of_heap p0
  generalize hAU' : nB 1 s = AU at *
  generalize hRD' : nB 3 (nx 1 s) = RD at *
  have hAU : Hid (nB 1 s = AU) := hAU'
  have hRD : Hid (nB 3 (nx 1 s) = RD) := hRD'
  clear hAU' hRD'
  go_upto_region 2 with fail
  have hA1 : Below w1.heap.size w1 (w1.alloc (.cells #[.int .i64 AU, .int .i64 RD, .slice ba bl.length bc, .slice pa pl.length pc, .slice none 0 0] 51)) := (Below.refl _ _).alloc (Nat.le_refl _) _
  have qC := heap_alloc_new w1 (.cells #[.int .i64 AU, .int .i64 RD, .slice ba bl.length bc, .slice pa pl.length pc, .slice none 0 0] 51)
  have hszC : w1.heap.size < (w1.alloc (.cells #[.int .i64 AU, .int .i64 RD, .slice ba bl.length bc, .slice pa pl.length pc, .slice none 0 0] 51)).heap.size := lt_of_heap qC
  generalize hCB : w1.heap.size = CB at qC hszC ⊢
  generalize w1.alloc (.cells #[.int .i64 AU, .int .i64 RD, .slice ba bl.length bc, .slice pa pl.length pc, .slice none 0 0] 51) = W1 at hA1 qC hszC ⊢
  have HCB : Hid (w1.heap.size = CB) := hCB
  have hRCB : R < CB := by omega
  have hwCB : w.heap.size < CB := by omega
  clear hCB
  have hN := number_st R 1 (hS4 s) W1 (RdrAt.below hR1 hA1) hg4 (by omega)
  rw [← hNI.out] at hN
  go_wp2_with fail
  refine hN.mono ?_
  rintro e w2 ⟨he, hR2, ho2⟩
  subst he
  dsimp only
  clear hN
  have p2 := (ho2.block _ hszC (by omega)).trans qC
  have hO12 : Only R w1 w2 := (only_of_below hA1).trans ho2
  have hg5 : GoodS (nx 1 (hS4 s)) := hg4.nx
  generalize hs5 : nx 1 (hS4 s) = s5 at *
  generalize hcn : cN s = N at *
  have HS5 : Hid (nx 1 (hS4 s) = s5) := hs5
  have HK : Hid (cN s = N) := hcn
  clear hs5 hcn
  go_upto_region 3 with fail
  go_loopw [9] (fun j wr => ∃ (k : Nat) (tv : Value), k ≤ N ∧ j = .int .i64 k ∧ wr.ownsRow W1.heap.size 3 1 tv k (iv (nV s5 k)) ∧ wr.heap[CB]? = some (.cells #[.int .i64 AU, .int .i64 RD, .slice ba bl.length bc, .slice pa pl.length pc, tv] 51 (0, 0)) ∧ RdS wr R (nL s5 k) ∧ Only R w1 wr ∧ W1.heap.size ≤ wr.heap.size) (fun j _ => N - (intOf j).toNat)
  case atStart => exact ⟨0, .slice none 0 0, Nat.zero_le _, rfl, World.ownsRow_nil _ _ _ _, p2, hR2, hO12, ho2.size⟩
  case round =>
    obtain ⟨k, tv, hk, rfl, ho, r0, hRk, hok, hszk⟩ := hrel
    by_cases hltk : k < N
    · have hltI : (k : Int) < N := by omega
      have hNk := number_st R 1 (nL s5 k) wr.drew (RdrAt.below hRk ((Below.refl _ _).drew)) (nL_good hg5 k) (by omega)
      have hst : Hid (nV s5 (k + 1) = nV s5 k ++ [nB 1 (nL s5 k)]) := rfl
      have hst2 : Hid (nL s5 (k + 1) = nx 1 (nL s5 k)) := rfl
      have hE2 : Hid (∀ args w, (callFunc 81 args).run Try.prog w = .ok (.enter 81 args) w) := enters_of Try.func81 (by kernel_rfl) rfl
      have hCBlt : CB < wr.heap.size := lt_of_heap r0
      have hneC : CB ≠ R := by omega
      have c4 : wr.cell? ⟨CB, 4, none⟩ = some tv := cells_at r0 4 _ rfl
      have c4d : wr.drew.cell? ⟨CB, 4, none⟩ = some tv := c4
      generalize nB 1 (nL s5 k) = X at *
      generalize nx 1 (nL s5 k) = s6 at *
      have HNk : Hid _ := hNk
      have hvC : tv.ownBlock ≠ some CB := fun e => by have := (ho.lt _ e).1; omega
      go_wp2_with fail
      go_region_law (first
        | (refine step_calls rfl 81 _ _ rfl [.pointer (some ⟨R, 0, none⟩), .int .i64 1] rfl hE2.out (fun u w9 => u = .int .i64 X ∧ RdS w9 R s6 ∧ Only R wr w9) (hNk.mono (fun e w9 ⟨he, h1, h2⟩ => ⟨_, he, rfl, h1, only_of_drew h2⟩)) ?_; rintro u w5 ⟨rfl, hR5, ho5⟩; have v5 := (ho5.block _ hCBlt hneC).trans r0; have d4 : w5.cell? ⟨CB, 4, none⟩ = some tv := cells_at v5 4 _ rfl; have d4a : (w5.alloc (.cells #[.int .i64 X] 3)).cell? ⟨CB, 4, none⟩ = some tv := cells_at (heap_keep v5) 4 _ rfl; have hob := owns_only ho ho5 (by omega); have hw5 : W1.heap.size ≤ w5.heap.size := Nat.le_trans hszk ho5.size)
        | (refine step_append_at rfl _ _ 49 rfl W1.heap.size 3 i (.int .i64 0) 1 8 Try.underlying49 hi hz0 hz1 hz2 rfl (by decide) tv k (iv (nV s5 k)) rfl (World.ownsRow.alloc hob _) ⟨w5.heap.size, 0, none⟩ 1 1 [.int .i64 X] rfl rfl (cells_new _ _ _) (by intro u hu; simp at hu; subst hu; rfl) (by unfold maxLen; omega) (by omega) (le_alloc hw5 _) ?_; intro v6 w6 ho6 G6; have x5 := G6.row (heap_keep v5) hvC; have xd4 := cells_at x5 4 _ rfl; have xf4 := frozen_at x5 4; obtain ⟨fa, fc, hvf⟩ := owns_shape ho6; subst hvf))
      all_goals
        have hG := G6.grown
        have hb5 : Below w5.heap.size w5 (w5.alloc (.cells #[.int .i64 X] 3)) := (Below.refl _ _).alloc (Nat.le_refl _) _
        have hOw5 := hok.trans ho5
        have hvlt : ∀ q, tv.ownBlock = some q → W1.heap.size ≤ q := fun q e => (ho.lt q e).1
        have ho6' := ownsRow_base' ho6 (Nat.le_refl _)
        have hO6 : Only R w1 w6 := by
          refine ⟨hG.os.trans hOw5.os, hG.tape.trans hOw5.tape, hG.output.trans hOw5.output, Nat.le_trans hOw5.size (Nat.le_trans hb5.size hG.size), fun q hq hn => ?_⟩
          have := HCB.out
          exact (hG.block q (by have := hb5.size; have := hOw5.size; omega) (fun e => by have := hvlt q e.symm; omega)).trans ((hb5.block q (by have := hOw5.size; omega)).trans (hOw5.block q hq hn))
        have hR6 : RdS w6 R s6 := (hR5.below hb5).stays (fun q hq => hG.block q (by have := hb5.size; have := hR5.lt; omega) (fun e => by have := hvlt q e.symm; omega))
        go_wp2_with fail
        go_roundw
        case rel =>
          refine ⟨k + 1, .slice fa (k + 1) fc, by omega, by go_num, ?_, by simpa using heap_setCell_same _ _ 4 _ _ (.slice fa (k + 1) fc) x5, ?_, ?_, ?_⟩
          · rw [hst.out]
            have h := owns_far ho6' CB 4 (.slice fa (k + 1) fc) hszC
            simpa [iv] using h
          · rw [hst2.out]
            exact RdrAt.far hR6 hRCB
          · have := HCB.out
            exact ⟨hO6.os, hO6.tape, hO6.output, by simpa using hO6.size, fun q hq hn => (heap_setCell_other _ ⟨CB, 4, none⟩ q _ (by show q ≠ CB; omega)).trans (hO6.block q hq hn)⟩
          · have := hb5.size
            have := hG.size
            simp
            omega
        case measure => simp [intOf]; omega
    · obtain rfl : k = N := by omega
      have hltI : ¬ (k : Int) < k := by omega
      have hL1k := list_only hL1 hF1 hok (by omega)
      have hL2k := list_only hL2 hF2 hok (by omega)
      obtain ⟨va, vc, hv, hI, hfv⟩ := ints_ownedR ho
      subst hv
      have z0 := (hok.block _ hlt1 (by omega)).trans p0
      have hOw := hOw1.trans hok
      have c0 := cells_at r0 0 _ rfl
      have c1 := cells_at r0 1 _ rfl
      have c2 := cells_at r0 2 _ rfl
      have c3 := cells_at r0 3 _ rfl
      have c4 := cells_at r0 4 _ rfl
      have d0 := cells_at z0 0 _ rfl
      have d1 := cells_at z0 1 _ rfl
      have d2 := cells_at z0 2 _ rfl
      have d3 := cells_at z0 3 _ rfl
      have d4 := cells_at z0 4 _ rfl
      have f0 := frozen_at z0 0
      have f1 := frozen_at z0 1
      have f2 := frozen_at z0 2
      have f3 := frozen_at z0 3
      have f4 := frozen_at z0 4
      have HAU : Hid (nB 1 s = AU ∧ nB 3 (nx 1 s) = RD ∧ cN s = k ∧ nx 1 (hS4 s) = s5) := ⟨hAU.out, hRD.out, HK.out, HS5.out⟩
      have hX : Hid (CertRd w (((((wr.setCell ⟨w.heap.size, 0, none⟩ (.int .i64 AU)).setCell ⟨w.heap.size, 1, none⟩ (.int .i64 RD)).setCell ⟨w.heap.size, 2, none⟩ (.slice ba bl.length bc)).setCell ⟨w.heap.size, 3, none⟩ (.slice pa pl.length pc)).setCell ⟨w.heap.size, 4, none⟩ (.slice va k vc)) (.returned (.agg #[.int .i64 AU, .int .i64 RD, .slice ba bl.length bc, .slice pa pl.length pc, .slice va k vc])) R s) := by
        have far : ∀ (W : World) (ra : Option Addr) (rc : Nat) (qs : List Part) (j : Nat) (v : Value), Fresh W0.heap.size ra qs → ListAt W ra rc qs → ListAt (W.setCell ⟨w.heap.size, j, none⟩ v) ra rc qs := fun W ra rc qs j v hF h => h.setCell hF _ _ _ hsz
        have farI : ∀ (W : World) (j : Nat) (v : Value), IntsAt W va (nV s5 k) → IntsAt (W.setCell ⟨w.heap.size, j, none⟩ v) va (nV s5 k) := fun W j v h => ints_only (R := w.heap.size) h ((Only.refl _ W).setCell) (fun sb so e e2 => by have := hfv sb so e; omega)
        refine ⟨ba, bc, bl, pa, pc, pl, va, vc, ?_, hq1, hq2, ?_, ?_, ⟨fun sb so e => by have := hF1.row sb so e; omega, fun p hp sb so e => by have := hF1.each p hp sb so e; omega⟩, ⟨fun sb so e => by have := hF2.row sb so e; omega, fun p hp sb so e => by have := hF2.each p hp sb so e; omega⟩, ?_, fun sb so e => by have := hfv sb so e; omega, ?_, ?_⟩
        · rw [HAU.out.1, HAU.out.2.1, HAU.out.2.2.1]
        · exact far _ _ _ _ _ _ hF1 (far _ _ _ _ _ _ hF1 (far _ _ _ _ _ _ hF1 (far _ _ _ _ _ _ hF1 (far _ _ _ _ _ _ hF1 (hL1k)))))
        · exact far _ _ _ _ _ _ hF2 (far _ _ _ _ _ _ hF2 (far _ _ _ _ _ _ hF2 (far _ _ _ _ _ _ hF2 (far _ _ _ _ _ _ hF2 (hL2k)))))
        · rw [HAU.out.2.2.1, HAU.out.2.2.2]
          exact farI _ _ _ (farI _ _ _ (farI _ _ _ (farI _ _ _ (farI _ _ _ (hI)))))
        · rw [HAU.out.2.2.1, HAU.out.2.2.2]
          exact RdrAt.far (RdrAt.far (RdrAt.far (RdrAt.far (RdrAt.far (hRk) hlt) hlt) hlt) hlt) hlt
        · exact ⟨hOw.os, hOw.tape, hOw.output, by simpa using hOw.size, fun q hq hn => ((heap_setCell_other _ ⟨w.heap.size, 4, none⟩ q _ (by show q ≠ w.heap.size; omega)).trans ((heap_setCell_other _ ⟨w.heap.size, 3, none⟩ q _ (by show q ≠ w.heap.size; omega)).trans ((heap_setCell_other _ ⟨w.heap.size, 2, none⟩ q _ (by show q ≠ w.heap.size; omega)).trans ((heap_setCell_other _ ⟨w.heap.size, 1, none⟩ q _ (by show q ≠ w.heap.size; omega)).trans ((heap_setCell_other _ ⟨w.heap.size, 0, none⟩ q _ (by show q ≠ w.heap.size; omega)).trans (hOw.block q hq hn))))))⟩
      clear hq1 hq2 hL1 hL2 hF1 hF2 hL1k hL2k hI hfv hRk hok hOw hOw1 ho z0 r0
      go_wp2_with fail
      exact bodyPost_ret (v := .agg #[.int .i64 AU, .int .i64 RD, .slice ba bl.length bc, .slice pa pl.length pc, .slice va k vc]) (by simp [results, Try.results85, go_sem, d0, d1, d2, d3, d4]) rfl hX.out
end Go.Proofs.Ytldlknmpkoebbaa

namespace Go.Proofs.Ytldlknmpkoebbaa
open Go.RowKit

set_option maxRecDepth 100000 in
theorem infoStr : (Try.prog.info? 9).map (fun i => (i.zero, i.size, i.bytes)) = some (some (.string ByteArray.empty), 1, 16) := by kernel_rfl
def sv (ss : List ByteArray) : List Value := ss.map Value.string
set_option maxRecDepth 100000 in
theorem sv_length (ss : List ByteArray) : (sv ss).length = ss.length := by simp [sv]
set_option maxRecDepth 100000 in
theorem sv_one (ss : List ByteArray) : ∀ u ∈ sv ss, u.oneCell' = true := by
  intro u hu; simp [sv] at hu; obtain ⟨x, _, rfl⟩ := hu; rfl
set_option maxRecDepth 100000 in
theorem strsAt_of_owns {w : World} {base n : Nat} {v : Value} {ss : List ByteArray} (h : w.ownsRow base 9 1 v n (sv ss)) (hz : ∀ s ∈ ss, s.size ≤ maxLen) : ∃ ra rc, v = .slice ra n rc ∧ n = ss.length ∧ StrsAt w ra ss ∧ ∀ sb so, ra = some ⟨sb, so, none⟩ → base ≤ sb := by
  have hl : n = ss.length := by have := h.1; rw [sv_length] at this; omega
  rcases h.2 with ⟨rfl, hn⟩ | ⟨g, cap, cur, rfl, _⟩
  · have hb : ss = [] := List.eq_nil_of_length_eq_zero (by omega)
    subst hn hb
    exact ⟨none, 0, rfl, rfl, ⟨.inl rfl, hz⟩, fun _ _ e => by cases e⟩
  · refine ⟨some ⟨g, 0, none⟩, cap, rfl, hl, ⟨.inr ⟨g, 0, rfl, fun j hj => ?_⟩, hz⟩, fun sb so e => by cases e; exact (h.lt _ rfl).1⟩
    rw [Nat.zero_add, World.ownsRow.cellAt h j (by omega)]
    simp [sv, hj]
set_option maxRecDepth 100000 in
theorem StrsAt.setCell {w : World} {sa : Option Addr} {ss : List ByteArray} (h : StrsAt w sa ss) (b j : Nat) (v : Value) (hne : ∀ sb so, sa = some ⟨sb, so, none⟩ → b ≠ sb) : StrsAt (w.setCell ⟨b, j, none⟩ v) sa ss := by
  refine ⟨?_, h.size⟩
  rcases h.cells with h | ⟨sb, so, rfl, hc⟩
  · exact .inl h
  · exact .inr ⟨sb, so, rfl, fun k hk => (World.cell?_setCell_far _ _ _ _ (hne sb so rfl)).trans (hc k hk)⟩
end Go.Proofs.Ytldlknmpkoebbaa
