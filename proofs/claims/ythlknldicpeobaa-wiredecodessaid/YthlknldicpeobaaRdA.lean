/- A reader of bytes: what is left to it, and whether they ended too early; wire's reader.take. -/
import Derived.Test.YthlknldicpeobaaApp
import Derived.Test.YthlknldicpeobaaSx
namespace Go.Proofs.Ythlknldicpeobaa
open Go.RowKit

/-- Worlds that have grown, and have changed nothing old but one block. -/
structure Only (R : Nat) (w w' : World) : Prop where
  os : w'.os = w.os
  tape : w'.tape = w.tape
  output : w'.output = w.output
  size : w.heap.size ≤ w'.heap.size
  block : ∀ k, k < w.heap.size → k ≠ R → w'.heap[k]? = w.heap[k]?
set_option maxRecDepth 100000 in
theorem Only.refl (R : Nat) (w : World) : Only R w w := ⟨rfl, rfl, rfl, Nat.le_refl _, fun _ _ _ => rfl⟩
set_option maxRecDepth 100000 in
theorem Only.trans {R : Nat} {a b c : World} (h : Only R a b) (k : Only R b c) : Only R a c :=
  ⟨k.os.trans h.os, k.tape.trans h.tape, k.output.trans h.output, Nat.le_trans h.size k.size, fun i hi hn => (k.block i (Nat.lt_of_lt_of_le hi h.size) hn).trans (h.block i hi hn)⟩
set_option maxRecDepth 100000 in
theorem only_of_below {R : Nat} {w w' : World} (h : Below w.heap.size w w') : Only R w w' := ⟨h.os, h.tape, h.output, h.size, fun k hk _ => h.block k hk⟩
set_option maxRecDepth 100000 in
theorem Only.below {R B : Nat} {w w' : World} (h : Only R w w') (hR : B ≤ R) (hB : B ≤ w.heap.size) : Below B w w' := ⟨h.os, h.tape, h.output, h.size, fun k hk => h.block k (by omega) (by omega)⟩
set_option maxRecDepth 100000 in
theorem Only.setCell {R j : Nat} {w w' : World} {v : Value} (h : Only R w w') : Only R w (w'.setCell ⟨R, j, none⟩ v) :=
  ⟨h.os, h.tape, h.output, by simpa using h.size, fun k hk hn => (heap_setCell_other w' ⟨R, j, none⟩ k v hn).trans (h.block k hk hn)⟩
set_option maxRecDepth 100000 in
theorem SliceAt.only {R : Nat} {w w' : World} {sa : Option Addr} {cap : Nat} {bs : List Int} (h : SliceAt w sa cap bs) (ho : Only R w w') (hne : ∀ sb so, sa = Option.some ⟨sb, so, Option.none⟩ → sb ≠ R) : SliceAt w' sa cap bs := by
  refine ⟨h.le, h.max, h.some, h.nil, ?_⟩
  rcases h.bytes with hb | ⟨sb, so, e, hc⟩
  · exact .inl hb
  · exact .inr ⟨sb, so, e, fun j hj => (World.cell?_of_block (ho.block sb (block_lt_of_cell (hc j hj)) (hne sb so e))).trans (hc j hj)⟩
/-- A reader: these bytes are left to it. -/
structure RdrAt (w : World) (R : Nat) (l : List Int) (sh : Bool) : Prop where
  out : ∃ la c, w.heap[R]? = some (.cells #[.slice la l.length c, .bool sh] 70 (0, 0)) ∧ SliceAt w la c l ∧ ∀ sb so, la = some ⟨sb, so, none⟩ → sb ≠ R ∧ (l ≠ [] → sb < R)
set_option maxRecDepth 100000 in
theorem RdrAt.below {w w' : World} {R : Nat} {l : List Int} {sh : Bool} (h : RdrAt w R l sh) (hb : Below w.heap.size w w') : RdrAt w' R l sh := by
  obtain ⟨la, c, h1, h2, h3⟩ := h.out
  exact ⟨la, c, (hb.block _ (lt_of_heap h1)).trans h1, h2.below hb, h3⟩
set_option maxRecDepth 100000 in
theorem RdrAt.lt {w : World} {R : Nat} {l : List Int} {sh : Bool} (h : RdrAt w R l sh) : R < w.heap.size := by
  obtain ⟨la, c, h1, _⟩ := h.out
  exact lt_of_heap h1
set_option maxRecDepth 100000 in
/-- What changes newer blocks alone leaves it. -/
theorem RdrAt.stays {w w' : World} {R : Nat} {l : List Int} {sh : Bool} (h : RdrAt w R l sh) (hk : ∀ k, k ≤ R → w'.heap[k]? = w.heap[k]?) : RdrAt w' R l sh := by
  obtain ⟨la, c, h1, h2, h3⟩ := h.out
  refine ⟨la, c, (hk R (Nat.le_refl _)).trans h1, ⟨h2.le, h2.max, h2.some, h2.nil, ?_⟩, h3⟩
  rcases h2.bytes with hz | ⟨sb, so, e, hc⟩
  · exact .inl hz
  · by_cases hz : l = []
    · exact .inl hz
    · exact .inr ⟨sb, so, e, fun k hk' => (World.cell?_of_block (hk sb (Nat.le_of_lt ((h3 sb so e).2 hz)))).trans (hc k hk')⟩
set_option maxRecDepth 100000 in
theorem RdrAt.far {w : World} {R b j : Nat} {v : Value} {l : List Int} {sh : Bool} (h : RdrAt w R l sh) (hb : R < b) : RdrAt (w.setCell ⟨b, j, none⟩ v) R l sh :=
  h.stays (fun k hk => heap_setCell_other w ⟨b, j, none⟩ k v (by show k ≠ b; omega))
/-- What is taken, what is left, and whether it was too short. -/
def tkT (n : Nat) (l : List Int) (sh : Bool) : List Int := if sh = true ∨ l.length < n then [] else l.take n
def tkL (n : Nat) (l : List Int) (sh : Bool) : List Int := if sh = true ∨ l.length < n then l else l.drop n
def tkS (n : Nat) (l : List Int) (sh : Bool) : Bool := sh || decide (l.length < n)
set_option maxRecDepth 100000 in
theorem tk_short {n : Nat} {l : List Int} {sh : Bool} (h : sh = true ∨ l.length < n) : tkT n l sh = [] ∧ tkL n l sh = l ∧ tkS n l sh = true := by
  refine ⟨if_pos h, if_pos h, ?_⟩
  rcases h with h | h <;> simp [tkS, h]
set_option maxRecDepth 100000 in
theorem tk_ok {n : Nat} {l : List Int} (h : n ≤ l.length) : tkT n l false = l.take n ∧ tkL n l false = l.drop n ∧ tkS n l false = false := by
  have h' : ¬ ((false : Bool) = true ∨ l.length < n) := by simp; omega
  exact ⟨if_neg h', if_neg h', by simp [tkS]; omega⟩
set_option maxRecDepth 100000 in
theorem tk_len {n : Nat} {l : List Int} {sh : Bool} : (tkL n l sh).length ≤ l.length := by unfold tkL; split <;> simp
structure TakeIs (w w' : World) (e : Ending) (R : Nat) (t l : List Int) (sh : Bool) : Prop where
  out : ∃ ta tc, e = .returned (.slice ta t.length tc) ∧ SliceAt w' ta tc t ∧ (∀ sb so, ta = some ⟨sb, so, none⟩ → sb ≠ R) ∧ RdrAt w' R l sh ∧ Only R w w'
set_option maxRecDepth 100000 in
theorem cut_slice {w : World} {sb so c n : Nat} {l : List Int} (h : SliceAt w (some ⟨sb, so, none⟩) c l) (hn : n ≤ l.length) : SliceAt w (some ⟨sb, so + n, none⟩) (c - n) (l.drop n) := by
  refine ⟨by have := h.le; simp; omega, by have := h.max; omega, .inr ⟨_, _, rfl⟩, (fun e => by cases e), ?_⟩
  rcases h.bytes with hz | ⟨b, o, e, hc⟩
  · exact .inl (by rw [hz]; simp)
  · cases e
    refine .inr ⟨sb, so + n, rfl, fun j hj => ?_⟩
    rw [List.length_drop] at hj
    rw [Nat.add_assoc, hc (n + j) (by omega)]
    simp [List.getD]
set_option maxRecDepth 100000 in
theorem SliceAt.takeR {w : World} {sa : Option Addr} {cap : Nat} {bs : List Int} (h : SliceAt w sa cap bs) (m c : Nat) (hm : m ≤ bs.length) (hc1 : m ≤ c) (hc2 : c ≤ cap) (hn : sa = Option.none → c = 0) : SliceAt w sa c (bs.take m) := by
  refine ⟨by simp; omega, by have := h.max; omega, ?_, hn, ?_⟩
  · rcases h.some with e | e
    · exact .inl (by omega)
    · exact .inr e
  · rcases h.bytes with hb | ⟨sb, so, rfl, hb⟩
    · exact .inl (by rw [hb]; simp)
    · refine .inr ⟨sb, so, rfl, fun j hj => ?_⟩
      rw [List.length_take] at hj
      rw [hb j (by omega)]
      simp [List.getD, show j < m by omega]
set_option maxRecDepth 100000 in
set_option maxHeartbeats 1000000 in
theorem take_any (R n : Nat) (l : List Int) (sh : Bool) (w : World) (hR : RdrAt w R l sh) (hl : l.length ≤ 100000) (hn : n ≤ 100000) :
    Calls Try.prog 64 #[.pointer (some ⟨R, 0, none⟩), .int .i64 (n : Int)] w fun e w' => TakeIs w w' e R (tkT n l sh) (tkL n l sh) (tkS n l sh) := by
  obtain ⟨la, c, h1, h2, h3⟩ := hR.out
  have c0 : w.cell? ⟨R, 0, none⟩ = some (.slice la l.length c) := cells_at h1 0 _ rfl
  have c1 : w.cell? ⟨R, 1, none⟩ = some (.bool sh) := cells_at h1 1 _ rfl
  have f0 := frozen_at h1 0
  have f1 := frozen_at h1 1
  by_cases hs : l.length < n
  · have hsI : (l.length : Int) < n := by omega
    obtain ⟨e1, e2, e3⟩ := tk_short (sh := sh) (.inr hs)
    rw [e1, e2, e3]
    have q2 : (w.setCell ⟨R, 1, none⟩ (.bool true)).heap[R]? = some (.cells #[.slice la l.length c, .bool true] 70 (0, 0)) := by simpa using heap_setCell_same _ _ 1 _ _ (.bool true) h1
    have HF : Hid (TakeIs w (w.setCell ⟨R, 1, none⟩ (.bool true)) (.returned (.slice none 0 0)) R [] l true) := by
      refine ⟨none, 0, rfl, ⟨Nat.le_refl _, by decide, .inl rfl, fun _ => rfl, .inl rfl⟩, (fun _ _ e => by cases e), ⟨la, c, q2, h2.only ((Only.refl R w).setCell) (fun sb so e => (h3 sb so e).1), h3⟩, (Only.refl R w).setCell⟩
    clear q2 h1 h2 h3 hR e1 e2 e3 hs
    go_enter Try.func64, Try.ntmps64
    go_wp2_with fail
    go_ret
    exact HF.out
  · have hsI : ¬ (l.length : Int) < n := by omega
    cases sh with
    | true =>
      obtain ⟨e1, e2, e3⟩ := tk_short (l := l) (n := n) (sh := true) (.inl rfl)
      rw [e1, e2, e3]
      have HF : Hid (TakeIs w w (.returned (.slice none 0 0)) R [] l true) := ⟨none, 0, rfl, ⟨Nat.le_refl _, by decide, .inl rfl, fun _ => rfl, .inl rfl⟩, (fun _ _ e => by cases e), hR, Only.refl R w⟩
      clear h1 h2 h3 hR e1 e2 e3 hs
      go_enter Try.func64, Try.ntmps64
      go_wp2_with fail
      go_ret
      exact HF.out
    | false =>
      obtain ⟨e1, e2, e3⟩ := tk_ok (l := l) (n := n) (by omega)
      rw [e1, e2, e3]
      have hle := h2.le
      have hnc : (n : Int) ≤ c := by omega
      have hn0 : (0 : Int) ≤ n := by omega
      have hlc : (l.length : Int) ≤ c := by omega
      have hnl : (n : Int) ≤ l.length := by omega
      have hT : (l.take n).length = n := by rw [List.length_take]; omega
      have hD : (l.drop n).length = l.length - n := by rw [List.length_drop]
      cases la with
      | none =>
        have hc0 := h2.nil rfl
        have hl0 : l = [] := List.eq_nil_of_length_eq_zero (by omega)
        obtain rfl : n = 0 := by subst hl0; simp at hs; omega
        subst hl0 hc0
        have q2 : (w.setCell ⟨R, 0, none⟩ (.slice none 0 0)).heap[R]? = some (.cells #[.slice none 0 0, .bool false] 70 (0, 0)) := by simpa using heap_setCell_same _ _ 0 _ _ (.slice none 0 0) h1
        have HF : Hid (TakeIs w (w.setCell ⟨R, 0, none⟩ (.slice none 0 0)) (.returned (.slice none 0 0)) R [] [] false) := ⟨none, 0, rfl, ⟨Nat.le_refl _, by decide, .inl rfl, fun _ => rfl, .inl rfl⟩, (fun _ _ e => by cases e), ⟨none, 0, q2, ⟨Nat.le_refl _, by decide, .inl rfl, fun _ => rfl, .inl rfl⟩, fun _ _ e => by cases e⟩, (Only.refl R w).setCell⟩
        clear q2 h1 h2 h3 hR e1 e2 e3 hs hT hD
        go_enter Try.func64, Try.ntmps64
        go_wp2_with fail
        go_ret
        exact HF.out
      | some ad =>
        have hTs := h2.takeR n c (by omega) (by omega) (Nat.le_refl _) (fun e => by cases e)
        by_cases hc : c = n
        · obtain rfl : n = l.length := by omega
          subst hc
          have hdr : l.drop l.length = [] := List.drop_of_length_le (Nat.le_refl _)
          rw [hdr, List.take_of_length_le (Nat.le_refl _)]
          have q2 : (w.setCell ⟨R, 0, none⟩ (.slice (some ad) 0 0)).heap[R]? = some (.cells #[.slice (some ad) 0 0, .bool false] 70 (0, 0)) := by simpa using heap_setCell_same _ _ 0 _ _ (.slice (some ad) 0 0) h1
          have HF : Hid (TakeIs w (w.setCell ⟨R, 0, none⟩ (.slice (some ad) 0 0)) (.returned (.slice (some ad) l.length l.length)) R l [] false) := ⟨some ad, l.length, rfl, h2.only ((Only.refl R w).setCell) (fun sb so e => (h3 sb so e).1), (fun sb so e => (h3 sb so e).1), ⟨some ad, 0, q2, ⟨Nat.le_refl _, by decide, .inl rfl, (fun e => by cases e), .inl rfl⟩, fun sb so e => ⟨(h3 sb so e).1, fun h => absurd rfl h⟩⟩, (Only.refl R w).setCell⟩
          clear q2 h1 h2 h3 hR e1 e2 e3 hs hT hD hTs hdr
          go_enter Try.func64, Try.ntmps64
          go_wp2_with fail
          go_ret
          exact HF.out
        · obtain ⟨sb, so, had⟩ : ∃ sb so, (some ad : Option Addr) = some ⟨sb, so, none⟩ := by
            rcases h2.some with h | h
            · omega
            · exact h
          cases had
          have hcn : ¬ (c : Int) = n := by omega
          have hcn2 : (n : Int) < c := by omega
          have q2 : (w.setCell ⟨R, 0, none⟩ (.slice (some ⟨sb, so + n, none⟩) (l.length - n) (c - n))).heap[R]? = some (.cells #[.slice (some ⟨sb, so + n, none⟩) (l.drop n).length (c - n), .bool false] 70 (0, 0)) := by rw [hD]; simpa using heap_setCell_same _ _ 0 _ _ (.slice (some ⟨sb, so + n, none⟩) (l.length - n) (c - n)) h1
          have hne := h3 sb so rfl
          have HF : Hid (TakeIs w (w.setCell ⟨R, 0, none⟩ (.slice (some ⟨sb, so + n, none⟩) (l.length - n) (c - n))) (.returned (.slice (some ⟨sb, so, none⟩) n c)) R (l.take n) (l.drop n) false) := ⟨some ⟨sb, so, none⟩, c, by rw [hT], hTs.only ((Only.refl R w).setCell) (fun sb so e => (h3 sb so e).1), (fun sb so e => (h3 sb so e).1), ⟨some ⟨sb, so + n, none⟩, c - n, q2, (cut_slice h2 (by omega)).only ((Only.refl R w).setCell) (fun _ _ e => by cases e; exact hne.1), (fun _ _ e => by cases e; exact ⟨hne.1, fun hd => hne.2 (fun h0 => hd (by rw [h0]; simp))⟩)⟩, (Only.refl R w).setCell⟩
          clear q2 h1 h2 h3 hR e1 e2 e3 hs hT hD hTs hc
          go_enter Try.func64, Try.ntmps64
          go_wp2_with fail
          go_ret
          exact HF.out
end Go.Proofs.Ythlknldicpeobaa
