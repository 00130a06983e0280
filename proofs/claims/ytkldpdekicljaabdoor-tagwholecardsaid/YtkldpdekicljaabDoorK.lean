/- The ground of the walks over package blake: plain functions on lists of numbers, and a relation on worlds: one block is rewritten, all others that were there stay. No condition. -/
import Derived.Test.YtkldpdekicljaabDoorChecked
import Derived.WalkKit
import Derived.WalkSpells
import Derived.WalkLawsBesides
import Derived.Laws.BitsAllLaws
namespace Go.Proofs.YtkldpdekicljaabDoor
open Go.RowKit

/-- A row of words as cells. -/
def ua (vs : List Int) : Array Value := (vs.map (Value.int .u32)).toArray
theorem ua_size (vs : List Int) : (ua vs).size = vs.length := by simp [ua]
theorem ua_get (vs : List Int) (i : Nat) (h : i < vs.length) : (ua vs)[i]? = some (.int .u32 (vs.getD i 0)) := by
  simp [ua, List.getD, h]
theorem ua_set (vs : List Int) (i : Nat) (x : Int) : (ua vs).setIfInBounds i (.int .u32 x) = ua (vs.set i x) := by
  simp [ua, List.map_set]
theorem ua_one (vs : List Int) : (ua vs).all (·.oneCell') = true := by
  simp only [ua, List.all_toArray, List.all_map, List.all_eq_true]
  intro x _; rfl

/-- One block is rewritten to 'o'; every other block that was there stays as it was; the streams stay. -/
structure Upd (b : Nat) (o : Obj) (w w' : World) : Prop where
  os : w'.os = w.os
  tape : w'.tape = w.tape
  output : w'.output = w.output
  size : w.heap.size ≤ w'.heap.size
  block : ∀ k, k < w.heap.size → k ≠ b → w'.heap[k]? = w.heap[k]?
  here : w'.heap[b]? = some o

theorem lt_of_heap {w : World} {b : Nat} {o : Obj} (h : w.heap[b]? = some o) : b < w.heap.size := by
  rcases Nat.lt_or_ge b w.heap.size with g | g
  · exact g
  · rw [Array.getElem?_eq_none g] at h; cases h

theorem Upd.refl {b : Nat} {o : Obj} {w : World} (h : w.heap[b]? = some o) : Upd b o w w := ⟨rfl, rfl, rfl, Nat.le_refl _, fun _ _ _ => rfl, h⟩
theorem Upd.drew {b : Nat} {o : Obj} {w w' : World} (h : Upd b o w w') : Upd b o w w'.drew := ⟨h.os, h.tape, h.output, h.size, h.block, h.here⟩
theorem heap_drewN (w : World) (n : Nat) : (w.drewN n).heap = w.heap := rfl
theorem Upd.drewN {b : Nat} {o : Obj} {w w' : World} (h : Upd b o w w') (n : Nat) : Upd b o w (w'.drewN n) := ⟨h.os, h.tape, h.output, h.size, h.block, h.here⟩
theorem Upd.alloc {b : Nat} {o : Obj} {w w' : World} (h : Upd b o w w') (x : Obj) : Upd b o w (w'.alloc x) := by
  have hb := lt_of_heap h.here
  refine ⟨h.os, h.tape, h.output, ?_, fun k hk hn => ?_, ?_⟩
  · simp; have := h.size; omega
  · have := h.size; rw [Below.heap_alloc _ _ _ (by omega)]; exact h.block k hk hn
  · rw [Below.heap_alloc _ _ _ hb]; exact h.here
theorem Upd.setCell {b : Nat} {cs : Array Value} {t : TypeId} {w w' : World} (h : Upd b (.cells cs t (0, 0)) w w') (i : Nat) (v : Value) :
    Upd b (.cells (cs.setIfInBounds i v) t (0, 0)) w (w'.setCell ⟨b, i, none⟩ v) := by
  refine ⟨h.os, h.tape, h.output, ?_, fun k hk hn => ?_, ?_⟩
  · simp; exact h.size
  · rw [Below.heap_setCell _ _ _ _ hn]; exact h.block k hk hn
  · exact heap_setCell_same w' b i cs t v h.here
theorem Upd.trans {b : Nat} {o o' : Obj} {a w w' : World} (h : Upd b o a w) (k : Upd b o' w w') : Upd b o' a w' :=
  ⟨k.os.trans h.os, k.tape.trans h.tape, k.output.trans h.output, Nat.le_trans h.size k.size,
   fun i hi hn => (k.block i (Nat.lt_of_lt_of_le hi h.size) hn).trans (h.block i hi hn), k.here⟩
/-- Where the block that was rewritten is one of the call's own. -/
theorem Upd.below {b B : Nat} {o : Obj} {a w w' : World} (k : Upd b o w w') (h : Below B a w) (hB : B ≤ w.heap.size) (hb : B ≤ b) : Below B a w' :=
  h.trans ⟨k.os, k.tape, k.output, k.size, fun i hi => k.block i (by omega) (by omega)⟩

theorem heap_new_at (w : World) (o : Obj) (n : Nat) (h : n = w.heap.size) : (w.alloc o).heap[n]? = some o := by subst h; exact heap_alloc_new w o
theorem add_off (b o j : Nat) : (⟨b, o, none⟩ : Addr).add j = ⟨b, o + j, none⟩ := by unfold Addr.add; split <;> simp_all
theorem z16 : ua (List.replicate 16 0) = #[.int .u32 0, .int .u32 0, .int .u32 0, .int .u32 0, .int .u32 0, .int .u32 0, .int .u32 0, .int .u32 0, .int .u32 0, .int .u32 0, .int .u32 0, .int .u32 0, .int .u32 0, .int .u32 0, .int .u32 0, .int .u32 0] := rfl
/-- A word of 32 bits, turned right by n. -/
def rotI (n : Int) (x : Int) : Int := bits .or .u32 (x * 2 ^ (32 - n).toNat % 4294967296) (x / 2 ^ n.toNat)
/-- Four words, with two more: P1.2. -/
def mA1 (a b x : Int) : Int := (a + (b + x)) % 4294967296
def mD1 (a b d x : Int) : Int := rotI 16 (bits .xor .u32 d (mA1 a b x))
def mC1 (a b c d x : Int) : Int := (c + mD1 a b d x) % 4294967296
def mB1 (a b c d x : Int) : Int := rotI 12 (bits .xor .u32 b (mC1 a b c d x))
def mA (a b c d x y : Int) : Int := (a + (b + x) + (mB1 a b c d x + y)) % 4294967296
def mD (a b c d x y : Int) : Int := rotI 8 (bits .xor .u32 (mD1 a b d x) (mA a b c d x y))
def mC (a b c d x y : Int) : Int := (c + mD1 a b d x + mD a b c d x y) % 4294967296
def mB (a b c d x y : Int) : Int := rotI 7 (bits .xor .u32 (mB1 a b c d x) (mC a b c d x y))
def mixL (vs : List Int) (i j k l : Nat) (x y : Int) : List Int :=
  (((vs.set i (mA (vs.getD i 0) (vs.getD j 0) (vs.getD k 0) (vs.getD l 0) x y)).set j (mB (vs.getD i 0) (vs.getD j 0) (vs.getD k 0) (vs.getD l 0) x y)).set k (mC (vs.getD i 0) (vs.getD j 0) (vs.getD k 0) (vs.getD l 0) x y)).set l (mD (vs.getD i 0) (vs.getD j 0) (vs.getD k 0) (vs.getD l 0) x y)
theorem mixL_length (vs : List Int) (i j k l : Nat) (x y : Int) : (mixL vs i j k l x y).length = vs.length := by simp [mixL]
/-- The bytes of a slice: it has none, or they lie in cells one behind the other. -/
def BytesAt (w : World) (sa : Option Addr) (bs : List Int) : Prop := bs = [] ∨ ∃ sb so, sa = some ⟨sb, so, none⟩ ∧ ∀ j, j < bs.length → w.cell? ⟨sb, so + j, none⟩ = some (.int .u8 (bs.getD j 0))
theorem BytesAt.below {w w' : World} {B : Nat} {sa : Option Addr} {bs : List Int} (h : BytesAt w sa bs) (hb : Below B w w') (hB : ∀ sb so, sa = some ⟨sb, so, none⟩ → 0 < bs.length → sb < B) : BytesAt w' sa bs := by
  rcases h with h | ⟨sb, so, rfl, h⟩
  · exact .inl h
  · exact .inr ⟨sb, so, rfl, fun j hj => (hb.cell (p := ⟨sb, so + j, none⟩) (hB sb so rfl (by omega))).trans (h j hj)⟩
theorem BytesAt.lt {w : World} {sb so : Nat} {bs : List Int} (h : BytesAt w (some ⟨sb, so, none⟩) bs) (hl : 0 < bs.length) : sb < w.heap.size := by
  rcases h with h | ⟨b, o, e, h⟩
  · subst h; simp at hl
  · simp at e; obtain ⟨rfl, rfl⟩ := e; exact block_lt_of_cell (h 0 hl)
theorem BytesAt.below' {w w' : World} {sa : Option Addr} {bs : List Int} (h : BytesAt w sa bs) (hb : Below w.heap.size w w') : BytesAt w' sa bs :=
  h.below hb fun sb so e hl => by subst e; exact h.lt hl
theorem BytesAt.cut {w : World} {sb so : Nat} {bs : List Int} (h : BytesAt w (some ⟨sb, so, none⟩) bs) (i n : Nat) : BytesAt w (some ⟨sb, so + i, none⟩) ((bs.drop i).take n) := by
  rcases h with h | ⟨b, o, e, h⟩
  · subst h; simp [BytesAt]
  · simp at e; obtain ⟨rfl, rfl⟩ := e
    refine .inr ⟨sb, so + i, rfl, fun j hj => ?_⟩
    have hj' : j < n ∧ i + j < bs.length := by simp at hj; omega
    rw [Nat.add_assoc, h (i + j) hj'.2]
    simp [hj'.1]
/-- P1.1: the first words. -/
def fw : List Int := [1779033703, 3144134277, 1013904242, 2773480762, 1359893119, 2600822924, 528734635, 1541459225]
/-- The table of the first words lies there. -/
def Words8 (w : World) : Prop := ∀ i, i < 8 → w.cell? ⟨0, i, none⟩ = some (.int .u32 (fw.getD i 0))
theorem Words8.below {w w' : World} {B : Nat} (h : Words8 w) (hb : Below B w w') (hB : 0 < B) : Words8 w' := fun i hi => (hb.cell (p := ⟨0, i, none⟩) hB).trans (h i hi)
theorem Words8.lt {w : World} (h : Words8 w) : 0 < w.heap.size := block_lt_of_cell (h 0 (by decide))
/-- P1.3: in which order words are taken, ten rows of sixteen; and which four words are mixed, eight rows of four. -/
def ordF : List Nat := [0, 1, 2, 3, 4, 5, 6, 7, 8, 9, 10, 11, 12, 13, 14, 15, 14, 10, 4, 8, 9, 15, 13, 6, 1, 12, 0, 2, 11, 7, 5, 3, 11, 8, 12, 0, 5, 2, 15, 13, 10, 14, 3, 6, 7, 1, 9, 4, 7, 9, 3, 1, 13, 12, 11, 14, 2, 6, 5, 10, 4, 0, 15, 8, 9, 0, 5, 7, 2, 4, 10, 15, 14, 1, 11, 12, 6, 8, 3, 13, 2, 12, 6, 10, 0, 11, 8, 3, 4, 13, 7, 5, 15, 14, 1, 9, 12, 5, 1, 15, 14, 13, 4, 10, 0, 7, 6, 3, 9, 2, 8, 11, 13, 11, 7, 14, 12, 1, 3, 9, 5, 0, 15, 4, 8, 6, 2, 10, 6, 15, 14, 9, 11, 3, 0, 8, 12, 2, 13, 7, 1, 4, 10, 5, 10, 2, 8, 4, 7, 6, 1, 5, 15, 11, 9, 14, 3, 12, 13, 0]
def laneF : List Nat := [0, 4, 8, 12, 1, 5, 9, 13, 2, 6, 10, 14, 3, 7, 11, 15, 0, 5, 10, 15, 1, 6, 11, 12, 2, 7, 8, 13, 3, 4, 9, 14]
def Orders (w : World) : Prop := ∀ i, i < 160 → w.cell? ⟨1, i, none⟩ = some (.int .u8 (ordF.getD i 0 : Nat))
def Lanes (w : World) : Prop := ∀ i, i < 32 → w.cell? ⟨2, i, none⟩ = some (.int .u8 (laneF.getD i 0 : Nat))
/-- The three tables lie there. -/
structure Tabs (w : World) : Prop where
  words : Words8 w
  orders : Orders w
  lanes : Lanes w
theorem Tabs.lt {w : World} (h : Tabs w) : 0 < w.heap.size ∧ 1 < w.heap.size ∧ 2 < w.heap.size :=
  ⟨h.words.lt, block_lt_of_cell (h.orders 0 (by decide)), block_lt_of_cell (h.lanes 0 (by decide))⟩
theorem Tabs.below {w w' : World} (h : Tabs w) (hb : Below w.heap.size w w') : Tabs w' :=
  ⟨h.words.below hb h.lt.1, fun i hi => (hb.cell (p := ⟨1, i, none⟩) h.lt.2.1).trans (h.orders i hi), fun i hi => (hb.cell (p := ⟨2, i, none⟩) h.lt.2.2).trans (h.lanes i hi)⟩
theorem ordF_lt (i : Nat) (h : i < 160) : ordF.getD i 0 < 16 := by
  have : ∀ i, i < 160 → ordF.getD i 0 < 16 := by decide +kernel
  exact this i h
theorem laneF_ok (i : Nat) (h : i < 8) : laneF.getD (i * 4) 0 < 16 ∧ laneF.getD (i * 4 + 1) 0 < 16 ∧ laneF.getD (i * 4 + 2) 0 < 16 ∧ laneF.getD (i * 4 + 3) 0 < 16 ∧
    ¬ laneF.getD (i * 4) 0 = laneF.getD (i * 4 + 1) 0 ∧ ¬ laneF.getD (i * 4) 0 = laneF.getD (i * 4 + 2) 0 ∧ ¬ laneF.getD (i * 4) 0 = laneF.getD (i * 4 + 3) 0 ∧
    ¬ laneF.getD (i * 4 + 1) 0 = laneF.getD (i * 4 + 2) 0 ∧ ¬ laneF.getD (i * 4 + 1) 0 = laneF.getD (i * 4 + 3) 0 ∧ ¬ laneF.getD (i * 4 + 2) 0 = laneF.getD (i * 4 + 3) 0 := by
  have : ∀ i, i < 8 → laneF.getD (i * 4) 0 < 16 ∧ laneF.getD (i * 4 + 1) 0 < 16 ∧ laneF.getD (i * 4 + 2) 0 < 16 ∧ laneF.getD (i * 4 + 3) 0 < 16 ∧
    ¬ laneF.getD (i * 4) 0 = laneF.getD (i * 4 + 1) 0 ∧ ¬ laneF.getD (i * 4) 0 = laneF.getD (i * 4 + 2) 0 ∧ ¬ laneF.getD (i * 4) 0 = laneF.getD (i * 4 + 3) 0 ∧
    ¬ laneF.getD (i * 4 + 1) 0 = laneF.getD (i * 4 + 2) 0 ∧ ¬ laneF.getD (i * 4 + 1) 0 = laneF.getD (i * 4 + 3) 0 ∧ ¬ laneF.getD (i * 4 + 2) 0 = laneF.getD (i * 4 + 3) 0 := by decide
  exact this i h
/-- The words of a block, behind k of its bytes: P1.3. -/
def wordsTo (bs : List Int) : Nat → List Int
  | 0 => List.replicate 16 0
  | k + 1 => (wordsTo bs k).set (k / 4) (bits .or .u32 ((wordsTo bs k).getD (k / 4) 0) (bs.getD k 0 % 4294967296 * 2 ^ (8 * (k % 4)) % 4294967296))
theorem wordsTo_length (bs : List Int) (k : Nat) : (wordsTo bs k).length = 16 := by
  induction k with
  | zero => rfl
  | succ k ih => simp [wordsTo, ih]
/-- A block below is one of the world's. -/
theorem Below.heap_of {B : Nat} {w w' : World} (h : Below B w w') {k : Nat} (hk : k < B) {o : Obj} (ho : w.heap[k]? = some o) : w'.heap[k]? = some o := (h.block k hk).trans ho
theorem Upd.setRow {b : Nat} {cs old : Array Value} {t : TypeId} {w : World} (h : w.heap[b]? = some (.cells old t (0, 0))) : Upd b (.cells cs t (0, 0)) w (w.setRow b cs) :=
  ⟨rfl, rfl, rfl, by simp, fun k _ hn => setRow_other w b k cs hn, setRow_heap w b old cs t (0, 0) h⟩
/-- A state, and the first words behind it: P1.3, behind k of them. -/
def spreadTo (s : List Int) : Nat → List Int
  | 0 => s ++ List.replicate 8 0
  | k + 1 => (spreadTo s k).set (8 + k) (fw.getD k 0)
theorem spreadTo_length (s : List Int) (hs : s.length = 8) (k : Nat) : (spreadTo s k).length = 16 := by
  induction k with
  | zero => simp [spreadTo, hs]
  | succ k ih => simp [spreadTo, ih]
/-- P1.3: sixteen words, out of a state. -/
def spreadA (s : List Int) (taken : Int) : List Int := (spreadTo s 8).set 12 (bits .xor .u32 ((spreadTo s 8).getD 12 0) (taken % 4294967296))
def spreadL (s : List Int) (taken : Int) (last : Bool) : List Int :=
  if last then (spreadA s taken).set 14 (bits .xor .u32 IntKind.u32.max ((spreadTo s 8).getD 14 0)) else spreadA s taken
theorem spreadA_length (s : List Int) (hs : s.length = 8) (taken : Int) : (spreadA s taken).length = 16 := by simp [spreadA, spreadTo_length s hs]
theorem spreadL_length (s : List Int) (hs : s.length = 8) (taken : Int) (last : Bool) : (spreadL s taken last).length = 16 := by cases last <;> simp [spreadL, spreadA_length s hs]
/-- P1.4: the state at the beginning, behind k words. -/
def beginTo : Nat → List Int
  | 0 => List.replicate 8 0
  | k + 1 => (beginTo k).set k (fw.getD k 0)
theorem beginTo_length (k : Nat) : (beginTo k).length = 8 := by
  induction k with
  | zero => rfl
  | succ k ih => simp [beginTo, ih]
def beginL : List Int := (beginTo 8).set 0 (bits .xor .u32 ((beginTo 8).getD 0 0) 16842784)
theorem beginL_length : beginL.length = 8 := by simp [beginL, beginTo_length]
theorem z8 : ua (List.replicate 8 0) = #[.int .u32 0, .int .u32 0, .int .u32 0, .int .u32 0, .int .u32 0, .int .u32 0, .int .u32 0, .int .u32 0] := rfl
/-- P1.3: one lane, k lanes, r rounds. -/
def laneStep (m : List Int) (r i : Nat) (v : List Int) : List Int :=
  mixL v (laneF.getD (i * 4) 0) (laneF.getD (i * 4 + 1) 0) (laneF.getD (i * 4 + 2) 0) (laneF.getD (i * 4 + 3) 0) (m.getD (ordF.getD (r * 16 + 2 * i) 0) 0) (m.getD (ordF.getD (r * 16 + (2 * i + 1)) 0) 0)
def lanesTo (m : List Int) (r : Nat) (v : List Int) : Nat → List Int
  | 0 => v
  | k + 1 => laneStep m r k (lanesTo m r v k)
def roundsTo (m v : List Int) : Nat → List Int
  | 0 => v
  | r + 1 => lanesTo m r (roundsTo m v r) 8
theorem lanesTo_length (m : List Int) (r : Nat) (v : List Int) (k : Nat) : (lanesTo m r v k).length = v.length := by
  induction k with
  | zero => rfl
  | succ k ih => simp [lanesTo, laneStep, mixL_length, ih]
theorem roundsTo_length (m v : List Int) (r : Nat) : (roundsTo m v r).length = v.length := by
  induction r with
  | zero => rfl
  | succ r ih => simp [roundsTo, lanesTo_length, ih]
/-- P1.3: the state behind, k words of it. -/
def foldTo (s v : List Int) : Nat → List Int
  | 0 => s
  | k + 1 => (foldTo s v k).set k (bits .xor .u32 ((foldTo s v k).getD k 0) (bits .xor .u32 (v.getD k 0) (v.getD (k + 8) 0)))
theorem foldTo_length (s v : List Int) (k : Nat) : (foldTo s v k).length = s.length := by
  induction k with
  | zero => rfl
  | succ k ih => simp [foldTo, ih]
def takeL (s bs : List Int) (taken : Int) (last : Bool) : List Int :=
  foldTo s (roundsTo (wordsTo bs bs.length) (spreadL s taken last) 10) 8
theorem takeL_length (s bs : List Int) (taken : Int) (last : Bool) : (takeL s bs taken last).length = s.length := foldTo_length _ _ _
/-- The cells of a row that was just made. -/
theorem cells_new (W : World) (l : List Value) (t : TypeId) : ∀ j u, l[j]? = some u → (W.alloc (.cells l.toArray t)).cell? ((⟨W.heap.size, 0, none⟩ : Addr).add j) = some u := by
  intro j u hu
  rw [add_off, Nat.zero_add, World.cell?_alloc_at _ _ _ _ rfl]
  simpa using hu
theorem u8_one (bs : List Int) : ∀ u ∈ bs.map (Value.int .u8), u.oneCell' = true := by
  intro u hu; simp at hu; obtain ⟨x, _, rfl⟩ := hu; rfl
/-- A row of bytes as cells. -/
def ub (bs : List Int) : List Value := bs.map (Value.int .u8)
/-- P1.4: the bytes of a state, the lowest first, behind k words. -/
def digTo (s : List Int) : Nat → List Int
  | 0 => []
  | k + 1 => digTo s k ++ [s.getD k 0 % 256, s.getD k 0 / 256 % 256, s.getD k 0 / 65536 % 256, s.getD k 0 / 16777216 % 256]
theorem digTo_length (s : List Int) (k : Nat) : (digTo s k).length = 4 * k := by
  induction k with
  | zero => rfl
  | succ k ih => simp [digTo, ih]; omega
end Go.Proofs.YtkldpdekicljaabDoor
