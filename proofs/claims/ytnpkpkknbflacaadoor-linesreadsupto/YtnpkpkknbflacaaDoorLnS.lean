/- lines.showAct and lines.Show: acts as lines. -/
import Derived.Test.YtnpkpkknbflacaaDoorLnC
import Derived.Test.YtnpkpkknbflacaaDoorLnS0
import Derived.Test.YtnpkpkknbflacaaDoorLnB
import Derived.Test.YtnpkpkknbflacaaDoorLnLay
import Derived.Test.YtnpkpkknbflacaaDoorLnTab
import Derived.Test.YtnpkpkknbflacaaDoorOwnL
import Derived.Lib.ItoaLen
namespace Go.Proofs.YtnpkpkknbflacaaDoor
open Go.RowKit

/-- P9.2: the line of an act. -/
def lineU (k n p : Int) (t : List UInt8) : List UInt8 :=
  wordL k ++ (if hN k = true then 32 :: Lib.itoa n else []) ++ (if hP k = true then 32 :: Lib.itoa p else []) ++ (if hT k = true then 32 :: hexU t else []) ++ [10]
set_option maxRecDepth 100000 in
theorem below_grow (w : World) (n : Nat) (os : Array Obj) : Below w.heap.size w (Sort.grow (w.drewN n) os) :=
  ⟨rfl, rfl, rfl, by simp [Sort.grow], fun k hk => by simp [Sort.grow, Array.getElem?_append_left hk]⟩
set_option maxRecDepth 100000 in
theorem itoa_any (n : Int) (w : World) (h0 : -9223372036854775808 ≤ n) (h1 : n ≤ 9223372036854775807) (hP : PTab w) :
    Calls Tryd.prog 40 #[.int .i64 n] w fun e w' => e = .returned (.string ⟨(Lib.itoa n).toArray⟩) ∧ Below w.heap.size w w' :=
  Calls.mono (Any.strconv_Itoa layItoa n h0 h1 w hP) (fun e w' ⟨he, k, os, hw⟩ => ⟨he, by rw [hw]; exact below_grow w k os⟩)
set_option maxRecDepth 100000 in
theorem bString_any (B b : Nat) (l : List UInt8) (w : World) (h : SB B b l w) (hB : B ≤ w.heap.size) :
    Calls Tryd.prog 26 #[.pointer (some ⟨b, 0, none⟩)] w fun e w' => e = .returned (.string ⟨l.toArray⟩) ∧ Below B w w' :=
  Calls.mono (Any.Builder_String_any_k layStr layStr_extra B b l w (Lib.IsBuilderF.of h) hB) (fun _ _ ⟨he, _, hb, _⟩ => ⟨he, hb⟩)
set_option maxRecDepth 100000 in
theorem kept_of_below {w w' : World} {e : TypeId} {b : Option Nat} (h : Below w.heap.size w w') : Lib.OthersKept e b w w' :=
  fun k _ hk _ _ => (h.block k (lt_of_heap hk)).trans hk
set_option maxRecDepth 100000 in
theorem SB.stays {B b : Nat} {l : List UInt8} {w w' : World} (h : SB B b l w) (hb : Below w.heap.size w w') : SB B b l w' := by
  rcases h with ⟨h1, v, h2, h3, h4⟩ | ⟨h1, v, h2, h3, h4⟩
  · exact .inl ⟨h1, v, (hb.block b (lt_of_heap h2)).trans h2, owns_keep h3 hb, h4⟩
  · exact .inr ⟨h1, v, (hb.block b (lt_of_heap h2)).trans h2, owns_keep h3 hb, h4⟩
set_option maxRecDepth 100000 in
theorem Wrote.refl {B b : Nat} {l : List UInt8} {w : World} (h : SB B b l w) : Wrote B b l w w := ⟨h, Below.refl _ _, Lib.OthersKept.refl _ _ _⟩
set_option maxRecDepth 100000 in
theorem Wrote.trans {B b : Nat} {l l' : List UInt8} {w w1 w2 : World} (h : Wrote B b l w w1) (k : Wrote B b l' w1 w2) : Wrote B b l' w w2 := ⟨k.is, h.below.trans k.below, h.kept.trans k.kept⟩
set_option maxRecDepth 100000 in
theorem Wrote.more {B b : Nat} {l : List UInt8} {w w1 w2 : World} (h : Wrote B b l w w1) (hB : B ≤ w1.heap.size) (k : Below w1.heap.size w1 w2) : Wrote B b l w w2 :=
  ⟨h.is.stays k, h.below.trans (k.mono hB), h.kept.trans (kept_of_below k)⟩
set_option maxRecDepth 100000 in
theorem Wrote.row {B b : Nat} {l : List UInt8} {w w' : World} {q : Nat} {cs : Array Value} {T : TypeId} (h : Wrote B b l w w') (hq : w.heap[q]? = some (.cells cs T (0, 0))) (hb : q ≠ b) (hT : T ≠ 5) : w'.heap[q]? = some (.cells cs T (0, 0)) :=
  h.kept q _ hq (fun e => hb (Option.some.inj e)) (fun c fz e => hT (by cases e; rfl))
set_option maxRecDepth 100000 in
theorem mk_list (l : List UInt8) : (⟨l.toArray⟩ : ByteArray).data.toList = l := by simp
set_option maxRecDepth 100000 in
theorem mk_size (l : List UInt8) : (⟨l.toArray⟩ : ByteArray).size = l.length := by show l.toArray.size = _; simp
set_option maxRecDepth 100000 in
theorem cat32 (l : List UInt8) : ((⟨#[32]⟩ : ByteArray) ++ (⟨l.toArray⟩ : ByteArray)).data.toList = 32 :: l := by rw [ByteArray.data_append]; simp
set_option maxRecDepth 100000 in
theorem cat32_size (l : List UInt8) : ((⟨#[32]⟩ : ByteArray) ++ (⟨l.toArray⟩ : ByteArray)).size = 1 + l.length := by
  show ((⟨#[32]⟩ : ByteArray) ++ (⟨l.toArray⟩ : ByteArray)).data.size = _
  rw [← Array.length_toList, cat32, List.length_cons]; omega
set_option maxRecDepth 100000 in
theorem word_len (k : Int) : (wordL k).length ≤ 6 := by
  unfold wordL
  repeat' split
  all_goals decide
set_option maxRecDepth 100000 in
theorem SB.lt {B b : Nat} {l : List UInt8} {w : World} (h : SB B b l w) : B ≤ b ∧ b < w.heap.size := by
  rcases h with ⟨h1, v, h2, _⟩ | ⟨h1, v, h2, _⟩
  · exact ⟨h1, lt_of_heap h2⟩
  · exact ⟨h1, lt_of_heap h2⟩
/-- The tables lie below the call's own blocks. -/
structure TabB (B : Nat) (w : World) : Prop where
  k : KTab w
  p : Lib.TabBelow Tryd.prog B w powName .u64 Lib.pow10Tab
  lt : 0 < B
set_option maxRecDepth 100000 in
theorem TabB.below {B : Nat} {w w' : World} (h : TabB B w) (hb : Below B w w') : TabB B w' := ⟨h.k.below hb h.lt, h.p.on hb, h.lt⟩
set_option maxRecDepth 100000 in
theorem STabs.tabB {w : World} (h : STabs w) : TabB w.heap.size w := ⟨h.k, Lib.tabBelow_of_tabIs h.p, h.k.lt⟩
set_option maxRecDepth 100000 in
set_option maxHeartbeats 4000000 in
theorem showAct_any (B b : Nat) (l : List UInt8) (k n p : Int) (t : ByteArray) (w : World) (hS : SB B b l w) (hB : B ≤ w.heap.size) (hl : l.length ≤ 70000000000000) (hk : 1 ≤ k ∧ k ≤ 10)
    (hn0 : -9223372036854775808 ≤ n) (hn1 : n ≤ 9223372036854775807) (hp0 : -9223372036854775808 ≤ p) (hp1 : p ≤ 9223372036854775807) (ht : t.size ≤ 4000) (hT : TabB B w) :
    Calls Tryd.prog 25 #[.pointer (some ⟨b, 0, none⟩), .agg #[.int .i64 k, .int .i64 n, .int .i64 p, .string t]] w fun e w' => e = .returned (.tuple #[]) ∧ Wrote B b (l ++ lineU k n p t.data.toList) w w' := by
  obtain ⟨j, rfl⟩ : ∃ j : Nat, k = j := ⟨k.toNat, by omega⟩
  have h1 : 1 ≤ j := by omega
  have h2 : j ≤ 10 := by omega
  have hA := hT.below ((Below.refl B w).alloc hB (.cells #[.int .i64 j, .int .i64 n, .int .i64 p, .string t] 30))
  have c0 := hA.k.word j h1 h2
  have c1 := hA.k.node j h1 h2
  have c2 := hA.k.pick j h1 h2
  have c3 := hA.k.text j h1 h2
  have hLt := hT.lt
  have HL : Hid (lineU j n p t.data.toList = wordL j ++ (if hN j = true then 32 :: Lib.itoa n else []) ++ (if hP j = true then 32 :: Lib.itoa p else []) ++ (if Go.Proofs.YtnpkpkknbflacaaDoor.hT j = true then 32 :: hexU t.data.toList else []) ++ [10]) := rfl
  have zW := word_len j
  have zN := Lib.itoa_length_le n hn0 hn1
  have zP := Lib.itoa_length_le p hp0 hp1
  have zT := hexU_length t.data.toList
  rw [show t.data.toList.length = t.size from Array.length_toList] at zT
  generalize lineU j n p t.data.toList = LL at *
  generalize hN j = b0 at *
  generalize hP j = b1 at *
  generalize Go.Proofs.YtnpkpkknbflacaaDoor.hT j = b2 at *
  obtain ⟨hBb, hbw⟩ := hS.lt
  have hX0 : Wrote B b l w ((w.alloc (.cells #[.int .i64 j, .int .i64 n, .int .i64 p, .string t] 30)).alloc (.cells #[.string ⟨(wordL j).toArray⟩, .bool b0, .bool b1, .bool b2] 69)) :=
    ((Wrote.refl hS).more hB ((Below.refl _ _).alloc (Nat.le_refl _) _)).more (by simp; omega) ((Below.refl _ _).alloc (Nat.le_refl _) _)
  have qA : ((w.alloc (.cells #[.int .i64 j, .int .i64 n, .int .i64 p, .string t] 30)).alloc (.cells #[.string ⟨(wordL j).toArray⟩, .bool b0, .bool b1, .bool b2] 69)).heap[w.heap.size]? = some (.cells #[.int .i64 j, .int .i64 n, .int .i64 p, .string t] 30 (0, 0)) := heap_keep (heap_alloc_new w _)
  have qK : ((w.alloc (.cells #[.int .i64 j, .int .i64 n, .int .i64 p, .string t] 30)).alloc (.cells #[.string ⟨(wordL j).toArray⟩, .bool b0, .bool b1, .bool b2] 69)).heap[w.heap.size + 1]? = some (.cells #[.string ⟨(wordL j).toArray⟩, .bool b0, .bool b1, .bool b2] 69 (0, 0)) := heap_new_at _ _ _ (by simp)
  have hT0 := hT.below hX0.below
  have hs0 := hX0.below.size
  have hne : w.heap.size ≠ b := by omega
  have hne1 : w.heap.size + 1 ≠ b := by omega
  clear hA
  go_enter Tryd.func25, Tryd.ntmps25
  go_wp2_with fail
  generalize hW : (w.alloc (.cells #[.int .i64 j, .int .i64 n, .int .i64 p, .string t] 30)).alloc (.cells #[.string ⟨(wordL j).toArray⟩, .bool b0, .bool b1, .bool b2] 69) = W0 at *
  clear hW c0 c1 c2 c3
  have X0 := hX0
  have qA0 := qA
  have qK0 := qK
  have s0 : B ≤ W0.heap.size := Nat.le_trans hB hs0
  clear hX0 qA qK hs0
  refine (writeString_any B b l _ W0 X0.is (by rw [mk_size]; omega) s0).mono ?_
  rintro e w1 ⟨he, h1⟩
  subst he
  dsimp only
  rw [mk_list] at h1
  have qA1 := h1.row qA0 hne (by decide)
  have qK1 := h1.row qK0 hne1 (by decide)
  have hT1 := hT0.below h1.below
  have X1 := X0.trans h1
  have s1 : B ≤ w1.heap.size := Nat.le_trans s0 h1.below.size
  have a11 := cells_at qA1 1 _ rfl
  have a21 := cells_at qA1 2 _ rfl
  have a31 := cells_at qA1 3 _ rfl
  have k11 := cells_at qK1 1 _ rfl
  have k21 := cells_at qK1 2 _ rfl
  have k31 := cells_at qK1 3 _ rfl
  clear qA0 qK0 hT0 X0 s0 h1
  cases b0 <;> cases b1 <;> cases b2
  · go_wp2_with fail
    refine (writeByte_any B b _ 10 w1 X1.is (by simp; omega) s1).mono ?_
    rintro e w2 ⟨he, h2⟩
    subst he
    dsimp only
    have X2 := X1.trans h2
    go_wp2_with fail
    go_end0
    refine ⟨rfl, ?_⟩
    rw [HL.out]
    simpa using X2
  · go_wp2_with fail
    refine (showText_any t w1 (by omega)).mono ?_
    rintro e w2 ⟨he, hb⟩
    subst he
    dsimp only
    have h2 := (Wrote.refl X1.is).more s1 hb
    clear hb
    have qA2 := h2.row qA1 hne (by decide)
    have qK2 := h2.row qK1 hne1 (by decide)
    have hT2 := hT1.below h2.below
    have X2 := X1.trans h2
    have s2 : B ≤ w2.heap.size := Nat.le_trans s1 h2.below.size
    have a12 := cells_at qA2 1 _ rfl
    have a22 := cells_at qA2 2 _ rfl
    have a32 := cells_at qA2 3 _ rfl
    have k12 := cells_at qK2 1 _ rfl
    have k22 := cells_at qK2 2 _ rfl
    have k32 := cells_at qK2 3 _ rfl
    clear qA1 qK1 hT1 X1 s1 h2 a11 a21 a31 k11 k21 k31
    go_wp2_with fail
    refine (writeString_any B b _ _ w2 X2.is (by rw [cat32_size]; simp; omega) s2).mono ?_
    rintro e w3 ⟨he, h3⟩
    subst he
    dsimp only
    rw [cat32] at h3
    have qA3 := h3.row qA2 hne (by decide)
    have qK3 := h3.row qK2 hne1 (by decide)
    have hT3 := hT2.below h3.below
    have X3 := X2.trans h3
    have s3 : B ≤ w3.heap.size := Nat.le_trans s2 h3.below.size
    have a13 := cells_at qA3 1 _ rfl
    have a23 := cells_at qA3 2 _ rfl
    have a33 := cells_at qA3 3 _ rfl
    have k13 := cells_at qK3 1 _ rfl
    have k23 := cells_at qK3 2 _ rfl
    have k33 := cells_at qK3 3 _ rfl
    clear qA2 qK2 hT2 X2 s2 h3 a12 a22 a32 k12 k22 k32
    go_wp2_with fail
    refine (writeByte_any B b _ 10 w3 X3.is (by simp; omega) s3).mono ?_
    rintro e w4 ⟨he, h4⟩
    subst he
    dsimp only
    have X4 := X3.trans h4
    go_wp2_with fail
    go_end0
    refine ⟨rfl, ?_⟩
    rw [HL.out]
    simpa using X4
  · go_wp2_with fail
    refine (itoa_any p w1 hp0 hp1 hT1.p.here).mono ?_
    rintro e w2 ⟨he, hb⟩
    subst he
    dsimp only
    have h2 := (Wrote.refl X1.is).more s1 hb
    clear hb
    have qA2 := h2.row qA1 hne (by decide)
    have qK2 := h2.row qK1 hne1 (by decide)
    have hT2 := hT1.below h2.below
    have X2 := X1.trans h2
    have s2 : B ≤ w2.heap.size := Nat.le_trans s1 h2.below.size
    have a12 := cells_at qA2 1 _ rfl
    have a22 := cells_at qA2 2 _ rfl
    have a32 := cells_at qA2 3 _ rfl
    have k12 := cells_at qK2 1 _ rfl
    have k22 := cells_at qK2 2 _ rfl
    have k32 := cells_at qK2 3 _ rfl
    clear qA1 qK1 hT1 X1 s1 h2 a11 a21 a31 k11 k21 k31
    go_wp2_with fail
    refine (writeString_any B b _ _ w2 X2.is (by rw [cat32_size]; simp; omega) s2).mono ?_
    rintro e w3 ⟨he, h3⟩
    subst he
    dsimp only
    rw [cat32] at h3
    have qA3 := h3.row qA2 hne (by decide)
    have qK3 := h3.row qK2 hne1 (by decide)
    have hT3 := hT2.below h3.below
    have X3 := X2.trans h3
    have s3 : B ≤ w3.heap.size := Nat.le_trans s2 h3.below.size
    have a13 := cells_at qA3 1 _ rfl
    have a23 := cells_at qA3 2 _ rfl
    have a33 := cells_at qA3 3 _ rfl
    have k13 := cells_at qK3 1 _ rfl
    have k23 := cells_at qK3 2 _ rfl
    have k33 := cells_at qK3 3 _ rfl
    clear qA2 qK2 hT2 X2 s2 h3 a12 a22 a32 k12 k22 k32
    go_wp2_with fail
    refine (writeByte_any B b _ 10 w3 X3.is (by simp; omega) s3).mono ?_
    rintro e w4 ⟨he, h4⟩
    subst he
    dsimp only
    have X4 := X3.trans h4
    go_wp2_with fail
    go_end0
    refine ⟨rfl, ?_⟩
    rw [HL.out]
    simpa using X4
  · go_wp2_with fail
    refine (itoa_any p w1 hp0 hp1 hT1.p.here).mono ?_
    rintro e w2 ⟨he, hb⟩
    subst he
    dsimp only
    have h2 := (Wrote.refl X1.is).more s1 hb
    clear hb
    have qA2 := h2.row qA1 hne (by decide)
    have qK2 := h2.row qK1 hne1 (by decide)
    have hT2 := hT1.below h2.below
    have X2 := X1.trans h2
    have s2 : B ≤ w2.heap.size := Nat.le_trans s1 h2.below.size
    have a12 := cells_at qA2 1 _ rfl
    have a22 := cells_at qA2 2 _ rfl
    have a32 := cells_at qA2 3 _ rfl
    have k12 := cells_at qK2 1 _ rfl
    have k22 := cells_at qK2 2 _ rfl
    have k32 := cells_at qK2 3 _ rfl
    clear qA1 qK1 hT1 X1 s1 h2 a11 a21 a31 k11 k21 k31
    go_wp2_with fail
    refine (writeString_any B b _ _ w2 X2.is (by rw [cat32_size]; simp; omega) s2).mono ?_
    rintro e w3 ⟨he, h3⟩
    subst he
    dsimp only
    rw [cat32] at h3
    have qA3 := h3.row qA2 hne (by decide)
    have qK3 := h3.row qK2 hne1 (by decide)
    have hT3 := hT2.below h3.below
    have X3 := X2.trans h3
    have s3 : B ≤ w3.heap.size := Nat.le_trans s2 h3.below.size
    have a13 := cells_at qA3 1 _ rfl
    have a23 := cells_at qA3 2 _ rfl
    have a33 := cells_at qA3 3 _ rfl
    have k13 := cells_at qK3 1 _ rfl
    have k23 := cells_at qK3 2 _ rfl
    have k33 := cells_at qK3 3 _ rfl
    clear qA2 qK2 hT2 X2 s2 h3 a12 a22 a32 k12 k22 k32
    go_wp2_with fail
    refine (showText_any t w3 (by omega)).mono ?_
    rintro e w4 ⟨he, hb⟩
    subst he
    dsimp only
    have h4 := (Wrote.refl X3.is).more s3 hb
    clear hb
    have qA4 := h4.row qA3 hne (by decide)
    have qK4 := h4.row qK3 hne1 (by decide)
    have hT4 := hT3.below h4.below
    have X4 := X3.trans h4
    have s4 : B ≤ w4.heap.size := Nat.le_trans s3 h4.below.size
    have a14 := cells_at qA4 1 _ rfl
    have a24 := cells_at qA4 2 _ rfl
    have a34 := cells_at qA4 3 _ rfl
    have k14 := cells_at qK4 1 _ rfl
    have k24 := cells_at qK4 2 _ rfl
    have k34 := cells_at qK4 3 _ rfl
    clear qA3 qK3 hT3 X3 s3 h4 a13 a23 a33 k13 k23 k33
    go_wp2_with fail
    refine (writeString_any B b _ _ w4 X4.is (by rw [cat32_size]; simp; omega) s4).mono ?_
    rintro e w5 ⟨he, h5⟩
    subst he
    dsimp only
    rw [cat32] at h5
    have qA5 := h5.row qA4 hne (by decide)
    have qK5 := h5.row qK4 hne1 (by decide)
    have hT5 := hT4.below h5.below
    have X5 := X4.trans h5
    have s5 : B ≤ w5.heap.size := Nat.le_trans s4 h5.below.size
    have a15 := cells_at qA5 1 _ rfl
    have a25 := cells_at qA5 2 _ rfl
    have a35 := cells_at qA5 3 _ rfl
    have k15 := cells_at qK5 1 _ rfl
    have k25 := cells_at qK5 2 _ rfl
    have k35 := cells_at qK5 3 _ rfl
    clear qA4 qK4 hT4 X4 s4 h5 a14 a24 a34 k14 k24 k34
    go_wp2_with fail
    refine (writeByte_any B b _ 10 w5 X5.is (by simp; omega) s5).mono ?_
    rintro e w6 ⟨he, h6⟩
    subst he
    dsimp only
    have X6 := X5.trans h6
    go_wp2_with fail
    go_end0
    refine ⟨rfl, ?_⟩
    rw [HL.out]
    simpa using X6
  · go_wp2_with fail
    refine (itoa_any n w1 hn0 hn1 hT1.p.here).mono ?_
    rintro e w2 ⟨he, hb⟩
    subst he
    dsimp only
    have h2 := (Wrote.refl X1.is).more s1 hb
    clear hb
    have qA2 := h2.row qA1 hne (by decide)
    have qK2 := h2.row qK1 hne1 (by decide)
    have hT2 := hT1.below h2.below
    have X2 := X1.trans h2
    have s2 : B ≤ w2.heap.size := Nat.le_trans s1 h2.below.size
    have a12 := cells_at qA2 1 _ rfl
    have a22 := cells_at qA2 2 _ rfl
    have a32 := cells_at qA2 3 _ rfl
    have k12 := cells_at qK2 1 _ rfl
    have k22 := cells_at qK2 2 _ rfl
    have k32 := cells_at qK2 3 _ rfl
    clear qA1 qK1 hT1 X1 s1 h2 a11 a21 a31 k11 k21 k31
    go_wp2_with fail
    refine (writeString_any B b _ _ w2 X2.is (by rw [cat32_size]; simp; omega) s2).mono ?_
    rintro e w3 ⟨he, h3⟩
    subst he
    dsimp only
    rw [cat32] at h3
    have qA3 := h3.row qA2 hne (by decide)
    have qK3 := h3.row qK2 hne1 (by decide)
    have hT3 := hT2.below h3.below
    have X3 := X2.trans h3
    have s3 : B ≤ w3.heap.size := Nat.le_trans s2 h3.below.size
    have a13 := cells_at qA3 1 _ rfl
    have a23 := cells_at qA3 2 _ rfl
    have a33 := cells_at qA3 3 _ rfl
    have k13 := cells_at qK3 1 _ rfl
    have k23 := cells_at qK3 2 _ rfl
    have k33 := cells_at qK3 3 _ rfl
    clear qA2 qK2 hT2 X2 s2 h3 a12 a22 a32 k12 k22 k32
    go_wp2_with fail
    refine (writeByte_any B b _ 10 w3 X3.is (by simp; omega) s3).mono ?_
    rintro e w4 ⟨he, h4⟩
    subst he
    dsimp only
    have X4 := X3.trans h4
    go_wp2_with fail
    go_end0
    refine ⟨rfl, ?_⟩
    rw [HL.out]
    simpa using X4
  · go_wp2_with fail
    refine (itoa_any n w1 hn0 hn1 hT1.p.here).mono ?_
    rintro e w2 ⟨he, hb⟩
    subst he
    dsimp only
    have h2 := (Wrote.refl X1.is).more s1 hb
    clear hb
    have qA2 := h2.row qA1 hne (by decide)
    have qK2 := h2.row qK1 hne1 (by decide)
    have hT2 := hT1.below h2.below
    have X2 := X1.trans h2
    have s2 : B ≤ w2.heap.size := Nat.le_trans s1 h2.below.size
    have a12 := cells_at qA2 1 _ rfl
    have a22 := cells_at qA2 2 _ rfl
    have a32 := cells_at qA2 3 _ rfl
    have k12 := cells_at qK2 1 _ rfl
    have k22 := cells_at qK2 2 _ rfl
    have k32 := cells_at qK2 3 _ rfl
    clear qA1 qK1 hT1 X1 s1 h2 a11 a21 a31 k11 k21 k31
    go_wp2_with fail
    refine (writeString_any B b _ _ w2 X2.is (by rw [cat32_size]; simp; omega) s2).mono ?_
    rintro e w3 ⟨he, h3⟩
    subst he
    dsimp only
    rw [cat32] at h3
    have qA3 := h3.row qA2 hne (by decide)
    have qK3 := h3.row qK2 hne1 (by decide)
    have hT3 := hT2.below h3.below
    have X3 := X2.trans h3
    have s3 : B ≤ w3.heap.size := Nat.le_trans s2 h3.below.size
    have a13 := cells_at qA3 1 _ rfl
    have a23 := cells_at qA3 2 _ rfl
    have a33 := cells_at qA3 3 _ rfl
    have k13 := cells_at qK3 1 _ rfl
    have k23 := cells_at qK3 2 _ rfl
    have k33 := cells_at qK3 3 _ rfl
    clear qA2 qK2 hT2 X2 s2 h3 a12 a22 a32 k12 k22 k32
    go_wp2_with fail
    refine (showText_any t w3 (by omega)).mono ?_
    rintro e w4 ⟨he, hb⟩
    subst he
    dsimp only
    have h4 := (Wrote.refl X3.is).more s3 hb
    clear hb
    have qA4 := h4.row qA3 hne (by decide)
    have qK4 := h4.row qK3 hne1 (by decide)
    have hT4 := hT3.below h4.below
    have X4 := X3.trans h4
    have s4 : B ≤ w4.heap.size := Nat.le_trans s3 h4.below.size
    have a14 := cells_at qA4 1 _ rfl
    have a24 := cells_at qA4 2 _ rfl
    have a34 := cells_at qA4 3 _ rfl
    have k14 := cells_at qK4 1 _ rfl
    have k24 := cells_at qK4 2 _ rfl
    have k34 := cells_at qK4 3 _ rfl
    clear qA3 qK3 hT3 X3 s3 h4 a13 a23 a33 k13 k23 k33
    go_wp2_with fail
    refine (writeString_any B b _ _ w4 X4.is (by rw [cat32_size]; simp; omega) s4).mono ?_
    rintro e w5 ⟨he, h5⟩
    subst he
    dsimp only
    rw [cat32] at h5
    have qA5 := h5.row qA4 hne (by decide)
    have qK5 := h5.row qK4 hne1 (by decide)
    have hT5 := hT4.below h5.below
    have X5 := X4.trans h5
    have s5 : B ≤ w5.heap.size := Nat.le_trans s4 h5.below.size
    have a15 := cells_at qA5 1 _ rfl
    have a25 := cells_at qA5 2 _ rfl
    have a35 := cells_at qA5 3 _ rfl
    have k15 := cells_at qK5 1 _ rfl
    have k25 := cells_at qK5 2 _ rfl
    have k35 := cells_at qK5 3 _ rfl
    clear qA4 qK4 hT4 X4 s4 h5 a14 a24 a34 k14 k24 k34
    go_wp2_with fail
    refine (writeByte_any B b _ 10 w5 X5.is (by simp; omega) s5).mono ?_
    rintro e w6 ⟨he, h6⟩
    subst he
    dsimp only
    have X6 := X5.trans h6
    go_wp2_with fail
    go_end0
    refine ⟨rfl, ?_⟩
    rw [HL.out]
    simpa using X6
  · go_wp2_with fail
    refine (itoa_any n w1 hn0 hn1 hT1.p.here).mono ?_
    rintro e w2 ⟨he, hb⟩
    subst he
    dsimp only
    have h2 := (Wrote.refl X1.is).more s1 hb
    clear hb
    have qA2 := h2.row qA1 hne (by decide)
    have qK2 := h2.row qK1 hne1 (by decide)
    have hT2 := hT1.below h2.below
    have X2 := X1.trans h2
    have s2 : B ≤ w2.heap.size := Nat.le_trans s1 h2.below.size
    have a12 := cells_at qA2 1 _ rfl
    have a22 := cells_at qA2 2 _ rfl
    have a32 := cells_at qA2 3 _ rfl
    have k12 := cells_at qK2 1 _ rfl
    have k22 := cells_at qK2 2 _ rfl
    have k32 := cells_at qK2 3 _ rfl
    clear qA1 qK1 hT1 X1 s1 h2 a11 a21 a31 k11 k21 k31
    go_wp2_with fail
    refine (writeString_any B b _ _ w2 X2.is (by rw [cat32_size]; simp; omega) s2).mono ?_
    rintro e w3 ⟨he, h3⟩
    subst he
    dsimp only
    rw [cat32] at h3
    have qA3 := h3.row qA2 hne (by decide)
    have qK3 := h3.row qK2 hne1 (by decide)
    have hT3 := hT2.below h3.below
    have X3 := X2.trans h3
    have s3 : B ≤ w3.heap.size := Nat.le_trans s2 h3.below.size
    have a13 := cells_at qA3 1 _ rfl
    have a23 := cells_at qA3 2 _ rfl
    have a33 := cells_at qA3 3 _ rfl
    have k13 := cells_at qK3 1 _ rfl
    have k23 := cells_at qK3 2 _ rfl
    have k33 := cells_at qK3 3 _ rfl
    clear qA2 qK2 hT2 X2 s2 h3 a12 a22 a32 k12 k22 k32
    go_wp2_with fail
    refine (itoa_any p w3 hp0 hp1 hT3.p.here).mono ?_
    rintro e w4 ⟨he, hb⟩
    subst he
    dsimp only
    have h4 := (Wrote.refl X3.is).more s3 hb
    clear hb
    have qA4 := h4.row qA3 hne (by decide)
    have qK4 := h4.row qK3 hne1 (by decide)
    have hT4 := hT3.below h4.below
    have X4 := X3.trans h4
    have s4 : B ≤ w4.heap.size := Nat.le_trans s3 h4.below.size
    have a14 := cells_at qA4 1 _ rfl
    have a24 := cells_at qA4 2 _ rfl
    have a34 := cells_at qA4 3 _ rfl
    have k14 := cells_at qK4 1 _ rfl
    have k24 := cells_at qK4 2 _ rfl
    have k34 := cells_at qK4 3 _ rfl
    clear qA3 qK3 hT3 X3 s3 h4 a13 a23 a33 k13 k23 k33
    go_wp2_with fail
    refine (writeString_any B b _ _ w4 X4.is (by rw [cat32_size]; simp; omega) s4).mono ?_
    rintro e w5 ⟨he, h5⟩
    subst he
    dsimp only
    rw [cat32] at h5
    have qA5 := h5.row qA4 hne (by decide)
    have qK5 := h5.row qK4 hne1 (by decide)
    have hT5 := hT4.below h5.below
    have X5 := X4.trans h5
    have s5 : B ≤ w5.heap.size := Nat.le_trans s4 h5.below.size
    have a15 := cells_at qA5 1 _ rfl
    have a25 := cells_at qA5 2 _ rfl
    have a35 := cells_at qA5 3 _ rfl
    have k15 := cells_at qK5 1 _ rfl
    have k25 := cells_at qK5 2 _ rfl
    have k35 := cells_at qK5 3 _ rfl
    clear qA4 qK4 hT4 X4 s4 h5 a14 a24 a34 k14 k24 k34
    go_wp2_with fail
    refine (writeByte_any B b _ 10 w5 X5.is (by simp; omega) s5).mono ?_
    rintro e w6 ⟨he, h6⟩
    subst he
    dsimp only
    have X6 := X5.trans h6
    go_wp2_with fail
    go_end0
    refine ⟨rfl, ?_⟩
    rw [HL.out]
    simpa using X6
  · go_wp2_with fail
    refine (itoa_any n w1 hn0 hn1 hT1.p.here).mono ?_
    rintro e w2 ⟨he, hb⟩
    subst he
    dsimp only
    have h2 := (Wrote.refl X1.is).more s1 hb
    clear hb
    have qA2 := h2.row qA1 hne (by decide)
    have qK2 := h2.row qK1 hne1 (by decide)
    have hT2 := hT1.below h2.below
    have X2 := X1.trans h2
    have s2 : B ≤ w2.heap.size := Nat.le_trans s1 h2.below.size
    have a12 := cells_at qA2 1 _ rfl
    have a22 := cells_at qA2 2 _ rfl
    have a32 := cells_at qA2 3 _ rfl
    have k12 := cells_at qK2 1 _ rfl
    have k22 := cells_at qK2 2 _ rfl
    have k32 := cells_at qK2 3 _ rfl
    clear qA1 qK1 hT1 X1 s1 h2 a11 a21 a31 k11 k21 k31
    go_wp2_with fail
    refine (writeString_any B b _ _ w2 X2.is (by rw [cat32_size]; simp; omega) s2).mono ?_
    rintro e w3 ⟨he, h3⟩
    subst he
    dsimp only
    rw [cat32] at h3
    have qA3 := h3.row qA2 hne (by decide)
    have qK3 := h3.row qK2 hne1 (by decide)
    have hT3 := hT2.below h3.below
    have X3 := X2.trans h3
    have s3 : B ≤ w3.heap.size := Nat.le_trans s2 h3.below.size
    have a13 := cells_at qA3 1 _ rfl
    have a23 := cells_at qA3 2 _ rfl
    have a33 := cells_at qA3 3 _ rfl
    have k13 := cells_at qK3 1 _ rfl
    have k23 := cells_at qK3 2 _ rfl
    have k33 := cells_at qK3 3 _ rfl
    clear qA2 qK2 hT2 X2 s2 h3 a12 a22 a32 k12 k22 k32
    go_wp2_with fail
    refine (itoa_any p w3 hp0 hp1 hT3.p.here).mono ?_
    rintro e w4 ⟨he, hb⟩
    subst he
    dsimp only
    have h4 := (Wrote.refl X3.is).more s3 hb
    clear hb
    have qA4 := h4.row qA3 hne (by decide)
    have qK4 := h4.row qK3 hne1 (by decide)
    have hT4 := hT3.below h4.below
    have X4 := X3.trans h4
    have s4 : B ≤ w4.heap.size := Nat.le_trans s3 h4.below.size
    have a14 := cells_at qA4 1 _ rfl
    have a24 := cells_at qA4 2 _ rfl
    have a34 := cells_at qA4 3 _ rfl
    have k14 := cells_at qK4 1 _ rfl
    have k24 := cells_at qK4 2 _ rfl
    have k34 := cells_at qK4 3 _ rfl
    clear qA3 qK3 hT3 X3 s3 h4 a13 a23 a33 k13 k23 k33
    go_wp2_with fail
    refine (writeString_any B b _ _ w4 X4.is (by rw [cat32_size]; simp; omega) s4).mono ?_
    rintro e w5 ⟨he, h5⟩
    subst he
    dsimp only
    rw [cat32] at h5
    have qA5 := h5.row qA4 hne (by decide)
    have qK5 := h5.row qK4 hne1 (by decide)
    have hT5 := hT4.below h5.below
    have X5 := X4.trans h5
    have s5 : B ≤ w5.heap.size := Nat.le_trans s4 h5.below.size
    have a15 := cells_at qA5 1 _ rfl
    have a25 := cells_at qA5 2 _ rfl
    have a35 := cells_at qA5 3 _ rfl
    have k15 := cells_at qK5 1 _ rfl
    have k25 := cells_at qK5 2 _ rfl
    have k35 := cells_at qK5 3 _ rfl
    clear qA4 qK4 hT4 X4 s4 h5 a14 a24 a34 k14 k24 k34
    go_wp2_with fail
    refine (showText_any t w5 (by omega)).mono ?_
    rintro e w6 ⟨he, hb⟩
    subst he
    dsimp only
    have h6 := (Wrote.refl X5.is).more s5 hb
    clear hb
    have qA6 := h6.row qA5 hne (by decide)
    have qK6 := h6.row qK5 hne1 (by decide)
    have hT6 := hT5.below h6.below
    have X6 := X5.trans h6
    have s6 : B ≤ w6.heap.size := Nat.le_trans s5 h6.below.size
    have a16 := cells_at qA6 1 _ rfl
    have a26 := cells_at qA6 2 _ rfl
    have a36 := cells_at qA6 3 _ rfl
    have k16 := cells_at qK6 1 _ rfl
    have k26 := cells_at qK6 2 _ rfl
    have k36 := cells_at qK6 3 _ rfl
    clear qA5 qK5 hT5 X5 s5 h6 a15 a25 a35 k15 k25 k35
    go_wp2_with fail
    refine (writeString_any B b _ _ w6 X6.is (by rw [cat32_size]; simp; omega) s6).mono ?_
    rintro e w7 ⟨he, h7⟩
    subst he
    dsimp only
    rw [cat32] at h7
    have qA7 := h7.row qA6 hne (by decide)
    have qK7 := h7.row qK6 hne1 (by decide)
    have hT7 := hT6.below h7.below
    have X7 := X6.trans h7
    have s7 : B ≤ w7.heap.size := Nat.le_trans s6 h7.below.size
    have a17 := cells_at qA7 1 _ rfl
    have a27 := cells_at qA7 2 _ rfl
    have a37 := cells_at qA7 3 _ rfl
    have k17 := cells_at qK7 1 _ rfl
    have k27 := cells_at qK7 2 _ rfl
    have k37 := cells_at qK7 3 _ rfl
    clear qA6 qK6 hT6 X6 s6 h7 a16 a26 a36 k16 k26 k36
    go_wp2_with fail
    refine (writeByte_any B b _ 10 w7 X7.is (by simp; omega) s7).mono ?_
    rintro e w8 ⟨he, h8⟩
    subst he
    dsimp only
    have X8 := X7.trans h8
    go_wp2_with fail
    go_end0
    refine ⟨rfl, ?_⟩
    rw [HL.out]
    simpa using X8
end Go.Proofs.YtnpkpkknbflacaaDoor
