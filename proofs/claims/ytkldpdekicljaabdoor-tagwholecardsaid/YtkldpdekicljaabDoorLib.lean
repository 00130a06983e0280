/- Slices of bytes that are read: what the contracts above blake.Sum speak of. -/
import Derived.Test.YtkldpdekicljaabDoorSum
namespace Go.Proofs.YtkldpdekicljaabDoor
open Go.RowKit

/-- A slice whose bytes are bs. -/
structure SliceAt (w : World) (sa : Option Addr) (cap : Nat) (bs : List Int) : Prop where
  le : bs.length ≤ cap
  max : cap ≤ maxLen
  some : cap = 0 ∨ ∃ sb so, sa = some ⟨sb, so, none⟩
  nil : sa = none → cap = 0
  bytes : BytesAt w sa bs
theorem SliceAt.below {w w' : World} {sa : Option Addr} {cap : Nat} {bs : List Int} (h : SliceAt w sa cap bs) (hb : Below w.heap.size w w') : SliceAt w' sa cap bs :=
  ⟨h.le, h.max, h.some, h.nil, h.bytes.below' hb⟩
theorem ub_length (bs : List Int) : (ub bs).length = bs.length := by simp [ub]
theorem sliceAt_of_owns {w : World} {base g cap n : Nat} {bs : List Int} (h : w.ownsRow base 5 1 (.slice (some ⟨g, 0, none⟩) n cap) n (ub bs)) : n = bs.length ∧ SliceAt w (some ⟨g, 0, none⟩) cap bs := by
  have hl : n = bs.length := by have := h.1; rw [ub_length] at this; omega
  refine ⟨hl, ?_⟩
  have hc := fun j hj => World.ownsRow.cellAt h j hj
  rcases h.2 with ⟨e, _⟩ | ⟨g', c', cur, e, _, _, h1, h2, _, _⟩
  · cases e
  · cases e
    refine ⟨by omega, h2, .inr ⟨g, 0, rfl⟩, (fun e => by cases e), .inr ⟨g, 0, rfl, fun j hj => ?_⟩⟩
    rw [Nat.zero_add, hc j (by omega)]
    simp [ub, hj]
theorem digTo8_length (s : List Int) : (digTo s 8).length = 32 := digTo_length s 8
theorem sumL_length (bs : List Int) : (sumL bs).length = 32 := digTo_length _ 8
theorem zeros_made (n : Nat) : (madeCells (Value.int .u8 0).cells (n * 1)).toList = ub (List.replicate n 0) := by
  rw [Nat.mul_one, show (Value.int .u8 0).cells = #[.int .u8 0] from rfl, toList_madeCells_one]
  simp [ub]

/-- blake.Sum of a slice with room: a new slice of 32 bytes, and OK. -/
theorem sum_ok (bs : List Int) (sa : Option Addr) (n cap : Nat) (w : World) (hn : n = bs.length) (hl : bs.length ≤ 4000) (hs : SliceAt w sa cap bs) (hT : Tabs w) :
    Calls Tryd.prog 7 #[.slice sa n cap] w fun e w' => ∃ b, e = .returned (.tuple #[.slice (some ⟨b, 0, none⟩) 32 32, .int .i64 0]) ∧ w.heap.size ≤ b ∧ Below w.heap.size w w' ∧ SliceAt w' (some ⟨b, 0, none⟩) 32 (sumL bs) := by
  subst hn
  refine (sum_any bs sa cap w hl hs.le hs.max hs.some hs.bytes hT).mono ?_
  rintro e w' ⟨b, rfl, h1, h2, h3⟩
  exact ⟨b, rfl, h1, h2, (sliceAt_of_owns h3).2⟩
theorem grown_none {w w' : World} (h : w.grownBy w' none) : Below w.heap.size w w' := ⟨h.os, h.tape, h.output, h.size, fun k hk => h.block k hk (by simp)⟩
theorem ret_int {k : IntKind} {a b : Int} (h : a = b) : Ending.returned (.int k a) = .returned (.int k b) := by rw [h]
/-- The number that a test takes out of a raw one. -/
def pk (n m : Int) : Int := if n < 0 then -(n + 1) % m else n % m
theorem pk_bounds (n m : Int) (hm : 0 < m) : 0 ≤ pk n m ∧ pk n m < m := by
  unfold pk; split
  · exact ⟨Int.emod_nonneg _ (by omega), Int.emod_lt_of_pos _ hm⟩
  · exact ⟨Int.emod_nonneg _ (by omega), Int.emod_lt_of_pos _ hm⟩
set_option maxHeartbeats 400000 in
theorem picked_any (n m : Int) (w : World) (h0 : -9223372036854775808 ≤ n) (h1 : n ≤ 9223372036854775807) (hm : 0 < m) (hm2 : m ≤ 9223372036854775807) :
    Calls Tryd.prog 5 #[.int .i64 n, .int .i64 m] w fun e w' => e = .returned (.int .i64 (pk n m)) ∧ w = w' := by
  have hm0 : (m == 0) = false := beq_eq_false_iff_ne.2 (by omega)
  by_cases h : n < 0
  · have hx : Hid (pk n m = -((n + 1).tmod m)) := by
      show _ = _
      rw [pk, if_pos h, ← Int.neg_tmod, Int.tmod_eq_emod_of_nonneg (by omega)]
    go_enter Tryd.func5, Tryd.ntmps5
    go_wp2
    go_ret
    exact ⟨ret_int hx.out.symm, rfl⟩
  · have hx : Hid (pk n m = n % m) := if_neg h
    go_enter Tryd.func5, Tryd.ntmps5
    go_wp2
    go_ret
    exact ⟨ret_int hx.out.symm, rfl⟩
end Go.Proofs.YtkldpdekicljaabDoor
