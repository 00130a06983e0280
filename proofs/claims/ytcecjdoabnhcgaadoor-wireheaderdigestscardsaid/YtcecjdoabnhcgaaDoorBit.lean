/- The document's words of 32 bits, reckoned in 64: the same numbers. For all words. -/
import Derived.Test.YtcecjdoabnhcgaaDoorK
namespace Go.Proofs.YtcecjdoabnhcgaaDoor

/-- A word. -/
def W1 (x : Int) : Prop := 0 ≤ x ∧ x < 4294967296
set_option maxRecDepth 100000 in
theorem i64_nat (a b : Nat) (ha : a < 9223372036854775808) (hb : b < 9223372036854775808) :
    bits .and .i64 (a : Int) (b : Int) = ((a &&& b : Nat) : Int) ∧ bits .or .i64 (a : Int) (b : Int) = ((a ||| b : Nat) : Int) := by
  refine bits_nat .i64 63 (by decide) (fun n h0 h1 => ?_) a b (by omega) (by omega)
  rw [IntKind.wrap_i64]
  have : n < 9223372036854775808 := by simpa using h1
  omega
set_option maxRecDepth 100000 in
theorem i64_xor_nat (a b : Nat) (ha : a < 9223372036854775808) (hb : b < 9223372036854775808) : bits .xor .i64 (a : Int) (b : Int) = ((a ^^^ b : Nat) : Int) := by
  have hx : a ^^^ b < 2 ^ 63 := Nat.xor_lt_two_pow (by omega) (by omega)
  have h1 : (BitVec.ofInt 64 (a : Int)).toNat = a := by
    rw [BitVec.ofInt_natCast, BitVec.toNat_ofNat]; exact Nat.mod_eq_of_lt (by omega)
  have h2 : (BitVec.ofInt 64 (b : Int)).toNat = b := by
    rw [BitVec.ofInt_natCast, BitVec.toNat_ofNat]; exact Nat.mod_eq_of_lt (by omega)
  show IntKind.i64.wrap ((BitVec.ofInt 64 (a : Int) ^^^ BitVec.ofInt 64 (b : Int)).toNat : Int) = _
  rw [BitVec.toNat_xor, h1, h2, IntKind.wrap_i64]
  omega
set_option maxRecDepth 100000 in
theorem W1.nat {x : Int} (h : W1 x) : ∃ n : Nat, x = n ∧ n < 4294967296 := ⟨x.toNat, by have := h.1; omega, by have := h.1; have := h.2; omega⟩
set_option maxRecDepth 100000 in
theorem xor64 {x y : Int} (hx : W1 x) (hy : W1 y) : bits .xor .i64 x y = bits .xor .u32 x y := by
  obtain ⟨a, rfl, ha⟩ := hx.nat
  obtain ⟨b, rfl, hb⟩ := hy.nat
  rw [i64_xor_nat a b (by omega) (by omega), u32_xor_nat a b ha hb]
set_option maxRecDepth 100000 in
theorem W1.xor {x y : Int} (hx : W1 x) (hy : W1 y) : W1 (bits .xor .u32 x y) := by
  obtain ⟨a, rfl, ha⟩ := hx.nat
  obtain ⟨b, rfl, hb⟩ := hy.nat
  rw [u32_xor_nat a b ha hb]
  have : a ^^^ b < 2 ^ 32 := Nat.xor_lt_two_pow (by omega) (by omega)
  exact ⟨by omega, by omega⟩
set_option maxRecDepth 100000 in
theorem W1.mod (z : Int) : W1 (z % 4294967296) := ⟨Int.emod_nonneg _ (by decide), Int.emod_lt_of_pos _ (by decide)⟩
set_option maxRecDepth 100000 in
theorem and_mask (z : Int) (h0 : 0 ≤ z) (h1 : z < 9223372036854775808) : bits .and .i64 z 4294967295 = z % 4294967296 := by
  obtain ⟨n, rfl⟩ := Int.eq_ofNat_of_zero_le h0
  have e := (i64_nat n 4294967295 (by omega) (by decide)).1
  rw [show ((4294967295 : Nat) : Int) = 4294967295 from rfl] at e
  rw [e, show (4294967295 : Nat) = 2 ^ 32 - 1 from rfl, Nat.and_two_pow_sub_one_eq_mod]
  omega
set_option maxRecDepth 100000 in
/-- (x >> n | x << (32 - n)) and the mask is the word, turned. -/
theorem turned_eq (x : Int) (hx : W1 x) (n : Nat) (hn : 1 ≤ n) (_hn2 : n < 32) (y z : Int) (hy : y = x / 2 ^ n) (hz : z = x * 2 ^ (32 - n)) :
    bits .and .i64 (bits .or .i64 y z) 4294967295 = bits .or .u32 (x * 2 ^ (32 - n) % 4294967296) (x / 2 ^ n) := by
  obtain ⟨a, rfl, ha⟩ := hx.nat
  subst hy hz
  have e1 : ((a : Int) / 2 ^ n) = ((a / 2 ^ n : Nat) : Int) := by simp
  have e2 : ((a : Int) * 2 ^ (32 - n)) = ((a * 2 ^ (32 - n) : Nat) : Int) := by simp
  have e3 : ((a * 2 ^ (32 - n) : Nat) : Int) % 4294967296 = ((a * 2 ^ (32 - n) % 4294967296 : Nat) : Int) := by omega
  have b1 : a / 2 ^ n < 4294967296 := Nat.lt_of_le_of_lt (Nat.div_le_self _ _) ha
  have h31 : (2 : Nat) ^ (32 - n) ≤ 2 ^ 31 := Nat.pow_le_pow_right (by decide) (by omega)
  have b2 : a * 2 ^ (32 - n) < 2 ^ 63 :=
    Nat.lt_of_lt_of_le (Nat.mul_lt_mul_of_pos_right ha (Nat.pow_pos (by decide))) (Nat.le_trans (Nat.mul_le_mul_left _ h31) (by decide))
  rw [e1, e2, e3]
  generalize a / 2 ^ n = p at *
  generalize a * 2 ^ (32 - n) = q at *
  rw [(i64_nat p q (by omega) (by omega)).2]
  have hpq : p ||| q < 2 ^ 63 := Nat.or_lt_two_pow (by omega) b2
  rw [and_mask _ (by omega) (by omega), u32_or_nat _ _ (by omega) b1]
  have hm : (p ||| q) % 2 ^ 32 = p % 2 ^ 32 ||| q % 2 ^ 32 := Nat.or_mod_two_pow
  rw [Nat.or_comm (q % 4294967296) p]
  have hp' : p % 2 ^ 32 = p := Nat.mod_eq_of_lt (by omega)
  rw [hp'] at hm
  have : ((p ||| q) % 4294967296 : Nat) = p ||| q % 4294967296 := hm
  omega
set_option maxRecDepth 100000 in
theorem W1.rot {x : Int} (hx : W1 x) (n : Int) : W1 (rotI n x) := by
  obtain ⟨a, rfl, ha⟩ := hx.nat
  have e1 : ((a : Int) / 2 ^ n.toNat) = ((a / 2 ^ n.toNat : Nat) : Int) := by simp
  have e2 : ((a : Int) * 2 ^ (32 - n).toNat) % 4294967296 = ((a * 2 ^ (32 - n).toNat % 4294967296 : Nat) : Int) := by simp
  have b1 : a / 2 ^ n.toNat < 4294967296 := Nat.lt_of_le_of_lt (Nat.div_le_self _ _) ha
  unfold rotI
  rw [e1, e2, u32_or_nat _ _ (by omega) b1]
  have : (a * 2 ^ (32 - n).toNat % 4294967296) ||| (a / 2 ^ n.toNat) < 2 ^ 32 := Nat.or_lt_two_pow (by omega) b1
  exact ⟨by omega, by omega⟩
end Go.Proofs.YtcecjdoabnhcgaaDoor
