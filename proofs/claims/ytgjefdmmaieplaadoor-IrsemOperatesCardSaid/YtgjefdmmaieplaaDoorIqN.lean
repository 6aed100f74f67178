/- Arithmetic of bits, quotients and rests modulo 2^64. -/
import Derived.Test.YtgjefdmmaieplaaDoorEvB1
section
set_option linter.unusedVariables false
set_option linter.unusedSimpArgs false
namespace Go.Ev.Num
/-- bits, in plain arithmetic -/
theorem wrap_in {x : Int} (h : -9223372036854775808 ≤ x) (k : x ≤ 9223372036854775807) : IntKind.i64.wrap x = x := IntWalk.i64_in x ⟨h, k⟩
theorem ofInt_toNat (x : Int) : (BitVec.ofInt 64 x).toNat = (x % 18446744073709551616).toNat := by
  rw [BitVec.toNat_ofInt]; rfl
theorem and255 (x : Int) : bitV .and .i64 x 255 = x % 256 := by
  have h1 : bitV .and .i64 x 255 = IntKind.i64.wrap ((BitVec.ofInt 64 x &&& BitVec.ofInt 64 255).toNat) := rfl
  have h2 : (BitVec.ofInt 64 x &&& BitVec.ofInt 64 255).toNat = (x % 18446744073709551616).toNat % 256 := by
    rw [BitVec.toNat_and, ofInt_toNat, ofInt_toNat]
    have : ((255 : Int) % 18446744073709551616).toNat = 2 ^ 8 - 1 := by decide
    rw [this, Nat.and_two_pow_sub_one_eq_mod]
  rw [h1, h2, wrap_in (by omega) (by omega)]
  omega
theorem com (x : Int) (h : -9223372036854775808 ≤ x) (k : x ≤ 9223372036854775807) : bitV .xor .i64 (-1) x = -x - 1 := by
  have h1 : bitV .xor .i64 (-1) x = IntKind.i64.wrap ((BitVec.ofInt 64 (-1) ^^^ BitVec.ofInt 64 x).toNat) := rfl
  have h2 : BitVec.ofInt 64 (-1) = BitVec.allOnes 64 := by decide
  have h3 : (BitVec.ofInt 64 (-1) ^^^ BitVec.ofInt 64 x).toNat = 18446744073709551615 - (x % 18446744073709551616).toNat := by
    rw [h2, BitVec.allOnes_xor, BitVec.toNat_not, ofInt_toNat]
  rw [h1, h3]
  have h4 : ∀ y : Int, IntKind.i64.wrap y = if (y % 18446744073709551616) < 9223372036854775808 then y % 18446744073709551616 else y % 18446744073709551616 - 18446744073709551616 := by
    intro y
    simp [IntKind.wrap, IntKind.bits, IntKind.signed]
    omega
  rw [h4]
  split <;> omega
theorem wrap_eq (y : Int) : IntKind.i64.wrap y = if (y % 18446744073709551616) < 9223372036854775808 then y % 18446744073709551616 else y % 18446744073709551616 - 18446744073709551616 := by
  simp [IntKind.wrap, IntKind.bits, IntKind.signed]
  omega
theorem wrap_rng (y : Int) : -9223372036854775808 ≤ IntKind.i64.wrap y ∧ IntKind.i64.wrap y ≤ 9223372036854775807 := by
  rw [wrap_eq]; split <;> omega
theorem wrap_mod (y : Int) : ∃ k : Int, IntKind.i64.wrap y = y + k * 18446744073709551616 := by
  rw [wrap_eq]
  split
  · exact ⟨-(y / 18446744073709551616), by omega⟩
  · exact ⟨-(y / 18446744073709551616) - 1, by omega⟩
theorem wrap_add_mul (y k : Int) : IntKind.i64.wrap (y + k * 18446744073709551616) = IntKind.i64.wrap y := by
  rw [wrap_eq, wrap_eq, Int.add_mul_emod_self_right]
/-- the rest, by the quotient -/
theorem rem_quo (x y : Int) (h : -9223372036854775808 ≤ x) (k : x ≤ 9223372036854775807) : x.tmod y = IntKind.i64.wrap (x - IntKind.i64.wrap (IntKind.i64.wrap (x.tdiv y) * y)) := by
  obtain ⟨k1, h1⟩ := wrap_mod (x.tdiv y)
  obtain ⟨k2, h2⟩ := wrap_mod (IntKind.i64.wrap (x.tdiv y) * y)
  have h3 : x - IntKind.i64.wrap (IntKind.i64.wrap (x.tdiv y) * y) = x.tmod y + (-(k1 * y) - k2) * 18446744073709551616 := by
    rw [h2, h1, Int.tmod_def, Int.add_mul, Int.sub_mul, Int.mul_comm y]
    generalize x.tdiv y * y = q
    have : k1 * 18446744073709551616 * y = k1 * y * 18446744073709551616 := by rw [Int.mul_assoc, Int.mul_comm 18446744073709551616 y, ← Int.mul_assoc]
    rw [this, Int.neg_mul]
    omega
  rw [h3, wrap_add_mul]
  have h4 : (x.tmod y).natAbs ≤ x.natAbs := by
    rw [Int.natAbs_tmod]; exact Nat.mod_le _ _
  have h5 : x < 0 → x.tmod y ≤ 0 := by
    intro hx
    have : 0 ≤ (-x).tmod y := Int.tmod_nonneg y (by omega)
    rw [Int.neg_tmod] at this
    omega
  exact (wrap_in (by omega) (by omega)).symm
theorem tmod_small (x y : Int) (h : 0 ≤ x) (k : x ≤ 255) : 0 ≤ x.tmod y ∧ x.tmod y ≤ 255 := by
  have h1 : 0 ≤ x.tmod y := Int.tmod_nonneg y h
  have h4 : (x.tmod y).natAbs ≤ x.natAbs := by
    rw [Int.natAbs_tmod]; exact Nat.mod_le _ _
  omega
theorem L_quo (x y : Int) (h : 0 ≤ x) (k : x ≤ 255) (h2 : 0 ≤ y) : IntKind.i64.wrap (x.tdiv y) = bitV .and .i64 (IntKind.i64.wrap (x.tdiv y)) 255 := by
  have h3 : 0 ≤ x.tdiv y := Int.tdiv_nonneg h h2
  have h4 : x.tdiv y ≤ x := by
    have : (x.tdiv y).natAbs ≤ x.natAbs := by rw [Int.natAbs_tdiv]; exact Nat.div_le_self _ _
    omega
  rw [wrap_in (by omega) (by omega), and255]
  omega
theorem L_com (x : Int) (h : -9223372036854775808 ≤ x) (k : x ≤ 9223372036854775807) : bitV .xor .i64 (-1) x = IntKind.i64.wrap (IntKind.i64.wrap (0 - x) - 1) := by
  rw [com x h k, wrap_eq, wrap_eq]
  split <;> split <;> omega
theorem L_com255 (x : Int) (h : -9223372036854775808 ≤ x) (k : x ≤ 9223372036854775807) : bitV .and .i64 (bitV .xor .i64 (-1) x) 255 = bitV .and .i64 (IntKind.i64.wrap (IntKind.i64.wrap (0 - x) - 1)) 255 := by rw [L_com x h k]
theorem L_rem255 (x y : Int) (h : 0 ≤ x) (k : x ≤ 255) : x.tmod y = bitV .and .i64 (IntKind.i64.wrap (x - IntKind.i64.wrap (IntKind.i64.wrap (x.tdiv y) * y))) 255 := by
  rw [← rem_quo x y (by omega) (by omega), and255]
  have := tmod_small x y h k
  omega
theorem L_and255 (z : Int) : bitV .and .i64 z 255 = bitV .and .i64 (bitV .and .i64 z 255) 255 := by
  rw [and255, and255]; omega
end Go.Ev.Num
end
section
set_option linter.unusedVariables false
set_option linter.unusedSimpArgs false
namespace Go.Ev.Num
theorem and63 (x : Int) : bitV .and .i64 x 63 = x % 64 := by
  have h1 : bitV .and .i64 x 63 = IntKind.i64.wrap ((BitVec.ofInt 64 x &&& BitVec.ofInt 64 63).toNat) := rfl
  have h2 : (BitVec.ofInt 64 x &&& BitVec.ofInt 64 63).toNat = (x % 18446744073709551616).toNat % 64 := by
    rw [BitVec.toNat_and, ofInt_toNat, ofInt_toNat]
    have : ((63 : Int) % 18446744073709551616).toNat = 2 ^ 6 - 1 := by decide
    rw [this, Nat.and_two_pow_sub_one_eq_mod]
  rw [h1, h2, wrap_in (by omega) (by omega)]
  omega
theorem and63_nonneg (x : Int) : 0 ≤ bitV .and .i64 x 63 := by rw [and63]; omega
theorem quo_neg (x : Int) : IntKind.i64.wrap (x.tdiv (-1)) = IntKind.i64.wrap (0 - x) := by
  rw [Int.tdiv_neg, Int.tdiv_one, Int.zero_sub]
theorem rem_neg (x : Int) : x.tmod (-1) = 0 := by
  rw [Int.tmod_neg, Int.tmod_one]
theorem conv63 (x : Int) : IntKind.u64.wrap (bitV .and .i64 x 63) = bitV .and .i64 x 63 := by
  rw [and63]
  have h4 : ∀ y : Int, IntKind.u64.wrap y = y % 18446744073709551616 := by
    intro y
    simp [IntKind.wrap, IntKind.bits, IntKind.signed]
  rw [h4]; omega
theorem conv63_nonneg (x : Int) : 0 ≤ IntKind.u64.wrap (bitV .and .i64 x 63) := by rw [conv63]; exact and63_nonneg x
theorem and63_add (x : Int) : bitV .and .i64 (IntKind.i64.wrap (x + 64)) 63 = bitV .and .i64 x 63 := by
  rw [and63, and63]
  obtain ⟨k, h⟩ := wrap_mod (x + 64)
  rw [h]; omega
theorem and63_sub (x : Int) : bitV .and .i64 (IntKind.i64.wrap (x - 64)) 63 = bitV .and .i64 x 63 := by
  rw [and63, and63]
  obtain ⟨k, h⟩ := wrap_mod (x - 64)
  rw [h]; omega
theorem ofInt_wrap (x : Int) : BitVec.ofInt 64 (IntKind.i64.wrap x) = BitVec.ofInt 64 x := by
  apply BitVec.eq_of_toNat_eq
  rw [ofInt_toNat, ofInt_toNat]
  obtain ⟨k, h⟩ := wrap_mod x
  rw [h]; omega
theorem ofInt_nat {v : BitVec 64} : BitVec.ofInt 64 (v.toNat : Int) = v := by
  apply BitVec.eq_of_toNat_eq
  rw [ofInt_toNat]
  have := v.isLt
  omega
theorem xor_xor (x y : Int) (h : -9223372036854775808 ≤ x) (k : x ≤ 9223372036854775807) : bitV .xor .i64 (bitV .xor .i64 x y) y = x := by
  have h1 : ∀ a b : Int, bitV .xor .i64 a b = IntKind.i64.wrap ((BitVec.ofInt 64 a ^^^ BitVec.ofInt 64 b).toNat) := fun _ _ => rfl
  rw [h1, h1, ofInt_wrap, ofInt_nat, BitVec.xor_assoc, BitVec.xor_self, BitVec.xor_zero, ofInt_toNat]
  have h4 := wrap_eq ((x % 18446744073709551616).toNat : Int)
  rw [h4]
  split <;> omega
theorem quo_rem (x y : Int) (h : -9223372036854775808 ≤ x) (k : x ≤ 9223372036854775807) : IntKind.i64.wrap (IntKind.i64.wrap (IntKind.i64.wrap (x.tdiv y) * y) + x.tmod y) = x := by
  rw [rem_quo x y h k]
  generalize IntKind.i64.wrap (IntKind.i64.wrap (x.tdiv y) * y) = m
  obtain ⟨j, hj⟩ := wrap_mod (x - m)
  rw [hj]
  have : m + (x - m + j * 18446744073709551616) = x + j * 18446744073709551616 := by omega
  rw [this, wrap_add_mul]
  exact wrap_in h k
/-- what shifts return -/
def shlV (a b : Int) : Int := IntKind.i64.wrap (a * 2 ^ (min b.toNat IntKind.i64.bits))
def shrV (a b : Int) : Int := a.fdiv (2 ^ (min b.toNat IntKind.i64.bits))
end Go.Ev.Num
end
