/- A part of the proof of TaaG. -/
import Derived.Test.YtbkojaiecgdodaaDoorEnA
set_option linter.unusedVariables false
set_option linter.unusedSimpArgs false
namespace Go.Proofs.YtbkojaiecgdodaaDoor
open Go Go.Ev Go.RowKit
theorem or_nat (X K i : Nat) (h : X < 2 ^ i) : X ||| (2 ^ i * K) = X + 2 ^ i * K := by
  rw [Nat.or_comm, ← Nat.two_pow_add_eq_or_of_lt h, Nat.add_comm]
theorem or_low (X K i : Nat) (h : X < 2 ^ i) (hs : X + 2 ^ i * K < 18446744073709551616) : bits .or .u64 (X : Int) ((2 ^ i * K : Nat) : Int) = ((X + 2 ^ i * K : Nat) : Int) := by
  have h1 : (BitVec.ofInt 64 (X : Int)).toNat = X := by rw [BitVec.toNat_ofInt]; omega
  have h2 : (BitVec.ofInt 64 ((2 ^ i * K : Nat) : Int)).toNat = 2 ^ i * K := by rw [BitVec.toNat_ofInt]; omega
  show IntKind.u64.wrap (((BitVec.ofInt 64 (X : Int) ||| BitVec.ofInt 64 ((2 ^ i * K : Nat) : Int)).toNat : Nat) : Int) = _
  rw [BitVec.toNat_or, h1, h2, or_nat _ _ _ h, IntKind.wrap_u64]
  omega
theorem or_lows (x y k : Int) (i : Nat) (p : Nat) (hp : 2 ^ i = p) (hx : 0 ≤ x) (h : x < p) (hk : 0 ≤ k) (hy : y = p * k) (hs : x + y < 18446744073709551616) : bits .or .u64 x y = x + y := by
  obtain ⟨X, rfl⟩ := Int.eq_ofNat_of_zero_le hx
  obtain ⟨K, rfl⟩ := Int.eq_ofNat_of_zero_le hk
  subst hp
  have e : y = ((2 ^ i * K : Nat) : Int) := by rw [hy]; exact (Int.natCast_mul _ _).symm
  rw [e] at hs ⊢
  rw [or_low X K i (Int.ofNat_lt.1 h) (by generalize 2 ^ i * K = Y at hs; omega)]
  exact Int.natCast_add _ _
/-- the fields of a valid one -/
theorem ok_fields {op d a b m : Int} (h : VP op d a b m) : 1 ≤ op ∧ op ≤ 49 ∧ 0 ≤ d ∧ d ≤ 9 ∧ 0 ≤ a ∧ a ≤ 9 ∧ 0 ≤ b ∧ b ≤ 9 := by
  have key : (op ≤ 0 ∨ op = 15 ∨ (30 ≤ op ∧ op ≤ 35) ∨ 50 ≤ op) ∨ (16 ≤ op ∧ op ≤ 29) ∨ (36 ≤ op ∧ op ≤ 49) ∨ op = 1 ∨ op = 2 ∨ op = 3 ∨ op = 4 ∨ op = 5 ∨ op = 6 ∨ op = 7 ∨ op = 8 ∨ op = 9 ∨ op = 10 ∨ op = 11 ∨ op = 12 ∨ op = 13 ∨ op = 14 := by omega
  rcases key with h0 | h0 | h0 | rfl | rfl | rfl | rfl | rfl | rfl | rfl | rfl | rfl | rfl | rfl | rfl | rfl | rfl
  · rw [vp_no h0] at h; exact h.elim
  · rw [vp_bin h0] at h; omega
  · rw [vp_bini h0] at h; omega
  · rw [vp_1] at h; omega
  · rw [vp_2] at h; omega
  · rw [vp_3] at h; omega
  · rw [vp_4] at h; omega
  · rw [vp_5] at h; omega
  · rw [vp_6] at h; omega
  · rw [vp_7] at h; omega
  · rw [vp_8] at h; omega
  · rw [vp_9] at h; omega
  · rw [vp_10] at h; omega
  · rw [vp_11] at h; omega
  · rw [vp_12] at h; omega
  · rw [vp_13] at h; omega
  · rw [vp_14] at h; omega
/-- the first word -/
def lowW (op d a b : Int) : Int := bits .or .u64 (bits .or .u64 (bits .or .u64 (IntKind.u64.wrap op) (IntKind.u64.wrap (IntKind.u64.wrap d * 256))) (IntKind.u64.wrap (IntKind.u64.wrap a * 4096))) (IntKind.u64.wrap (IntKind.u64.wrap b * 65536))
theorem lowW_eq {op d a b m : Int} (h : VP op d a b m) : lowW op d a b = low ⟨op, d, a, b, m⟩ := by
  obtain ⟨h1, h2, h3, h4, h5, h6, h7, h8⟩ := ok_fields h
  simp only [lowW, low]
  simp only [IntKind.wrap_u64]
  have e1 : op % 18446744073709551616 = op := by omega
  have e2 : d % 18446744073709551616 * 256 % 18446744073709551616 = d * 256 := by omega
  have e3 : a % 18446744073709551616 * 4096 % 18446744073709551616 = a * 4096 := by omega
  have e4 : b % 18446744073709551616 * 65536 % 18446744073709551616 = b * 65536 := by omega
  rw [e1, e2, e3, e4, or_lows op (d * 256) d 8 256 (by decide) (by omega) (by omega) h3 (by omega) (by omega),
    or_lows (op + d * 256) (a * 4096) a 12 4096 (by decide) (by omega) (by omega) h5 (by omega) (by omega),
    or_lows (op + d * 256 + a * 4096) (b * 65536) b 16 65536 (by decide) (by omega) (by omega) h7 (by omega) (by omega)]
theorem low_lt {op d a b m : Int} (h : VP op d a b m) : 0 ≤ low ⟨op, d, a, b, m⟩ ∧ low ⟨op, d, a, b, m⟩ < 4294967296 := by
  obtain ⟨h1, h2, h3, h4, h5, h6, h7, h8⟩ := ok_fields h
  simp only [low]; omega
theorem highW {op d a b m : Int} (h : VP op d a b m) : bits .or .u64 (lowW op d a b) (IntKind.u64.wrap (IntKind.u64.wrap m * 4294967296)) = low ⟨op, d, a, b, m⟩ + m % 4294967296 * 4294967296 := by
  obtain ⟨h1, h2⟩ := low_lt h
  rw [lowW_eq h]
  simp only [IntKind.wrap_u64]
  have e : m % 18446744073709551616 * 4294967296 % 18446744073709551616 = m % 4294967296 * 4294967296 := by omega
  rw [e, or_lows _ (m % 4294967296 * 4294967296) (m % 4294967296) 32 4294967296 (by decide) h1 h2 (by omega) (by omega) (by omega)]
/-- the reference's -/
theorem lowR {op d a b m : Int} (h : VP op d a b m) : IntKind.u64.wrap (IntKind.u64.wrap (IntKind.u64.wrap (IntKind.u64.wrap op + IntKind.u64.wrap (IntKind.u64.wrap d * 256)) + IntKind.u64.wrap (IntKind.u64.wrap a * 4096)) + IntKind.u64.wrap (IntKind.u64.wrap b * 65536)) = low ⟨op, d, a, b, m⟩ := by
  obtain ⟨h1, h2, h3, h4, h5, h6, h7, h8⟩ := ok_fields h
  simp only [low]
  simp only [IntKind.wrap_u64]
  omega
theorem highR {op d a b m : Int} (h : VP op d a b m) : IntKind.u64.wrap (low ⟨op, d, a, b, m⟩ + IntKind.u64.wrap (IntKind.u64.wrap m * 4294967296)) = low ⟨op, d, a, b, m⟩ + m % 4294967296 * 4294967296 := by
  obtain ⟨h1, h2⟩ := low_lt h
  simp only [IntKind.wrap_u64]
  omega
end Go.Proofs.YtbkojaiecgdodaaDoor
