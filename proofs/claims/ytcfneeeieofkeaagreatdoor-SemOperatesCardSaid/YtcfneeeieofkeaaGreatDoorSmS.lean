/- A part of the proof of SmG. -/
import Derived.Test.YtcfneeeieofkeaaGreatDoorEvT
import Derived.Test.YtcfneeeieofkeaaGreatDoorSmL
import Derived.Lib.Hide
import Derived.LoopTactic
import Derived.RegionTactic
import Derived.WalkKit
import Derived.WalkSpells
import Derived.WalkLawsBesides
import Derived.Deep.DeepCutAuto
section
set_option linter.unusedVariables false
set_option linter.unusedSimpArgs false
namespace Go.Ev.Num
/-- bits, in plain arithmetic -/
theorem wrap_in {x : Int} (h : -9223372036854775808 ≤ x) (k : x ≤ 9223372036854775807) : IntKind.i64.wrap x = x := IntWalk.i64_in x ⟨h, k⟩
theorem ofInt_toNat (x : Int) : (BitVec.ofInt 64 x).toNat = (x % 18446744073709551616).toNat := by
  rw [BitVec.toNat_ofInt]; rfl
theorem and255 (x : Int) : bitV .and .i64 x 255 = x % 256 := by
  have h1 : bitV .and .i64 x 255 = IntKind.i64.wrap ((BitVec.ofInt 64 x &&& BitVec.ofInt 64 255).toNat) := rfl
  have h2 : (BitVec.ofInt 64 x &&& BitVec.ofInt 64 255).toNat = (x % 18446744073709551616).toNat % 256 := by
    rw [BitVec.toNat_and, ofInt_toNat, ofInt_toNat]
    have : ((255 : Int) % 18446744073709551616).toNat = 2 ^ 8 - 1 := by decide
    rw [this, Nat.and_two_pow_sub_one_eq_mod]
  rw [h1, h2, wrap_in (by omega) (by omega)]
  omega
theorem com (x : Int) (h : -9223372036854775808 ≤ x) (k : x ≤ 9223372036854775807) : bitV .xor .i64 (-1) x = -x - 1 := by
  have h1 : bitV .xor .i64 (-1) x = IntKind.i64.wrap ((BitVec.ofInt 64 (-1) ^^^ BitVec.ofInt 64 x).toNat) := rfl
  have h2 : BitVec.ofInt 64 (-1) = BitVec.allOnes 64 := by decide
  have h3 : (BitVec.ofInt 64 (-1) ^^^ BitVec.ofInt 64 x).toNat = 18446744073709551615 - (x % 18446744073709551616).toNat := by
    rw [h2, BitVec.allOnes_xor, BitVec.toNat_not, ofInt_toNat]
  rw [h1, h3]
  have h4 : ∀ y : Int, IntKind.i64.wrap y = if (y % 18446744073709551616) < 9223372036854775808 then y % 18446744073709551616 else y % 18446744073709551616 - 18446744073709551616 := by
    intro y
    simp [IntKind.wrap, IntKind.bits, IntKind.signed]
    omega
  rw [h4]
  split <;> omega
theorem wrap_eq (y : Int) : IntKind.i64.wrap y = if (y % 18446744073709551616) < 9223372036854775808 then y % 18446744073709551616 else y % 18446744073709551616 - 18446744073709551616 := by
  simp [IntKind.wrap, IntKind.bits, IntKind.signed]
  omega
theorem wrap_rng (y : Int) : -9223372036854775808 ≤ IntKind.i64.wrap y ∧ IntKind.i64.wrap y ≤ 9223372036854775807 := by
  rw [wrap_eq]; split <;> omega
theorem wrap_mod (y : Int) : ∃ k : Int, IntKind.i64.wrap y = y + k * 18446744073709551616 := by
  rw [wrap_eq]
  split
  · exact ⟨-(y / 18446744073709551616), by omega⟩
  · exact ⟨-(y / 18446744073709551616) - 1, by omega⟩
theorem wrap_add_mul (y k : Int) : IntKind.i64.wrap (y + k * 18446744073709551616) = IntKind.i64.wrap y := by
  rw [wrap_eq, wrap_eq, Int.add_mul_emod_self_right]
/-- the rest, by the quotient -/
theorem rem_quo (x y : Int) (h : -9223372036854775808 ≤ x) (k : x ≤ 9223372036854775807) : x.tmod y = IntKind.i64.wrap (x - IntKind.i64.wrap (IntKind.i64.wrap (x.tdiv y) * y)) := by
  obtain ⟨k1, h1⟩ := wrap_mod (x.tdiv y)
  obtain ⟨k2, h2⟩ := wrap_mod (IntKind.i64.wrap (x.tdiv y) * y)
  have h3 : x - IntKind.i64.wrap (IntKind.i64.wrap (x.tdiv y) * y) = x.tmod y + (-(k1 * y) - k2) * 18446744073709551616 := by
    rw [h2, h1, Int.tmod_def, Int.add_mul, Int.sub_mul, Int.mul_comm y]
    generalize x.tdiv y * y = q
    have : k1 * 18446744073709551616 * y = k1 * y * 18446744073709551616 := by rw [Int.mul_assoc, Int.mul_comm 18446744073709551616 y, ← Int.mul_assoc]
    rw [this, Int.neg_mul]
    omega
  rw [h3, wrap_add_mul]
  have h4 : (x.tmod y).natAbs ≤ x.natAbs := by
    rw [Int.natAbs_tmod]; exact Nat.mod_le _ _
  have h5 : x < 0 → x.tmod y ≤ 0 := by
    intro hx
    have : 0 ≤ (-x).tmod y := Int.tmod_nonneg y (by omega)
    rw [Int.neg_tmod] at this
    omega
  exact (wrap_in (by omega) (by omega)).symm
theorem tmod_small (x y : Int) (h : 0 ≤ x) (k : x ≤ 255) : 0 ≤ x.tmod y ∧ x.tmod y ≤ 255 := by
  have h1 : 0 ≤ x.tmod y := Int.tmod_nonneg y h
  have h4 : (x.tmod y).natAbs ≤ x.natAbs := by
    rw [Int.natAbs_tmod]; exact Nat.mod_le _ _
  omega
theorem L_quo (x y : Int) (h : 0 ≤ x) (k : x ≤ 255) (h2 : 0 ≤ y) : IntKind.i64.wrap (x.tdiv y) = bitV .and .i64 (IntKind.i64.wrap (x.tdiv y)) 255 := by
  have h3 : 0 ≤ x.tdiv y := Int.tdiv_nonneg h h2
  have h4 : x.tdiv y ≤ x := by
    have : (x.tdiv y).natAbs ≤ x.natAbs := by rw [Int.natAbs_tdiv]; exact Nat.div_le_self _ _
    omega
  rw [wrap_in (by omega) (by omega), and255]
  omega
theorem L_com (x : Int) (h : -9223372036854775808 ≤ x) (k : x ≤ 9223372036854775807) : bitV .xor .i64 (-1) x = IntKind.i64.wrap (IntKind.i64.wrap (0 - x) - 1) := by
  rw [com x h k, wrap_eq, wrap_eq]
  split <;> split <;> omega
theorem L_com255 (x : Int) (h : -9223372036854775808 ≤ x) (k : x ≤ 9223372036854775807) : bitV .and .i64 (bitV .xor .i64 (-1) x) 255 = bitV .and .i64 (IntKind.i64.wrap (IntKind.i64.wrap (0 - x) - 1)) 255 := by rw [L_com x h k]
theorem L_rem255 (x y : Int) (h : 0 ≤ x) (k : x ≤ 255) : x.tmod y = bitV .and .i64 (IntKind.i64.wrap (x - IntKind.i64.wrap (IntKind.i64.wrap (x.tdiv y) * y))) 255 := by
  rw [← rem_quo x y (by omega) (by omega), and255]
  have := tmod_small x y h k
  omega
theorem L_and255 (z : Int) : bitV .and .i64 z 255 = bitV .and .i64 (bitV .and .i64 z 255) 255 := by
  rw [and255, and255]; omega
end Go.Ev.Num
end
section
set_option linter.unusedVariables false
set_option linter.unusedSimpArgs false
namespace Go.Proofs.YtcfneeeieofkeaaGreatDoor
open Go.Ev Go.RowKit
set_option maxRecDepth 100000
theorem wrap1 (v : Int) (w : World) : Calls Tryz.prog 15 #[.int .i64 1, .int .i64 v] w fun e w' => e = .returned (.int .i64 v) ∧ w = w' := by
  go_enter Tryz.func15, Tryz.ntmps15
  go_wp2
  go_ret
  exact ⟨rfl, rfl⟩
theorem wrap2 (v : Int) (w : World) : Calls Tryz.prog 15 #[.int .i64 2, .int .i64 v] w fun e w' => e = .returned (.int .i64 (bitV .and .i64 v 255)) ∧ w = w' := by
  go_enter Tryz.func15, Tryz.ntmps15
  go_wp2
  go_ret
  exact ⟨rfl, rfl⟩
theorem mul_step (a : Int) (k : Nat) : IntKind.i64.wrap (IntKind.i64.wrap (a * 2 ^ k) * 2) = IntKind.i64.wrap (a * 2 ^ (k + 1)) := by
  obtain ⟨m, hm⟩ := Num.wrap_mod (a * 2 ^ k)
  have : IntKind.i64.wrap (a * 2 ^ k) * 2 = a * 2 ^ (k + 1) + (m * 2) * 18446744073709551616 := by rw [hm, Int.pow_succ, ← Int.mul_assoc]; omega
  rw [this, Num.wrap_add_mul]
theorem div_step (a : Int) (k : Nat) : a / 2 ^ k / 2 = a / 2 ^ (k + 1) := by
  rw [Int.ediv_ediv_of_nonneg (by exact Int.pow_nonneg (by decide)), Int.pow_succ]
theorem div_rng (a : Int) (k : Nat) (h : -9223372036854775808 ≤ a) (k2 : a ≤ 9223372036854775807) : -9223372036854775808 ≤ a / 2 ^ k ∧ a / 2 ^ k ≤ 9223372036854775807 := by
  have h1 : (0 : Int) < 2 ^ k := Int.pow_pos (by decide)
  constructor
  · apply Int.le_ediv_of_mul_le h1
    generalize (2 : Int) ^ k = p at *
    omega
  · by_cases h0 : 0 ≤ a
    · have := Int.ediv_le_self (2 ^ k) h0; omega
    · have : a / 2 ^ k < 0 := Int.ediv_neg_of_neg_of_pos (by omega) h1
      omega
theorem shl_loop (kind a b : Int) (ha : -9223372036854775808 ≤ a) (ha2 : a ≤ 9223372036854775807) (hb : 0 ≤ b) (hb2 : b < 64) (r : Int) (w : World)
    (W : Hid (Calls Tryz.prog 15 #[.int .i64 kind, .int .i64 (IntKind.i64.wrap (a * 2 ^ b.toNat))] w fun e w' => e = .returned (.int .i64 r) ∧ w = w')) :
    Calls Tryz.prog 18 #[.int .i64 6, .int .i64 kind, .int .i64 a, .int .i64 b] w fun e w' => e = .returned (.int .i64 r) ∧ w = w' := by
  have h0 := Num.wrap_in ha ha2
  go_enter Tryz.func18, Tryz.ntmps18
  go_wp2
  go_loop [2, 9] (fun x i => ∃ k : Nat, (k : Int) ≤ b ∧ i = .int .i64 k ∧ x = .int .i64 (IntKind.i64.wrap (a * 2 ^ k))) (fun _ i => (b - intOf i).toNat)
  case atStart => exact ⟨0, hb, rfl, by rw [Int.pow_zero, Int.mul_one, h0]⟩
  case round =>
    clear h0
    obtain ⟨k, hk, rfl, rfl⟩ := hrel
    have hs := Lib.hid (mul_step a k)
    by_cases hlt : (k : Int) < b
    · clear W
      generalize IntKind.i64.wrap (a * 2 ^ k) = x at *
      go_wp2
      go_round
      case rel => exact ⟨k + 1, by omega, by go_num, by rw [← hs.out, IntWalk.i64_left]⟩
      case measure => simp [intOf]; omega
    · have e : b.toNat = k := by omega
      rw [e] at W
      clear e
      generalize IntKind.i64.wrap (a * 2 ^ k) = x at *
      go_wp2_with fail
      refine W.out.mono ?_
      rintro e w' ⟨rfl, rfl⟩
      go_wp2
      go_ret
      exact ⟨rfl, rfl⟩
theorem low_half (x : Int) (h : -9223372036854775808 ≤ x) (k : x < 0) : wrap64 (wrap64 (-wrap64 (-(x + 1).tdiv 2)) - 1) = x / 2 := by
  have t : (-(x + 1)).tdiv 2 = (-(x + 1)) / 2 := Int.tdiv_eq_ediv_of_nonneg (by omega)
  rw [Int.neg_tdiv] at t
  rw [t, IntWalk.wrap64_in (-(x + 1) / 2) (by omega), IntWalk.wrap64_in (-(-(x + 1) / 2)) (by omega), IntWalk.wrap64_in _ (by omega)]
  omega
theorem shr_loop (kind a b : Int) (ha : -9223372036854775808 ≤ a) (ha2 : a ≤ 9223372036854775807) (hb : 0 ≤ b) (hb2 : b < 64) (r : Int) (w : World)
    (W : Hid (Calls Tryz.prog 15 #[.int .i64 kind, .int .i64 (a / 2 ^ b.toNat)] w fun e w' => e = .returned (.int .i64 r) ∧ w = w')) :
    Calls Tryz.prog 18 #[.int .i64 7, .int .i64 kind, .int .i64 a, .int .i64 b] w fun e w' => e = .returned (.int .i64 r) ∧ w = w' := by
  have hr := Lib.hid (fun k => div_rng a k ha ha2)
  have hq := Lib.hid (div_step a)
  clear ha ha2
  go_enter Tryz.func18, Tryz.ntmps18
  go_wp2
  go_loop [2, 9] (fun x i => ∃ k : Nat, (k : Int) ≤ b ∧ i = .int .i64 k ∧ x = .int .i64 (a / 2 ^ k)) (fun _ i => (b - intOf i).toNat)
  case atStart => exact ⟨0, hb, rfl, by rw [Int.pow_zero, Int.ediv_one]⟩
  case round =>
    obtain ⟨k, hk, rfl, rfl⟩ := hrel
    have hs := Lib.hid (hq.out k)
    obtain ⟨h1, h2⟩ := hr.out k
    by_cases hlt : (k : Int) < b
    · clear W
      generalize a / 2 ^ k = x at *
      by_cases hx : x < 0
      · have e1 := Lib.hid (low_half x h1 hx)
        go_wp2
        go_round
        case rel => exact ⟨k + 1, by omega, by go_num, by rw [← hs.out, ← e1.out]⟩
        case measure => simp [intOf]; omega
      · go_wp2
        go_round
        case rel => exact ⟨k + 1, by omega, by go_num, by rw [← hs.out]⟩
        case measure => simp [intOf]; omega
    · have e : b.toNat = k := by omega
      rw [e] at W
      clear e
      generalize a / 2 ^ k = x at *
      go_wp2_with fail
      refine W.out.mono ?_
      rintro e w' ⟨rfl, rfl⟩
      go_wp2
      go_ret
      exact ⟨rfl, rfl⟩
theorem min_small {b : Int} (hb : 0 ≤ b) (hb2 : b < 64) : min b.toNat IntKind.i64.bits = b.toNat := by
  have : IntKind.i64.bits = 64 := rfl
  omega
/-- what a shift returns -/
def shlV (a b : Int) : Int := IntKind.i64.wrap (a * 2 ^ (min b.toNat IntKind.i64.bits))
def shrV (a b : Int) : Int := a.fdiv (2 ^ (min b.toNat IntKind.i64.bits))
theorem shl1 (a b : Int) (ha : -9223372036854775808 ≤ a) (ha2 : a ≤ 9223372036854775807) (hb : 0 ≤ b) (hb2 : b < 64) (w : World) : Calls Tryz.prog 18 #[.int .i64 6, .int .i64 1, .int .i64 a, .int .i64 b] w fun e w' => e = .returned (.int .i64 (shlV a b)) ∧ w = w' := by
  refine shl_loop 1 a b ha ha2 hb hb2 _ w ?_
  unfold shlV
  rw [min_small hb hb2]
  exact wrap1 _ w
theorem shl2 (a b : Int) (ha : -9223372036854775808 ≤ a) (ha2 : a ≤ 9223372036854775807) (hb : 0 ≤ b) (hb2 : b < 64) (w : World) : Calls Tryz.prog 18 #[.int .i64 6, .int .i64 2, .int .i64 a, .int .i64 b] w fun e w' => e = .returned (.int .i64 (bitV .and .i64 (shlV a b) 255)) ∧ w = w' := by
  refine shl_loop 2 a b ha ha2 hb hb2 _ w ?_
  unfold shlV
  rw [min_small hb hb2]
  exact wrap2 _ w
theorem fdiv_pow (a : Int) (k : Nat) : a.fdiv (2 ^ k) = a / 2 ^ k := Int.fdiv_eq_ediv_of_nonneg a (Int.pow_nonneg (by decide))
theorem shr1 (a b : Int) (ha : -9223372036854775808 ≤ a) (ha2 : a ≤ 9223372036854775807) (hb : 0 ≤ b) (hb2 : b < 64) (w : World) : Calls Tryz.prog 18 #[.int .i64 7, .int .i64 1, .int .i64 a, .int .i64 b] w fun e w' => e = .returned (.int .i64 (shrV a b)) ∧ w = w' := by
  refine shr_loop 1 a b ha ha2 hb hb2 _ w ?_
  unfold shrV
  rw [min_small hb hb2, fdiv_pow]
  exact wrap1 _ w
theorem shr2 (a b : Int) (ha : -9223372036854775808 ≤ a) (ha2 : a ≤ 9223372036854775807) (hb : 0 ≤ b) (hb2 : b < 64) (w : World) : Calls Tryz.prog 18 #[.int .i64 7, .int .i64 2, .int .i64 a, .int .i64 b] w fun e w' => e = .returned (.int .i64 (bitV .and .i64 (shrV a b) 255)) ∧ w = w' := by
  refine shr_loop 2 a b ha ha2 hb hb2 _ w ?_
  unfold shrV
  rw [min_small hb hb2, fdiv_pow]
  exact wrap2 _ w
end Go.Proofs.YtcfneeeieofkeaaGreatDoor
end
