/- RangesI, RngV, RngW, RngB. -/
import Derived.Test.YtgkhldbnljdeiaaQLawOpsToRangesE
import Derived.Shelf.Spec.BitsCarry
import Derived.Shelf.Bits.Mul64
import Derived.RegionTactic
import Derived.BigRegion
import Derived.Deep.CutBlock
import Derived.Deep.DeepCutAuto
import Derived.Test.YtgkhldbnljdeiaaQRefLToRangesB
set_option maxRecDepth 100000
set_option maxHeartbeats 2000000
set_option linter.unusedSimpArgs false
set_option linter.unusedVariables false
namespace Go.Proofs.Ytgkhldbnljdeiaa
namespace RangesMath
open Go.RowKit
theorem mul_bound (a b : Int) (h1 : -9223372036854775808 ≤ a) (h2 : a ≤ 9223372036854775807) (h3 : -9223372036854775808 ≤ b) (h4 : b ≤ 9223372036854775807) :
   -85070591730234615865843651857942052864 ≤ a * b ∧ a * b ≤ 85070591730234615865843651857942052864 := by
 have e : (a * b).natAbs = a.natAbs * b.natAbs := Int.natAbs_mul a b
 have l : a.natAbs * b.natAbs ≤ 9223372036854775808 * 9223372036854775808 := Nat.mul_le_mul (by omega) (by omega)
 rw [← e] at l
 omega
theorem mul_words (a b : Int) (h1 : -9223372036854775808 ≤ a) (h2 : a ≤ 9223372036854775807) (h3 : -9223372036854775808 ≤ b) (h4 : b ≤ 9223372036854775807) :
   (a % 18446744073709551616) * (b % 18446744073709551616) % 18446744073709551616 = a * b % 18446744073709551616 ∧
   wrap64 (wrap64 (wrap64 ((a % 18446744073709551616) * (b % 18446744073709551616) / 18446744073709551616) - (if a < 0 then b else 0)) - (if b < 0 then a else 0)) = a * b / 18446744073709551616 := by
 obtain ⟨b1, b2⟩ := mul_bound a b h1 h2 h3 h4
 have key : ∀ x y : Int, (x = a ∨ x = a + 18446744073709551616) → (y = b ∨ y = b + 18446744073709551616) → x * y = a * b + (if x = a then 0 else 18446744073709551616 * b) + (if y = b then 0 else 18446744073709551616 * a) + (if x = a then 0 else if y = b then 0 else 340282366920938463463374607431768211456) := by
   rintro x y (rfl | rfl) (rfl | rfl)
   · simp
   · have n : ¬ b + 18446744073709551616 = b := by omega
     simp only [if_true, if_neg n, Int.mul_add]; omega
   · have n : ¬ a + 18446744073709551616 = a := by omega
     simp only [if_true, if_neg n, Int.add_mul]; omega
   · have n : ¬ b + 18446744073709551616 = b := by omega
     have m : ¬ a + 18446744073709551616 = a := by omega
     simp only [if_neg n, if_neg m, Int.add_mul, Int.mul_add]; omega
 generalize hP : a * b = P at *
 unfold wrap64
 by_cases ha : a < 0 <;> by_cases hb : b < 0
 · have ea : a % 18446744073709551616 = a + 18446744073709551616 := by omega
   have eb : b % 18446744073709551616 = b + 18446744073709551616 := by omega
   have e := key _ _ (.inr ea) (.inr eb)
   have n1 : ¬ a % 18446744073709551616 = a := by omega
   have n2 : ¬ b % 18446744073709551616 = b := by omega
   rw [if_neg n1, if_neg n2, if_neg n1, if_neg n2] at e
   rw [e, if_pos ha, if_pos hb]
   clear e hP key
   omega
 · have ea : a % 18446744073709551616 = a + 18446744073709551616 := by omega
   have eb : b % 18446744073709551616 = b := by omega
   have e := key _ _ (.inr ea) (.inl eb)
   have n1 : ¬ a % 18446744073709551616 = a := by omega
   rw [if_neg n1, if_pos eb, if_neg n1, if_pos eb] at e
   rw [e, if_pos ha, if_neg hb]
   clear e hP key
   omega
 · have ea : a % 18446744073709551616 = a := by omega
   have eb : b % 18446744073709551616 = b + 18446744073709551616 := by omega
   have e := key _ _ (.inl ea) (.inr eb)
   have n2 : ¬ b % 18446744073709551616 = b := by omega
   rw [if_pos ea, if_neg n2, if_pos ea] at e
   rw [e, if_neg ha, if_pos hb]
   clear e hP key
   omega
 · have ea : a % 18446744073709551616 = a := by omega
   have eb : b % 18446744073709551616 = b := by omega
   have e := key _ _ (.inl ea) (.inl eb)
   rw [if_pos ea, if_pos eb, if_pos ea] at e
   rw [e, if_neg ha, if_neg hb]
   clear e hP key
   omega
end RangesMath
end Go.Proofs.Ytgkhldbnljdeiaa
namespace Go.Proofs.Ytgkhldbnljdeiaa
open Go.RowKit
attribute [local go_sem] World.setCell_self
/-- A number, as the program's struct of two words. -/
def numV (v : Int) : Value := .agg #[.int .i64 (v / 18446744073709551616), .int .u64 (v % 18446744073709551616)]
theorem numV_mk {v p q : Int} (h1 : p = v / 18446744073709551616) (h2 : q = v % 18446744073709551616) : Value.agg #[.int .i64 p, .int .u64 q] = numV v := by rw [h1, h2]; rfl
theorem add64 (x y : Int) (hx : 0 ≤ x) (hy : 0 ≤ y) (w : World) : (callFunc 118 #[.int .u64 x, .int .u64 y, .int .u64 0]).run Try.prog w =
   .ok (.value (.tuple #[.int .u64 ((x + y) % 18446744073709551616), .int .u64 ((x + y) / 18446744073709551616)])) w := by
 rw [run_callFunc_extern Try.func118 (by kernel_rfl) (by kernel_rfl) (by kernel_rfl) (e := add64Entry) (by kernel_rfl), run_add64 x y 0 hx hy (Int.le_refl 0) (by decide) w, Int.add_zero]
 rfl
/-- The borrow. -/
def bor (x y : Int) : Int := if x < y then 1 else 0
theorem sub64 (x y : Int) (hx : 0 ≤ x) (hy : 0 ≤ y) (hy' : y < 18446744073709551616) (w : World) : (callFunc 79 #[.int .u64 x, .int .u64 y, .int .u64 0]).run Try.prog w =
   .ok (.value (.tuple #[.int .u64 ((x - y) % 18446744073709551616), .int .u64 (bor x y)])) w := by
 obtain ⟨x, rfl⟩ := Int.eq_ofNat_of_zero_le hx
 obtain ⟨y, rfl⟩ := Int.eq_ofNat_of_zero_le hy
 have e1 : (((x + 18446744073709551616 - y - 0) % 18446744073709551616 : Nat) : Int) = ((x : Int) - y) % 18446744073709551616 := by omega
 have e2 : ((if x < y + 0 then 1 else 0 : Nat) : Int) = bor x y := by unfold bor; split <;> split <;> omega
 rw [← e1, ← e2]
 rw [run_callFunc_extern Try.func79 (by kernel_rfl) (by kernel_rfl) (by kernel_rfl) (e := sub64Entry) (by kernel_rfl)]
 have e := run_sub64 (P := Try.prog) x y 0 (by omega) w
 exact (congrArg (fun r : Result Value => r.andThen fun v w' => Result.ok (Next.value v) w') e)
theorem and_m1 (b : Int) (h1 : -9223372036854775808 ≤ b) (h2 : b ≤ 9223372036854775807) : bits .and .i64 (-1) b = b := by
 show IntKind.i64.wrap ((BitVec.ofInt 64 (-1) &&& BitVec.ofInt 64 b).toNat : Int) = b
 have e : BitVec.ofInt 64 (-1) = BitVec.allOnes 64 := by decide
 rw [e, BitVec.allOnes_and, BitVec.toNat_ofInt, IntKind.wrap_i64]
 omega
theorem and_z (b : Int) : bits .and .i64 0 b = 0 := by
 show IntKind.i64.wrap ((BitVec.ofInt 64 0 &&& BitVec.ofInt 64 b).toNat : Int) = 0
 have e : BitVec.ofInt 64 0 = 0#64 := by decide
 rw [e, BitVec.zero_and, IntKind.wrap_i64, show (0#64).toNat = 0 from rfl]
 omega
theorem word_parts (a : Int) (h1 : -9223372036854775808 ≤ a) (h2 : a ≤ 9223372036854775807) : (a < 0 ∧ a / 9223372036854775808 = -1 ∧ a % 18446744073709551616 = a + 18446744073709551616) ∨ (0 ≤ a ∧ a / 9223372036854775808 = 0 ∧ a % 18446744073709551616 = a) := by omega
theorem and_sign (a b : Int) (h1 : -9223372036854775808 ≤ a) (h2 : a ≤ 9223372036854775807) (h3 : -9223372036854775808 ≤ b) (h4 : b ≤ 9223372036854775807) : bits .and .i64 (a / 9223372036854775808) b = if a < 0 then b else 0 := by
 by_cases h : a < 0
 · rw [if_pos h, show a / 9223372036854775808 = -1 by omega, and_m1 b h3 h4]
 · rw [if_neg h, show a / 9223372036854775808 = 0 by omega, and_z]
theorem pnumber_of (v : Int) (w : World) (h1 : -9223372036854775808 ≤ v) (h2 : v ≤ 9223372036854775807) :
   Calls Try.prog 43 #[.int .i64 v] w fun e w' => e = .returned (numV v) ∧ Below w.heap.size w w' := by
 go_enter Try.func43, Try.ntmps43
 go_wp2
 refine bodyPost_ret (v := .agg #[.int .i64 (v / 9223372036854775808), .int .u64 (IntKind.u64.wrap v)]) (by simp [results, Try.results43, go_sem]) rfl ⟨congrArg Ending.returned (numV_mk (by omega) (IntKind.wrap_u64 v)), ?_⟩
 exact (Below.refl _ _).alloc (Nat.le_refl _) _
theorem psum (a b : Int) (w : World) (h1 : -9223372036854775808 ≤ a) (h2 : a ≤ 9223372036854775807) (h3 : -9223372036854775808 ≤ b) (h4 : b ≤ 9223372036854775807) :
   Calls Try.prog 99 #[.int .i64 a, .int .i64 b] w fun e w' => e = .returned (numV (a + b)) ∧ Below w.heap.size w w' := by
 have A := add64
 go_enter Try.func99, Try.ntmps99
 go_wp2
 clear A
 refine bodyPost_ret (v := .agg #[.int .i64 (wrap64 (a / 9223372036854775808 + b / 9223372036854775808 + wrap64 ((IntKind.u64.wrap a + IntKind.u64.wrap b) / 18446744073709551616))), .int .u64 ((IntKind.u64.wrap a + IntKind.u64.wrap b) % 18446744073709551616)]) (by simp [results, Try.results99, go_sem]) rfl ⟨congrArg Ending.returned (numV_mk ?_ ?_), ?_⟩
 · rw [IntKind.wrap_u64, IntKind.wrap_u64]; unfold wrap64
   rcases word_parts a h1 h2 with ⟨a1, a2, a3⟩ | ⟨a1, a2, a3⟩ <;> rcases word_parts b h3 h4 with ⟨b1, b2, b3⟩ | ⟨b1, b2, b3⟩ <;> rw [a2, b2, a3, b3] <;> clear a2 b2 a3 b3 <;> omega
 · rw [IntKind.wrap_u64, IntKind.wrap_u64]; omega
 · exact (Below.refl _ _).alloc (Nat.le_refl _) _
theorem pdifference (a b : Int) (w : World) (h1 : -9223372036854775808 ≤ a) (h2 : a ≤ 9223372036854775807) (h3 : -9223372036854775808 ≤ b) (h4 : b ≤ 9223372036854775807) :
   Calls Try.prog 52 #[.int .i64 a, .int .i64 b] w fun e w' => e = .returned (numV (a - b)) ∧ Below w.heap.size w w' := by
 have A := fun (x y : Int) (hx : 0 ≤ x) (hy : 0 ≤ y) (w : World) (h : y < 18446744073709551616) => sub64 x y hx hy h w
 have u1 : IntKind.u64.wrap b < 18446744073709551616 := by rw [IntKind.wrap_u64]; omega
 go_enter Try.func52, Try.ntmps52
 go_wp2
 clear A
 refine bodyPost_ret (v := .agg #[.int .i64 (wrap64 (a / 9223372036854775808 - b / 9223372036854775808 - wrap64 (bor (IntKind.u64.wrap a) (IntKind.u64.wrap b)))), .int .u64 ((IntKind.u64.wrap a - IntKind.u64.wrap b) % 18446744073709551616)]) (by simp [results, Try.results52, go_sem]) rfl ⟨congrArg Ending.returned (numV_mk ?_ ?_), ?_⟩
 · clear u1
   rw [IntKind.wrap_u64, IntKind.wrap_u64]; unfold wrap64 bor
   rcases word_parts a h1 h2 with ⟨a1, a2, a3⟩ | ⟨a1, a2, a3⟩ <;> rcases word_parts b h3 h4 with ⟨b1, b2, b3⟩ | ⟨b1, b2, b3⟩ <;> rw [a2, b2, a3, b3] <;> clear a2 b2 a3 b3 <;> split <;> omega
 · clear u1
   rw [IntKind.wrap_u64, IntKind.wrap_u64]; omega
 · exact (Below.refl _ _).alloc (Nat.le_refl _) _
end Go.Proofs.Ytgkhldbnljdeiaa
namespace Go.Proofs.Ytgkhldbnljdeiaa
open Go.RowKit
attribute [local go_sem] World.setCell_self
theorem mul64_nat (x y : Nat) (hx : x < 18446744073709551616) (hy : y < 18446744073709551616) (w : World) :
   Calls Try.prog 114 #[.int .u64 x, .int .u64 y] w fun e w' => e = .returned (.tuple #[.int .u64 ((x * y / 18446744073709551616 : Nat) : Int), .int .u64 ((x * y % 18446744073709551616 : Nat) : Int)]) ∧ w = w' := by
 obtain ⟨bd, bt, bw, hhi⟩ := Lib.mul64_hi x y hx hy
 have ba := Lib.half_mul_le (a := x / 4294967296) (b := y / 4294967296) (by omega) (by omega)
 have bb := Lib.half_mul_le (a := x / 4294967296) (b := y % 4294967296) (by omega) (by omega)
 have bc := Lib.half_mul_le (a := x % 4294967296) (b := y / 4294967296) (by omega) (by omega)
 have ba' : x / 4294967296 * (y / 4294967296) < 18446744073709551616 := by omega
 have bb' : x / 4294967296 * (y % 4294967296) < 18446744073709551616 := by omega
 have bc' : x % 4294967296 * (y / 4294967296) < 18446744073709551616 := by omega
 have bh1 : x / 4294967296 * (y / 4294967296) + (x / 4294967296 * (y % 4294967296) + x % 4294967296 * (y % 4294967296) / 4294967296) / 4294967296 < 18446744073709551616 := by omega
 have bh : x / 4294967296 * (y / 4294967296) + (x / 4294967296 * (y % 4294967296) + x % 4294967296 * (y % 4294967296) / 4294967296) / 4294967296 + ((x / 4294967296 * (y % 4294967296) + x % 4294967296 * (y % 4294967296) / 4294967296) % 4294967296 + x % 4294967296 * (y / 4294967296)) / 4294967296 < 18446744073709551616 := by omega
 go_enter Try.func114, Try.ntmps114
 go_wp2
 simp only [Mul64.maskN x hx, Mul64.maskN y hy, Mul64.divN, Mul64.mulN, Mul64.addN, Mul64.wrapN _ bd, Mul64.wrapN _ bb', Mul64.wrapN _ bt, Mul64.maskN _ bt, Mul64.wrapN _ bc', Mul64.wrapN _ bw, Mul64.wrapN _ ba', Mul64.wrapN _ bh1, Mul64.wrapN _ bh, Mul64.wrapM (x * y)]
 rw [hhi]
 go_ret2
 exact ⟨rfl, rfl⟩
theorem mul64 (x y : Int) (hx : 0 ≤ x) (hx' : x < 18446744073709551616) (hy : 0 ≤ y) (hy' : y < 18446744073709551616) (w : World) :
   Calls Try.prog 114 #[.int .u64 x, .int .u64 y] w fun e w' => e = .returned (.tuple #[.int .u64 (x * y / 18446744073709551616), .int .u64 (x * y % 18446744073709551616)]) ∧ w = w' := by
 obtain ⟨x, rfl⟩ := Int.eq_ofNat_of_zero_le hx
 obtain ⟨y, rfl⟩ := Int.eq_ofNat_of_zero_le hy
 refine (mul64_nat x y (by omega) (by omega) w).mono ?_
 rintro e w' ⟨rfl, h⟩
 refine ⟨?_, h⟩
 have e1 : ((x * y / 18446744073709551616 : Nat) : Int) = (x : Int) * y / 18446744073709551616 := by rw [Int.natCast_ediv, Int.natCast_mul]; rfl
 have e2 : ((x * y % 18446744073709551616 : Nat) : Int) = (x : Int) * y % 18446744073709551616 := by rw [Int.natCast_emod, Int.natCast_mul]; rfl
 rw [e1, e2]
theorem pproduct (a b : Int) (w : World) (h1 : -9223372036854775808 ≤ a) (h2 : a ≤ 9223372036854775807) (h3 : -9223372036854775808 ≤ b) (h4 : b ≤ 9223372036854775807) :
   Calls Try.prog 91 #[.int .i64 a, .int .i64 b] w fun e w' => e = .returned (numV (a * b)) ∧ Below w.heap.size w w' := by
 obtain ⟨m1, m2⟩ := RangesMath.mul_words a b h1 h2 h3 h4
 have M := fun w => Lib.hid (mul64 (IntKind.u64.wrap a) (IntKind.u64.wrap b) (by rw [IntKind.wrap_u64]; omega) (by rw [IntKind.wrap_u64]; omega) (by rw [IntKind.wrap_u64]; omega) (by rw [IntKind.wrap_u64]; omega) w)
 have ea := Lib.hid (IntKind.wrap_u64 a)
 have eb := Lib.hid (IntKind.wrap_u64 b)
 have s1 := Lib.hid (and_sign a b h1 h2 h3 h4)
 have s2 := Lib.hid (and_sign b a h3 h4 h1 h2)
 have m1 := Lib.hid m1
 have m2 := Lib.hid m2
 generalize hu : IntKind.u64.wrap a * IntKind.u64.wrap b / 18446744073709551616 = hi at *
 generalize hl : IntKind.u64.wrap a * IntKind.u64.wrap b % 18446744073709551616 = lo at *
 have hu := Lib.hid hu
 have hl := Lib.hid hl
 go_enter Try.func91, Try.ntmps91
 go_wp2_with (go_at_call 114; refine (M _).out.mono ?_; rintro e w' ⟨rfl, rfl⟩)
 refine bodyPost_ret (v := .agg #[.int .i64 (wrap64 (wrap64 (wrap64 hi - bits BinOp.and IntKind.i64 (a / 9223372036854775808) b) - bits BinOp.and IntKind.i64 (b / 9223372036854775808) a)), .int .u64 lo]) (by simp [results, Try.results91, go_sem]) rfl ⟨congrArg Ending.returned (numV_mk ?_ ?_), ?_⟩
 · rw [s1.out, s2.out, ← hu.out, ea.out, eb.out]; exact m2.out
 · rw [← hl.out, ea.out, eb.out]; exact m1.out
 · exact (Below.refl _ _).alloc (Nat.le_refl _) _
theorem pquotient (a b n : Int) (w : World) (h1 : -9223372036854775808 ≤ n) (h2 : n ≤ 9223372036854775807) (hb : ¬ b = 0) (hn : a.tdiv b = n) :
   Calls Try.prog 94 #[.int .i64 a, .int .i64 b] w fun e w' => e = .returned (numV n) ∧ Below w.heap.size w w' := by
 have N := fun w => Lib.hid (pnumber_of n w h1 h2)
 have hw : IntKind.i64.wrap (a.tdiv b) = n := by rw [hn, IntKind.wrap_i64]; omega
 unfold numV at *
 generalize n / 18446744073709551616 = p at *
 generalize n % 18446744073709551616 = q at *
 go_enter Try.func94, Try.ntmps94
 go_wp2_with (go_at_call 43; refine (N _).out.mono ?_; rintro e w' ⟨rfl, hB⟩; obtain ⟨hc, hf⟩ := bcell hB; have hz : w.heap.size < w'.heap.size := (by have := hB.size; simp at this; omega))
 refine bodyPost_ret (v := .agg #[.int .i64 p, .int .u64 q]) (by simp [results, Try.results94, go_sem, hc, hz]) rfl ⟨rfl, ?_⟩
 exact ((Below.refl _ _).alloc (Nat.le_refl _) _).trans (hB.mono (by simp)) |>.setCell (by simp) _ |>.setCell (by simp) _
theorem phalved (a k n : Int) (w : World) (h1 : -9223372036854775808 ≤ n) (h2 : n ≤ 9223372036854775807) (hk : 0 ≤ k) (hk' : k ≤ 63) (hn : a / 2 ^ k.toNat = n) :
   Calls Try.prog 105 #[.int .i64 a, .int .i64 k] w fun e w' => e = .returned (numV n) ∧ Below w.heap.size w w' := by
 subst hn
 have N := fun w => Lib.hid (pnumber_of _ w h1 h2)
 unfold numV at *
 generalize hp : a / 2 ^ k.toNat / 18446744073709551616 = p at *
 generalize hq : a / 2 ^ k.toNat % 18446744073709551616 = q at *
 clear hp hq
 have hm : min k.toNat 64 = k.toNat := by omega
 go_enter Try.func105, Try.ntmps105
 go_wp2_with (go_at_call 43; refine (N _).out.mono ?_; rintro e w' ⟨rfl, hB⟩; obtain ⟨hc, hf⟩ := bcell hB; have hz : w.heap.size < w'.heap.size := (by have := hB.size; simp at this; omega))
 refine bodyPost_ret (v := .agg #[.int .i64 p, .int .u64 q]) (by simp [results, Try.results105, go_sem, hc, hz]) rfl ⟨rfl, ?_⟩
 exact ((Below.refl _ _).alloc (Nat.le_refl _) _).trans (hB.mono (by simp)) |>.setCell (by simp) _ |>.setCell (by simp) _
theorem pmultiplied (a k : Int) (w : World) (hk : 0 ≤ k) (hk' : k ≤ 63) :
   Calls Try.prog 103 #[.int .i64 a, .int .i64 k] w fun e w' => e = .returned (numV (a * 2 ^ k.toNat)) ∧ Below w.heap.size w w' := by
 have k1 : 0 ≤ 64 - k := by omega
 go_enter Try.func103, Try.ntmps103
 go_wp2_with fail
 go_region
 go_wp2
 refine bodyPost_ret (v := .agg #[.int .i64 (a / 2 ^ (64 - k).toNat), .int .u64 (IntKind.u64.wrap (IntKind.u64.wrap a * 2 ^ k.toNat))]) (by simp [results, Try.results103, go_sem]) rfl ⟨congrArg Ending.returned (numV_mk ?_ ?_), ?_⟩
 · obtain ⟨n, rfl⟩ := Int.eq_ofNat_of_zero_le hk
   have e1 : (64 - (n : Int)).toNat = 64 - n := by omega
   rw [e1, Int.toNat_natCast]
   have e2 : (18446744073709551616 : Int) = 2 ^ (64 - n) * 2 ^ n := by
     rw [← Int.pow_add, show 64 - n + n = 64 by omega]; rfl
   rw [e2, Int.mul_ediv_mul_of_pos_left _ _ (Int.pow_pos (by decide))]
 · rw [IntKind.wrap_u64, IntKind.wrap_u64, Int.mul_emod, Int.emod_emod_of_dvd _ (Int.dvd_refl _), ← Int.mul_emod]
 · exact ((Below.refl _ _).alloc (Nat.le_refl _) _).drew
end Go.Proofs.Ytgkhldbnljdeiaa
namespace Go.Proofs.Ytgkhldbnljdeiaa
open Go.RowKit
attribute [local go_sem] World.setCell_self
theorem pcommon_yes (a b c d : Int) (w : World) (hm : max a c ≤ min b d) :
   Calls Try.prog 32 #[.agg #[.int .i64 a, .int .i64 b], .agg #[.int .i64 c, .int .i64 d]] w fun e w' => e = .returned (.tuple #[.agg #[.int .i64 (max a c), .int .i64 (min b d)], .bool true]) ∧ Below w.heap.size w w' := by
 have m1 : a ≤ b := by omega
 have m2 : a ≤ d := by omega
 have m3 : c ≤ b := by omega
 have m4 : c ≤ d := by omega
 clear hm
 go_enter Try.func32, Try.ntmps32
 go_wp2
 all_goals
   refine bodyPost_ret (v := .tuple #[.agg #[.int .i64 (max a c), .int .i64 (min b d)], .bool true]) (by simp [results, Try.results32, go_sem]; omega) rfl ⟨rfl, ?_⟩
   exact ((((Below.refl _ _).alloc (Nat.le_refl _) _).alloc (by simp) _).alloc (by simp; omega) _).alloc (by simp; omega) _
theorem pcommon_no (a b c d : Int) (w : World) (hm : min b d < max a c) :
   Calls Try.prog 32 #[.agg #[.int .i64 a, .int .i64 b], .agg #[.int .i64 c, .int .i64 d]] w fun e w' => e = .returned (.tuple #[.agg #[.int .i64 0, .int .i64 0], .bool false]) ∧ Below w.heap.size w w' := by
 go_enter Try.func32, Try.ntmps32
 go_wp2
 all_goals first
   | (exfalso; omega)
   | (refine bodyPost_ret (v := .tuple #[.agg #[.int .i64 0, .int .i64 0], .bool false]) (by simp [results, Try.results32, go_sem]) rfl ⟨rfl, ?_⟩
      exact ((((Below.refl _ _).alloc (Nat.le_refl _) _).alloc (by simp) _).alloc (by simp; omega) _).alloc (by simp; omega) _)
/-- What two ranges have in common, and whether there is something. -/
def comS (a b c d : Int) : Int × Int × Bool := if max a c ≤ min b d then (max a c, min b d, true) else (0, 0, false)
theorem pcommon_any (a b c d : Int) (w : World) :
   Calls Try.prog 32 #[.agg #[.int .i64 a, .int .i64 b], .agg #[.int .i64 c, .int .i64 d]] w fun e w' => e = .returned (.tuple #[.agg #[.int .i64 (comS a b c d).1, .int .i64 (comS a b c d).2.1], .bool (comS a b c d).2.2]) ∧ Below w.heap.size w w' := by
 unfold comS
 by_cases h : max a c ≤ min b d
 · rw [if_pos h]; exact pcommon_yes a b c d w h
 · rw [if_neg h]; exact pcommon_no a b c d w (by omega)
/-- The cells of a slice of n ranges. -/
structure Cell2 (w : World) (g : Nat) (i : Nat) (a b : Int) : Prop where
 lo : w.cell? ⟨g, i, none⟩ = some (.int .i64 a)
 hi : w.cell? ⟨g, i + 1, none⟩ = some (.int .i64 b)
theorem Cell2.later {w wx : World} {g i : Nat} {a b : Int} {B : Nat} (h : Cell2 w g i a b) (hg : g < B) (hb : Below B w wx) : Cell2 wx g i a b :=
 ⟨by rw [hb.cell (p := ⟨g, i, none⟩) hg]; exact h.lo, by rw [hb.cell (p := ⟨g, i + 1, none⟩) hg]; exact h.hi⟩
theorem pare1 (k a b E : Int) (g cap : Nat) (w : World) (hg : g < w.heap.size) (hcap : 1 ≤ cap) (hE : ∀ w, Hid (Calls Try.prog 13 #[.int .i64 k, .agg #[.int .i64 a, .int .i64 b]] w fun e w' => e = .returned (.int .i64 E) ∧ Below w.heap.size w w'))
   (q : Bool) (hq : (E != 0) = !q) (H : Hid (Cell2 w g 0 a b)) :
   Calls Try.prog 31 #[.int .i64 k, .slice (some ⟨g, 0, none⟩) 1 cap] w fun e w' => e = .returned (.bool q) ∧ Below w.heap.size w w' := by
 go_enter Try.func31, Try.ntmps31
 go_wp2_with fail
 go_loopw [9] (fun i wr => (i = .int .i64 0 ∧ Below w.heap.size w wr) ∨ (i = .int .i64 1 ∧ q = true ∧ Below w.heap.size w wr)) (fun i _ => (1 - intOf i).toNat)
 case atStart => exact .inl ⟨rfl, Below.refl _ _⟩
 case round =>
   rcases hrel with ⟨rfl, hb⟩ | ⟨rfl, rfl, hb⟩
   · obtain ⟨c0, c1⟩ := H.out.later hg hb
     simp only [Nat.zero_add] at c1
     have hz := hb.size
     cases q with
     | true =>
       have hq' : (E != 0) = false := hq
       clear hq H
       go_wp2_with (go_at_call 13; refine (hE _).out.mono ?_; rintro e w' ⟨rfl, hb'⟩)
       go_roundw
       case rel => exact .inr ⟨rfl, trivial, (hb.alloc hz _).trans (hb'.mono (by simp; omega))⟩
       case measure => simp [intOf]
     | false =>
       have hq' : (E != 0) = true := hq
       clear hq H
       go_wp2_with (go_at_call 13; refine (hE _).out.mono ?_; rintro e w' ⟨rfl, hb'⟩)
       go_ret
       exact ⟨rfl, (hb.alloc hz _).trans (hb'.mono (by simp; omega))⟩
   · go_wp2
     go_ret
     exact ⟨rfl, hb⟩
theorem pare2 (k a b c d E F : Int) (g cap : Nat) (w : World) (hg : g < w.heap.size) (hcap : 2 ≤ cap) (hE : ∀ w, Hid (Calls Try.prog 13 #[.int .i64 k, .agg #[.int .i64 a, .int .i64 b]] w fun e w' => e = .returned (.int .i64 E) ∧ Below w.heap.size w w'))
   (hF : ∀ w, Hid (Calls Try.prog 13 #[.int .i64 k, .agg #[.int .i64 c, .int .i64 d]] w fun e w' => e = .returned (.int .i64 F) ∧ Below w.heap.size w w'))
   (q r : Bool) (hq : (E != 0) = !q) (hr : (F != 0) = !r) (H : Hid (Cell2 w g 0 a b)) (H2 : Hid (Cell2 w g 2 c d)) :
   Calls Try.prog 31 #[.int .i64 k, .slice (some ⟨g, 0, none⟩) 2 cap] w fun e w' => e = .returned (.bool (q && r)) ∧ Below w.heap.size w w' := by
 have HR := Lib.hid hr
 clear hr
 go_enter Try.func31, Try.ntmps31
 go_wp2_with fail
 go_loopw [9] (fun i wr => (i = .int .i64 0 ∧ Below w.heap.size w wr) ∨ (i = .int .i64 1 ∧ q = true ∧ Below w.heap.size w wr) ∨ (i = .int .i64 2 ∧ q = true ∧ r = true ∧ Below w.heap.size w wr)) (fun i _ => (2 - intOf i).toNat)
 case atStart => exact .inl ⟨rfl, Below.refl _ _⟩
 case round =>
   rcases hrel with ⟨rfl, hb⟩ | ⟨rfl, rfl, hb⟩ | ⟨rfl, rfl, rfl, hb⟩
   · obtain ⟨c0, c1⟩ := H.out.later hg hb
     simp only [Nat.zero_add] at c1
     have hz := hb.size
     cases q with
     | true =>
       have hq' : (E != 0) = false := hq
       clear hq H H2
       go_wp2_with (go_at_call 13; refine (hE _).out.mono ?_; rintro e w' ⟨rfl, hb'⟩)
       go_roundw
       case rel => exact .inr (.inl ⟨rfl, trivial, (hb.alloc hz _).trans (hb'.mono (by simp; omega))⟩)
       case measure => simp [intOf]
     | false =>
       have hq' : (E != 0) = true := hq
       clear hq H H2
       go_wp2_with (go_at_call 13; refine (hE _).out.mono ?_; rintro e w' ⟨rfl, hb'⟩)
       go_ret
       exact ⟨rfl, (hb.alloc hz _).trans (hb'.mono (by simp; omega))⟩
   · obtain ⟨c0, c1⟩ := H2.out.later hg hb
     have hz := hb.size
     cases r with
     | true =>
       have hq' : (F != 0) = false := HR.out
       clear hq H H2 HR
       go_wp2_with (go_at_call 13; refine (hF _).out.mono ?_; rintro e w' ⟨rfl, hb'⟩)
       go_roundw
       case rel => exact .inr (.inr ⟨rfl, trivial, trivial, (hb.alloc hz _).trans (hb'.mono (by simp; omega))⟩)
       case measure => simp [intOf]
     | false =>
       have hq' : (F != 0) = true := HR.out
       clear hq H H2 HR
       go_wp2_with (go_at_call 13; refine (hF _).out.mono ?_; rintro e w' ⟨rfl, hb'⟩)
       go_ret
       exact ⟨rfl, (hb.alloc hz _).trans (hb'.mono (by simp; omega))⟩
   · go_wp2
     go_ret
     exact ⟨rfl, hb⟩
end Go.Proofs.Ytgkhldbnljdeiaa
