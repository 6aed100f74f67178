/- RefL, RefM, RefU, RangesB. -/
import Derived.IntWalk
import Derived.Deep.QuietTactic
import Derived.BigQuiet
import Derived.Test.YtgkhldbnljdeiaaQRefC
import Derived.LoopTactic
import Derived.Laws.BitsAllLaws
import Derived.Laws.BitsLemmas
set_option maxHeartbeats 2000000
set_option linter.unusedSimpArgs false
set_option linter.unusedVariables false
namespace Go.Proofs.Ytgkhldbnljdeiaa
open Go.RowKit
/-- A number that is not of 64 bits. -/
def out64 (n : Int) : Bool := decide (n < -9223372036854775808 ∨ 9223372036854775807 < n)
structure In64 (a : Int) : Prop where
 lo : -9223372036854775808 ≤ a
 hi : a ≤ 9223372036854775807
theorem sign3 (a : Int) : 0 < a ∨ (decide (0 < a) = false ∧ decide (a < 0) = false) ∨ a < 0 := by simp; omega
theorem sign2 (a : Int) : a < 0 ∨ 0 ≤ a := by omega
theorem out_sum (a b : Int) (r : Bool) (ha : In64 a) (hb : In64 b) (h : r = true ↔ (0 < a ∧ 0 < b ∧ wrap64 (a + b) < 0 ∨ a < 0 ∧ b < 0 ∧ 0 ≤ wrap64 (a + b))) : r = out64 (a + b) := by
 rw [Bool.eq_iff_iff, h, out64, decide_eq_true_eq]
 unfold wrap64
 have := ha.lo; have := ha.hi; have := hb.lo; have := hb.hi
 omega
theorem out_diff (a b : Int) (r : Bool) (ha : In64 a) (hb : In64 b) (h : r = true ↔ (0 ≤ a ∧ b < 0 ∧ wrap64 (a - b) < 0 ∨ a < 0 ∧ 0 < b ∧ 0 ≤ wrap64 (a - b))) : r = out64 (a - b) := by
 rw [Bool.eq_iff_iff, h, out64, decide_eq_true_eq]
 unfold wrap64
 have := ha.lo; have := ha.hi; have := hb.lo; have := hb.hi
 omega
def OverPost (n : Int) (P : Prop) (w : World) (e : Ending) (w' : World) : Prop := (∃ r : Bool, e = .returned (.tuple #[.int .i64 n, .bool r]) ∧ (r = true ↔ P)) ∧ w = w'
theorem sum_walk (a b : Int) (w : World) :
   Calls Try.prog 53 #[.int .i64 a, .int .i64 b] w (OverPost (wrap64 (a + b)) (0 < a ∧ 0 < b ∧ wrap64 (a + b) < 0 ∨ a < 0 ∧ b < 0 ∧ 0 ≤ wrap64 (a + b)) w) := by
 rcases sign3 a with h1 | ⟨h1, h1'⟩ | h1 <;> rcases sign3 b with h2 | ⟨h2, h2'⟩ | h2
 all_goals
   go_enter Try.func53, Try.ntmps53
   go_wp2
   all_goals
     go_ret2
     refine ⟨⟨_, rfl, ?_⟩, rfl⟩
     first | (simp; done) | (simp; omega) | (simp at *; omega)
theorem sum_any (a b : Int) (w : World) (ha : In64 a) (hb : In64 b) :
   Calls Try.prog 53 #[.int .i64 a, .int .i64 b] w fun e w' => e = .returned (.tuple #[.int .i64 (wrap64 (a + b)), .bool (out64 (a + b))]) ∧ w = w' :=
 (sum_walk a b w).mono fun _ _ ⟨⟨r, he, hr⟩, hw⟩ => ⟨by rw [he, out_sum a b r ha hb hr], hw⟩
theorem difference_walk (a b : Int) (w : World) :
   Calls Try.prog 54 #[.int .i64 a, .int .i64 b] w (OverPost (wrap64 (a - b)) (0 ≤ a ∧ b < 0 ∧ wrap64 (a - b) < 0 ∨ a < 0 ∧ 0 < b ∧ 0 ≤ wrap64 (a - b)) w) := by
 rcases sign2 a with h1 | h1 <;> rcases sign3 b with h2 | ⟨h2, h2'⟩ | h2
 all_goals
   go_enter Try.func54, Try.ntmps54
   go_wp2
   all_goals
     go_ret2
     refine ⟨⟨_, rfl, ?_⟩, rfl⟩
     first | (simp; done) | (simp; omega) | (simp at *; omega)
theorem difference_any (a b : Int) (w : World) (ha : In64 a) (hb : In64 b) :
   Calls Try.prog 54 #[.int .i64 a, .int .i64 b] w fun e w' => e = .returned (.tuple #[.int .i64 (wrap64 (a - b)), .bool (out64 (a - b))]) ∧ w = w' :=
 (difference_walk a b w).mono fun _ _ ⟨⟨r, he, hr⟩, hw⟩ => ⟨by rw [he, out_diff a b r ha hb hr], hw⟩
theorem product_zero (a b : Int) (w : World) (h : a = 0 ∨ b = 0) :
   Calls Try.prog 55 #[.int .i64 a, .int .i64 b] w fun e w' => e = .returned (.tuple #[.int .i64 0, .bool false]) ∧ w = w' := by
 by_cases h1 : a = 0
 · subst h1
   go_enter Try.func55, Try.ntmps55
   go_wp2
   go_ret2
   exact ⟨rfl, rfl⟩
 · have h2 : b = 0 := by omega
   subst h2
   have h1' : (a == 0) = false := by simpa using h1
   clear h1 h
   go_enter Try.func55, Try.ntmps55
   go_wp2
   go_ret2
   exact ⟨rfl, rfl⟩
theorem product_one (a b : Int) (w : World) (ha : (a == 0) = false) (hb : (b == 0) = false) (h : (a == -1) = true ∨ ((a == -1) = false ∧ (b == -1) = true)) :
   Calls Try.prog 55 #[.int .i64 a, .int .i64 b] w (OverPost (wrap64 (a * b)) (a = -9223372036854775808 ∨ b = -9223372036854775808) w) := by
 rcases h with h | ⟨h, h'⟩
 all_goals
   go_enter Try.func55, Try.ntmps55
   go_wp2
   · have hx : a = -9223372036854775808 := by assumption
     subst hx
     go_ret2
     exact ⟨⟨true, rfl, by simp⟩, rfl⟩
   · go_ret2
     exact ⟨⟨_, rfl, by simp⟩, rfl⟩
theorem product_walk (a b : Int) (w : World) (hb' : ¬ b = 0) (ha : (a == 0) = false) (hb : (b == 0) = false) (h1 : (a == -1) = false) (h2 : (b == -1) = false) :
   Calls Try.prog 55 #[.int .i64 a, .int .i64 b] w (fun e w' => e = .returned (.tuple #[.int .i64 (wrap64 (a * b)), .bool (wrap64 ((wrap64 (a * b)).tdiv b) != a)]) ∧ w' = w.drew) := by
 go_enter Try.func55, Try.ntmps55
 go_wp2
 go_region
 go_wp2
 go_ret2
 exact ⟨rfl, rfl⟩
theorem tdiv_mul_near (n b : Int) (hb : b ≠ 0) : n - (n.tdiv b) * b < b.natAbs ∧ -(b.natAbs : Int) < n - (n.tdiv b) * b := by
 have h := Int.tmod_add_mul_tdiv n b
 have h1 : n - n.tdiv b * b = n.tmod b := by rw [Int.mul_comm]; omega
 rw [h1]
 have h2 : (n.tmod b).natAbs < b.natAbs := by rw [Int.natAbs_tmod]; exact Nat.mod_lt _ (by omega)
 omega
theorem wrap64_cong (n : Int) : ∃ m : Int, wrap64 n = n + m * 18446744073709551616 := by
 unfold wrap64
 refine ⟨-((n + 9223372036854775808) / 18446744073709551616), ?_⟩
 have := Int.emod_add_mul_ediv (n + 9223372036854775808) 18446744073709551616
 omega
theorem wrap64_same (n : Int) (h : -9223372036854775808 ≤ n ∧ n ≤ 9223372036854775807) : wrap64 n = n := by unfold wrap64; omega
theorem wrap64_range (n : Int) : -9223372036854775808 ≤ wrap64 n ∧ wrap64 n ≤ 9223372036854775807 := by
 unfold wrap64; omega
theorem tdiv_range (n b : Int) (hn : In64 n) (hb : b ≠ 0) (hb1 : b ≠ -1) : In64 (n.tdiv b) := by
 have h : (n.tdiv b).natAbs = n.natAbs / b.natAbs := Int.natAbs_tdiv n b
 by_cases h1 : b = 1
 · subst h1; simpa using hn
 · have h2 : 2 ≤ b.natAbs := by omega
   have h4 : n.natAbs / b.natAbs ≤ n.natAbs / 2 := Nat.div_le_div_left h2 (by omega)
   have := hn.lo; have := hn.hi
   exact ⟨by omega, by omega⟩
theorem out_mul (a b : Int) (hb : In64 b) (hb0 : b ≠ 0) (hb1 : b ≠ -1) : (wrap64 ((wrap64 (a * b)).tdiv b) != a) = out64 (a * b) := by
 have hr := wrap64_range (a * b)
 have hw := tdiv_range (wrap64 (a * b)) b ⟨hr.1, hr.2⟩ hb0 hb1
 rw [wrap64_same _ ⟨hw.lo, hw.hi⟩]
 by_cases h : -9223372036854775808 ≤ a * b ∧ a * b ≤ 9223372036854775807
 · rw [wrap64_same _ h, Int.mul_tdiv_cancel _ hb0]
   simp [out64]; omega
 · have h1 : out64 (a * b) = true := by simp [out64]; omega
   rw [h1, bne_iff_ne]
   intro he
   obtain ⟨m, hm⟩ := wrap64_cong (a * b)
   have hn := tdiv_mul_near (wrap64 (a * b)) b hb0
   rw [he, hm] at hn
   have hm0 : m ≠ 0 := by
     rintro rfl
     rw [Int.zero_mul, Int.add_zero] at hm
     rw [hm] at hr
     exact h hr
   have := hb.lo; have := hb.hi
   have e : a * b + m * 18446744073709551616 - a * b = m * 18446744073709551616 := by omega
   rw [e] at hn
   omega
theorem product_any (a b : Int) (w : World) (ha : In64 a) (hb : In64 b) :
   Calls Try.prog 55 #[.int .i64 a, .int .i64 b] w fun e w' => e = .returned (.tuple #[.int .i64 (wrap64 (a * b)), .bool (out64 (a * b))]) ∧ Below w.heap.size w w' := by
 by_cases h0 : a = 0 ∨ b = 0
 · have hz : a * b = 0 := by rcases h0 with rfl | rfl <;> simp
   rw [hz]
   exact (product_zero a b w h0).mono fun _ _ ⟨he, hw⟩ => ⟨by rw [he, wrap64_same 0 (by omega), show out64 0 = false from by simp [out64]], hw ▸ Below.refl _ _⟩
 · have hb0 : b ≠ 0 := fun h => h0 (.inr h)
   have ha' : (a == 0) = false := by simp; exact fun h => h0 (.inl h)
   have hb' : (b == 0) = false := by simpa using hb0
   by_cases h1 : a = -1 ∨ b = -1
   · refine (product_one a b w ha' hb' ?_).mono fun _ _ ⟨⟨r, he, hr⟩, hw⟩ => ⟨?_, hw ▸ Below.refl _ _⟩
     · rcases h1 with h | h
       · exact .inl (by simpa using h)
       · by_cases h2 : a = -1
         · exact .inl (by simpa using h2)
         · exact .inr ⟨by simpa using h2, by simpa using h⟩
     · rw [he]
       have : r = out64 (a * b) := by
         rw [Bool.eq_iff_iff, hr, out64, decide_eq_true_eq]
         have := ha.lo; have := ha.hi; have := hb.lo; have := hb.hi
         rcases h1 with rfl | rfl <;> omega
       rw [this]
   · have hb1 : b ≠ -1 := fun h => h1 (.inr h)
     refine (product_walk a b w hb0 ha' hb' (by simp; exact fun h => h1 (.inl h)) (by simpa using hb1)).mono fun _ _ ⟨he, hw⟩ => ⟨?_, hw ▸ (Below.refl _ _).drew⟩
     rw [he, out_mul a b hb hb0 hb1]
end Go.Proofs.Ytgkhldbnljdeiaa
namespace Go.Proofs.Ytgkhldbnljdeiaa
open Go.RowKit
theorem out_step (x m : Int) (h : out64 x = false → m = x) : (out64 x || out64 (m + m)) = out64 (x * 2) := by
 cases hx : out64 x
 · rw [h hx, show x + x = x * 2 from by omega]; rfl
 · simp [out64] at hx ⊢; omega
theorem double_same (x m : Int) (h : out64 x = false → m = x) (h2 : out64 (x * 2) = false) : wrap64 (m + m) = x * 2 := by
 have hx : out64 x = false := by
   simp [out64] at h2 ⊢; omega
 rw [h hx, show x + x = x * 2 from by omega]
 exact wrap64_same _ (by simp [out64] at h2; omega)
def ShiftPost (a : Int) (n : Nat) (w : World) (e : Ending) (w' : World) : Prop := (∃ m : Int, e = .returned (.tuple #[.int .i64 m, .bool (out64 (a * 2 ^ n))]) ∧ In64 m ∧ (out64 (a * 2 ^ n) = false → m = a * 2 ^ n)) ∧ w = w'
def ShiftMid (a : Int) (n k : Nat) (m : Int) (o : Bool) : Prop := k ≤ n ∧ o = out64 (a * 2 ^ k) ∧ In64 m ∧ (out64 (a * 2 ^ k) = false → m = a * 2 ^ k)
theorem shifted_any (a : Int) (n : Nat) (w : World) (ha : In64 a) (hn : (n : Int) ≤ 63) :
   Calls Try.prog 56 #[.int .i64 a, .int .i64 n] w (ShiftPost a n w) := by
 have hin := Lib.hid ha
 clear ha
 go_enter Try.func56, Try.ntmps56
 go_wp2
 go_loop [6, 7, 8] (fun x o i => ∃ (k : Nat) (m : Int) (b : Bool), x = .int .i64 m ∧ o = .bool b ∧ i = .int .i64 k ∧ ShiftMid a n k m b) (fun _ _ i => (n - intOf i).toNat)
 case atStart => exact ⟨0, a, false, rfl, rfl, rfl, Nat.zero_le _, by have h1 := hin.out.lo; have h2 := hin.out.hi; simp [out64]; omega, hin.out, fun _ => by simp⟩
 case round =>
   obtain ⟨k, m, b, rfl, rfl, rfl, hm⟩ := hrel
   have hk : k ≤ n := hm.1
   have HM := Lib.hid hm
   clear hm
   by_cases hlt : k < n
   · go_wp2_with fail
     refine (sum_any m m _ HM.out.2.2.1 HM.out.2.2.1).mono ?_
     rintro e w' ⟨rfl, rfl⟩
     have hstep := out_step _ _ HM.out.2.2.2
     have hr := wrap64_range (m + m)
     have HN := Lib.hid (show ShiftMid a n (k + 1) (wrap64 (m + m)) (b || out64 (m + m)) from ⟨hlt, by rw [HM.out.2.1, hstep, Int.pow_succ, Int.mul_assoc], ⟨hr.1, hr.2⟩, fun h => by rw [Int.pow_succ, ← Int.mul_assoc] at h ⊢; exact double_same _ _ HM.out.2.2.2 h⟩)
     clear hstep hr
     generalize wrap64 (m + m) = m' at *
     generalize out64 (m + m) = o' at *
     cases b
     all_goals
       go_wp2
       go_round
       case rel => exact ⟨k + 1, m', _, rfl, rfl, by go_num, by simpa using HN.out⟩
       case measure => simp [intOf]; omega
   · go_wp2
     go_ret2
     have hkn : k = n := by omega
     subst hkn
     obtain ⟨_, hb, h64, hval⟩ := HM.out
     exact ⟨⟨m, by rw [← hb]; rfl, h64, hval⟩, rfl⟩
end Go.Proofs.Ytgkhldbnljdeiaa
namespace Go.Proofs.Ytgkhldbnljdeiaa
open Go.RowKit
theorem size_neg (n : Int) (w : World) (h : n < 0) :
   Calls Try.prog 108 #[.int .i64 n] w fun e w' => e = .returned (.int .u64 (IntKind.u64.wrap (IntKind.u64.wrap (wrap64 (-wrap64 (n + 1))) + 1))) ∧ w = w' := by
 go_enter Try.func108, Try.ntmps108
 go_wp2
 go_ret
 exact ⟨rfl, rfl⟩
theorem size_pos (n : Int) (w : World) (h : 0 ≤ n) :
   Calls Try.prog 108 #[.int .i64 n] w fun e w' => e = .returned (.int .u64 (IntKind.u64.wrap n)) ∧ w = w' := by
 go_enter Try.func108, Try.ntmps108
 go_wp2
 go_ret
 exact ⟨rfl, rfl⟩
theorem size_any (n : Int) (w : World) (h : In64 n) :
   Calls Try.prog 108 #[.int .i64 n] w fun e w' => e = .returned (.int .u64 (n.natAbs : Int)) ∧ w = w' := by
 have h1 := h.lo; have h2 := h.hi
 by_cases hn : n < 0
 · refine (size_neg n w hn).mono fun _ _ ⟨he, hw⟩ => ⟨?_, hw⟩
   rw [he]
   have : IntKind.u64.wrap (IntKind.u64.wrap (wrap64 (-wrap64 (n + 1))) + 1) = (n.natAbs : Int) := by
     rw [wrap64_same (n + 1) (by omega), wrap64_same (-(n + 1)) (by omega)]
     simp only [IntKind.wrap_u64]
     omega
   rw [this]
 · refine (size_pos n w (by omega)).mono fun _ _ ⟨he, hw⟩ => ⟨?_, hw⟩
   rw [he]
   have : IntKind.u64.wrap n = (n.natAbs : Int) := by simp only [IntKind.wrap_u64]; omega
   rw [this]
theorem number_any (p : Bool) (w : World) :
   Calls Try.prog 49 #[.bool p] w fun e w' => e = .returned (.int .i64 (if p then 1 else 0)) ∧ w = w' := by
 cases p
 all_goals
   go_enter Try.func49, Try.ntmps49
   go_wp2
   go_ret
   exact ⟨rfl, rfl⟩
theorem kindOf_any (o k : Int) (w : World) :
   Calls Try.prog 29 #[.agg #[.int .i64 o, .int .i64 k]] w fun e w' => e = .returned (.int .i64 (if 11 ≤ o then 3 else k)) ∧ Below w.heap.size w w' := by
 by_cases h : 11 ≤ o
 · rw [if_pos h]
   go_enter Try.func29, Try.ntmps29
   go_wp2
   go_ret
   exact ⟨rfl, (Below.refl _ _).alloc (Nat.le_refl _) _⟩
 · rw [if_neg h]
   go_enter Try.func29, Try.ntmps29
   go_wp2
   go_ret
   exact ⟨rfl, (Below.refl _ _).alloc (Nat.le_refl _) _⟩
end Go.Proofs.Ytgkhldbnljdeiaa
namespace Go.Proofs.Ytgkhldbnljdeiaa.RangesMath
open Go
theorem ofInt_nat (a : Nat) (ha : a < 9223372036854775808) : (BitVec.ofInt 64 (a : Int)).toNat = a := by
 rw [BitVec.ofInt_natCast, BitVec.toNat_ofNat]; exact Nat.mod_eq_of_lt (by omega)
theorem or_nat (a b : Nat) (ha : a < 9223372036854775808) (hb : b < 9223372036854775808) : bits .or .i64 (a : Int) (b : Int) = ((a ||| b : Nat) : Int) := by
 have hx : a ||| b < 2 ^ 63 := Nat.or_lt_two_pow (by omega) (by omega)
 show IntKind.i64.wrap ((BitVec.ofInt 64 (a : Int) ||| BitVec.ofInt 64 (b : Int)).toNat : Int) = _
 rw [BitVec.toNat_or, ofInt_nat a ha, ofInt_nat b hb, IntKind.wrap_i64]
 omega
theorem xor_nat (a b : Nat) (ha : a < 9223372036854775808) (hb : b < 9223372036854775808) : bits .xor .i64 (a : Int) (b : Int) = ((a ^^^ b : Nat) : Int) := by
 have hx : a ^^^ b < 2 ^ 63 := Nat.xor_lt_two_pow (by omega) (by omega)
 show IntKind.i64.wrap ((BitVec.ofInt 64 (a : Int) ^^^ BitVec.ofInt 64 (b : Int)).toNat : Int) = _
 rw [BitVec.toNat_xor, ofInt_nat a ha, ofInt_nat b hb, IntKind.wrap_i64]
 omega
theorem and_left (a b : Int) (ha : 0 ≤ a) (ha' : a ≤ 9223372036854775807) : 0 ≤ bits .and .i64 a b ∧ bits .and .i64 a b ≤ a := by
 obtain ⟨n, rfl⟩ := Int.eq_ofNat_of_zero_le ha
 show 0 ≤ IntKind.i64.wrap ((BitVec.ofInt 64 (n : Int) &&& BitVec.ofInt 64 b).toNat : Int) ∧ IntKind.i64.wrap ((BitVec.ofInt 64 (n : Int) &&& BitVec.ofInt 64 b).toNat : Int) ≤ n
 rw [BitVec.toNat_and, ofInt_nat n (by omega), IntKind.wrap_i64]
 have := @Nat.and_le_left n (BitVec.ofInt 64 b).toNat
 omega
theorem and_comm (a b : Int) : bits .and .i64 a b = bits .and .i64 b a := by
 show IntKind.i64.wrap ((BitVec.ofInt 64 a &&& BitVec.ofInt 64 b).toNat : Int) = IntKind.i64.wrap ((BitVec.ofInt 64 b &&& BitVec.ofInt 64 a).toNat : Int)
 rw [BitVec.and_comm]
theorem and_right (a b : Int) (hb : 0 ≤ b) (hb' : b ≤ 9223372036854775807) : 0 ≤ bits .and .i64 a b ∧ bits .and .i64 a b ≤ b := by
 rw [and_comm]; exact and_left b a hb hb'
/-- Both from 0 on: or is at least each of them, and below the power of 2 that both are below; so is xor. -/
theorem or_bounds (a b : Int) (n : Nat) (ha : 0 ≤ a) (hb : 0 ≤ b) (ha' : a < 2 ^ n) (hb' : b < 2 ^ n) (hn : n ≤ 63) : a ≤ bits .or .i64 a b ∧ b ≤ bits .or .i64 a b ∧ bits .or .i64 a b < 2 ^ n := by
 obtain ⟨x, rfl⟩ := Int.eq_ofNat_of_zero_le ha
 obtain ⟨y, rfl⟩ := Int.eq_ofNat_of_zero_le hb
 have e : (2 : Int) ^ n = ((2 ^ n : Nat) : Int) := by simp
 have m : 2 ^ n ≤ 2 ^ 63 := Nat.pow_le_pow_right (by omega) hn
 rw [e] at ha' hb'
 have hx := Int.ofNat_lt.1 ha'
 have hy := Int.ofNat_lt.1 hb'
 rw [e, or_nat x y (by omega) (by omega)]
 have h1 : x ||| y < 2 ^ n := Nat.or_lt_two_pow hx hy
 have h2 := @Nat.left_le_or x y
 have h3 := @Nat.right_le_or x y
 exact ⟨Int.ofNat_le.2 h2, Int.ofNat_le.2 h3, Int.ofNat_lt.2 h1⟩
theorem xor_bounds (a b : Int) (n : Nat) (ha : 0 ≤ a) (hb : 0 ≤ b) (ha' : a < 2 ^ n) (hb' : b < 2 ^ n) (hn : n ≤ 63) : 0 ≤ bits .xor .i64 a b ∧ bits .xor .i64 a b < 2 ^ n := by
 obtain ⟨x, rfl⟩ := Int.eq_ofNat_of_zero_le ha
 obtain ⟨y, rfl⟩ := Int.eq_ofNat_of_zero_le hb
 have e : (2 : Int) ^ n = ((2 ^ n : Nat) : Int) := by simp
 have m : 2 ^ n ≤ 2 ^ 63 := Nat.pow_le_pow_right (by omega) hn
 rw [e] at ha' hb'
 have hx := Int.ofNat_lt.1 ha'
 have hy := Int.ofNat_lt.1 hb'
 rw [e, xor_nat x y (by omega) (by omega)]
 have h1 : x ^^^ y < 2 ^ n := Nat.xor_lt_two_pow hx hy
 exact ⟨Int.natCast_nonneg _, Int.ofNat_lt.2 h1⟩
end Go.Proofs.Ytgkhldbnljdeiaa.RangesMath
