/- RefL, RefU, RefM, RngA, RngV, RngW, RngZS, RngB. -/
import Derived.IntWalk
import Derived.Deep.QuietTactic
import Derived.BigQuiet
import Derived.Test.YtgkhldbnljdeiaaKRefC
import Derived.LoopTactic
import Derived.Test.YtgkhldbnljdeiaaKSetSelfToRefB
import Derived.Shelf.Spec.BitsCarry
import Derived.Shelf.Bits.Mul64
import Derived.RegionTactic
import Derived.BigRegion
import Derived.Lib.Tables
import Derived.Deep.CutBlock
import Derived.Deep.DeepCutAuto
set_option linter.unusedSimpArgs false
set_option linter.unusedVariables false
/- The contracts of the reference functions sum, difference and product of layer 4: the wrapped number, and whether the true one is not of 64 bits. -/
namespace Go.Proofs.Ytgkhldbnljdeiaa
open Go.RowKit

/-- A number that is not of 64 bits. -/
def out64 (n : Int) : Bool := decide (n < -9223372036854775808 ∨ 9223372036854775807 < n)
structure In64 (a : Int) : Prop where
  lo : -9223372036854775808 ≤ a
  hi : a ≤ 9223372036854775807

theorem sign3 (a : Int) : 0 < a ∨ (decide (0 < a) = false ∧ decide (a < 0) = false) ∨ a < 0 := by simp; omega
theorem sign2 (a : Int) : a < 0 ∨ 0 ≤ a := by omega

theorem out_sum (a b : Int) (r : Bool) (ha : In64 a) (hb : In64 b) (h : r = true ↔ (0 < a ∧ 0 < b ∧ wrap64 (a + b) < 0 ∨ a < 0 ∧ b < 0 ∧ 0 ≤ wrap64 (a + b))) : r = out64 (a + b) := by
  rw [Bool.eq_iff_iff, h, out64, decide_eq_true_eq]
  unfold wrap64
  have := ha.lo; have := ha.hi; have := hb.lo; have := hb.hi
  omega

theorem out_diff (a b : Int) (r : Bool) (ha : In64 a) (hb : In64 b) (h : r = true ↔ (0 ≤ a ∧ b < 0 ∧ wrap64 (a - b) < 0 ∨ a < 0 ∧ 0 < b ∧ 0 ≤ wrap64 (a - b))) : r = out64 (a - b) := by
  rw [Bool.eq_iff_iff, h, out64, decide_eq_true_eq]
  unfold wrap64
  have := ha.lo; have := ha.hi; have := hb.lo; have := hb.hi
  omega

def OverPost (n : Int) (P : Prop) (w : World) (e : Ending) (w' : World) : Prop := (∃ r : Bool, e = .returned (.tuple #[.int .i64 n, .bool r]) ∧ (r = true ↔ P)) ∧ w = w'

set_option maxHeartbeats 2000000 in
theorem sum_walk (a b : Int) (w : World) :
    Calls Try.prog 53 #[.int .i64 a, .int .i64 b] w (OverPost (wrap64 (a + b)) (0 < a ∧ 0 < b ∧ wrap64 (a + b) < 0 ∨ a < 0 ∧ b < 0 ∧ 0 ≤ wrap64 (a + b)) w) := by
  rcases sign3 a with h1 | ⟨h1, h1'⟩ | h1 <;> rcases sign3 b with h2 | ⟨h2, h2'⟩ | h2
  all_goals
    go_enter Try.func53, Try.ntmps53
    go_wp2
    all_goals
      go_ret2
      refine ⟨⟨_, rfl, ?_⟩, rfl⟩
      first | (simp; done) | (simp; omega) | (simp at *; omega)

theorem sum_any (a b : Int) (w : World) (ha : In64 a) (hb : In64 b) :
    Calls Try.prog 53 #[.int .i64 a, .int .i64 b] w fun e w' => e = .returned (.tuple #[.int .i64 (wrap64 (a + b)), .bool (out64 (a + b))]) ∧ w = w' :=
  (sum_walk a b w).mono fun _ _ ⟨⟨r, he, hr⟩, hw⟩ => ⟨by rw [he, out_sum a b r ha hb hr], hw⟩

set_option maxHeartbeats 2000000 in
theorem difference_walk (a b : Int) (w : World) :
    Calls Try.prog 54 #[.int .i64 a, .int .i64 b] w (OverPost (wrap64 (a - b)) (0 ≤ a ∧ b < 0 ∧ wrap64 (a - b) < 0 ∨ a < 0 ∧ 0 < b ∧ 0 ≤ wrap64 (a - b)) w) := by
  rcases sign2 a with h1 | h1 <;> rcases sign3 b with h2 | ⟨h2, h2'⟩ | h2
  all_goals
    go_enter Try.func54, Try.ntmps54
    go_wp2
    all_goals
      go_ret2
      refine ⟨⟨_, rfl, ?_⟩, rfl⟩
      first | (simp; done) | (simp; omega) | (simp at *; omega)

theorem difference_any (a b : Int) (w : World) (ha : In64 a) (hb : In64 b) :
    Calls Try.prog 54 #[.int .i64 a, .int .i64 b] w fun e w' => e = .returned (.tuple #[.int .i64 (wrap64 (a - b)), .bool (out64 (a - b))]) ∧ w = w' :=
  (difference_walk a b w).mono fun _ _ ⟨⟨r, he, hr⟩, hw⟩ => ⟨by rw [he, out_diff a b r ha hb hr], hw⟩

set_option maxHeartbeats 1000000 in
theorem product_zero (a b : Int) (w : World) (h : a = 0 ∨ b = 0) :
    Calls Try.prog 55 #[.int .i64 a, .int .i64 b] w fun e w' => e = .returned (.tuple #[.int .i64 0, .bool false]) ∧ w = w' := by
  by_cases h1 : a = 0
  · subst h1
    go_enter Try.func55, Try.ntmps55
    go_wp2
    go_ret2
    exact ⟨rfl, rfl⟩
  · have h2 : b = 0 := by omega
    subst h2
    have h1' : (a == 0) = false := by simpa using h1
    clear h1 h
    go_enter Try.func55, Try.ntmps55
    go_wp2
    go_ret2
    exact ⟨rfl, rfl⟩

set_option maxHeartbeats 1000000 in
theorem product_one (a b : Int) (w : World) (ha : (a == 0) = false) (hb : (b == 0) = false) (h : (a == -1) = true ∨ ((a == -1) = false ∧ (b == -1) = true)) :
    Calls Try.prog 55 #[.int .i64 a, .int .i64 b] w (OverPost (wrap64 (a * b)) (a = -9223372036854775808 ∨ b = -9223372036854775808) w) := by
  rcases h with h | ⟨h, h'⟩
  all_goals
    go_enter Try.func55, Try.ntmps55
    go_wp2
    · have hx : a = -9223372036854775808 := by assumption
      subst hx
      go_ret2
      exact ⟨⟨true, rfl, by simp⟩, rfl⟩
    · go_ret2
      exact ⟨⟨_, rfl, by simp⟩, rfl⟩

set_option maxHeartbeats 1000000 in
theorem product_walk (a b : Int) (w : World) (hb' : ¬ b = 0) (ha : (a == 0) = false) (hb : (b == 0) = false) (h1 : (a == -1) = false) (h2 : (b == -1) = false) :
    Calls Try.prog 55 #[.int .i64 a, .int .i64 b] w (fun e w' => e = .returned (.tuple #[.int .i64 (wrap64 (a * b)), .bool (wrap64 ((wrap64 (a * b)).tdiv b) != a)]) ∧ w' = w.drew) := by
  go_enter Try.func55, Try.ntmps55
  go_wp2
  go_region
  go_wp2
  go_ret2
  exact ⟨rfl, rfl⟩

theorem tdiv_mul_near (n b : Int) (hb : b ≠ 0) : n - (n.tdiv b) * b < b.natAbs ∧ -(b.natAbs : Int) < n - (n.tdiv b) * b := by
  have h := Int.tmod_add_mul_tdiv n b
  have h1 : n - n.tdiv b * b = n.tmod b := by rw [Int.mul_comm]; omega
  rw [h1]
  have h2 : (n.tmod b).natAbs < b.natAbs := by rw [Int.natAbs_tmod]; exact Nat.mod_lt _ (by omega)
  omega

theorem wrap64_cong (n : Int) : ∃ m : Int, wrap64 n = n + m * 18446744073709551616 := by
  unfold wrap64
  refine ⟨-((n + 9223372036854775808) / 18446744073709551616), ?_⟩
  have := Int.emod_add_mul_ediv (n + 9223372036854775808) 18446744073709551616
  omega
theorem wrap64_same (n : Int) (h : -9223372036854775808 ≤ n ∧ n ≤ 9223372036854775807) : wrap64 n = n := by unfold wrap64; omega
theorem wrap64_range (n : Int) : -9223372036854775808 ≤ wrap64 n ∧ wrap64 n ≤ 9223372036854775807 := by
  unfold wrap64; omega

theorem tdiv_range (n b : Int) (hn : In64 n) (hb : b ≠ 0) (hb1 : b ≠ -1) : In64 (n.tdiv b) := by
  have h : (n.tdiv b).natAbs = n.natAbs / b.natAbs := Int.natAbs_tdiv n b
  by_cases h1 : b = 1
  · subst h1; simpa using hn
  · have h2 : 2 ≤ b.natAbs := by omega
    have h4 : n.natAbs / b.natAbs ≤ n.natAbs / 2 := Nat.div_le_div_left h2 (by omega)
    have := hn.lo; have := hn.hi
    exact ⟨by omega, by omega⟩

theorem out_mul (a b : Int) (hb : In64 b) (hb0 : b ≠ 0) (hb1 : b ≠ -1) : (wrap64 ((wrap64 (a * b)).tdiv b) != a) = out64 (a * b) := by
  have hr := wrap64_range (a * b)
  have hw := tdiv_range (wrap64 (a * b)) b ⟨hr.1, hr.2⟩ hb0 hb1
  rw [wrap64_same _ ⟨hw.lo, hw.hi⟩]
  by_cases h : -9223372036854775808 ≤ a * b ∧ a * b ≤ 9223372036854775807
  · rw [wrap64_same _ h, Int.mul_tdiv_cancel _ hb0]
    simp [out64]; omega
  · have h1 : out64 (a * b) = true := by simp [out64]; omega
    rw [h1, bne_iff_ne]
    intro he
    obtain ⟨m, hm⟩ := wrap64_cong (a * b)
    have hn := tdiv_mul_near (wrap64 (a * b)) b hb0
    rw [he, hm] at hn
    have hm0 : m ≠ 0 := by
      rintro rfl
      rw [Int.zero_mul, Int.add_zero] at hm
      rw [hm] at hr
      exact h hr
    have := hb.lo; have := hb.hi
    have e : a * b + m * 18446744073709551616 - a * b = m * 18446744073709551616 := by omega
    rw [e] at hn
    omega

theorem product_any (a b : Int) (w : World) (ha : In64 a) (hb : In64 b) :
    Calls Try.prog 55 #[.int .i64 a, .int .i64 b] w fun e w' => e = .returned (.tuple #[.int .i64 (wrap64 (a * b)), .bool (out64 (a * b))]) ∧ Below w.heap.size w w' := by
  by_cases h0 : a = 0 ∨ b = 0
  · have hz : a * b = 0 := by rcases h0 with rfl | rfl <;> simp
    rw [hz]
    exact (product_zero a b w h0).mono fun _ _ ⟨he, hw⟩ => ⟨by rw [he, wrap64_same 0 (by omega), show out64 0 = false from by simp [out64]], hw ▸ Below.refl _ _⟩
  · have hb0 : b ≠ 0 := fun h => h0 (.inr h)
    have ha' : (a == 0) = false := by simp; exact fun h => h0 (.inl h)
    have hb' : (b == 0) = false := by simpa using hb0
    by_cases h1 : a = -1 ∨ b = -1
    · refine (product_one a b w ha' hb' ?_).mono fun _ _ ⟨⟨r, he, hr⟩, hw⟩ => ⟨?_, hw ▸ Below.refl _ _⟩
      · rcases h1 with h | h
        · exact .inl (by simpa using h)
        · by_cases h2 : a = -1
          · exact .inl (by simpa using h2)
          · exact .inr ⟨by simpa using h2, by simpa using h⟩
      · rw [he]
        have : r = out64 (a * b) := by
          rw [Bool.eq_iff_iff, hr, out64, decide_eq_true_eq]
          have := ha.lo; have := ha.hi; have := hb.lo; have := hb.hi
          rcases h1 with rfl | rfl <;> omega
        rw [this]
    · have hb1 : b ≠ -1 := fun h => h1 (.inr h)
      refine (product_walk a b w hb0 ha' hb' (by simp; exact fun h => h1 (.inl h)) (by simpa using hb1)).mono fun _ _ ⟨he, hw⟩ => ⟨?_, hw ▸ (Below.refl _ _).drew⟩
      rw [he, out_mul a b hb hb0 hb1]

end Go.Proofs.Ytgkhldbnljdeiaa

/- The contracts of size, number and kindOf of layer 4's reference and laws. -/
namespace Go.Proofs.Ytgkhldbnljdeiaa
open Go.RowKit

set_option maxHeartbeats 1000000 in
theorem size_neg (n : Int) (w : World) (h : n < 0) :
    Calls Try.prog 108 #[.int .i64 n] w fun e w' => e = .returned (.int .u64 (IntKind.u64.wrap (IntKind.u64.wrap (wrap64 (-wrap64 (n + 1))) + 1))) ∧ w = w' := by
  go_enter Try.func108, Try.ntmps108
  go_wp2
  go_ret
  exact ⟨rfl, rfl⟩

set_option maxHeartbeats 1000000 in
theorem size_pos (n : Int) (w : World) (h : 0 ≤ n) :
    Calls Try.prog 108 #[.int .i64 n] w fun e w' => e = .returned (.int .u64 (IntKind.u64.wrap n)) ∧ w = w' := by
  go_enter Try.func108, Try.ntmps108
  go_wp2
  go_ret
  exact ⟨rfl, rfl⟩

theorem size_any (n : Int) (w : World) (h : In64 n) :
    Calls Try.prog 108 #[.int .i64 n] w fun e w' => e = .returned (.int .u64 (n.natAbs : Int)) ∧ w = w' := by
  have h1 := h.lo; have h2 := h.hi
  by_cases hn : n < 0
  · refine (size_neg n w hn).mono fun _ _ ⟨he, hw⟩ => ⟨?_, hw⟩
    rw [he]
    have : IntKind.u64.wrap (IntKind.u64.wrap (wrap64 (-wrap64 (n + 1))) + 1) = (n.natAbs : Int) := by
      rw [wrap64_same (n + 1) (by omega), wrap64_same (-(n + 1)) (by omega)]
      simp only [IntKind.wrap_u64]
      omega
    rw [this]
  · refine (size_pos n w (by omega)).mono fun _ _ ⟨he, hw⟩ => ⟨?_, hw⟩
    rw [he]
    have : IntKind.u64.wrap n = (n.natAbs : Int) := by simp only [IntKind.wrap_u64]; omega
    rw [this]

set_option maxHeartbeats 1000000 in
theorem number_any (p : Bool) (w : World) :
    Calls Try.prog 49 #[.bool p] w fun e w' => e = .returned (.int .i64 (if p then 1 else 0)) ∧ w = w' := by
  cases p
  all_goals
    go_enter Try.func49, Try.ntmps49
    go_wp2
    go_ret
    exact ⟨rfl, rfl⟩

set_option maxHeartbeats 1000000 in
theorem kindOf_any (o k : Int) (w : World) :
    Calls Try.prog 29 #[.agg #[.int .i64 o, .int .i64 k]] w fun e w' => e = .returned (.int .i64 (if 11 ≤ o then 3 else k)) ∧ Below w.heap.size w w' := by
  by_cases h : 11 ≤ o
  · rw [if_pos h]
    go_enter Try.func29, Try.ntmps29
    go_wp2
    go_ret
    exact ⟨rfl, (Below.refl _ _).alloc (Nat.le_refl _) _⟩
  · rw [if_neg h]
    go_enter Try.func29, Try.ntmps29
    go_wp2
    go_ret
    exact ⟨rfl, (Below.refl _ _).alloc (Nat.le_refl _) _⟩

end Go.Proofs.Ytgkhldbnljdeiaa

/- The contracts of the reference functions shifted and add (of span) of layer 4. -/
namespace Go.Proofs.Ytgkhldbnljdeiaa
open Go.RowKit

theorem out_step (x m : Int) (h : out64 x = false → m = x) : (out64 x || out64 (m + m)) = out64 (x * 2) := by
  cases hx : out64 x
  · rw [h hx, show x + x = x * 2 from by omega]; rfl
  · simp [out64] at hx ⊢; omega

theorem double_same (x m : Int) (h : out64 x = false → m = x) (h2 : out64 (x * 2) = false) : wrap64 (m + m) = x * 2 := by
  have hx : out64 x = false := by
    simp [out64] at h2 ⊢; omega
  rw [h hx, show x + x = x * 2 from by omega]
  exact wrap64_same _ (by simp [out64] at h2; omega)

def ShiftPost (a : Int) (n : Nat) (w : World) (e : Ending) (w' : World) : Prop := (∃ m : Int, e = .returned (.tuple #[.int .i64 m, .bool (out64 (a * 2 ^ n))]) ∧ In64 m ∧ (out64 (a * 2 ^ n) = false → m = a * 2 ^ n)) ∧ w = w'
def ShiftMid (a : Int) (n k : Nat) (m : Int) (o : Bool) : Prop := k ≤ n ∧ o = out64 (a * 2 ^ k) ∧ In64 m ∧ (out64 (a * 2 ^ k) = false → m = a * 2 ^ k)

set_option maxHeartbeats 1000000 in
theorem shifted_any (a : Int) (n : Nat) (w : World) (ha : In64 a) (hn : (n : Int) ≤ 63) :
    Calls Try.prog 56 #[.int .i64 a, .int .i64 n] w (ShiftPost a n w) := by
  have hin := Lib.hid ha
  clear ha
  go_enter Try.func56, Try.ntmps56
  go_wp2
  go_loop [6, 7, 8] (fun x o i => ∃ (k : Nat) (m : Int) (b : Bool), x = .int .i64 m ∧ o = .bool b ∧ i = .int .i64 k ∧ ShiftMid a n k m b) (fun _ _ i => (n - intOf i).toNat)
  case atStart => exact ⟨0, a, false, rfl, rfl, rfl, Nat.zero_le _, by have h1 := hin.out.lo; have h2 := hin.out.hi; simp [out64]; omega, hin.out, fun _ => by simp⟩
  case round =>
    obtain ⟨k, m, b, rfl, rfl, rfl, hm⟩ := hrel
    have hk : k ≤ n := hm.1
    have HM := Lib.hid hm
    clear hm
    by_cases hlt : k < n
    · go_wp2_with fail
      refine (sum_any m m _ HM.out.2.2.1 HM.out.2.2.1).mono ?_
      rintro e w' ⟨rfl, rfl⟩
      have hstep := out_step _ _ HM.out.2.2.2
      have hr := wrap64_range (m + m)
      have HN := Lib.hid (show ShiftMid a n (k + 1) (wrap64 (m + m)) (b || out64 (m + m)) from ⟨hlt, by rw [HM.out.2.1, hstep, Int.pow_succ, Int.mul_assoc], ⟨hr.1, hr.2⟩, fun h => by rw [Int.pow_succ, ← Int.mul_assoc] at h ⊢; exact double_same _ _ HM.out.2.2.2 h⟩)
      clear hstep hr
      generalize wrap64 (m + m) = m' at *
      generalize out64 (m + m) = o' at *
      cases b
      all_goals
        go_wp2
        go_round
        case rel => exact ⟨k + 1, m', _, rfl, rfl, by go_num, by simpa using HN.out⟩
        case measure => simp [intOf]; omega
    · go_wp2
      go_ret2
      have hkn : k = n := by omega
      subst hkn
      obtain ⟨_, hb, h64, hval⟩ := HM.out
      exact ⟨⟨m, by rw [← hb]; rfl, h64, hval⟩, rfl⟩

end Go.Proofs.Ytgkhldbnljdeiaa

/- The contracts of the program's functions Full, Check, contains, isSingle, sure, only, size, opposite, common and areRanges of layer 4, for all arguments. -/
namespace Go.Proofs.Ytgkhldbnljdeiaa
open Go.RowKit
attribute [local go_sem] World.setCell_self

set_option maxHeartbeats 400000 in
theorem pfull_any (k : Int) (w : World) :
    Calls Try.prog 11 #[.int .i64 k] w fun e w' => e = .returned (.tuple #[.agg #[.int .i64 (fullLow k), .int .i64 (fullHigh k)], .int .i64 (fullErr k)]) ∧ Below w.heap.size w w' := by
  have key : ∀ a b e, a = fullLow k → b = fullHigh k → e = fullErr k → Calls Try.prog 11 #[.int .i64 k] w (fun e' w' => e' = .returned (.tuple #[.agg #[.int .i64 a, .int .i64 b], .int .i64 e]) ∧ Below w.heap.size w w') → Calls Try.prog 11 #[.int .i64 k] w (fun e w' => e = .returned (.tuple #[.agg #[.int .i64 (fullLow k), .int .i64 (fullHigh k)], .int .i64 (fullErr k)]) ∧ Below w.heap.size w w') := by
    rintro a b e rfl rfl rfl h; exact h
  by_cases h1 : k = 1
  · subst h1
    refine key (-9223372036854775808) 9223372036854775807 0 rfl rfl rfl ?_
    go_enter Try.func11, Try.ntmps11
    go_wp2
    exact bodyPost_ret (v := .tuple #[.agg #[.int .i64 (-9223372036854775808), .int .i64 9223372036854775807], .int .i64 0]) (by simp [results, Try.results11, go_sem]) rfl ⟨rfl, (Below.refl _ _).alloc (Nat.le_refl _) _⟩
  · by_cases h2 : k = 2
    · subst h2
      refine key 0 255 0 rfl rfl rfl ?_
      go_enter Try.func11, Try.ntmps11
      go_wp2
      exact bodyPost_ret (v := .tuple #[.agg #[.int .i64 0, .int .i64 255], .int .i64 0]) (by simp [results, Try.results11, go_sem]) rfl ⟨rfl, (Below.refl _ _).alloc (Nat.le_refl _) _⟩
    · by_cases h3 : k = 3
      · subst h3
        refine key 0 1 0 rfl rfl rfl ?_
        go_enter Try.func11, Try.ntmps11
        go_wp2
        exact bodyPost_ret (v := .tuple #[.agg #[.int .i64 0, .int .i64 1], .int .i64 0]) (by simp [results, Try.results11, go_sem]) rfl ⟨rfl, (Below.refl _ _).alloc (Nat.le_refl _) _⟩
      · refine key 0 0 2 (by simp [fullLow, h1]) (by simp [fullHigh, h1, h2, h3]) (by simp [fullErr, h1, h2, h3]) ?_
        have e1 : (k == 1) = false := by simpa using h1
        have e2 : (k == 2) = false := by simpa using h2
        have e3 : (k == 3) = false := by simpa using h3
        clear h1 h2 h3 key
        go_enter Try.func11, Try.ntmps11
        go_wp2
        exact bodyPost_ret (v := .tuple #[.agg #[.int .i64 0, .int .i64 0], .int .i64 2]) (by simp [results, Try.results11, go_sem]) rfl ⟨rfl, (Below.refl _ _).alloc (Nat.le_refl _) _⟩

set_option maxHeartbeats 400000 in
theorem pcheck_any (k lo hi : Int) (w : World) :
    Calls Try.prog 13 #[.int .i64 k, .agg #[.int .i64 lo, .int .i64 hi]] w fun e w' => e = .returned (.int .i64 (checkErr k lo hi)) ∧ Below w.heap.size w w' := by
  have key : ∀ x, checkErr k lo hi = x → Calls Try.prog 13 #[.int .i64 k, .agg #[.int .i64 lo, .int .i64 hi]] w (fun e w' => e = .returned (.int .i64 x) ∧ Below w.heap.size w w') → Calls Try.prog 13 #[.int .i64 k, .agg #[.int .i64 lo, .int .i64 hi]] w (fun e w' => e = .returned (.int .i64 (checkErr k lo hi)) ∧ Below w.heap.size w w') := by
    rintro x rfl h; exact h
  by_cases he : fullErr k = 0
  · have he' : (fullErr k != 0) = false := by simp [he]
    by_cases h1 : lo ≤ hi
    · have h1' : decide (hi < lo) = false := by simpa using h1
      by_cases h2 : fullLow k ≤ lo
      · have h2' : decide (lo < fullLow k) = false := by simpa using h2
        by_cases h3 : hi ≤ fullHigh k
        · have h3' : decide (fullHigh k < hi) = false := by simpa using h3
          refine key 0 (by simp [checkErr, he, h1, h2, h3]) ?_
          clear he key h1 h2 h3
          go_enter Try.func13, Try.ntmps13
          go_wp2_with (go_at_call 11; refine (pfull_any _ _).mono ?_; rintro e w' ⟨rfl, hb⟩; obtain ⟨hc, hf⟩ := bcell hb; have hz : w.heap.size < w'.heap.size := by have := hb.size; simp at this; omega)
          go_ret
          exact ⟨rfl, ((Below.refl _ _).alloc (Nat.le_refl _) _).trans (hb.mono (by simp)) |>.alloc (by omega) _⟩
        · have h3' : decide (fullHigh k < hi) = true := by simpa using h3
          refine key 2 (by simp [checkErr, h3]) ?_
          clear he key h1 h2 h3
          go_enter Try.func13, Try.ntmps13
          go_wp2_with (go_at_call 11; refine (pfull_any _ _).mono ?_; rintro e w' ⟨rfl, hb⟩; obtain ⟨hc, hf⟩ := bcell hb; have hz : w.heap.size < w'.heap.size := by have := hb.size; simp at this; omega)
          go_ret
          exact ⟨rfl, ((Below.refl _ _).alloc (Nat.le_refl _) _).trans (hb.mono (by simp)) |>.alloc (by omega) _⟩
      · have h2' : decide (lo < fullLow k) = true := by simpa using h2
        refine key 2 (by simp [checkErr, h2]) ?_
        clear he key h1 h2
        go_enter Try.func13, Try.ntmps13
        go_wp2_with (go_at_call 11; refine (pfull_any _ _).mono ?_; rintro e w' ⟨rfl, hb⟩; obtain ⟨hc, hf⟩ := bcell hb; have hz : w.heap.size < w'.heap.size := by have := hb.size; simp at this; omega)
        go_ret
        exact ⟨rfl, ((Below.refl _ _).alloc (Nat.le_refl _) _).trans (hb.mono (by simp)) |>.alloc (by omega) _⟩
    · have h1' : decide (hi < lo) = true := by simpa using h1
      refine key 2 (by simp [checkErr, h1]) ?_
      clear he key h1
      go_enter Try.func13, Try.ntmps13
      go_wp2_with (go_at_call 11; refine (pfull_any _ _).mono ?_; rintro e w' ⟨rfl, hb⟩; obtain ⟨hc, hf⟩ := bcell hb; have hz : w.heap.size < w'.heap.size := by have := hb.size; simp at this; omega)
      go_ret
      exact ⟨rfl, ((Below.refl _ _).alloc (Nat.le_refl _) _).trans (hb.mono (by simp)) |>.alloc (by omega) _⟩
  · have he' : (fullErr k != 0) = true := by simp [he]
    refine key 2 (by simp [checkErr, he]) ?_
    clear he key
    go_enter Try.func13, Try.ntmps13
    go_wp2_with (go_at_call 11; refine (pfull_any _ _).mono ?_; rintro e w' ⟨rfl, hb⟩; obtain ⟨hc, hf⟩ := bcell hb; have hz : w.heap.size < w'.heap.size := by have := hb.size; simp at this; omega)
    go_ret
    exact ⟨rfl, ((Below.refl _ _).alloc (Nat.le_refl _) _).trans (hb.mono (by simp)) |>.alloc (by omega) _⟩

set_option maxHeartbeats 400000 in
theorem psingle_any (a b : Int) (w : World) :
    Calls Try.prog 83 #[.agg #[.int .i64 a, .int .i64 b]] w fun e w' => e = .returned (.bool (a == b)) ∧ Below w.heap.size w w' := by
  go_enter Try.func83, Try.ntmps83
  go_wp2
  go_ret
  exact ⟨rfl, (Below.refl _ _).alloc (Nat.le_refl _) _⟩

set_option maxHeartbeats 400000 in
theorem psure_any (a b : Int) (w : World) :
    Calls Try.prog 81 #[.agg #[.int .i64 a, .int .i64 b]] w fun e w' => e = .returned (.agg #[.int .i64 a, .int .i64 b, .bool true, .bool false, .bool false]) ∧ Below w.heap.size w w' := by
  go_enter Try.func81, Try.ntmps81
  go_wp2
  refine bodyPost_ret (v := .agg #[.int .i64 a, .int .i64 b, .bool true, .bool false, .bool false]) (by simp [results, Try.results81, go_sem]) rfl ⟨rfl, ?_⟩
  exact ((Below.refl _ _).alloc (Nat.le_refl _) _).alloc (by simp) _

end Go.Proofs.Ytgkhldbnljdeiaa

/- The contracts of numberOf, sum, difference, quotient and halved of layer 4: integers of 128 bits. -/
namespace Go.Proofs.Ytgkhldbnljdeiaa
open Go.RowKit
attribute [local go_sem] World.setCell_self

/-- A number, as the program's struct of two words. -/
def numV (v : Int) : Value := .agg #[.int .i64 (v / 18446744073709551616), .int .u64 (v % 18446744073709551616)]
theorem numV_mk {v p q : Int} (h1 : p = v / 18446744073709551616) (h2 : q = v % 18446744073709551616) : Value.agg #[.int .i64 p, .int .u64 q] = numV v := by rw [h1, h2]; rfl

theorem add64 (x y : Int) (hx : 0 ≤ x) (hy : 0 ≤ y) (w : World) : (callFunc 118 #[.int .u64 x, .int .u64 y, .int .u64 0]).run Try.prog w =
    .ok (.value (.tuple #[.int .u64 ((x + y) % 18446744073709551616), .int .u64 ((x + y) / 18446744073709551616)])) w := by
  rw [run_callFunc_extern Try.func118 (by kernel_rfl) (by kernel_rfl) (by kernel_rfl) (e := add64Entry) (by kernel_rfl), run_add64 x y 0 hx hy (Int.le_refl 0) (by decide) w, Int.add_zero]
  rfl
/-- The borrow. -/
def bor (x y : Int) : Int := if x < y then 1 else 0
theorem sub64 (x y : Int) (hx : 0 ≤ x) (hy : 0 ≤ y) (hy' : y < 18446744073709551616) (w : World) : (callFunc 79 #[.int .u64 x, .int .u64 y, .int .u64 0]).run Try.prog w =
    .ok (.value (.tuple #[.int .u64 ((x - y) % 18446744073709551616), .int .u64 (bor x y)])) w := by
  obtain ⟨x, rfl⟩ := Int.eq_ofNat_of_zero_le hx
  obtain ⟨y, rfl⟩ := Int.eq_ofNat_of_zero_le hy
  have e1 : (((x + 18446744073709551616 - y - 0) % 18446744073709551616 : Nat) : Int) = ((x : Int) - y) % 18446744073709551616 := by omega
  have e2 : ((if x < y + 0 then 1 else 0 : Nat) : Int) = bor x y := by unfold bor; split <;> split <;> omega
  rw [← e1, ← e2]
  rw [run_callFunc_extern Try.func79 (by kernel_rfl) (by kernel_rfl) (by kernel_rfl) (e := sub64Entry) (by kernel_rfl)]
  have e := run_sub64 (P := Try.prog) x y 0 (by omega) w
  exact (congrArg (fun r : Result Value => r.andThen fun v w' => Result.ok (Next.value v) w') e)

theorem and_m1 (b : Int) (h1 : -9223372036854775808 ≤ b) (h2 : b ≤ 9223372036854775807) : bits .and .i64 (-1) b = b := by
  show IntKind.i64.wrap ((BitVec.ofInt 64 (-1) &&& BitVec.ofInt 64 b).toNat : Int) = b
  have e : BitVec.ofInt 64 (-1) = BitVec.allOnes 64 := by decide
  rw [e, BitVec.allOnes_and, BitVec.toNat_ofInt, IntKind.wrap_i64]
  omega
theorem and_z (b : Int) : bits .and .i64 0 b = 0 := by
  show IntKind.i64.wrap ((BitVec.ofInt 64 0 &&& BitVec.ofInt 64 b).toNat : Int) = 0
  have e : BitVec.ofInt 64 0 = 0#64 := by decide
  rw [e, BitVec.zero_and, IntKind.wrap_i64, show (0#64).toNat = 0 from rfl]
  omega
theorem word_parts (a : Int) (h1 : -9223372036854775808 ≤ a) (h2 : a ≤ 9223372036854775807) : (a < 0 ∧ a / 9223372036854775808 = -1 ∧ a % 18446744073709551616 = a + 18446744073709551616) ∨ (0 ≤ a ∧ a / 9223372036854775808 = 0 ∧ a % 18446744073709551616 = a) := by omega
theorem and_sign (a b : Int) (h1 : -9223372036854775808 ≤ a) (h2 : a ≤ 9223372036854775807) (h3 : -9223372036854775808 ≤ b) (h4 : b ≤ 9223372036854775807) : bits .and .i64 (a / 9223372036854775808) b = if a < 0 then b else 0 := by
  by_cases h : a < 0
  · rw [if_pos h, show a / 9223372036854775808 = -1 by omega, and_m1 b h3 h4]
  · rw [if_neg h, show a / 9223372036854775808 = 0 by omega, and_z]

set_option maxRecDepth 100000 in
set_option maxHeartbeats 2000000 in
theorem pnumber_of (v : Int) (w : World) (h1 : -9223372036854775808 ≤ v) (h2 : v ≤ 9223372036854775807) :
    Calls Try.prog 43 #[.int .i64 v] w fun e w' => e = .returned (numV v) ∧ Below w.heap.size w w' := by
  go_enter Try.func43, Try.ntmps43
  go_wp2
  refine bodyPost_ret (v := .agg #[.int .i64 (v / 9223372036854775808), .int .u64 (IntKind.u64.wrap v)]) (by simp [results, Try.results43, go_sem]) rfl ⟨congrArg Ending.returned (numV_mk (by omega) (IntKind.wrap_u64 v)), ?_⟩
  exact (Below.refl _ _).alloc (Nat.le_refl _) _

set_option maxRecDepth 100000 in
set_option maxHeartbeats 2000000 in
theorem psum (a b : Int) (w : World) (h1 : -9223372036854775808 ≤ a) (h2 : a ≤ 9223372036854775807) (h3 : -9223372036854775808 ≤ b) (h4 : b ≤ 9223372036854775807) :
    Calls Try.prog 99 #[.int .i64 a, .int .i64 b] w fun e w' => e = .returned (numV (a + b)) ∧ Below w.heap.size w w' := by
  have A := add64
  go_enter Try.func99, Try.ntmps99
  go_wp2
  clear A
  refine bodyPost_ret (v := .agg #[.int .i64 (wrap64 (a / 9223372036854775808 + b / 9223372036854775808 + wrap64 ((IntKind.u64.wrap a + IntKind.u64.wrap b) / 18446744073709551616))), .int .u64 ((IntKind.u64.wrap a + IntKind.u64.wrap b) % 18446744073709551616)]) (by simp [results, Try.results99, go_sem]) rfl ⟨congrArg Ending.returned (numV_mk ?_ ?_), ?_⟩
  · rw [IntKind.wrap_u64, IntKind.wrap_u64]; unfold wrap64
    rcases word_parts a h1 h2 with ⟨a1, a2, a3⟩ | ⟨a1, a2, a3⟩ <;> rcases word_parts b h3 h4 with ⟨b1, b2, b3⟩ | ⟨b1, b2, b3⟩ <;> rw [a2, b2, a3, b3] <;> clear a2 b2 a3 b3 <;> omega
  · rw [IntKind.wrap_u64, IntKind.wrap_u64]; omega
  · exact (Below.refl _ _).alloc (Nat.le_refl _) _

set_option maxRecDepth 100000 in
set_option maxHeartbeats 2000000 in
theorem pdifference (a b : Int) (w : World) (h1 : -9223372036854775808 ≤ a) (h2 : a ≤ 9223372036854775807) (h3 : -9223372036854775808 ≤ b) (h4 : b ≤ 9223372036854775807) :
    Calls Try.prog 52 #[.int .i64 a, .int .i64 b] w fun e w' => e = .returned (numV (a - b)) ∧ Below w.heap.size w w' := by
  have A := fun (x y : Int) (hx : 0 ≤ x) (hy : 0 ≤ y) (w : World) (h : y < 18446744073709551616) => sub64 x y hx hy h w
  have u1 : IntKind.u64.wrap b < 18446744073709551616 := by rw [IntKind.wrap_u64]; omega
  go_enter Try.func52, Try.ntmps52
  go_wp2
  clear A
  refine bodyPost_ret (v := .agg #[.int .i64 (wrap64 (a / 9223372036854775808 - b / 9223372036854775808 - wrap64 (bor (IntKind.u64.wrap a) (IntKind.u64.wrap b)))), .int .u64 ((IntKind.u64.wrap a - IntKind.u64.wrap b) % 18446744073709551616)]) (by simp [results, Try.results52, go_sem]) rfl ⟨congrArg Ending.returned (numV_mk ?_ ?_), ?_⟩
  · clear u1
    rw [IntKind.wrap_u64, IntKind.wrap_u64]; unfold wrap64 bor
    rcases word_parts a h1 h2 with ⟨a1, a2, a3⟩ | ⟨a1, a2, a3⟩ <;> rcases word_parts b h3 h4 with ⟨b1, b2, b3⟩ | ⟨b1, b2, b3⟩ <;> rw [a2, b2, a3, b3] <;> clear a2 b2 a3 b3 <;> split <;> omega
  · clear u1
    rw [IntKind.wrap_u64, IntKind.wrap_u64]; omega
  · exact (Below.refl _ _).alloc (Nat.le_refl _) _

end Go.Proofs.Ytgkhldbnljdeiaa

/- The contracts of Mul64, product, quotient, halved and multiplied of layer 4. -/
namespace Go.Proofs.Ytgkhldbnljdeiaa
open Go.RowKit
attribute [local go_sem] World.setCell_self

set_option maxHeartbeats 1000000 in
theorem mul64_nat (x y : Nat) (hx : x < 18446744073709551616) (hy : y < 18446744073709551616) (w : World) :
    Calls Try.prog 114 #[.int .u64 x, .int .u64 y] w fun e w' => e = .returned (.tuple #[.int .u64 ((x * y / 18446744073709551616 : Nat) : Int), .int .u64 ((x * y % 18446744073709551616 : Nat) : Int)]) ∧ w = w' := by
  obtain ⟨bd, bt, bw, hhi⟩ := Lib.mul64_hi x y hx hy
  have ba := Lib.half_mul_le (a := x / 4294967296) (b := y / 4294967296) (by omega) (by omega)
  have bb := Lib.half_mul_le (a := x / 4294967296) (b := y % 4294967296) (by omega) (by omega)
  have bc := Lib.half_mul_le (a := x % 4294967296) (b := y / 4294967296) (by omega) (by omega)
  have ba' : x / 4294967296 * (y / 4294967296) < 18446744073709551616 := by omega
  have bb' : x / 4294967296 * (y % 4294967296) < 18446744073709551616 := by omega
  have bc' : x % 4294967296 * (y / 4294967296) < 18446744073709551616 := by omega
  have bh1 : x / 4294967296 * (y / 4294967296) + (x / 4294967296 * (y % 4294967296) + x % 4294967296 * (y % 4294967296) / 4294967296) / 4294967296 < 18446744073709551616 := by omega
  have bh : x / 4294967296 * (y / 4294967296) + (x / 4294967296 * (y % 4294967296) + x % 4294967296 * (y % 4294967296) / 4294967296) / 4294967296 + ((x / 4294967296 * (y % 4294967296) + x % 4294967296 * (y % 4294967296) / 4294967296) % 4294967296 + x % 4294967296 * (y / 4294967296)) / 4294967296 < 18446744073709551616 := by omega
  go_enter Try.func114, Try.ntmps114
  go_wp2
  simp only [Mul64.maskN x hx, Mul64.maskN y hy, Mul64.divN, Mul64.mulN, Mul64.addN, Mul64.wrapN _ bd, Mul64.wrapN _ bb', Mul64.wrapN _ bt, Mul64.maskN _ bt, Mul64.wrapN _ bc', Mul64.wrapN _ bw, Mul64.wrapN _ ba', Mul64.wrapN _ bh1, Mul64.wrapN _ bh, Mul64.wrapM (x * y)]
  rw [hhi]
  go_ret2
  exact ⟨rfl, rfl⟩

theorem mul64 (x y : Int) (hx : 0 ≤ x) (hx' : x < 18446744073709551616) (hy : 0 ≤ y) (hy' : y < 18446744073709551616) (w : World) :
    Calls Try.prog 114 #[.int .u64 x, .int .u64 y] w fun e w' => e = .returned (.tuple #[.int .u64 (x * y / 18446744073709551616), .int .u64 (x * y % 18446744073709551616)]) ∧ w = w' := by
  obtain ⟨x, rfl⟩ := Int.eq_ofNat_of_zero_le hx
  obtain ⟨y, rfl⟩ := Int.eq_ofNat_of_zero_le hy
  refine (mul64_nat x y (by omega) (by omega) w).mono ?_
  rintro e w' ⟨rfl, h⟩
  refine ⟨?_, h⟩
  have e1 : ((x * y / 18446744073709551616 : Nat) : Int) = (x : Int) * y / 18446744073709551616 := by rw [Int.natCast_ediv, Int.natCast_mul]; rfl
  have e2 : ((x * y % 18446744073709551616 : Nat) : Int) = (x : Int) * y % 18446744073709551616 := by rw [Int.natCast_emod, Int.natCast_mul]; rfl
  rw [e1, e2]

set_option maxRecDepth 100000 in
set_option maxHeartbeats 2000000 in
theorem pproduct (a b : Int) (w : World) (h1 : -9223372036854775808 ≤ a) (h2 : a ≤ 9223372036854775807) (h3 : -9223372036854775808 ≤ b) (h4 : b ≤ 9223372036854775807) :
    Calls Try.prog 91 #[.int .i64 a, .int .i64 b] w fun e w' => e = .returned (numV (a * b)) ∧ Below w.heap.size w w' := by
  obtain ⟨m1, m2⟩ := RangesMath.mul_words a b h1 h2 h3 h4
  have M := fun w => Lib.hid (mul64 (IntKind.u64.wrap a) (IntKind.u64.wrap b) (by rw [IntKind.wrap_u64]; omega) (by rw [IntKind.wrap_u64]; omega) (by rw [IntKind.wrap_u64]; omega) (by rw [IntKind.wrap_u64]; omega) w)
  have ea := Lib.hid (IntKind.wrap_u64 a)
  have eb := Lib.hid (IntKind.wrap_u64 b)
  have s1 := Lib.hid (and_sign a b h1 h2 h3 h4)
  have s2 := Lib.hid (and_sign b a h3 h4 h1 h2)
  have m1 := Lib.hid m1
  have m2 := Lib.hid m2
  generalize hu : IntKind.u64.wrap a * IntKind.u64.wrap b / 18446744073709551616 = hi at *
  generalize hl : IntKind.u64.wrap a * IntKind.u64.wrap b % 18446744073709551616 = lo at *
  have hu := Lib.hid hu
  have hl := Lib.hid hl
  go_enter Try.func91, Try.ntmps91
  go_wp2_with (go_at_call 114; refine (M _).out.mono ?_; rintro e w' ⟨rfl, rfl⟩)
  refine bodyPost_ret (v := .agg #[.int .i64 (wrap64 (wrap64 (wrap64 hi - bits BinOp.and IntKind.i64 (a / 9223372036854775808) b) - bits BinOp.and IntKind.i64 (b / 9223372036854775808) a)), .int .u64 lo]) (by simp [results, Try.results91, go_sem]) rfl ⟨congrArg Ending.returned (numV_mk ?_ ?_), ?_⟩
  · rw [s1.out, s2.out, ← hu.out, ea.out, eb.out]; exact m2.out
  · rw [← hl.out, ea.out, eb.out]; exact m1.out
  · exact (Below.refl _ _).alloc (Nat.le_refl _) _

set_option maxRecDepth 100000 in
set_option maxHeartbeats 2000000 in
theorem pquotient (a b n : Int) (w : World) (h1 : -9223372036854775808 ≤ n) (h2 : n ≤ 9223372036854775807) (hb : ¬ b = 0) (hn : a.tdiv b = n) :
    Calls Try.prog 94 #[.int .i64 a, .int .i64 b] w fun e w' => e = .returned (numV n) ∧ Below w.heap.size w w' := by
  have N := fun w => Lib.hid (pnumber_of n w h1 h2)
  have hw : IntKind.i64.wrap (a.tdiv b) = n := by rw [hn, IntKind.wrap_i64]; omega
  unfold numV at *
  generalize n / 18446744073709551616 = p at *
  generalize n % 18446744073709551616 = q at *
  go_enter Try.func94, Try.ntmps94
  go_wp2_with (go_at_call 43; refine (N _).out.mono ?_; rintro e w' ⟨rfl, hB⟩; obtain ⟨hc, hf⟩ := bcell hB; have hz : w.heap.size < w'.heap.size := (by have := hB.size; simp at this; omega))
  refine bodyPost_ret (v := .agg #[.int .i64 p, .int .u64 q]) (by simp [results, Try.results94, go_sem, hc, hz]) rfl ⟨rfl, ?_⟩
  exact ((Below.refl _ _).alloc (Nat.le_refl _) _).trans (hB.mono (by simp)) |>.setCell (by simp) _ |>.setCell (by simp) _

set_option maxRecDepth 100000 in
set_option maxHeartbeats 2000000 in
theorem phalved (a k n : Int) (w : World) (h1 : -9223372036854775808 ≤ n) (h2 : n ≤ 9223372036854775807) (hk : 0 ≤ k) (hk' : k ≤ 63) (hn : a / 2 ^ k.toNat = n) :
    Calls Try.prog 105 #[.int .i64 a, .int .i64 k] w fun e w' => e = .returned (numV n) ∧ Below w.heap.size w w' := by
  subst hn
  have N := fun w => Lib.hid (pnumber_of _ w h1 h2)
  unfold numV at *
  generalize hp : a / 2 ^ k.toNat / 18446744073709551616 = p at *
  generalize hq : a / 2 ^ k.toNat % 18446744073709551616 = q at *
  clear hp hq
  have hm : min k.toNat 64 = k.toNat := by omega
  go_enter Try.func105, Try.ntmps105
  go_wp2_with (go_at_call 43; refine (N _).out.mono ?_; rintro e w' ⟨rfl, hB⟩; obtain ⟨hc, hf⟩ := bcell hB; have hz : w.heap.size < w'.heap.size := (by have := hB.size; simp at this; omega))
  refine bodyPost_ret (v := .agg #[.int .i64 p, .int .u64 q]) (by simp [results, Try.results105, go_sem, hc, hz]) rfl ⟨rfl, ?_⟩
  exact ((Below.refl _ _).alloc (Nat.le_refl _) _).trans (hB.mono (by simp)) |>.setCell (by simp) _ |>.setCell (by simp) _

set_option maxRecDepth 100000 in
set_option maxHeartbeats 2000000 in
theorem pmultiplied (a k : Int) (w : World) (hk : 0 ≤ k) (hk' : k ≤ 63) :
    Calls Try.prog 103 #[.int .i64 a, .int .i64 k] w fun e w' => e = .returned (numV (a * 2 ^ k.toNat)) ∧ Below w.heap.size w w' := by
  have k1 : 0 ≤ 64 - k := by omega
  go_enter Try.func103, Try.ntmps103
  go_wp2_with fail
  go_region
  go_wp2
  refine bodyPost_ret (v := .agg #[.int .i64 (a / 2 ^ (64 - k).toNat), .int .u64 (IntKind.u64.wrap (IntKind.u64.wrap a * 2 ^ k.toNat))]) (by simp [results, Try.results103, go_sem]) rfl ⟨congrArg Ending.returned (numV_mk ?_ ?_), ?_⟩
  · obtain ⟨n, rfl⟩ := Int.eq_ofNat_of_zero_le hk
    have e1 : (64 - (n : Int)).toNat = 64 - n := by omega
    rw [e1, Int.toNat_natCast]
    have e2 : (18446744073709551616 : Int) = 2 ^ (64 - n) * 2 ^ n := by
      rw [← Int.pow_add, show 64 - n + n = 64 by omega]; rfl
    rw [e2, Int.mul_ediv_mul_of_pos_left _ _ (Int.pow_pos (by decide))]
  · rw [IntKind.wrap_u64, IntKind.wrap_u64, Int.mul_emod, Int.emod_emod_of_dvd _ (Int.dvd_refl _), ← Int.mul_emod]
  · exact ((Below.refl _ _).alloc (Nat.le_refl _) _).drew

end Go.Proofs.Ytgkhldbnljdeiaa

/- The bits that a number wants: the contract of Len64. -/
namespace Go.Proofs.Ytgkhldbnljdeiaa
open Go.RowKit

/-- The bits that a number wants. -/
def lenS (x : Int) : Int := if x ≤ 0 then 0 else (x.toNat.log2 : Int) + 1
theorem log_shift (x k : Nat) (h : 2 ^ k ≤ x) : (x / 2 ^ k).log2 + k = x.log2 := by
  have hp : 0 < 2 ^ k := Nat.two_pow_pos k
  have hy : 0 < x / 2 ^ k := Nat.div_pos h hp
  have hx : x ≠ 0 := by omega
  have a := Nat.log2_self_le (n := x / 2 ^ k) (by omega)
  have b := Nat.lt_log2_self (n := x / 2 ^ k)
  have a' : 2 ^ ((x / 2 ^ k).log2 + k) ≤ x := by
    rw [Nat.pow_add]
    exact Nat.le_trans (Nat.mul_le_mul_right _ a) (Nat.div_mul_le_self x _)
  have b' : x < 2 ^ ((x / 2 ^ k).log2 + k + 1) := by
    rw [show (x / 2 ^ k).log2 + k + 1 = ((x / 2 ^ k).log2 + 1) + k by omega, Nat.pow_add]
    exact (Nat.div_lt_iff_lt_mul hp).1 b
  exact ((Nat.log2_eq_iff hx).2 ⟨a', b'⟩).symm
theorem len8_log : ∀ n : Fin 256, Lib.len8 (n.val : Int) = lenS (n.val : Int) := by decide +kernel
theorem len8_lenS (b : Int) (h0 : 0 ≤ b) (h1 : b ≤ 255) : Lib.len8 b = lenS b := by
  have e := len8_log ⟨b.toNat, by omega⟩
  simp only [Int.toNat_of_nonneg h0] at e
  exact e
theorem lenS_shift (x : Int) (k : Nat) (p : Int) (hp : p = ((2 ^ k : Nat) : Int)) (h : p ≤ x) : lenS (x / p) + k = lenS x := by
  have hp0 : 0 < 2 ^ k := Nat.two_pow_pos k
  have h0 : (0 : Int) < p := by rw [hp]; exact Int.ofNat_lt.2 hp0
  obtain ⟨n, rfl⟩ := Int.eq_ofNat_of_zero_le (show 0 ≤ x by omega)
  have hn : 2 ^ k ≤ n := by rw [hp] at h; exact Int.ofNat_le.1 h
  have e : ((n : Int) / p) = ((n / 2 ^ k : Nat) : Int) := by rw [hp]; rfl
  have hy : 0 < n / 2 ^ k := Nat.div_pos hn hp0
  have l := log_shift n k hn
  unfold lenS
  rw [e]
  simp only [Int.toNat_natCast]
  split <;> split <;> omega
theorem lenS_small (x : Int) (h0 : 0 ≤ x) (h1 : x ≤ 255) : 0 ≤ lenS x ∧ lenS x ≤ 8 := by
  have key : ∀ n : Fin 256, 0 ≤ lenS (n.val : Int) ∧ lenS (n.val : Int) ≤ 8 := by decide +kernel
  have e := key ⟨x.toNat, by omega⟩
  simp only [Int.toNat_of_nonneg h0] at e
  exact e
theorem len_get (y : Int) (h : y.toNat < Lib.len8tab.size) : ((Lib.len8tab[y.toNat]'h).toNat : Int) = Lib.len8 y := by simp [Lib.len8, h]
theorem len_fin (y t k : Int) (h : y.toNat < Lib.len8tab.size) (h0 : 0 ≤ y) (e : lenS y + k = t) (hk : 0 ≤ k) (hk' : k ≤ 56) : wrap64 (k + wrap64 ((Lib.len8tab[y.toNat]'h).toNat : Int)) = t := by
  have hs : Lib.len8tab.size = 256 := Lib.len8tab_size
  have hy : y ≤ 255 := by omega
  rw [len_get y h, len8_lenS y h0 hy]
  have b := lenS_small y h0 hy
  unfold wrap64
  omega
theorem len_fin0 (y : Int) (h : y.toNat < Lib.len8tab.size) (h0 : 0 ≤ y) : wrap64 (wrap64 ((Lib.len8tab[y.toNat]'h).toNat : Int)) = lenS y := by
  have e := len_fin y (lenS y) 0 h h0 (by omega) (by omega) (by omega)
  rwa [Int.zero_add] at e
theorem add2 {a b t l m n : Int} (h1 : a + l = b) (h2 : b + m = t) (h : l + m = n) : a + n = t := by omega
theorem add3 {a b c t l m k n : Int} (h1 : a + l = b) (h2 : b + m = c) (h3 : c + k = t) (h : l + m + k = n) : a + n = t := by omega

set_option maxRecDepth 100000 in
set_option maxHeartbeats 4000000 in
theorem plen64 (x : Int) (w : World) (h0 : 0 ≤ x) (h1 : x ≤ 18446744073709551615) :
    Calls Try.prog 113 #[.int .u64 x] w fun e w' => e = .returned (.int .i64 (lenS x)) ∧ w = w' := by
  go_enter Try.func113, Try.ntmps113
  go_wp2
  all_goals first
    | (go_ret; refine ⟨congrArg Ending.returned (congrArg (Value.int IntKind.i64) ?_), rfl⟩)
    | (exfalso
       have hs : (Lib.len8tab.size : Int) = 256 := by rw [Lib.len8tab_size]; rfl
       omega)
  · exact len_fin _ _ 56 _ (by omega) (add3 (lenS_shift _ 8 256 rfl (by assumption)) (lenS_shift _ 16 65536 rfl (by assumption)) (lenS_shift _ 32 4294967296 rfl (by assumption)) rfl) (by decide) (by decide)
  · exact len_fin _ _ 48 _ (by omega) (add2 (lenS_shift _ 16 65536 rfl (by assumption)) (lenS_shift _ 32 4294967296 rfl (by assumption)) rfl) (by decide) (by decide)
  · exact len_fin _ _ 40 _ (by omega) (add2 (lenS_shift _ 8 256 rfl (by assumption)) (lenS_shift _ 32 4294967296 rfl (by assumption)) rfl) (by decide) (by decide)
  · exact len_fin _ _ 32 _ (by omega) (lenS_shift _ 32 4294967296 rfl (by assumption)) (by decide) (by decide)
  · exact len_fin _ _ 24 _ (by omega) (add2 (lenS_shift _ 8 256 rfl (by assumption)) (lenS_shift _ 16 65536 rfl (by assumption)) rfl) (by decide) (by decide)
  · exact len_fin _ _ 16 _ (by omega) (lenS_shift _ 16 65536 rfl (by assumption)) (by decide) (by decide)
  · exact len_fin _ _ 8 _ (by omega) (lenS_shift _ 8 256 rfl (by assumption)) (by decide) (by decide)
  · exact len_fin0 _ _ h0

end Go.Proofs.Ytgkhldbnljdeiaa

/- The contracts of the program's functions common, areRanges, Join and Meet of layer 4, for all arguments. -/
namespace Go.Proofs.Ytgkhldbnljdeiaa
open Go.RowKit
attribute [local go_sem] World.setCell_self

set_option maxHeartbeats 400000 in
theorem pcommon_yes (a b c d : Int) (w : World) (hm : max a c ≤ min b d) :
    Calls Try.prog 32 #[.agg #[.int .i64 a, .int .i64 b], .agg #[.int .i64 c, .int .i64 d]] w fun e w' => e = .returned (.tuple #[.agg #[.int .i64 (max a c), .int .i64 (min b d)], .bool true]) ∧ Below w.heap.size w w' := by
  have m1 : a ≤ b := by omega
  have m2 : a ≤ d := by omega
  have m3 : c ≤ b := by omega
  have m4 : c ≤ d := by omega
  clear hm
  go_enter Try.func32, Try.ntmps32
  go_wp2
  all_goals
    refine bodyPost_ret (v := .tuple #[.agg #[.int .i64 (max a c), .int .i64 (min b d)], .bool true]) (by simp [results, Try.results32, go_sem]; omega) rfl ⟨rfl, ?_⟩
    exact ((((Below.refl _ _).alloc (Nat.le_refl _) _).alloc (by simp) _).alloc (by simp; omega) _).alloc (by simp; omega) _

set_option maxHeartbeats 400000 in
theorem pcommon_no (a b c d : Int) (w : World) (hm : min b d < max a c) :
    Calls Try.prog 32 #[.agg #[.int .i64 a, .int .i64 b], .agg #[.int .i64 c, .int .i64 d]] w fun e w' => e = .returned (.tuple #[.agg #[.int .i64 0, .int .i64 0], .bool false]) ∧ Below w.heap.size w w' := by
  go_enter Try.func32, Try.ntmps32
  go_wp2
  all_goals first
    | (exfalso; omega)
    | (refine bodyPost_ret (v := .tuple #[.agg #[.int .i64 0, .int .i64 0], .bool false]) (by simp [results, Try.results32, go_sem]) rfl ⟨rfl, ?_⟩
       exact ((((Below.refl _ _).alloc (Nat.le_refl _) _).alloc (by simp) _).alloc (by simp; omega) _).alloc (by simp; omega) _)

/-- What two ranges have in common, and whether there is something. -/
def comS (a b c d : Int) : Int × Int × Bool := if max a c ≤ min b d then (max a c, min b d, true) else (0, 0, false)
theorem pcommon_any (a b c d : Int) (w : World) :
    Calls Try.prog 32 #[.agg #[.int .i64 a, .int .i64 b], .agg #[.int .i64 c, .int .i64 d]] w fun e w' => e = .returned (.tuple #[.agg #[.int .i64 (comS a b c d).1, .int .i64 (comS a b c d).2.1], .bool (comS a b c d).2.2]) ∧ Below w.heap.size w w' := by
  unfold comS
  by_cases h : max a c ≤ min b d
  · rw [if_pos h]; exact pcommon_yes a b c d w h
  · rw [if_neg h]; exact pcommon_no a b c d w (by omega)

/-- The cells of a slice of n ranges. -/
structure Cell2 (w : World) (g : Nat) (i : Nat) (a b : Int) : Prop where
  lo : w.cell? ⟨g, i, none⟩ = some (.int .i64 a)
  hi : w.cell? ⟨g, i + 1, none⟩ = some (.int .i64 b)
theorem Cell2.later {w wx : World} {g i : Nat} {a b : Int} {B : Nat} (h : Cell2 w g i a b) (hg : g < B) (hb : Below B w wx) : Cell2 wx g i a b :=
  ⟨by rw [hb.cell (p := ⟨g, i, none⟩) hg]; exact h.lo, by rw [hb.cell (p := ⟨g, i + 1, none⟩) hg]; exact h.hi⟩

set_option maxRecDepth 100000 in
set_option maxHeartbeats 2000000 in
theorem pare1 (k a b E : Int) (g cap : Nat) (w : World) (hg : g < w.heap.size) (hcap : 1 ≤ cap) (hE : ∀ w, Hid (Calls Try.prog 13 #[.int .i64 k, .agg #[.int .i64 a, .int .i64 b]] w fun e w' => e = .returned (.int .i64 E) ∧ Below w.heap.size w w'))
    (q : Bool) (hq : (E != 0) = !q) (H : Hid (Cell2 w g 0 a b)) :
    Calls Try.prog 31 #[.int .i64 k, .slice (some ⟨g, 0, none⟩) 1 cap] w fun e w' => e = .returned (.bool q) ∧ Below w.heap.size w w' := by
  go_enter Try.func31, Try.ntmps31
  go_wp2_with fail
  go_loopw [9] (fun i wr => (i = .int .i64 0 ∧ Below w.heap.size w wr) ∨ (i = .int .i64 1 ∧ q = true ∧ Below w.heap.size w wr)) (fun i _ => (1 - intOf i).toNat)
  case atStart => exact .inl ⟨rfl, Below.refl _ _⟩
  case round =>
    rcases hrel with ⟨rfl, hb⟩ | ⟨rfl, rfl, hb⟩
    · obtain ⟨c0, c1⟩ := H.out.later hg hb
      simp only [Nat.zero_add] at c1
      have hz := hb.size
      cases q with
      | true =>
        have hq' : (E != 0) = false := hq
        clear hq H
        go_wp2_with (go_at_call 13; refine (hE _).out.mono ?_; rintro e w' ⟨rfl, hb'⟩)
        go_roundw
        case rel => exact .inr ⟨rfl, trivial, (hb.alloc hz _).trans (hb'.mono (by simp; omega))⟩
        case measure => simp [intOf]
      | false =>
        have hq' : (E != 0) = true := hq
        clear hq H
        go_wp2_with (go_at_call 13; refine (hE _).out.mono ?_; rintro e w' ⟨rfl, hb'⟩)
        go_ret
        exact ⟨rfl, (hb.alloc hz _).trans (hb'.mono (by simp; omega))⟩
    · go_wp2
      go_ret
      exact ⟨rfl, hb⟩

set_option maxRecDepth 100000 in
set_option maxHeartbeats 2000000 in
theorem pare2 (k a b c d E F : Int) (g cap : Nat) (w : World) (hg : g < w.heap.size) (hcap : 2 ≤ cap) (hE : ∀ w, Hid (Calls Try.prog 13 #[.int .i64 k, .agg #[.int .i64 a, .int .i64 b]] w fun e w' => e = .returned (.int .i64 E) ∧ Below w.heap.size w w'))
    (hF : ∀ w, Hid (Calls Try.prog 13 #[.int .i64 k, .agg #[.int .i64 c, .int .i64 d]] w fun e w' => e = .returned (.int .i64 F) ∧ Below w.heap.size w w'))
    (q r : Bool) (hq : (E != 0) = !q) (hr : (F != 0) = !r) (H : Hid (Cell2 w g 0 a b)) (H2 : Hid (Cell2 w g 2 c d)) :
    Calls Try.prog 31 #[.int .i64 k, .slice (some ⟨g, 0, none⟩) 2 cap] w fun e w' => e = .returned (.bool (q && r)) ∧ Below w.heap.size w w' := by
  have HR := Lib.hid hr
  clear hr
  go_enter Try.func31, Try.ntmps31
  go_wp2_with fail
  go_loopw [9] (fun i wr => (i = .int .i64 0 ∧ Below w.heap.size w wr) ∨ (i = .int .i64 1 ∧ q = true ∧ Below w.heap.size w wr) ∨ (i = .int .i64 2 ∧ q = true ∧ r = true ∧ Below w.heap.size w wr)) (fun i _ => (2 - intOf i).toNat)
  case atStart => exact .inl ⟨rfl, Below.refl _ _⟩
  case round =>
    rcases hrel with ⟨rfl, hb⟩ | ⟨rfl, rfl, hb⟩ | ⟨rfl, rfl, rfl, hb⟩
    · obtain ⟨c0, c1⟩ := H.out.later hg hb
      simp only [Nat.zero_add] at c1
      have hz := hb.size
      cases q with
      | true =>
        have hq' : (E != 0) = false := hq
        clear hq H H2
        go_wp2_with (go_at_call 13; refine (hE _).out.mono ?_; rintro e w' ⟨rfl, hb'⟩)
        go_roundw
        case rel => exact .inr (.inl ⟨rfl, trivial, (hb.alloc hz _).trans (hb'.mono (by simp; omega))⟩)
        case measure => simp [intOf]
      | false =>
        have hq' : (E != 0) = true := hq
        clear hq H H2
        go_wp2_with (go_at_call 13; refine (hE _).out.mono ?_; rintro e w' ⟨rfl, hb'⟩)
        go_ret
        exact ⟨rfl, (hb.alloc hz _).trans (hb'.mono (by simp; omega))⟩
    · obtain ⟨c0, c1⟩ := H2.out.later hg hb
      have hz := hb.size
      cases r with
      | true =>
        have hq' : (F != 0) = false := HR.out
        clear hq H H2 HR
        go_wp2_with (go_at_call 13; refine (hF _).out.mono ?_; rintro e w' ⟨rfl, hb'⟩)
        go_roundw
        case rel => exact .inr (.inr ⟨rfl, trivial, trivial, (hb.alloc hz _).trans (hb'.mono (by simp; omega))⟩)
        case measure => simp [intOf]
      | false =>
        have hq' : (F != 0) = true := HR.out
        clear hq H H2 HR
        go_wp2_with (go_at_call 13; refine (hF _).out.mono ?_; rintro e w' ⟨rfl, hb'⟩)
        go_ret
        exact ⟨rfl, (hb.alloc hz _).trans (hb'.mono (by simp; omega))⟩
    · go_wp2
      go_ret
      exact ⟨rfl, hb⟩

end Go.Proofs.Ytgkhldbnljdeiaa
