/- GlueS, GlueR, RngA, RangesI, RngV, RefS, RefT0, RngK. -/
import Derived.Test.YtomjcpgjlhencaaKLawOpsToGlueA
import Derived.Test.YtomjcpgjlhencaaKRefJToLawSets
import Derived.Test.YtomjcpgjlhencaaKFrameSets
import Derived.LoopTactic
import Derived.Test.YtomjcpgjlhencaaKRefB
import Derived.Test.YtomjcpgjlhencaaKRefDToSetSelf
import Derived.Test.YtomjcpgjlhencaaKRangesEToLawDone
import Derived.Shelf.Spec.BitsCarry
import Derived.Deep.RegionHeld3
import Derived.Deep.RegionWith
set_option linter.unusedSimpArgs false
set_option linter.unusedVariables false
/- The statement RangesSets of layer 4 out of what is asked of the program's functions. -/
namespace Go.Proofs.Ytomjcpgjlhencaa
open Go.RowKit RangesMath

theorem sets_glue (hs : ShownOK) (hf : FullOK 11) (hg : FullOK 12) (hc : CheckOK 13) (hd : CheckOK 14) (hj : JoinSpec 15) (hj' : JoinSpec 16) (hm : MeetSpec 17) (hm' : MeetSpec 18) : WalkRangesSets := by
  intro k a b c d w _ wa wb wc wd
  have ia := in64_of wa
  have ib := in64_of wb
  have ic := in64_of wc
  have id' := in64_of wd
  exact sets_of hs hf hg hc hd k a b c d _ _ _ _ _ _ _ (hj a b c d ia ib ic id') (hj' a b c d ia ib ic id') (hm a b c d ia ib ic id') (hm' a b c d ia ib ic id') w

end Go.Proofs.Ytomjcpgjlhencaa

/- What the reference's Join and Meet do. -/
namespace Go.Proofs.Ytomjcpgjlhencaa
open Go.RowKit RangesMath

theorem ref_join : JoinSpec 16 := by
  intro a b c d _ _ _ _ w
  unfold joinS
  by_cases h : b < a ∨ d < c
  · rw [if_pos h]; exact join_no a b c d w h
  · rw [if_neg h]; exact join_yes a b c d w (by omega) (by omega)
theorem ref_meet : MeetSpec 18 := by
  intro a b c d _ _ _ _ w
  unfold meetS
  by_cases h : b < a ∨ d < c
  · rw [if_pos h]; exact meet_bad a b c d w h
  · rw [if_neg h]
    by_cases h2 : max a c ≤ min b d
    · rw [if_pos h2]; exact meet_yes a b c d w (by omega) (by omega) h2
    · rw [if_neg h2]; exact meet_no a b c d w (by omega) (by omega) (by omega)

end Go.Proofs.Ytomjcpgjlhencaa

/- The contracts of the program's functions Full, Check, contains, isSingle, sure, only, size, opposite, common and areRanges of layer 4, for all arguments. -/
namespace Go.Proofs.Ytomjcpgjlhencaa
open Go.RowKit
attribute [local go_sem] World.setCell_self

set_option maxHeartbeats 400000 in
theorem pfull_any (k : Int) (w : World) :
    Calls Try.prog 11 #[.int .i64 k] w fun e w' => e = .returned (.tuple #[.agg #[.int .i64 (fullLow k), .int .i64 (fullHigh k)], .int .i64 (fullErr k)]) ∧ Below w.heap.size w w' := by
  have key : ∀ a b e, a = fullLow k → b = fullHigh k → e = fullErr k → Calls Try.prog 11 #[.int .i64 k] w (fun e' w' => e' = .returned (.tuple #[.agg #[.int .i64 a, .int .i64 b], .int .i64 e]) ∧ Below w.heap.size w w') → Calls Try.prog 11 #[.int .i64 k] w (fun e w' => e = .returned (.tuple #[.agg #[.int .i64 (fullLow k), .int .i64 (fullHigh k)], .int .i64 (fullErr k)]) ∧ Below w.heap.size w w') := by
    rintro a b e rfl rfl rfl h; exact h
  by_cases h1 : k = 1
  · subst h1
    refine key (-9223372036854775808) 9223372036854775807 0 rfl rfl rfl ?_
    go_enter Try.func11, Try.ntmps11
    go_wp2
    exact bodyPost_ret (v := .tuple #[.agg #[.int .i64 (-9223372036854775808), .int .i64 9223372036854775807], .int .i64 0]) (by simp [results, Try.results11, go_sem]) rfl ⟨rfl, (Below.refl _ _).alloc (Nat.le_refl _) _⟩
  · by_cases h2 : k = 2
    · subst h2
      refine key 0 255 0 rfl rfl rfl ?_
      go_enter Try.func11, Try.ntmps11
      go_wp2
      exact bodyPost_ret (v := .tuple #[.agg #[.int .i64 0, .int .i64 255], .int .i64 0]) (by simp [results, Try.results11, go_sem]) rfl ⟨rfl, (Below.refl _ _).alloc (Nat.le_refl _) _⟩
    · by_cases h3 : k = 3
      · subst h3
        refine key 0 1 0 rfl rfl rfl ?_
        go_enter Try.func11, Try.ntmps11
        go_wp2
        exact bodyPost_ret (v := .tuple #[.agg #[.int .i64 0, .int .i64 1], .int .i64 0]) (by simp [results, Try.results11, go_sem]) rfl ⟨rfl, (Below.refl _ _).alloc (Nat.le_refl _) _⟩
      · refine key 0 0 2 (by simp [fullLow, h1]) (by simp [fullHigh, h1, h2, h3]) (by simp [fullErr, h1, h2, h3]) ?_
        have e1 : (k == 1) = false := by simpa using h1
        have e2 : (k == 2) = false := by simpa using h2
        have e3 : (k == 3) = false := by simpa using h3
        clear h1 h2 h3 key
        go_enter Try.func11, Try.ntmps11
        go_wp2
        exact bodyPost_ret (v := .tuple #[.agg #[.int .i64 0, .int .i64 0], .int .i64 2]) (by simp [results, Try.results11, go_sem]) rfl ⟨rfl, (Below.refl _ _).alloc (Nat.le_refl _) _⟩

set_option maxHeartbeats 400000 in
theorem pcheck_any (k lo hi : Int) (w : World) :
    Calls Try.prog 13 #[.int .i64 k, .agg #[.int .i64 lo, .int .i64 hi]] w fun e w' => e = .returned (.int .i64 (checkErr k lo hi)) ∧ Below w.heap.size w w' := by
  have key : ∀ x, checkErr k lo hi = x → Calls Try.prog 13 #[.int .i64 k, .agg #[.int .i64 lo, .int .i64 hi]] w (fun e w' => e = .returned (.int .i64 x) ∧ Below w.heap.size w w') → Calls Try.prog 13 #[.int .i64 k, .agg #[.int .i64 lo, .int .i64 hi]] w (fun e w' => e = .returned (.int .i64 (checkErr k lo hi)) ∧ Below w.heap.size w w') := by
    rintro x rfl h; exact h
  by_cases he : fullErr k = 0
  · have he' : (fullErr k != 0) = false := by simp [he]
    by_cases h1 : lo ≤ hi
    · have h1' : decide (hi < lo) = false := by simpa using h1
      by_cases h2 : fullLow k ≤ lo
      · have h2' : decide (lo < fullLow k) = false := by simpa using h2
        by_cases h3 : hi ≤ fullHigh k
        · have h3' : decide (fullHigh k < hi) = false := by simpa using h3
          refine key 0 (by simp [checkErr, he, h1, h2, h3]) ?_
          clear he key h1 h2 h3
          go_enter Try.func13, Try.ntmps13
          go_wp2_with (go_at_call 11; refine (pfull_any _ _).mono ?_; rintro e w' ⟨rfl, hb⟩; obtain ⟨hc, hf⟩ := bcell hb; have hz : w.heap.size < w'.heap.size := by have := hb.size; simp at this; omega)
          go_ret
          exact ⟨rfl, ((Below.refl _ _).alloc (Nat.le_refl _) _).trans (hb.mono (by simp)) |>.alloc (by omega) _⟩
        · have h3' : decide (fullHigh k < hi) = true := by simpa using h3
          refine key 2 (by simp [checkErr, h3]) ?_
          clear he key h1 h2 h3
          go_enter Try.func13, Try.ntmps13
          go_wp2_with (go_at_call 11; refine (pfull_any _ _).mono ?_; rintro e w' ⟨rfl, hb⟩; obtain ⟨hc, hf⟩ := bcell hb; have hz : w.heap.size < w'.heap.size := by have := hb.size; simp at this; omega)
          go_ret
          exact ⟨rfl, ((Below.refl _ _).alloc (Nat.le_refl _) _).trans (hb.mono (by simp)) |>.alloc (by omega) _⟩
      · have h2' : decide (lo < fullLow k) = true := by simpa using h2
        refine key 2 (by simp [checkErr, h2]) ?_
        clear he key h1 h2
        go_enter Try.func13, Try.ntmps13
        go_wp2_with (go_at_call 11; refine (pfull_any _ _).mono ?_; rintro e w' ⟨rfl, hb⟩; obtain ⟨hc, hf⟩ := bcell hb; have hz : w.heap.size < w'.heap.size := by have := hb.size; simp at this; omega)
        go_ret
        exact ⟨rfl, ((Below.refl _ _).alloc (Nat.le_refl _) _).trans (hb.mono (by simp)) |>.alloc (by omega) _⟩
    · have h1' : decide (hi < lo) = true := by simpa using h1
      refine key 2 (by simp [checkErr, h1]) ?_
      clear he key h1
      go_enter Try.func13, Try.ntmps13
      go_wp2_with (go_at_call 11; refine (pfull_any _ _).mono ?_; rintro e w' ⟨rfl, hb⟩; obtain ⟨hc, hf⟩ := bcell hb; have hz : w.heap.size < w'.heap.size := by have := hb.size; simp at this; omega)
      go_ret
      exact ⟨rfl, ((Below.refl _ _).alloc (Nat.le_refl _) _).trans (hb.mono (by simp)) |>.alloc (by omega) _⟩
  · have he' : (fullErr k != 0) = true := by simp [he]
    refine key 2 (by simp [checkErr, he]) ?_
    clear he key
    go_enter Try.func13, Try.ntmps13
    go_wp2_with (go_at_call 11; refine (pfull_any _ _).mono ?_; rintro e w' ⟨rfl, hb⟩; obtain ⟨hc, hf⟩ := bcell hb; have hz : w.heap.size < w'.heap.size := by have := hb.size; simp at this; omega)
    go_ret
    exact ⟨rfl, ((Below.refl _ _).alloc (Nat.le_refl _) _).trans (hb.mono (by simp)) |>.alloc (by omega) _⟩

set_option maxHeartbeats 400000 in
theorem psingle_any (a b : Int) (w : World) :
    Calls Try.prog 83 #[.agg #[.int .i64 a, .int .i64 b]] w fun e w' => e = .returned (.bool (a == b)) ∧ Below w.heap.size w w' := by
  go_enter Try.func83, Try.ntmps83
  go_wp2
  go_ret
  exact ⟨rfl, (Below.refl _ _).alloc (Nat.le_refl _) _⟩

set_option maxHeartbeats 400000 in
theorem psure_any (a b : Int) (w : World) :
    Calls Try.prog 81 #[.agg #[.int .i64 a, .int .i64 b]] w fun e w' => e = .returned (.agg #[.int .i64 a, .int .i64 b, .bool true, .bool false, .bool false]) ∧ Below w.heap.size w w' := by
  go_enter Try.func81, Try.ntmps81
  go_wp2
  refine bodyPost_ret (v := .agg #[.int .i64 a, .int .i64 b, .bool true, .bool false, .bool false]) (by simp [results, Try.results81, go_sem]) rfl ⟨rfl, ?_⟩
  exact ((Below.refl _ _).alloc (Nat.le_refl _) _).alloc (by simp) _

end Go.Proofs.Ytomjcpgjlhencaa

/- Plain arithmetic for layer 4: integers of 128 bits in two words. -/
namespace Go.Proofs.Ytomjcpgjlhencaa
namespace RangesMath
open Go.RowKit

theorem mul_bound (a b : Int) (h1 : -9223372036854775808 ≤ a) (h2 : a ≤ 9223372036854775807) (h3 : -9223372036854775808 ≤ b) (h4 : b ≤ 9223372036854775807) :
    -85070591730234615865843651857942052864 ≤ a * b ∧ a * b ≤ 85070591730234615865843651857942052864 := by
  have e : (a * b).natAbs = a.natAbs * b.natAbs := Int.natAbs_mul a b
  have l : a.natAbs * b.natAbs ≤ 9223372036854775808 * 9223372036854775808 := Nat.mul_le_mul (by omega) (by omega)
  rw [← e] at l
  omega

theorem mul_words (a b : Int) (h1 : -9223372036854775808 ≤ a) (h2 : a ≤ 9223372036854775807) (h3 : -9223372036854775808 ≤ b) (h4 : b ≤ 9223372036854775807) :
    (a % 18446744073709551616) * (b % 18446744073709551616) % 18446744073709551616 = a * b % 18446744073709551616 ∧
    wrap64 (wrap64 (wrap64 ((a % 18446744073709551616) * (b % 18446744073709551616) / 18446744073709551616) - (if a < 0 then b else 0)) - (if b < 0 then a else 0)) = a * b / 18446744073709551616 := by
  obtain ⟨b1, b2⟩ := mul_bound a b h1 h2 h3 h4
  have key : ∀ x y : Int, (x = a ∨ x = a + 18446744073709551616) → (y = b ∨ y = b + 18446744073709551616) → x * y = a * b + (if x = a then 0 else 18446744073709551616 * b) + (if y = b then 0 else 18446744073709551616 * a) + (if x = a then 0 else if y = b then 0 else 340282366920938463463374607431768211456) := by
    rintro x y (rfl | rfl) (rfl | rfl)
    · simp
    · have n : ¬ b + 18446744073709551616 = b := by omega
      simp only [if_true, if_neg n, Int.mul_add]; omega
    · have n : ¬ a + 18446744073709551616 = a := by omega
      simp only [if_true, if_neg n, Int.add_mul]; omega
    · have n : ¬ b + 18446744073709551616 = b := by omega
      have m : ¬ a + 18446744073709551616 = a := by omega
      simp only [if_neg n, if_neg m, Int.add_mul, Int.mul_add]; omega
  generalize hP : a * b = P at *
  unfold wrap64
  by_cases ha : a < 0 <;> by_cases hb : b < 0
  · have ea : a % 18446744073709551616 = a + 18446744073709551616 := by omega
    have eb : b % 18446744073709551616 = b + 18446744073709551616 := by omega
    have e := key _ _ (.inr ea) (.inr eb)
    have n1 : ¬ a % 18446744073709551616 = a := by omega
    have n2 : ¬ b % 18446744073709551616 = b := by omega
    rw [if_neg n1, if_neg n2, if_neg n1, if_neg n2] at e
    rw [e, if_pos ha, if_pos hb]
    clear e hP key
    omega
  · have ea : a % 18446744073709551616 = a + 18446744073709551616 := by omega
    have eb : b % 18446744073709551616 = b := by omega
    have e := key _ _ (.inr ea) (.inl eb)
    have n1 : ¬ a % 18446744073709551616 = a := by omega
    rw [if_neg n1, if_pos eb, if_neg n1, if_pos eb] at e
    rw [e, if_pos ha, if_neg hb]
    clear e hP key
    omega
  · have ea : a % 18446744073709551616 = a := by omega
    have eb : b % 18446744073709551616 = b + 18446744073709551616 := by omega
    have e := key _ _ (.inl ea) (.inr eb)
    have n2 : ¬ b % 18446744073709551616 = b := by omega
    rw [if_pos ea, if_neg n2, if_pos ea] at e
    rw [e, if_neg ha, if_pos hb]
    clear e hP key
    omega
  · have ea : a % 18446744073709551616 = a := by omega
    have eb : b % 18446744073709551616 = b := by omega
    have e := key _ _ (.inl ea) (.inl eb)
    rw [if_pos ea, if_pos eb, if_pos ea] at e
    rw [e, if_neg ha, if_neg hb]
    clear e hP key
    omega

end RangesMath
end Go.Proofs.Ytomjcpgjlhencaa

/- The contracts of numberOf, sum, difference, quotient and halved of layer 4: integers of 128 bits. -/
namespace Go.Proofs.Ytomjcpgjlhencaa
open Go.RowKit
attribute [local go_sem] World.setCell_self

/-- A number, as the program's struct of two words. -/
def numV (v : Int) : Value := .agg #[.int .i64 (v / 18446744073709551616), .int .u64 (v % 18446744073709551616)]
theorem numV_mk {v p q : Int} (h1 : p = v / 18446744073709551616) (h2 : q = v % 18446744073709551616) : Value.agg #[.int .i64 p, .int .u64 q] = numV v := by rw [h1, h2]; rfl

theorem add64 (x y : Int) (hx : 0 ≤ x) (hy : 0 ≤ y) (w : World) : (callFunc 118 #[.int .u64 x, .int .u64 y, .int .u64 0]).run Try.prog w =
    .ok (.value (.tuple #[.int .u64 ((x + y) % 18446744073709551616), .int .u64 ((x + y) / 18446744073709551616)])) w := by
  rw [run_callFunc_extern Try.func118 (by kernel_rfl) (by kernel_rfl) (by kernel_rfl) (e := add64Entry) (by kernel_rfl), run_add64 x y 0 hx hy (Int.le_refl 0) (by decide) w, Int.add_zero]
  rfl
/-- The borrow. -/
def bor (x y : Int) : Int := if x < y then 1 else 0
theorem sub64 (x y : Int) (hx : 0 ≤ x) (hy : 0 ≤ y) (hy' : y < 18446744073709551616) (w : World) : (callFunc 79 #[.int .u64 x, .int .u64 y, .int .u64 0]).run Try.prog w =
    .ok (.value (.tuple #[.int .u64 ((x - y) % 18446744073709551616), .int .u64 (bor x y)])) w := by
  obtain ⟨x, rfl⟩ := Int.eq_ofNat_of_zero_le hx
  obtain ⟨y, rfl⟩ := Int.eq_ofNat_of_zero_le hy
  have e1 : (((x + 18446744073709551616 - y - 0) % 18446744073709551616 : Nat) : Int) = ((x : Int) - y) % 18446744073709551616 := by omega
  have e2 : ((if x < y + 0 then 1 else 0 : Nat) : Int) = bor x y := by unfold bor; split <;> split <;> omega
  rw [← e1, ← e2]
  rw [run_callFunc_extern Try.func79 (by kernel_rfl) (by kernel_rfl) (by kernel_rfl) (e := sub64Entry) (by kernel_rfl)]
  have e := run_sub64 (P := Try.prog) x y 0 (by omega) w
  exact (congrArg (fun r : Result Value => r.andThen fun v w' => Result.ok (Next.value v) w') e)

theorem and_m1 (b : Int) (h1 : -9223372036854775808 ≤ b) (h2 : b ≤ 9223372036854775807) : bits .and .i64 (-1) b = b := by
  show IntKind.i64.wrap ((BitVec.ofInt 64 (-1) &&& BitVec.ofInt 64 b).toNat : Int) = b
  have e : BitVec.ofInt 64 (-1) = BitVec.allOnes 64 := by decide
  rw [e, BitVec.allOnes_and, BitVec.toNat_ofInt, IntKind.wrap_i64]
  omega
theorem and_z (b : Int) : bits .and .i64 0 b = 0 := by
  show IntKind.i64.wrap ((BitVec.ofInt 64 0 &&& BitVec.ofInt 64 b).toNat : Int) = 0
  have e : BitVec.ofInt 64 0 = 0#64 := by decide
  rw [e, BitVec.zero_and, IntKind.wrap_i64, show (0#64).toNat = 0 from rfl]
  omega
theorem word_parts (a : Int) (h1 : -9223372036854775808 ≤ a) (h2 : a ≤ 9223372036854775807) : (a < 0 ∧ a / 9223372036854775808 = -1 ∧ a % 18446744073709551616 = a + 18446744073709551616) ∨ (0 ≤ a ∧ a / 9223372036854775808 = 0 ∧ a % 18446744073709551616 = a) := by omega
theorem and_sign (a b : Int) (h1 : -9223372036854775808 ≤ a) (h2 : a ≤ 9223372036854775807) (h3 : -9223372036854775808 ≤ b) (h4 : b ≤ 9223372036854775807) : bits .and .i64 (a / 9223372036854775808) b = if a < 0 then b else 0 := by
  by_cases h : a < 0
  · rw [if_pos h, show a / 9223372036854775808 = -1 by omega, and_m1 b h3 h4]
  · rw [if_neg h, show a / 9223372036854775808 = 0 by omega, and_z]

set_option maxRecDepth 100000 in
set_option maxHeartbeats 2000000 in
theorem pnumber_of (v : Int) (w : World) (h1 : -9223372036854775808 ≤ v) (h2 : v ≤ 9223372036854775807) :
    Calls Try.prog 43 #[.int .i64 v] w fun e w' => e = .returned (numV v) ∧ Below w.heap.size w w' := by
  go_enter Try.func43, Try.ntmps43
  go_wp2
  refine bodyPost_ret (v := .agg #[.int .i64 (v / 9223372036854775808), .int .u64 (IntKind.u64.wrap v)]) (by simp [results, Try.results43, go_sem]) rfl ⟨congrArg Ending.returned (numV_mk (by omega) (IntKind.wrap_u64 v)), ?_⟩
  exact (Below.refl _ _).alloc (Nat.le_refl _) _

set_option maxRecDepth 100000 in
set_option maxHeartbeats 2000000 in
theorem psum (a b : Int) (w : World) (h1 : -9223372036854775808 ≤ a) (h2 : a ≤ 9223372036854775807) (h3 : -9223372036854775808 ≤ b) (h4 : b ≤ 9223372036854775807) :
    Calls Try.prog 99 #[.int .i64 a, .int .i64 b] w fun e w' => e = .returned (numV (a + b)) ∧ Below w.heap.size w w' := by
  have A := add64
  go_enter Try.func99, Try.ntmps99
  go_wp2
  clear A
  refine bodyPost_ret (v := .agg #[.int .i64 (wrap64 (a / 9223372036854775808 + b / 9223372036854775808 + wrap64 ((IntKind.u64.wrap a + IntKind.u64.wrap b) / 18446744073709551616))), .int .u64 ((IntKind.u64.wrap a + IntKind.u64.wrap b) % 18446744073709551616)]) (by simp [results, Try.results99, go_sem]) rfl ⟨congrArg Ending.returned (numV_mk ?_ ?_), ?_⟩
  · rw [IntKind.wrap_u64, IntKind.wrap_u64]; unfold wrap64
    rcases word_parts a h1 h2 with ⟨a1, a2, a3⟩ | ⟨a1, a2, a3⟩ <;> rcases word_parts b h3 h4 with ⟨b1, b2, b3⟩ | ⟨b1, b2, b3⟩ <;> rw [a2, b2, a3, b3] <;> clear a2 b2 a3 b3 <;> omega
  · rw [IntKind.wrap_u64, IntKind.wrap_u64]; omega
  · exact (Below.refl _ _).alloc (Nat.le_refl _) _

set_option maxRecDepth 100000 in
set_option maxHeartbeats 2000000 in
theorem pdifference (a b : Int) (w : World) (h1 : -9223372036854775808 ≤ a) (h2 : a ≤ 9223372036854775807) (h3 : -9223372036854775808 ≤ b) (h4 : b ≤ 9223372036854775807) :
    Calls Try.prog 52 #[.int .i64 a, .int .i64 b] w fun e w' => e = .returned (numV (a - b)) ∧ Below w.heap.size w w' := by
  have A := fun (x y : Int) (hx : 0 ≤ x) (hy : 0 ≤ y) (w : World) (h : y < 18446744073709551616) => sub64 x y hx hy h w
  have u1 : IntKind.u64.wrap b < 18446744073709551616 := by rw [IntKind.wrap_u64]; omega
  go_enter Try.func52, Try.ntmps52
  go_wp2
  clear A
  refine bodyPost_ret (v := .agg #[.int .i64 (wrap64 (a / 9223372036854775808 - b / 9223372036854775808 - wrap64 (bor (IntKind.u64.wrap a) (IntKind.u64.wrap b)))), .int .u64 ((IntKind.u64.wrap a - IntKind.u64.wrap b) % 18446744073709551616)]) (by simp [results, Try.results52, go_sem]) rfl ⟨congrArg Ending.returned (numV_mk ?_ ?_), ?_⟩
  · clear u1
    rw [IntKind.wrap_u64, IntKind.wrap_u64]; unfold wrap64 bor
    rcases word_parts a h1 h2 with ⟨a1, a2, a3⟩ | ⟨a1, a2, a3⟩ <;> rcases word_parts b h3 h4 with ⟨b1, b2, b3⟩ | ⟨b1, b2, b3⟩ <;> rw [a2, b2, a3, b3] <;> clear a2 b2 a3 b3 <;> split <;> omega
  · clear u1
    rw [IntKind.wrap_u64, IntKind.wrap_u64]; omega
  · exact (Below.refl _ _).alloc (Nat.le_refl _) _

end Go.Proofs.Ytomjcpgjlhencaa

/- The contract of the reference function compared of layer 4. -/
namespace Go.Proofs.Ytomjcpgjlhencaa
open Go.RowKit
attribute [local go_sem] World.setCell_self

/-- Two ranges that came in, and the result's range. -/
structure TwoIn (w wx : World) (a b c d : Int) : Prop where
  a0 : wx.cell? ⟨w.heap.size, 0, none⟩ = some (.int .i64 a)
  a1 : wx.cell? ⟨w.heap.size, 1, none⟩ = some (.int .i64 b)
  b0 : wx.cell? ⟨w.heap.size + 1, 0, none⟩ = some (.int .i64 c)
  b1 : wx.cell? ⟨w.heap.size + 1, 1, none⟩ = some (.int .i64 d)
  r0 : wx.cell? ⟨w.heap.size + 1 + 1, 0, none⟩ = some (.int .i64 0)
  r1 : wx.cell? ⟨w.heap.size + 1 + 1, 1, none⟩ = some (.int .i64 0)
  f0 : wx.frozen? ⟨w.heap.size + 1 + 1, 0, none⟩ = false
  f1 : wx.frozen? ⟨w.heap.size + 1 + 1, 1, none⟩ = false
  s0 : w.heap.size < wx.heap.size
  s1 : w.heap.size + 1 < wx.heap.size
  s2 : w.heap.size + 1 + 1 < wx.heap.size
  bl : Below w.heap.size w wx

theorem TwoIn.later {w wx wy : World} {a b c d : Int} (h : TwoIn w wx a b c d) (hb : Below wx.heap.size wx wy) : TwoIn w wy a b c d :=
  ⟨cell_later hb h.a0, cell_later hb h.a1, cell_later hb h.b0, cell_later hb h.b1, cell_later hb h.r0, cell_later hb h.r1, keepFr hb h.s2 h.f0, keepFr hb h.s2 h.f1, Nat.lt_of_lt_of_le h.s0 hb.size, Nat.lt_of_lt_of_le h.s1 hb.size, Nat.lt_of_lt_of_le h.s2 hb.size, h.bl.trans (hb.mono (Nat.le_of_lt h.s0))⟩
theorem twoIn (w : World) (a b c d : Int) : TwoIn w (((w.alloc (.cells #[.int .i64 a, .int .i64 b] 23)).alloc (.cells #[.int .i64 c, .int .i64 d] 23)).alloc (.cells #[.int .i64 0, .int .i64 0] 23)) a b c d :=
  ⟨by go_simp, by go_simp, by go_simp, by go_simp, by go_simp, by go_simp, by go_simp, by go_simp, by (simp; try omega), by (simp; try omega), by (simp; try omega), (((Below.refl _ _).alloc (Nat.le_refl _) _).alloc (by simp) _).alloc (by simp; omega) _⟩

def truthS (p q : Bool) : Int × Int := (if p then 1 else 0, if p then 1 else if q then 0 else 1)
theorem truth_S (p q : Bool) (w : World) : Calls Try.prog 66 #[.bool p, .bool q] w fun e w' => e = .returned (.agg #[.int .i64 (truthS p q).1, .int .i64 (truthS p q).2]) ∧ Below w.heap.size w w' := truth_any p q w

set_option maxRecDepth 100000 in
set_option maxHeartbeats 1000000 in
theorem compared_13 (a b c d : Int) (w : World) :
    Calls Try.prog 41 #[.int .i64 13, .agg #[.int .i64 a, .int .i64 b], .agg #[.int .i64 c, .int .i64 d]] w fun e w' => e = .returned (.agg #[.int .i64 (truthS (decide (b < c)) (decide (d ≤ a))).1, .int .i64 (truthS (decide (b < c)) (decide (d ≤ a))).2]) ∧ Below w.heap.size w w' := by
  have T := fun w => Lib.hid (truth_S (decide (b < c)) (decide (d ≤ a)) w)
  generalize (truthS (decide (b < c)) (decide (d ≤ a))).1 = x at *
  generalize (truthS (decide (b < c)) (decide (d ≤ a))).2 = y at *
  go_enter Try.func41, Try.ntmps41
  go_wp2_with fail
  refine (T _).out.mono ?_
  rintro e w1 ⟨rfl, hB⟩
  obtain ⟨a0, a1, b0, b1, r0, r1, f0, f1, s0, s1, s2, bl⟩ := (twoIn w a b c d).later hB
  clear hB
  go_wp2
  refine bodyPost_ret (v := .agg #[.int .i64 x, .int .i64 y]) (by simp [results, Try.results41, go_sem, *]) rfl ⟨rfl, (bl.setCell (by simp; omega) _).setCell (by simp; omega) _⟩

set_option maxRecDepth 100000 in
set_option maxHeartbeats 1000000 in
theorem compared_14 (a b c d : Int) (w : World) :
    Calls Try.prog 41 #[.int .i64 14, .agg #[.int .i64 a, .int .i64 b], .agg #[.int .i64 c, .int .i64 d]] w fun e w' => e = .returned (.agg #[.int .i64 (truthS (decide (b ≤ c)) (decide (d < a))).1, .int .i64 (truthS (decide (b ≤ c)) (decide (d < a))).2]) ∧ Below w.heap.size w w' := by
  have T := fun w => Lib.hid (truth_S (decide (b ≤ c)) (decide (d < a)) w)
  generalize (truthS (decide (b ≤ c)) (decide (d < a))).1 = x at *
  generalize (truthS (decide (b ≤ c)) (decide (d < a))).2 = y at *
  go_enter Try.func41, Try.ntmps41
  go_wp2_with fail
  refine (T _).out.mono ?_
  rintro e w1 ⟨rfl, hB⟩
  obtain ⟨a0, a1, b0, b1, r0, r1, f0, f1, s0, s1, s2, bl⟩ := (twoIn w a b c d).later hB
  clear hB
  go_wp2
  refine bodyPost_ret (v := .agg #[.int .i64 x, .int .i64 y]) (by simp [results, Try.results41, go_sem, *]) rfl ⟨rfl, (bl.setCell (by simp; omega) _).setCell (by simp; omega) _⟩

set_option maxRecDepth 100000 in
set_option maxHeartbeats 1000000 in
theorem compared_15 (a b c d : Int) (w : World) :
    Calls Try.prog 41 #[.int .i64 15, .agg #[.int .i64 a, .int .i64 b], .agg #[.int .i64 c, .int .i64 d]] w fun e w' => e = .returned (.agg #[.int .i64 (truthS (decide (d < a)) (decide (b ≤ c))).1, .int .i64 (truthS (decide (d < a)) (decide (b ≤ c))).2]) ∧ Below w.heap.size w w' := by
  have T := fun w => Lib.hid (truth_S (decide (d < a)) (decide (b ≤ c)) w)
  generalize (truthS (decide (d < a)) (decide (b ≤ c))).1 = x at *
  generalize (truthS (decide (d < a)) (decide (b ≤ c))).2 = y at *
  go_enter Try.func41, Try.ntmps41
  go_wp2_with fail
  refine (T _).out.mono ?_
  rintro e w1 ⟨rfl, hB⟩
  obtain ⟨a0, a1, b0, b1, r0, r1, f0, f1, s0, s1, s2, bl⟩ := (twoIn w a b c d).later hB
  clear hB
  go_wp2
  refine bodyPost_ret (v := .agg #[.int .i64 x, .int .i64 y]) (by simp [results, Try.results41, go_sem, *]) rfl ⟨rfl, (bl.setCell (by simp; omega) _).setCell (by simp; omega) _⟩

set_option maxRecDepth 100000 in
set_option maxHeartbeats 1000000 in
theorem compared_16 (a b c d : Int) (w : World) :
    Calls Try.prog 41 #[.int .i64 16, .agg #[.int .i64 a, .int .i64 b], .agg #[.int .i64 c, .int .i64 d]] w fun e w' => e = .returned (.agg #[.int .i64 (truthS (decide (d ≤ a)) (decide (b < c))).1, .int .i64 (truthS (decide (d ≤ a)) (decide (b < c))).2]) ∧ Below w.heap.size w w' := by
  have T := fun w => Lib.hid (truth_S (decide (d ≤ a)) (decide (b < c)) w)
  generalize (truthS (decide (d ≤ a)) (decide (b < c))).1 = x at *
  generalize (truthS (decide (d ≤ a)) (decide (b < c))).2 = y at *
  go_enter Try.func41, Try.ntmps41
  go_wp2_with fail
  refine (T _).out.mono ?_
  rintro e w1 ⟨rfl, hB⟩
  obtain ⟨a0, a1, b0, b1, r0, r1, f0, f1, s0, s1, s2, bl⟩ := (twoIn w a b c d).later hB
  clear hB
  go_wp2
  refine bodyPost_ret (v := .agg #[.int .i64 x, .int .i64 y]) (by simp [results, Try.results41, go_sem, *]) rfl ⟨rfl, (bl.setCell (by simp; omega) _).setCell (by simp; omega) _⟩

end Go.Proofs.Ytomjcpgjlhencaa

/- The variables of the reference function compared of layer 4. -/
namespace Go.Proofs.Ytomjcpgjlhencaa
open Go.RowKit
attribute [local go_sem] World.setCell_self

/-- What a cell holds, whatever it is. -/
def valAt (w : World) (a : Addr) : Value := (w.cell? a).getD (.int .i64 0)
theorem valAt_some {w : World} {a : Addr} (h : (w.cell? a).isSome = true) : w.cell? a = some (valAt w a) := by
  unfold valAt
  obtain ⟨v, hv⟩ := Option.isSome_iff_exists.1 h
  rw [hv]; rfl

/-- As TwoIn, whatever the result's range holds. -/
structure TwoAny (w wx : World) (a b c d : Int) : Prop where
  a0 : wx.cell? ⟨w.heap.size, 0, none⟩ = some (.int .i64 a)
  a1 : wx.cell? ⟨w.heap.size, 1, none⟩ = some (.int .i64 b)
  b0 : wx.cell? ⟨w.heap.size + 1, 0, none⟩ = some (.int .i64 c)
  b1 : wx.cell? ⟨w.heap.size + 1, 1, none⟩ = some (.int .i64 d)
  e0 : (wx.cell? ⟨w.heap.size + 1 + 1, 0, none⟩).isSome = true
  e1 : (wx.cell? ⟨w.heap.size + 1 + 1, 1, none⟩).isSome = true
  f0 : wx.frozen? ⟨w.heap.size + 1 + 1, 0, none⟩ = false
  f1 : wx.frozen? ⟨w.heap.size + 1 + 1, 1, none⟩ = false
  s2 : w.heap.size + 1 + 1 < wx.heap.size
  bl : Below w.heap.size w wx
theorem some_later {w wx : World} {a : Addr} (hb : Below w.heap.size w wx) (h : (w.cell? a).isSome = true) : (wx.cell? a).isSome = true := by
  obtain ⟨v, hv⟩ := Option.isSome_iff_exists.1 h
  rw [cell_later hb hv]; rfl
theorem TwoAny.later {w wx wy : World} {a b c d : Int} (h : TwoAny w wx a b c d) (hb : Below wx.heap.size wx wy) : TwoAny w wy a b c d :=
  ⟨cell_later hb h.a0, cell_later hb h.a1, cell_later hb h.b0, cell_later hb h.b1, some_later hb h.e0, some_later hb h.e1, keepFr hb h.s2 h.f0, keepFr hb h.s2 h.f1, Nat.lt_of_lt_of_le h.s2 hb.size, h.bl.trans (hb.mono (by have := h.s2; omega))⟩
theorem TwoIn.any {w wx : World} {a b c d : Int} (h : TwoIn w wx a b c d) : TwoAny w wx a b c d := ⟨h.a0, h.a1, h.b0, h.b1, by rw [h.r0]; rfl, by rw [h.r1]; rfl, h.f0, h.f1, h.s2, h.bl⟩
theorem TwoAny.set {w wx : World} {a b c d : Int} (h : TwoAny w wx a b c d) (x y : Int) : TwoAny w ((wx.setCell ⟨w.heap.size + 1 + 1, 0, none⟩ (.int .i64 x)).setCell ⟨w.heap.size + 1 + 1, 1, none⟩ (.int .i64 y)) a b c d := by
  obtain ⟨a0, a1, b0, b1, e0, e1, f0, f1, s2, bl⟩ := h
  have e0 := valAt_some e0
  have e1 := valAt_some e1
  generalize valAt wx ⟨w.heap.size + 1 + 1, 0, none⟩ = z0 at *
  generalize valAt wx ⟨w.heap.size + 1 + 1, 1, none⟩ = z1 at *
  exact ⟨by go_simp, by go_simp, by go_simp, by go_simp, by go_simp, by go_simp, by go_simp, by go_simp, by simpa [World.setCell] using s2, (bl.setCell (by simp; omega) _).setCell (by simp; omega) _⟩
/-- The limbs that the walk names. -/
theorem TwoAny.limbs {w wx : World} {a b c d : Int} (h : TwoAny w wx a b c d) : wx.cell? ⟨w.heap.size, 0, none⟩ = some (.int .i64 a) ∧ wx.cell? ⟨w.heap.size, 1, none⟩ = some (.int .i64 b) ∧ wx.cell? ⟨w.heap.size + 1, 0, none⟩ = some (.int .i64 c) ∧ wx.cell? ⟨w.heap.size + 1, 1, none⟩ = some (.int .i64 d) ∧ wx.cell? ⟨w.heap.size + 1 + 1, 0, none⟩ = some (valAt wx ⟨w.heap.size + 1 + 1, 0, none⟩) ∧ wx.cell? ⟨w.heap.size + 1 + 1, 1, none⟩ = some (valAt wx ⟨w.heap.size + 1 + 1, 1, none⟩) ∧ wx.frozen? ⟨w.heap.size + 1 + 1, 0, none⟩ = false ∧ wx.frozen? ⟨w.heap.size + 1 + 1, 1, none⟩ = false ∧ TwoAny w wx a b c d :=
  ⟨h.a0, h.a1, h.b0, h.b1, valAt_some h.e0, valAt_some h.e1, h.f0, h.f1, h⟩

end Go.Proofs.Ytomjcpgjlhencaa

/- What a region that draws its order keeps: cells that are read, cells that are written, and all below. -/
namespace Go.Proofs.Ytomjcpgjlhencaa
open Go.RowKit

/-- The cells in fix hold their values; the cells in var are there and may be written; all lie in blocks that there are; below B all is as in w0. -/
structure Keeps (B : Nat) (fix : List (Nat × Nat × Value)) (var : List (Nat × Nat)) (w0 w : World) : Prop where
  fixed : ∀ p ∈ fix, w.cell? ⟨p.1, p.2.1, none⟩ = some p.2.2
  there : ∀ a ∈ var, w.cell? ⟨a.1, a.2, none⟩ = some (valAt w ⟨a.1, a.2, none⟩)
  froz : ∀ a ∈ var, w.frozen? ⟨a.1, a.2, none⟩ = false
  lt : ∀ a ∈ var, a.1 < w.heap.size
  base : B ≤ w.heap.size
  bl : Below B w0 w

theorem Keeps.later {B : Nat} {fix : List (Nat × Nat × Value)} {var : List (Nat × Nat)} {w0 w w' : World} (h : Keeps B fix var w0 w) (hb : Below w.heap.size w w') : Keeps B fix var w0 w' := by
  obtain ⟨h1, h2, h3, h4, h5, h6⟩ := h
  refine ⟨fun p hp => cell_later hb (h1 p hp), fun a ha => ?_, fun a ha => ?_, fun a ha => Nat.lt_of_lt_of_le (h4 a ha) hb.size, Nat.le_trans h5 hb.size, h6.trans (hb.mono h5)⟩
  · exact valAt_some (by rw [cell_later hb (h2 a ha)]; rfl)
  · rw [hb.frozen (p := ⟨a.1, a.2, none⟩) (h4 a ha)]; exact h3 a ha

/-- A store into one of the cells that may be written. -/
theorem Keeps.set {B : Nat} {fix : List (Nat × Nat × Value)} {var : List (Nat × Nat)} {w0 w : World} (h : Keeps B fix var w0 w) (g i : Nat) (v : Value) (hm : (g, i) ∈ var) (hB : B ≤ g) (hf : ∀ p ∈ fix, ¬ p.1 = g) : Keeps B fix var w0 (w.setCell ⟨g, i, none⟩ v) := by
  obtain ⟨h1, h2, h3, h4, h5, h6⟩ := h
  have hg := h2 _ hm
  generalize valAt w ⟨g, i, none⟩ = z at hg
  refine ⟨fun p hp => ?_, fun a ha => ?_, fun a ha => ?_, fun a ha => by simpa [World.setCell] using h4 a ha, by simpa [World.setCell] using h5, h6.setCell hB _⟩
  · have := hf p hp
    rw [World.cell?_setCell_far _ _ _ _ (by simpa using fun e => this e.symm)]; exact h1 p hp
  · apply valAt_some
    obtain ⟨v', hv'⟩ := cell?_setCell_some (w := w) (p := ⟨g, i, none⟩) (x := v) (q := ⟨a.1, a.2, none⟩) (h2 a ha)
    rw [hv']; rfl
  · have := h3 a ha
    go_simp

end Go.Proofs.Ytomjcpgjlhencaa
