/- LawDone3, RefL, LawDone4, RefM, RefN, LawAssume. -/
import Derived.Test.YtomjcpgjlhencaaKRefIToRangesD
import Derived.Test.YtomjcpgjlhencaaKLawDone2
import Derived.IntWalk
import Derived.Deep.QuietTactic
import Derived.BigQuiet
import Derived.Test.YtomjcpgjlhencaaKRefC
import Derived.LoopTactic
import Derived.Test.YtomjcpgjlhencaaKShown
import Derived.Test.YtomjcpgjlhencaaKRefB
set_option linter.unusedSimpArgs false
set_option linter.unusedVariables false
/- The contract of the laws' own helper done of layer 4: comparisons, and the whole. -/
namespace Go.Proofs.Ytomjcpgjlhencaa
open Go.RowKit

set_option maxRecDepth 100000 in
set_option maxHeartbeats 1000000 in
theorem done_cmp (op k v w0 : Int) (w : World) (p : Bool) (n : Int) (hn : ∀ w, Hid (Calls Try.prog 49 #[.bool p] w fun e w' => e = .returned (.int .i64 n) ∧ w = w'))
    (hh : ∀ w, Hid (Calls Try.prog 30 #[.int .i64 op, .int .i64 v, .int .i64 w0] w fun e w' => e = .returned (.bool p) ∧ w = w'))
    (ho : op = 11 ∨ op = 12 ∨ op = 13 ∨ op = 14 ∨ op = 15 ∨ op = 16) : DoneAt op k v w0 n false false w := by
  unfold DoneAt
  rcases ho with rfl | rfl | rfl | rfl | rfl | rfl
  all_goals
    by_cases hk : k = 2
    all_goals
      go_enter Try.func28, Try.ntmps28
      go_wp2_with (first | (go_at_call 30; refine (hh _).out.mono ?_; rintro e w' ⟨rfl, rfl⟩) | (go_at_call 49; refine (hn _).out.mono ?_; rintro e w' ⟨rfl, rfl⟩))
      refine bodyPost_ret (v := .agg #[.int .i64 n, .bool false, .bool false]) (by simp [results, Try.results28, go_sem]) rfl ⟨rfl, ?_⟩
      exact (((Below.refl _ _).alloc (Nat.le_refl _) _).alloc (by simp) _)

end Go.Proofs.Ytomjcpgjlhencaa

/- The contracts of the reference functions sum, difference and product of layer 4: the wrapped number, and whether the true one is not of 64 bits. -/
namespace Go.Proofs.Ytomjcpgjlhencaa
open Go.RowKit

/-- A number that is not of 64 bits. -/
def out64 (n : Int) : Bool := decide (n < -9223372036854775808 ∨ 9223372036854775807 < n)
structure In64 (a : Int) : Prop where
  lo : -9223372036854775808 ≤ a
  hi : a ≤ 9223372036854775807

theorem sign3 (a : Int) : 0 < a ∨ (decide (0 < a) = false ∧ decide (a < 0) = false) ∨ a < 0 := by simp; omega
theorem sign2 (a : Int) : a < 0 ∨ 0 ≤ a := by omega

theorem out_sum (a b : Int) (r : Bool) (ha : In64 a) (hb : In64 b) (h : r = true ↔ (0 < a ∧ 0 < b ∧ wrap64 (a + b) < 0 ∨ a < 0 ∧ b < 0 ∧ 0 ≤ wrap64 (a + b))) : r = out64 (a + b) := by
  rw [Bool.eq_iff_iff, h, out64, decide_eq_true_eq]
  unfold wrap64
  have := ha.lo; have := ha.hi; have := hb.lo; have := hb.hi
  omega

theorem out_diff (a b : Int) (r : Bool) (ha : In64 a) (hb : In64 b) (h : r = true ↔ (0 ≤ a ∧ b < 0 ∧ wrap64 (a - b) < 0 ∨ a < 0 ∧ 0 < b ∧ 0 ≤ wrap64 (a - b))) : r = out64 (a - b) := by
  rw [Bool.eq_iff_iff, h, out64, decide_eq_true_eq]
  unfold wrap64
  have := ha.lo; have := ha.hi; have := hb.lo; have := hb.hi
  omega

def OverPost (n : Int) (P : Prop) (w : World) (e : Ending) (w' : World) : Prop := (∃ r : Bool, e = .returned (.tuple #[.int .i64 n, .bool r]) ∧ (r = true ↔ P)) ∧ w = w'

set_option maxHeartbeats 2000000 in
theorem sum_walk (a b : Int) (w : World) :
    Calls Try.prog 53 #[.int .i64 a, .int .i64 b] w (OverPost (wrap64 (a + b)) (0 < a ∧ 0 < b ∧ wrap64 (a + b) < 0 ∨ a < 0 ∧ b < 0 ∧ 0 ≤ wrap64 (a + b)) w) := by
  rcases sign3 a with h1 | ⟨h1, h1'⟩ | h1 <;> rcases sign3 b with h2 | ⟨h2, h2'⟩ | h2
  all_goals
    go_enter Try.func53, Try.ntmps53
    go_wp2
    all_goals
      go_ret2
      refine ⟨⟨_, rfl, ?_⟩, rfl⟩
      first | (simp; done) | (simp; omega) | (simp at *; omega)

theorem sum_any (a b : Int) (w : World) (ha : In64 a) (hb : In64 b) :
    Calls Try.prog 53 #[.int .i64 a, .int .i64 b] w fun e w' => e = .returned (.tuple #[.int .i64 (wrap64 (a + b)), .bool (out64 (a + b))]) ∧ w = w' :=
  (sum_walk a b w).mono fun _ _ ⟨⟨r, he, hr⟩, hw⟩ => ⟨by rw [he, out_sum a b r ha hb hr], hw⟩

set_option maxHeartbeats 2000000 in
theorem difference_walk (a b : Int) (w : World) :
    Calls Try.prog 54 #[.int .i64 a, .int .i64 b] w (OverPost (wrap64 (a - b)) (0 ≤ a ∧ b < 0 ∧ wrap64 (a - b) < 0 ∨ a < 0 ∧ 0 < b ∧ 0 ≤ wrap64 (a - b)) w) := by
  rcases sign2 a with h1 | h1 <;> rcases sign3 b with h2 | ⟨h2, h2'⟩ | h2
  all_goals
    go_enter Try.func54, Try.ntmps54
    go_wp2
    all_goals
      go_ret2
      refine ⟨⟨_, rfl, ?_⟩, rfl⟩
      first | (simp; done) | (simp; omega) | (simp at *; omega)

theorem difference_any (a b : Int) (w : World) (ha : In64 a) (hb : In64 b) :
    Calls Try.prog 54 #[.int .i64 a, .int .i64 b] w fun e w' => e = .returned (.tuple #[.int .i64 (wrap64 (a - b)), .bool (out64 (a - b))]) ∧ w = w' :=
  (difference_walk a b w).mono fun _ _ ⟨⟨r, he, hr⟩, hw⟩ => ⟨by rw [he, out_diff a b r ha hb hr], hw⟩

set_option maxHeartbeats 1000000 in
theorem product_zero (a b : Int) (w : World) (h : a = 0 ∨ b = 0) :
    Calls Try.prog 55 #[.int .i64 a, .int .i64 b] w fun e w' => e = .returned (.tuple #[.int .i64 0, .bool false]) ∧ w = w' := by
  by_cases h1 : a = 0
  · subst h1
    go_enter Try.func55, Try.ntmps55
    go_wp2
    go_ret2
    exact ⟨rfl, rfl⟩
  · have h2 : b = 0 := by omega
    subst h2
    have h1' : (a == 0) = false := by simpa using h1
    clear h1 h
    go_enter Try.func55, Try.ntmps55
    go_wp2
    go_ret2
    exact ⟨rfl, rfl⟩

set_option maxHeartbeats 1000000 in
theorem product_one (a b : Int) (w : World) (ha : (a == 0) = false) (hb : (b == 0) = false) (h : (a == -1) = true ∨ ((a == -1) = false ∧ (b == -1) = true)) :
    Calls Try.prog 55 #[.int .i64 a, .int .i64 b] w (OverPost (wrap64 (a * b)) (a = -9223372036854775808 ∨ b = -9223372036854775808) w) := by
  rcases h with h | ⟨h, h'⟩
  all_goals
    go_enter Try.func55, Try.ntmps55
    go_wp2
    · have hx : a = -9223372036854775808 := by assumption
      subst hx
      go_ret2
      exact ⟨⟨true, rfl, by simp⟩, rfl⟩
    · go_ret2
      exact ⟨⟨_, rfl, by simp⟩, rfl⟩

set_option maxHeartbeats 1000000 in
theorem product_walk (a b : Int) (w : World) (hb' : ¬ b = 0) (ha : (a == 0) = false) (hb : (b == 0) = false) (h1 : (a == -1) = false) (h2 : (b == -1) = false) :
    Calls Try.prog 55 #[.int .i64 a, .int .i64 b] w (fun e w' => e = .returned (.tuple #[.int .i64 (wrap64 (a * b)), .bool (wrap64 ((wrap64 (a * b)).tdiv b) != a)]) ∧ w' = w.drew) := by
  go_enter Try.func55, Try.ntmps55
  go_wp2
  go_region
  go_wp2
  go_ret2
  exact ⟨rfl, rfl⟩

theorem tdiv_mul_near (n b : Int) (hb : b ≠ 0) : n - (n.tdiv b) * b < b.natAbs ∧ -(b.natAbs : Int) < n - (n.tdiv b) * b := by
  have h := Int.tmod_add_mul_tdiv n b
  have h1 : n - n.tdiv b * b = n.tmod b := by rw [Int.mul_comm]; omega
  rw [h1]
  have h2 : (n.tmod b).natAbs < b.natAbs := by rw [Int.natAbs_tmod]; exact Nat.mod_lt _ (by omega)
  omega

theorem wrap64_cong (n : Int) : ∃ m : Int, wrap64 n = n + m * 18446744073709551616 := by
  unfold wrap64
  refine ⟨-((n + 9223372036854775808) / 18446744073709551616), ?_⟩
  have := Int.emod_add_mul_ediv (n + 9223372036854775808) 18446744073709551616
  omega
theorem wrap64_same (n : Int) (h : -9223372036854775808 ≤ n ∧ n ≤ 9223372036854775807) : wrap64 n = n := by unfold wrap64; omega
theorem wrap64_range (n : Int) : -9223372036854775808 ≤ wrap64 n ∧ wrap64 n ≤ 9223372036854775807 := by
  unfold wrap64; omega

theorem tdiv_range (n b : Int) (hn : In64 n) (hb : b ≠ 0) (hb1 : b ≠ -1) : In64 (n.tdiv b) := by
  have h : (n.tdiv b).natAbs = n.natAbs / b.natAbs := Int.natAbs_tdiv n b
  by_cases h1 : b = 1
  · subst h1; simpa using hn
  · have h2 : 2 ≤ b.natAbs := by omega
    have h4 : n.natAbs / b.natAbs ≤ n.natAbs / 2 := Nat.div_le_div_left h2 (by omega)
    have := hn.lo; have := hn.hi
    exact ⟨by omega, by omega⟩

theorem out_mul (a b : Int) (hb : In64 b) (hb0 : b ≠ 0) (hb1 : b ≠ -1) : (wrap64 ((wrap64 (a * b)).tdiv b) != a) = out64 (a * b) := by
  have hr := wrap64_range (a * b)
  have hw := tdiv_range (wrap64 (a * b)) b ⟨hr.1, hr.2⟩ hb0 hb1
  rw [wrap64_same _ ⟨hw.lo, hw.hi⟩]
  by_cases h : -9223372036854775808 ≤ a * b ∧ a * b ≤ 9223372036854775807
  · rw [wrap64_same _ h, Int.mul_tdiv_cancel _ hb0]
    simp [out64]; omega
  · have h1 : out64 (a * b) = true := by simp [out64]; omega
    rw [h1, bne_iff_ne]
    intro he
    obtain ⟨m, hm⟩ := wrap64_cong (a * b)
    have hn := tdiv_mul_near (wrap64 (a * b)) b hb0
    rw [he, hm] at hn
    have hm0 : m ≠ 0 := by
      rintro rfl
      rw [Int.zero_mul, Int.add_zero] at hm
      rw [hm] at hr
      exact h hr
    have := hb.lo; have := hb.hi
    have e : a * b + m * 18446744073709551616 - a * b = m * 18446744073709551616 := by omega
    rw [e] at hn
    omega

theorem product_any (a b : Int) (w : World) (ha : In64 a) (hb : In64 b) :
    Calls Try.prog 55 #[.int .i64 a, .int .i64 b] w fun e w' => e = .returned (.tuple #[.int .i64 (wrap64 (a * b)), .bool (out64 (a * b))]) ∧ Below w.heap.size w w' := by
  by_cases h0 : a = 0 ∨ b = 0
  · have hz : a * b = 0 := by rcases h0 with rfl | rfl <;> simp
    rw [hz]
    exact (product_zero a b w h0).mono fun _ _ ⟨he, hw⟩ => ⟨by rw [he, wrap64_same 0 (by omega), show out64 0 = false from by simp [out64]], hw ▸ Below.refl _ _⟩
  · have hb0 : b ≠ 0 := fun h => h0 (.inr h)
    have ha' : (a == 0) = false := by simp; exact fun h => h0 (.inl h)
    have hb' : (b == 0) = false := by simpa using hb0
    by_cases h1 : a = -1 ∨ b = -1
    · refine (product_one a b w ha' hb' ?_).mono fun _ _ ⟨⟨r, he, hr⟩, hw⟩ => ⟨?_, hw ▸ Below.refl _ _⟩
      · rcases h1 with h | h
        · exact .inl (by simpa using h)
        · by_cases h2 : a = -1
          · exact .inl (by simpa using h2)
          · exact .inr ⟨by simpa using h2, by simpa using h⟩
      · rw [he]
        have : r = out64 (a * b) := by
          rw [Bool.eq_iff_iff, hr, out64, decide_eq_true_eq]
          have := ha.lo; have := ha.hi; have := hb.lo; have := hb.hi
          rcases h1 with rfl | rfl <;> omega
        rw [this]
    · have hb1 : b ≠ -1 := fun h => h1 (.inr h)
      refine (product_walk a b w hb0 ha' hb' (by simp; exact fun h => h1 (.inl h)) (by simpa using hb1)).mono fun _ _ ⟨he, hw⟩ => ⟨?_, hw ▸ (Below.refl _ _).drew⟩
      rw [he, out_mul a b hb hb0 hb1]

end Go.Proofs.Ytomjcpgjlhencaa

/- The contract of the laws' own helper done of layer 4, for all operators of a kind. -/
namespace Go.Proofs.Ytomjcpgjlhencaa
open Go.RowKit RangesMath

theorem low8_eq (x : Int) : bits .and .i64 x 255 = x % 256 := by
  show IntKind.i64.wrap ((BitVec.ofInt 64 x &&& BitVec.ofInt 64 255).toNat : Int) = _
  rw [BitVec.toNat_and]
  have e : (BitVec.ofInt 64 255).toNat = 2 ^ 8 - 1 := by decide
  rw [e, Nat.and_two_pow_sub_one_eq_mod, BitVec.toNat_ofInt, IntKind.wrap_i64]
  omega

theorem low_big {k : Int} (h : (k == 2) = false) (x : Int) : low k x = x := by
  unfold low; rw [if_neg (by simpa using h)]
theorem low_sml {k : Int} (h : (k == 2) = true) (x : Int) : low k x = bits .and .i64 x 255 := by
  unfold low; rw [if_pos (by simpa using h), low8_eq]

theorem shift_amount (w0 : Int) (h1 : 0 ≤ w0) (h2 : w0 < 64) : min (IntKind.u64.wrap w0).toNat 64 = w0.toNat := by
  rw [IntKind.wrap_u64]; omega

/-- What done makes of two values, the number told where the pair neither traps nor is undefined. -/
def DoneIs (op k v w0 : Int) (w : World) : Prop := ∃ n : Int, DoneAt op k v w0 n (trapV op w0) (undefV op k v w0) w ∧ (trapV op w0 = false → undefV op k v w0 = false → n = doneV op k v w0)

theorem doneIs (op k v w0 n : Int) (t u : Bool) (w : World) (h : DoneAt op k v w0 n t u w) (ht : trapV op w0 = t) (hu : undefV op k v w0 = u) (hn : t = false → u = false → n = doneV op k v w0) : DoneIs op k v w0 w := by
  subst ht hu
  exact ⟨n, h, hn⟩

theorem two (k : Int) : (k == 2) = true ∨ (k == 2) = false := by cases (k == 2) <;> simp

theorem done_shift (k v w0 : Int) (w : World) : DoneIs 6 k v w0 w ∧ DoneIs 7 k v w0 w := by
  have ht : trapV 6 w0 = false ∧ trapV 7 w0 = false := by simp [trapV]
  rcases two k with hk | hk
  · have htop : top k = 7 := by simp at hk; simp [top, hk]
    have hu : ∀ b, (decide (w0 < 0) || decide (7 < w0)) = b → undefV 6 k v w0 = b ∧ undefV 7 k v w0 = b := fun b hb => by simp only [undefV, htop]; exact ⟨hb, hb⟩
    by_cases h1 : w0 < 0
    · have hb := hu true (by simp [h1])
      exact ⟨doneIs _ _ _ _ _ _ _ _ (done_shl_undef1_small k v w0 w hk (by simpa using h1)) ht.1 hb.1 (by simp), doneIs _ _ _ _ _ _ _ _ (done_shr_undef1_small k v w0 w hk (by simpa using h1)) ht.2 hb.2 (by simp)⟩
    · have h1' : decide (w0 < 0) = false := by simpa using h1
      by_cases h2 : 8 ≤ w0
      · have hb := hu true (by simp; omega)
        exact ⟨doneIs _ _ _ _ _ _ _ _ (done_shl_undef2_small k v w0 w hk h1' (by simpa using h2)) ht.1 hb.1 (by simp), doneIs _ _ _ _ _ _ _ _ (done_shr_undef2_small k v w0 w hk h1' (by simpa using h2)) ht.2 hb.2 (by simp)⟩
      · have hb := hu false (by simp; omega)
        have h2' : decide (8 ≤ w0) = false := by simpa using h2
        have e := shift_amount w0 (by omega) (by omega)
        exact ⟨doneIs _ _ _ _ _ _ _ _ (done_shl_small k v w0 w hk h1' h2') ht.1 hb.1 (fun _ _ => by rw [e]; exact (low_sml hk _).symm), doneIs _ _ _ _ _ _ _ _ (done_shr_small k v w0 w hk h1' h2') ht.2 hb.2 (fun _ _ => by rw [e]; exact (low_sml hk _).symm)⟩
  · have htop : top k = 63 := by simp at hk; simp [top, hk]
    have hu : ∀ b, (decide (w0 < 0) || decide (63 < w0)) = b → undefV 6 k v w0 = b ∧ undefV 7 k v w0 = b := fun b hb => by simp only [undefV, htop]; exact ⟨hb, hb⟩
    by_cases h1 : w0 < 0
    · have hb := hu true (by simp [h1])
      exact ⟨doneIs _ _ _ _ _ _ _ _ (done_shl_undef1_big k v w0 w hk (by simpa using h1)) ht.1 hb.1 (by simp), doneIs _ _ _ _ _ _ _ _ (done_shr_undef1_big k v w0 w hk (by simpa using h1)) ht.2 hb.2 (by simp)⟩
    · have h1' : decide (w0 < 0) = false := by simpa using h1
      by_cases h2 : 64 ≤ w0
      · have hb := hu true (by simp; omega)
        exact ⟨doneIs _ _ _ _ _ _ _ _ (done_shl_undef2_big k v w0 w hk h1' (by simpa using h2)) ht.1 hb.1 (by simp), doneIs _ _ _ _ _ _ _ _ (done_shr_undef2_big k v w0 w hk h1' (by simpa using h2)) ht.2 hb.2 (by simp)⟩
      · have hb := hu false (by simp; omega)
        have h2' : decide (64 ≤ w0) = false := by simpa using h2
        have e := shift_amount w0 (by omega) (by omega)
        exact ⟨doneIs _ _ _ _ _ _ _ _ (done_shl_big k v w0 w hk h1' h2') ht.1 hb.1 (fun _ _ => by rw [e]; exact (low_big hk _).symm), doneIs _ _ _ _ _ _ _ _ (done_shr_big k v w0 w hk h1' h2') ht.2 hb.2 (fun _ _ => by rw [e]; exact (low_big hk _).symm)⟩

theorem done_div (k v w0 : Int) (w : World) (hk12 : k = 1 ∨ k = 2) (hv : In64 v) : DoneIs 2 k v w0 w ∧ DoneIs 3 k v w0 w := by
  have v1 := hv.lo
  have v2 := hv.hi
  have ht : ∀ b, (w0 == 0) = b → trapV 2 w0 = b ∧ trapV 3 w0 = b := fun b hb => by simp [trapV, hb]
  have hu : ∀ b, (k == 1 && v == least && w0 == -1) = b → undefV 2 k v w0 = b ∧ undefV 3 k v w0 = b := fun b hb => by simp [undefV, hb]
  have hq : ¬ (v = least ∧ w0 = -1) → wrap64 (v.tdiv w0) = v.tdiv w0 := fun h => by
    have := tdiv_64 v w0 v1 v2 (by unfold least at *; omega)
    exact wrap64_same _ this
  by_cases h0 : w0 = 0
  · subst h0
    have hT := ht true rfl
    have hU := hu false (by simp)
    rcases hk12 with rfl | rfl
    · exact ⟨doneIs _ _ _ _ _ _ _ _ (done_quo_trap_big 1 v 0 w rfl rfl rfl) hT.1 hU.1 (by simp), doneIs _ _ _ _ _ _ _ _ (done_rem_trap_big 1 v 0 w rfl rfl rfl) hT.2 hU.2 (by simp)⟩
    · exact ⟨doneIs _ _ _ _ _ _ _ _ (done_quo_trap_small 2 v 0 w rfl rfl rfl) hT.1 hU.1 (by simp), doneIs _ _ _ _ _ _ _ _ (done_rem_trap_small 2 v 0 w rfl rfl rfl) hT.2 hU.2 (by simp)⟩
  · have h0' : (w0 == 0) = false := by simpa using h0
    have hT := ht false h0'
    rcases hk12 with rfl | rfl
    · by_cases h2 : v = least
      · have h2' : (v == -9223372036854775808) = true := by simpa using h2
        by_cases h3 : w0 = -1
        · have h3' : (w0 == -1) = true := by simpa using h3
          have hU := hu true (by simp [h2, h3])
          exact ⟨doneIs _ _ _ _ _ _ _ _ (done_quo_undef 1 v w0 w rfl h0' rfl h2' h3') hT.1 hU.1 (by simp), doneIs _ _ _ _ _ _ _ _ (done_rem_undef 1 v w0 w rfl h0' rfl h2' h3') hT.2 hU.2 (by simp)⟩
        · have h3' : (w0 == -1) = false := by simpa using h3
          have hU := hu false (by simp [h3])
          exact ⟨doneIs _ _ _ _ _ _ _ _ (done_quo_big2 1 v w0 w rfl h0' h0 rfl h2' h3') hT.1 hU.1 (fun _ _ => hq (by omega)), doneIs _ _ _ _ _ _ _ _ (done_rem_big2 1 v w0 w rfl h0' h0 rfl h2' h3') hT.2 hU.2 (fun _ _ => rfl)⟩
      · have h2' : (v == -9223372036854775808) = false := by simpa using h2
        have hU := hu false (by simp; intro h; exact absurd h h2)
        exact ⟨doneIs _ _ _ _ _ _ _ _ (done_quo_big1 1 v w0 w rfl h0' h0 rfl h2') hT.1 hU.1 (fun _ _ => hq (by omega)), doneIs _ _ _ _ _ _ _ _ (done_rem_big1 1 v w0 w rfl h0' h0 rfl h2') hT.2 hU.2 (fun _ _ => rfl)⟩
    · have hU := hu false rfl
      refine ⟨doneIs _ _ _ _ _ _ _ _ (done_quo_small 2 v w0 w rfl h0' h0 rfl) hT.1 hU.1 (fun _ _ => ?_), doneIs _ _ _ _ _ _ _ _ (done_rem_small 2 v w0 w rfl h0' h0 rfl) hT.2 hU.2 (fun _ _ => by show _ = low 2 (v.tmod w0); exact (low_sml rfl _).symm)⟩
      show bits .and .i64 (wrap64 (v.tdiv w0)) 255 = (v.tdiv w0) % 256
      rw [low8_eq]; unfold wrap64; omega

theorem done_any (op k v w0 : Int) (w : World) (hf : fitsB op k = true) (hv : In64 v) : DoneIs op k v w0 w := by
  simp only [fitsB, decide_eq_true_eq] at hf
  by_cases hc : 11 ≤ op ∧ op ≤ 16
  · have ho : op = 11 ∨ op = 12 ∨ op = 13 ∨ op = 14 ∨ op = 15 ∨ op = 16 := by omega
    refine doneIs _ _ _ _ _ _ _ _ (done_cmp op k v w0 w (holdsS op v w0) (if holdsS op v w0 then 1 else 0) (fun w => Lib.hid (law_number _ w)) (fun w => Lib.hid (holds_any op v w0 w hc.1 hc.2)) ho) (by simp [trapV]; omega) (by unfold undefV; rw [if_neg (by omega), if_neg (by omega)]) (fun _ _ => ?_)
    rcases ho with rfl | rfl | rfl | rfl | rfl | rfl <;> rfl
  · have hu : ∀ op', (op' = 1 ∨ op' = 4 ∨ op' = 5 ∨ op' = 8 ∨ op' = 9 ∨ op' = 10 ∨ op' = 17 ∨ op' = 18) → trapV op' w0 = false ∧ undefV op' k v w0 = false := by
      rintro op' (rfl | rfl | rfl | rfl | rfl | rfl | rfl | rfl) <;> simp [trapV, undefV]
    have gl : ∀ (op' n : Int), (op' = 1 ∨ op' = 4 ∨ op' = 5 ∨ op' = 8 ∨ op' = 9 ∨ op' = 10 ∨ op' = 17 ∨ op' = 18) → DoneAt op' k v w0 n false false w → n = doneV op' k v w0 → DoneIs op' k v w0 w := fun op' n ho hd hn => doneIs _ _ _ _ _ _ _ _ hd (hu op' ho).1 (hu op' ho).2 (fun _ _ => hn)
    obtain rfl | rfl | rfl | rfl | rfl | rfl | rfl | rfl | rfl | rfl | rfl | rfl : op = 1 ∨ op = 2 ∨ op = 3 ∨ op = 4 ∨ op = 5 ∨ op = 6 ∨ op = 7 ∨ op = 8 ∨ op = 9 ∨ op = 10 ∨ op = 17 ∨ op = 18 := by omega
    · rcases two k with hk | hk
      · exact gl 1 _ (by simp) (done_mul_small k v w0 w hk) (low_sml hk _).symm
      · exact gl 1 _ (by simp) (done_mul_big k v w0 w hk) (low_big hk _).symm
    · exact (done_div k v w0 w (by omega) hv).1
    · exact (done_div k v w0 w (by omega) hv).2
    · rcases two k with hk | hk
      · exact gl 4 _ (by simp) (done_add_small k v w0 w hk) (low_sml hk _).symm
      · exact gl 4 _ (by simp) (done_add_big k v w0 w hk) (low_big hk _).symm
    · rcases two k with hk | hk
      · exact gl 5 _ (by simp) (done_sub_small k v w0 w hk) (low_sml hk _).symm
      · exact gl 5 _ (by simp) (done_sub_big k v w0 w hk) (low_big hk _).symm
    · exact (done_shift k v w0 w).1
    · exact (done_shift k v w0 w).2
    · rcases two k with hk | hk
      · exact gl 8 _ (by simp) (done_and_small k v w0 w hk) (low_sml hk _).symm
      · exact gl 8 _ (by simp) (done_and_big k v w0 w hk) (low_big hk _).symm
    · rcases two k with hk | hk
      · exact gl 9 _ (by simp) (done_xor_small k v w0 w hk) (low_sml hk _).symm
      · exact gl 9 _ (by simp) (done_xor_big k v w0 w hk) (low_big hk _).symm
    · rcases two k with hk | hk
      · exact gl 10 _ (by simp) (done_or_small k v w0 w hk) (low_sml hk _).symm
      · exact gl 10 _ (by simp) (done_or_big k v w0 w hk) (low_big hk _).symm
    · rcases two k with hk | hk
      · exact gl 17 _ (by simp) (done_land_small k v w0 w hk) (low_sml hk _).symm
      · exact gl 17 _ (by simp) (done_land_big k v w0 w hk) (low_big hk _).symm
    · have hm : v < w0 ∨ w0 ≤ v := by omega
      rcases two k with hk | hk <;> rcases hm with hm | hm
      · exact gl 18 _ (by simp) (done_lor1_small k v w0 w hk hm) (by show _ = low k (max v w0); rw [Int.max_eq_right (by omega)]; exact (low_sml hk _).symm)
      · exact gl 18 _ (by simp) (done_lor2_small k v w0 w hk hm) (by show _ = low k (max v w0); rw [Int.max_eq_left (by omega)]; exact (low_sml hk _).symm)
      · exact gl 18 _ (by simp) (done_lor1_big k v w0 w hk hm) (by show _ = low k (max v w0); rw [Int.max_eq_right (by omega)]; exact (low_big hk _).symm)
      · exact gl 18 _ (by simp) (done_lor2_big k v w0 w hk hm) (by show _ = low k (max v w0); rw [Int.max_eq_left (by omega)]; exact (low_big hk _).symm)

end Go.Proofs.Ytomjcpgjlhencaa

/- The contracts of the reference functions shifted and add (of span) of layer 4. -/
namespace Go.Proofs.Ytomjcpgjlhencaa
open Go.RowKit

theorem out_step (x m : Int) (h : out64 x = false → m = x) : (out64 x || out64 (m + m)) = out64 (x * 2) := by
  cases hx : out64 x
  · rw [h hx, show x + x = x * 2 from by omega]; rfl
  · simp [out64] at hx ⊢; omega

theorem double_same (x m : Int) (h : out64 x = false → m = x) (h2 : out64 (x * 2) = false) : wrap64 (m + m) = x * 2 := by
  have hx : out64 x = false := by
    simp [out64] at h2 ⊢; omega
  rw [h hx, show x + x = x * 2 from by omega]
  exact wrap64_same _ (by simp [out64] at h2; omega)

def ShiftPost (a : Int) (n : Nat) (w : World) (e : Ending) (w' : World) : Prop := (∃ m : Int, e = .returned (.tuple #[.int .i64 m, .bool (out64 (a * 2 ^ n))]) ∧ In64 m ∧ (out64 (a * 2 ^ n) = false → m = a * 2 ^ n)) ∧ w = w'
def ShiftMid (a : Int) (n k : Nat) (m : Int) (o : Bool) : Prop := k ≤ n ∧ o = out64 (a * 2 ^ k) ∧ In64 m ∧ (out64 (a * 2 ^ k) = false → m = a * 2 ^ k)

set_option maxHeartbeats 1000000 in
theorem shifted_any (a : Int) (n : Nat) (w : World) (ha : In64 a) (hn : (n : Int) ≤ 63) :
    Calls Try.prog 56 #[.int .i64 a, .int .i64 n] w (ShiftPost a n w) := by
  have hin := Lib.hid ha
  clear ha
  go_enter Try.func56, Try.ntmps56
  go_wp2
  go_loop [6, 7, 8] (fun x o i => ∃ (k : Nat) (m : Int) (b : Bool), x = .int .i64 m ∧ o = .bool b ∧ i = .int .i64 k ∧ ShiftMid a n k m b) (fun _ _ i => (n - intOf i).toNat)
  case atStart => exact ⟨0, a, false, rfl, rfl, rfl, Nat.zero_le _, by have h1 := hin.out.lo; have h2 := hin.out.hi; simp [out64]; omega, hin.out, fun _ => by simp⟩
  case round =>
    obtain ⟨k, m, b, rfl, rfl, rfl, hm⟩ := hrel
    have hk : k ≤ n := hm.1
    have HM := Lib.hid hm
    clear hm
    by_cases hlt : k < n
    · go_wp2_with fail
      refine (sum_any m m _ HM.out.2.2.1 HM.out.2.2.1).mono ?_
      rintro e w' ⟨rfl, rfl⟩
      have hstep := out_step _ _ HM.out.2.2.2
      have hr := wrap64_range (m + m)
      have HN := Lib.hid (show ShiftMid a n (k + 1) (wrap64 (m + m)) (b || out64 (m + m)) from ⟨hlt, by rw [HM.out.2.1, hstep, Int.pow_succ, Int.mul_assoc], ⟨hr.1, hr.2⟩, fun h => by rw [Int.pow_succ, ← Int.mul_assoc] at h ⊢; exact double_same _ _ HM.out.2.2.2 h⟩)
      clear hstep hr
      generalize wrap64 (m + m) = m' at *
      generalize out64 (m + m) = o' at *
      cases b
      all_goals
        go_wp2
        go_round
        case rel => exact ⟨k + 1, m', _, rfl, rfl, by go_num, by simpa using HN.out⟩
        case measure => simp [intOf]; omega
    · go_wp2
      go_ret2
      have hkn : k = n := by omega
      subst hkn
      obtain ⟨_, hb, h64, hval⟩ := HM.out
      exact ⟨⟨m, by rw [← hb]; rfl, h64, hval⟩, rfl⟩

end Go.Proofs.Ytomjcpgjlhencaa

/- The contracts of the reference functions add (of span) and brought of layer 4. -/
namespace Go.Proofs.Ytomjcpgjlhencaa
open Go.RowKit

/-- The lowest eight bits of a number, as the program computes them. -/
def low8 (x : Int) : Int := bits .and .i64 x 255

set_option maxHeartbeats 1000000 in
theorem add_first (lo hi n : Int) (o p : Bool) (w : World) :
    Calls Try.prog 57 #[.agg #[.int .i64 lo, .int .i64 hi, .bool o], .int .i64 n, .bool p, .bool true] w fun e w' => e = .returned (.agg #[.int .i64 n, .int .i64 n, .bool p]) ∧ Below w.heap.size w w' := by
  go_enter Try.func57, Try.ntmps57
  go_wp2
  refine bodyPost_ret (v := .agg #[.int .i64 n, .int .i64 n, .bool p]) (by simp [results, Try.results57, go_sem]) rfl ⟨rfl, ?_⟩
  exact ((Below.refl _ _).alloc (Nat.le_refl _) _).alloc (by simp) _

set_option maxHeartbeats 1000000 in
theorem add_more (lo hi n : Int) (o p : Bool) (w : World) :
    Calls Try.prog 57 #[.agg #[.int .i64 lo, .int .i64 hi, .bool o], .int .i64 n, .bool p, .bool false] w fun e w' => e = .returned (.agg #[.int .i64 (min lo n), .int .i64 (max hi n), .bool (o || p)]) ∧ Below w.heap.size w w' := by
  cases o
  all_goals
    go_enter Try.func57, Try.ntmps57
    go_wp2
    all_goals
      refine bodyPost_ret (v := .agg #[.int .i64 (min lo n), .int .i64 (max hi n), .bool _]) (by simp [results, Try.results57, go_sem]; omega) rfl ⟨rfl, ?_⟩
      exact ((Below.refl _ _).alloc (Nat.le_refl _) _).alloc (by simp) _

set_option maxHeartbeats 1000000 in
theorem brought_over (lo hi k : Int) (w : World) :
    Calls Try.prog 35 #[.agg #[.int .i64 lo, .int .i64 hi, .bool true], .int .i64 k] w fun e w' => e = .returned (.agg #[.int .i64 (fullLow k), .int .i64 (fullHigh k)]) ∧ Below w.heap.size w w' := by
  have F := fun w => Lib.hid (full_any k w)
  generalize fullLow k = fl at *
  generalize fullHigh k = fh at *
  go_enter Try.func35, Try.ntmps35
  go_wp2_with fail
  refine (F _).out.mono ?_
  rintro e w1 ⟨rfl, hB⟩
  have z1 : w.heap.size + 1 < w1.heap.size := by have := hB.size; simp at this; omega
  have z0 : w.heap.size < w1.heap.size := by omega
  have hT : Below w.heap.size w w1 := (((Below.refl _ _).alloc (Nat.le_refl _) _).alloc (by simp) _).trans (hB.mono (by simp; omega))
  have a0 : w1.cell? ⟨w.heap.size, 0, none⟩ = some (.int .i64 lo) := cell_later hB (by go_simp)
  have a1 : w1.cell? ⟨w.heap.size, 1, none⟩ = some (.int .i64 hi) := cell_later hB (by go_simp)
  have a2 : w1.cell? ⟨w.heap.size, 2, none⟩ = some (.bool true) := cell_later hB (by go_simp)
  have r0 : w1.cell? ⟨w.heap.size + 1, 0, none⟩ = some (.int .i64 0) := cell_later hB (by go_simp)
  have r1 : w1.cell? ⟨w.heap.size + 1, 1, none⟩ = some (.int .i64 0) := cell_later hB (by go_simp)
  have f0 : w1.frozen? ⟨w.heap.size + 1, 0, none⟩ = false := by rw [hB.frozen (p := ⟨w.heap.size + 1, 0, none⟩) (by simp)]; go_simp
  have f1 : w1.frozen? ⟨w.heap.size + 1, 1, none⟩ = false := by rw [hB.frozen (p := ⟨w.heap.size + 1, 1, none⟩) (by simp)]; go_simp
  clear hB
  go_wp2
  refine bodyPost_ret (v := .agg #[.int .i64 fl, .int .i64 fh]) (by simp [results, Try.results35, go_sem, *]) rfl ⟨rfl, ?_⟩
  exact ((hT.setCell (by simp) _).setCell (by simp) _).alloc (by simp [World.setCell]; omega) _

set_option maxHeartbeats 1000000 in
theorem brought_int (lo hi k : Int) (hk : (k == 1) = true) (w : World) :
    Calls Try.prog 35 #[.agg #[.int .i64 lo, .int .i64 hi, .bool false], .int .i64 k] w fun e w' => e = .returned (.agg #[.int .i64 lo, .int .i64 hi]) ∧ Below w.heap.size w w' := by
  have F := fun w => Lib.hid (full_any k w)
  generalize fullLow k = fl at *
  generalize fullHigh k = fh at *
  go_enter Try.func35, Try.ntmps35
  go_wp2_with fail
  refine (F _).out.mono ?_
  rintro e w1 ⟨rfl, hB⟩
  have z1 : w.heap.size + 1 < w1.heap.size := by have := hB.size; simp at this; omega
  have z0 : w.heap.size < w1.heap.size := by omega
  have hT : Below w.heap.size w w1 := (((Below.refl _ _).alloc (Nat.le_refl _) _).alloc (by simp) _).trans (hB.mono (by simp; omega))
  have a0 : w1.cell? ⟨w.heap.size, 0, none⟩ = some (.int .i64 lo) := cell_later hB (by go_simp)
  have a1 : w1.cell? ⟨w.heap.size, 1, none⟩ = some (.int .i64 hi) := cell_later hB (by go_simp)
  have a2 : w1.cell? ⟨w.heap.size, 2, none⟩ = some (.bool false) := cell_later hB (by go_simp)
  have r0 : w1.cell? ⟨w.heap.size + 1, 0, none⟩ = some (.int .i64 0) := cell_later hB (by go_simp)
  have r1 : w1.cell? ⟨w.heap.size + 1, 1, none⟩ = some (.int .i64 0) := cell_later hB (by go_simp)
  have f0 : w1.frozen? ⟨w.heap.size + 1, 0, none⟩ = false := by rw [hB.frozen (p := ⟨w.heap.size + 1, 0, none⟩) (by simp)]; go_simp
  have f1 : w1.frozen? ⟨w.heap.size + 1, 1, none⟩ = false := by rw [hB.frozen (p := ⟨w.heap.size + 1, 1, none⟩) (by simp)]; go_simp
  clear hB
  go_wp2
  refine bodyPost_ret (v := .agg #[.int .i64 lo, .int .i64 hi]) (by simp [results, Try.results35, go_sem, *]) rfl ⟨rfl, ?_⟩
  exact ((hT.setCell (by simp) _).setCell (by simp) _).alloc (by simp [World.setCell]; omega) _

set_option maxHeartbeats 1000000 in
theorem brought_wide (lo hi k : Int) (hk : (k == 1) = false) (hne : (lo / 256 != hi / 256) = true) (w : World) :
    Calls Try.prog 35 #[.agg #[.int .i64 lo, .int .i64 hi, .bool false], .int .i64 k] w fun e w' => e = .returned (.agg #[.int .i64 (fullLow k), .int .i64 (fullHigh k)]) ∧ Below w.heap.size w w' := by
  have F := fun w => Lib.hid (full_any k w)
  generalize fullLow k = fl at *
  generalize fullHigh k = fh at *
  go_enter Try.func35, Try.ntmps35
  go_wp2_with fail
  refine (F _).out.mono ?_
  rintro e w1 ⟨rfl, hB⟩
  have z1 : w.heap.size + 1 < w1.heap.size := by have := hB.size; simp at this; omega
  have z0 : w.heap.size < w1.heap.size := by omega
  have hT : Below w.heap.size w w1 := (((Below.refl _ _).alloc (Nat.le_refl _) _).alloc (by simp) _).trans (hB.mono (by simp; omega))
  have a0 : w1.cell? ⟨w.heap.size, 0, none⟩ = some (.int .i64 lo) := cell_later hB (by go_simp)
  have a1 : w1.cell? ⟨w.heap.size, 1, none⟩ = some (.int .i64 hi) := cell_later hB (by go_simp)
  have a2 : w1.cell? ⟨w.heap.size, 2, none⟩ = some (.bool false) := cell_later hB (by go_simp)
  have r0 : w1.cell? ⟨w.heap.size + 1, 0, none⟩ = some (.int .i64 0) := cell_later hB (by go_simp)
  have r1 : w1.cell? ⟨w.heap.size + 1, 1, none⟩ = some (.int .i64 0) := cell_later hB (by go_simp)
  have f0 : w1.frozen? ⟨w.heap.size + 1, 0, none⟩ = false := by rw [hB.frozen (p := ⟨w.heap.size + 1, 0, none⟩) (by simp)]; go_simp
  have f1 : w1.frozen? ⟨w.heap.size + 1, 1, none⟩ = false := by rw [hB.frozen (p := ⟨w.heap.size + 1, 1, none⟩) (by simp)]; go_simp
  clear hB
  go_wp2
  refine bodyPost_ret (v := .agg #[.int .i64 fl, .int .i64 fh]) (by simp [results, Try.results35, go_sem, *]) rfl ⟨rfl, ?_⟩
  exact ((hT.setCell (by simp) _).setCell (by simp) _).alloc (by simp [World.setCell]; omega) _

set_option maxHeartbeats 1000000 in
theorem brought_small (lo hi k : Int) (hk : (k == 1) = false) (hne : (lo / 256 != hi / 256) = false) (w : World) :
    Calls Try.prog 35 #[.agg #[.int .i64 lo, .int .i64 hi, .bool false], .int .i64 k] w fun e w' => e = .returned (.agg #[.int .i64 (low8 lo), .int .i64 (low8 hi)]) ∧ Below w.heap.size w w' := by
  have F := fun w => Lib.hid (full_any k w)
  generalize fullLow k = fl at *
  generalize fullHigh k = fh at *
  go_enter Try.func35, Try.ntmps35
  go_wp2_with fail
  refine (F _).out.mono ?_
  rintro e w1 ⟨rfl, hB⟩
  have z1 : w.heap.size + 1 < w1.heap.size := by have := hB.size; simp at this; omega
  have z0 : w.heap.size < w1.heap.size := by omega
  have hT : Below w.heap.size w w1 := (((Below.refl _ _).alloc (Nat.le_refl _) _).alloc (by simp) _).trans (hB.mono (by simp; omega))
  have a0 : w1.cell? ⟨w.heap.size, 0, none⟩ = some (.int .i64 lo) := cell_later hB (by go_simp)
  have a1 : w1.cell? ⟨w.heap.size, 1, none⟩ = some (.int .i64 hi) := cell_later hB (by go_simp)
  have a2 : w1.cell? ⟨w.heap.size, 2, none⟩ = some (.bool false) := cell_later hB (by go_simp)
  have r0 : w1.cell? ⟨w.heap.size + 1, 0, none⟩ = some (.int .i64 0) := cell_later hB (by go_simp)
  have r1 : w1.cell? ⟨w.heap.size + 1, 1, none⟩ = some (.int .i64 0) := cell_later hB (by go_simp)
  have f0 : w1.frozen? ⟨w.heap.size + 1, 0, none⟩ = false := by rw [hB.frozen (p := ⟨w.heap.size + 1, 0, none⟩) (by simp)]; go_simp
  have f1 : w1.frozen? ⟨w.heap.size + 1, 1, none⟩ = false := by rw [hB.frozen (p := ⟨w.heap.size + 1, 1, none⟩) (by simp)]; go_simp
  clear hB
  go_wp2
  refine bodyPost_ret (v := .agg #[.int .i64 (low8 lo), .int .i64 (low8 hi)]) (by simp [results, Try.results35, go_sem, low8, *]) rfl ⟨rfl, ?_⟩
  exact ((hT.setCell (by simp) _).setCell (by simp) _).alloc (by simp [World.setCell]; omega) _

def broughtS (lo hi : Int) (o : Bool) (k : Int) : Int × Int :=
  if o then (fullLow k, fullHigh k) else if k = 1 then (lo, hi) else if lo / 256 = hi / 256 then (low8 lo, low8 hi) else (fullLow k, fullHigh k)

theorem brought_any (lo hi k : Int) (o : Bool) (w : World) :
    Calls Try.prog 35 #[.agg #[.int .i64 lo, .int .i64 hi, .bool o], .int .i64 k] w fun e w' => e = .returned (.agg #[.int .i64 (broughtS lo hi o k).1, .int .i64 (broughtS lo hi o k).2]) ∧ Below w.heap.size w w' := by
  unfold broughtS
  cases o
  · by_cases hk : k = 1
    · subst hk; exact brought_int lo hi 1 rfl w
    · by_cases he : lo / 256 = hi / 256
      · rw [if_neg (by simp), if_neg hk, if_pos he]
        exact brought_small lo hi k (by simpa using hk) (by simpa using he) w
      · rw [if_neg (by simp), if_neg hk, if_neg he]
        exact brought_wide lo hi k (by simpa using hk) (by simpa using he) w
  · exact brought_over lo hi k w


end Go.Proofs.Ytomjcpgjlhencaa

/- The walk of the law RangesAssume, out of the contracts of Assume on both sides and of the examples. -/
namespace Go.Proofs.Ytomjcpgjlhencaa
open Go.RowKit

def ShownOK' : Prop := ∀ w : World, Calls Try.prog 10 #[] w fun e w' => e = .returned (.bool true) ∧ Below w.heap.size w w'

/-- The three arguments of a law in their variables. -/
structure Three (w wx : World) (o k a b c d : Int) : Prop where
  o0 : wx.cell? ⟨w.heap.size, 0, none⟩ = some (.int .i64 o)
  o1 : wx.cell? ⟨w.heap.size, 1, none⟩ = some (.int .i64 k)
  a0 : wx.cell? ⟨w.heap.size + 1, 0, none⟩ = some (.int .i64 a)
  a1 : wx.cell? ⟨w.heap.size + 1, 1, none⟩ = some (.int .i64 b)
  b0 : wx.cell? ⟨w.heap.size + 1 + 1, 0, none⟩ = some (.int .i64 c)
  b1 : wx.cell? ⟨w.heap.size + 1 + 1, 1, none⟩ = some (.int .i64 d)
  s0 : w.heap.size < wx.heap.size
  s1 : w.heap.size + 1 < wx.heap.size
  s2 : w.heap.size + 1 + 1 < wx.heap.size
  bl : Below w.heap.size w wx

theorem Three.later {w wx wy : World} {o k a b c d : Int} (h : Three w wx o k a b c d) (hb : Below wx.heap.size wx wy) : Three w wy o k a b c d :=
  ⟨cell_later hb h.o0, cell_later hb h.o1, cell_later hb h.a0, cell_later hb h.a1, cell_later hb h.b0, cell_later hb h.b1, Nat.lt_of_lt_of_le h.s0 hb.size, Nat.lt_of_lt_of_le h.s1 hb.size, Nat.lt_of_lt_of_le h.s2 hb.size, h.bl.trans (hb.mono (Nat.le_of_lt h.s0))⟩
theorem Three.alloc {w wx : World} {o k a b c d : Int} (h : Three w wx o k a b c d) (ob : Obj) : Three w (wx.alloc ob) o k a b c d := h.later ((Below.refl _ _).alloc (Nat.le_refl _) ob)
theorem three (w : World) (o k a b c d : Int) (T : Nat) : Three w (((w.alloc (.cells #[.int .i64 o, .int .i64 k] T)).alloc (.cells #[.int .i64 a, .int .i64 b] 23)).alloc (.cells #[.int .i64 c, .int .i64 d] 23)) o k a b c d :=
  ⟨by go_simp, by go_simp, by go_simp, by go_simp, by go_simp, by go_simp, by simp; omega, by simp, by simp, (((Below.refl _ _).alloc (Nat.le_refl _) _).alloc (by simp) _).alloc (by simp; omega) _⟩

set_option maxRecDepth 100000 in
set_option maxHeartbeats 1000000 in
theorem assume_of (hs : ShownOK') (o k a b c d : Int) (x0 x1 y0 y1 e : Bool → Int) (p : Bool → Bool)
    (hA : ∀ (r : Bool) (w : World), Hid (Calls Try.prog 25 #[.int .i64 o, .int .i64 k, .agg #[.int .i64 a, .int .i64 b], .agg #[.int .i64 c, .int .i64 d], .bool r] w fun t w' => t = .returned (.tuple #[.agg #[.int .i64 (x0 r), .int .i64 (x1 r)], .agg #[.int .i64 (y0 r), .int .i64 (y1 r)], .bool (p r), .int .i64 (e r)]) ∧ Below w.heap.size w w'))
    (hB : ∀ (r : Bool) (w : World), Hid (Calls Try.prog 26 #[.int .i64 o, .int .i64 k, .agg #[.int .i64 a, .int .i64 b], .agg #[.int .i64 c, .int .i64 d], .bool r] w fun t w' => t = .returned (.tuple #[.agg #[.int .i64 (x0 r), .int .i64 (x1 r)], .agg #[.int .i64 (y0 r), .int .i64 (y1 r)], .bool (p r), .int .i64 (e r)]) ∧ Below w.heap.size w w')) (w : World) :
    Calls Try.prog 5 #[.agg #[.int .i64 o, .int .i64 k], .agg #[.int .i64 a, .int .i64 b], .agg #[.int .i64 c, .int .i64 d]] w fun e w' => e = .returned (.bool true) ∧ Below w.heap.size w w' := by
  go_enter Try.func5, Try.ntmps5
  go_wp2_with fail
  refine (hs _).mono ?_
  rintro e1 w1 ⟨rfl, hB1⟩
  have I1 := (three w o k a b c d _).later hB1
  clear hB1
  have J1 := Lib.hid I1
  clear I1
  go_wp2_with fail
  go_loopw [7] (fun i wr => (i = .int .i64 0 ∨ i = .int .i64 1 ∨ i = .int .i64 2) ∧ Three w wr o k a b c d) (fun i _ => (2 - intOf i).toNat)
  case atStart => exact ⟨.inl rfl, J1.out⟩
  case round =>
    obtain ⟨hi, I⟩ := hrel
    clear J1
    have J := Lib.hid I
    obtain ⟨o0, o1, a0, a1, b0, b1, s0, s1, s2, bl⟩ := I
    rcases hi with rfl | rfl | rfl
    · go_wp2_with fail
      refine (hA _ _).out.mono ?_
      clear o0 o1 a0 a1 b0 b1 s0 s1 s2 bl
      rintro e2 w2 ⟨rfl, hB2⟩
      have J2 := Lib.hid (J.out.later hB2)
      clear hB2 J
      obtain ⟨o0, o1, a0, a1, b0, b1, s0, s1, s2, bl⟩ := J2.out
      clear bl
      go_wp2_with fail
      refine (hB _ _).out.mono ?_
      clear o0 o1 a0 a1 b0 b1 s0 s1 s2
      rintro e3 w3 ⟨rfl, hB3⟩
      have z3 : w2.heap.size + 1 < w3.heap.size := by have := hB3.size; simp at this; omega
      have z3' : w2.heap.size < w3.heap.size := by omega
      have q0 : w3.cell? ⟨w2.heap.size, 0, none⟩ = some (.int .i64 (x0 false)) := cell_later hB3 (by go_simp)
      have q1 : w3.cell? ⟨w2.heap.size, 1, none⟩ = some (.int .i64 (x1 false)) := cell_later hB3 (by go_simp)
      have q2 : w3.cell? ⟨w2.heap.size + 1, 0, none⟩ = some (.int .i64 (y0 false)) := cell_later hB3 (by go_simp)
      have q3 : w3.cell? ⟨w2.heap.size + 1, 1, none⟩ = some (.int .i64 (y1 false)) := cell_later hB3 (by go_simp)
      have J3 := Lib.hid (((J2.out.alloc _).alloc _).later hB3)
      clear hB3 J2
      go_wp2_with fail
      go_roundw
      case rel => exact ⟨.inr (.inl rfl), (J3.out.alloc _).alloc _⟩
      case measure => simp [intOf]
    · go_wp2_with fail
      refine (hA _ _).out.mono ?_
      clear o0 o1 a0 a1 b0 b1 s0 s1 s2 bl
      rintro e2 w2 ⟨rfl, hB2⟩
      have J2 := Lib.hid (J.out.later hB2)
      clear hB2 J
      obtain ⟨o0, o1, a0, a1, b0, b1, s0, s1, s2, bl⟩ := J2.out
      clear bl
      go_wp2_with fail
      refine (hB _ _).out.mono ?_
      clear o0 o1 a0 a1 b0 b1 s0 s1 s2
      rintro e3 w3 ⟨rfl, hB3⟩
      have z3 : w2.heap.size + 1 < w3.heap.size := by have := hB3.size; simp at this; omega
      have z3' : w2.heap.size < w3.heap.size := by omega
      have q0 : w3.cell? ⟨w2.heap.size, 0, none⟩ = some (.int .i64 (x0 true)) := cell_later hB3 (by go_simp)
      have q1 : w3.cell? ⟨w2.heap.size, 1, none⟩ = some (.int .i64 (x1 true)) := cell_later hB3 (by go_simp)
      have q2 : w3.cell? ⟨w2.heap.size + 1, 0, none⟩ = some (.int .i64 (y0 true)) := cell_later hB3 (by go_simp)
      have q3 : w3.cell? ⟨w2.heap.size + 1, 1, none⟩ = some (.int .i64 (y1 true)) := cell_later hB3 (by go_simp)
      have J3 := Lib.hid (((J2.out.alloc _).alloc _).later hB3)
      clear hB3 J2
      go_wp2_with fail
      go_roundw
      case rel => exact ⟨.inr (.inr rfl), (J3.out.alloc _).alloc _⟩
      case measure => simp [intOf]
    · clear o0 o1 a0 a1 b0 b1 s0 s1 s2 bl
      go_wp2
      go_ret
      exact ⟨rfl, J.out.bl⟩

end Go.Proofs.Ytomjcpgjlhencaa
