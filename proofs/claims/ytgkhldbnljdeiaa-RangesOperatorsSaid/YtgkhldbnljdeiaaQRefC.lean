/- The contracts of the reference functions Fits, opposite, without, truth, single and in of layer 4, for all arguments. -/
import Derived.Test.YtgkhldbnljdeiaaQSetSelfToRefB
set_option maxHeartbeats 2000000
set_option linter.unusedSimpArgs false
set_option linter.unusedVariables false
namespace Go.Proofs.Ytgkhldbnljdeiaa
open Go.RowKit
def fits1 (op k : Int) : Bool := decide (((op = 1 ∨ op = 3) ∧ (k = 1 ∨ k = 2)) ∨ (op = 2 ∧ k = 3))
def fits2 (op k : Int) : Bool := decide (((1 ≤ op ∧ op ≤ 10 ∨ 13 ≤ op ∧ op ≤ 16) ∧ (k = 1 ∨ k = 2)) ∨ ((op = 11 ∨ op = 12) ∧ (k = 1 ∨ k = 2 ∨ k = 3)) ∨ ((op = 17 ∨ op = 18) ∧ k = 3))
theorem kind_cases (k : Int) : k = 1 ∨ k = 2 ∨ k = 3 ∨ ((k == 1) = false ∧ (k == 2) = false ∧ (k == 3) = false) := by
 by_cases a : k = 1
 · exact .inl a
 · by_cases b : k = 2
   · exact .inr (.inl b)
   · by_cases c : k = 3
     · exact .inr (.inr (.inl c))
     · exact .inr (.inr (.inr ⟨by simpa using a, by simpa using b, by simpa using c⟩))
theorem ret_bool {a b : Bool} (h : a = b) : Ending.returned (.bool a) = .returned (.bool b) := by rw [h]
theorem op_cases (op : Int) : ((op < 1 ∨ 18 < op) ∧ (op == 11) = false ∧ (op == 12) = false ∧ (op == 17) = false ∧ (op == 18) = false) ∨ (1 ≤ op ∧ op ≤ 10) ∨ (13 ≤ op ∧ op ≤ 16) ∨ op = 11 ∨ op = 12 ∨ op = 17 ∨ op = 18 := by simp only [beq_eq_false_iff_ne]; omega
theorem fits1_any (op k : Int) (w : World) :
   Calls Try.prog 34 #[.int .i64 op, .int .i64 k, .bool false] w fun e w' => e = .returned (.bool (fits1 op k)) ∧ w = w' := by
 rcases kind_cases k with rfl | rfl | rfl | ⟨k1, k2, k3⟩ <;> rcases kind_cases op with rfl | rfl | rfl | ⟨o1, o2, o3⟩
 all_goals
   go_enter Try.func34, Try.ntmps34
   go_wp2
   go_ret
   refine ⟨ret_bool ?_, rfl⟩
   first | (simp [fits1]; done) | (simp_all [fits1]; done)
theorem fits2_any (op k : Int) (w : World) :
   Calls Try.prog 34 #[.int .i64 op, .int .i64 k, .bool true] w fun e w' => e = .returned (.bool (fits2 op k)) ∧ w = w' := by
 rcases kind_cases k with rfl | rfl | rfl | ⟨k1, k2, k3⟩ <;> rcases op_cases op with ⟨(o | o), q1, q2, q3, q4⟩ | ⟨o1, o2⟩ | ⟨o1, o2⟩ | rfl | rfl | rfl | rfl
 all_goals
   go_enter Try.func34, Try.ntmps34
   go_wp2
   go_ret
   refine ⟨ret_bool ?_, rfl⟩
   first | (simp [fits2]; done) | (simp [fits2]; omega) | (simp_all [fits2]; done) | (simp_all [fits2]; omega)
def oppS (op : Int) : Int := if op = 11 then 12 else if op = 12 then 11 else if op = 13 then 16 else if op = 14 then 15 else if op = 15 then 14 else 13
theorem opposite_any (op : Int) (w : World) (h : 11 ≤ op) (h' : op ≤ 16) :
   Calls Try.prog 47 #[.int .i64 op] w fun e w' => e = .returned (.int .i64 (oppS op)) ∧ Below w.heap.size w w' := by
 obtain rfl | rfl | rfl | rfl | rfl | rfl : op = 11 ∨ op = 12 ∨ op = 13 ∨ op = 14 ∨ op = 15 ∨ op = 16 := by omega
 all_goals
   clear h h'
   go_enter Try.func47, Try.ntmps47
   go_wp2
   go_ret
   refine ⟨rfl, ?_⟩
   exact (Below.refl _ _).alloc (Nat.le_refl _) _
theorem single_any (a b : Int) (w : World) :
   Calls Try.prog 65 #[.agg #[.int .i64 a, .int .i64 b]] w fun e w' => e = .returned (.bool (a == b)) ∧ Below w.heap.size w w' := by
 go_enter Try.func65, Try.ntmps65
 go_wp2
 go_ret
 exact ⟨rfl, (Below.refl _ _).alloc (Nat.le_refl _) _⟩
theorem in_any (n a b : Int) (w : World) :
   Calls Try.prog 62 #[.int .i64 n, .agg #[.int .i64 a, .int .i64 b]] w fun e w' => e = .returned (.bool (decide (a ≤ n ∧ n ≤ b))) ∧ Below w.heap.size w w' := by
 by_cases h : a ≤ n
 · have h' : decide (a ≤ n) = true := by simpa using h
   go_enter Try.func62, Try.ntmps62
   go_wp2
   go_ret
   exact ⟨ret_bool (by simp [h]), (Below.refl _ _).alloc (Nat.le_refl _) _⟩
 · have h' : decide (a ≤ n) = false := by simpa using h
   go_enter Try.func62, Try.ntmps62
   go_wp2
   go_ret
   exact ⟨ret_bool (by simp [h]), (Below.refl _ _).alloc (Nat.le_refl _) _⟩
theorem truth_any (p q : Bool) (w : World) :
   Calls Try.prog 66 #[.bool p, .bool q] w fun e w' => e = .returned (.agg #[.int .i64 (if p then 1 else 0), .int .i64 (if p then 1 else if q then 0 else 1)]) ∧ Below w.heap.size w w' := by
 cases p <;> cases q
 all_goals
   go_enter Try.func66, Try.ntmps66
   go_wp2
   first
   | exact bodyPost_ret (v := .agg #[.int .i64 1, .int .i64 1]) (by simp [results, Try.results66, go_sem]) rfl ⟨rfl, (Below.refl _ _).alloc (Nat.le_refl _) _⟩
   | exact bodyPost_ret (v := .agg #[.int .i64 0, .int .i64 0]) (by simp [results, Try.results66, go_sem]) rfl ⟨rfl, (Below.refl _ _).alloc (Nat.le_refl _) _⟩
   | exact bodyPost_ret (v := .agg #[.int .i64 0, .int .i64 1]) (by simp [results, Try.results66, go_sem]) rfl ⟨rfl, (Below.refl _ _).alloc (Nat.le_refl _) _⟩
end Go.Proofs.Ytgkhldbnljdeiaa
