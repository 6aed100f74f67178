/- The contracts of the reference functions Check, Join and Meet of layer 4: what each call returns, for all arguments. -/
import Derived.Test.YtomjcpgjlhencaaKRefA
set_option linter.unusedSimpArgs false
set_option linter.unusedVariables false
namespace Go.Proofs.Ytomjcpgjlhencaa
open Go.RowKit

def checkErr (k lo hi : Int) : Int := if fullErr k = 0 ∧ lo ≤ hi ∧ fullLow k ≤ lo ∧ hi ≤ fullHigh k then 0 else 2

set_option maxHeartbeats 400000 in
theorem check_any (k lo hi : Int) (w : World) :
    Calls Try.prog 14 #[.int .i64 k, .agg #[.int .i64 lo, .int .i64 hi]] w fun e w' => e = .returned (.int .i64 (checkErr k lo hi)) ∧ Below w.heap.size w w' := by
  by_cases he : fullErr k = 0
  · have he' : (fullErr k != 0) = false := by simp [he]
    by_cases h1 : lo ≤ hi
    · have h1' : decide (hi < lo) = false := by simpa using h1
      by_cases h2 : fullLow k ≤ lo
      · have h2' : decide (lo < fullLow k) = false := by simpa using h2
        by_cases h3 : hi ≤ fullHigh k
        · have h3' : decide (fullHigh k < hi) = false := by simpa using h3
          have hr : checkErr k lo hi = 0 := by simp [checkErr, he, h1, h2, h3]
          rw [hr]
          clear hr he
          go_enter Try.func14, Try.ntmps14
          go_wp2_with (go_at_call 12; refine (full_any _ _).mono ?_; rintro e w' ⟨rfl, hb⟩; obtain ⟨hc, hf⟩ := bcell hb; have hz : w.heap.size < w'.heap.size := by have := hb.size; simp at this; omega)
          go_ret
          exact ⟨rfl, ((Below.refl _ _).alloc (Nat.le_refl _) _).trans (hb.mono (by simp)) |>.alloc (by omega) _⟩
        · have h3' : decide (fullHigh k < hi) = true := by simpa using h3
          have hr : checkErr k lo hi = 2 := by simp [checkErr, h3]
          rw [hr]
          clear hr he h3
          go_enter Try.func14, Try.ntmps14
          go_wp2_with (go_at_call 12; refine (full_any _ _).mono ?_; rintro e w' ⟨rfl, hb⟩; obtain ⟨hc, hf⟩ := bcell hb; have hz : w.heap.size < w'.heap.size := by have := hb.size; simp at this; omega)
          go_ret
          exact ⟨rfl, ((Below.refl _ _).alloc (Nat.le_refl _) _).trans (hb.mono (by simp)) |>.alloc (by omega) _⟩
      · have h2' : decide (lo < fullLow k) = true := by simpa using h2
        have hr : checkErr k lo hi = 2 := by simp [checkErr, h2]
        rw [hr]
        clear hr he h2
        go_enter Try.func14, Try.ntmps14
        go_wp2_with (go_at_call 12; refine (full_any _ _).mono ?_; rintro e w' ⟨rfl, hb⟩; obtain ⟨hc, hf⟩ := bcell hb; have hz : w.heap.size < w'.heap.size := by have := hb.size; simp at this; omega)
        go_ret
        exact ⟨rfl, ((Below.refl _ _).alloc (Nat.le_refl _) _).trans (hb.mono (by simp)) |>.alloc (by omega) _⟩
    · have h1' : decide (hi < lo) = true := by simpa using h1
      have hr : checkErr k lo hi = 2 := by simp [checkErr, h1]
      rw [hr]
      clear hr he h1
      go_enter Try.func14, Try.ntmps14
      go_wp2_with (go_at_call 12; refine (full_any _ _).mono ?_; rintro e w' ⟨rfl, hb⟩; obtain ⟨hc, hf⟩ := bcell hb; have hz : w.heap.size < w'.heap.size := by have := hb.size; simp at this; omega)
      go_ret
      exact ⟨rfl, ((Below.refl _ _).alloc (Nat.le_refl _) _).trans (hb.mono (by simp)) |>.alloc (by omega) _⟩
  · have he' : (fullErr k != 0) = true := by simp [he]
    have hr : checkErr k lo hi = 2 := by simp [checkErr, he]
    rw [hr]
    clear hr he
    go_enter Try.func14, Try.ntmps14
    go_wp2_with (go_at_call 12; refine (full_any _ _).mono ?_; rintro e w' ⟨rfl, hb⟩; obtain ⟨hc, hf⟩ := bcell hb; have hz : w.heap.size < w'.heap.size := by have := hb.size; simp at this; omega)
    go_ret
    exact ⟨rfl, ((Below.refl _ _).alloc (Nat.le_refl _) _).trans (hb.mono (by simp)) |>.alloc (by omega) _⟩

set_option maxHeartbeats 400000 in
theorem join_no (a b c d : Int) (w : World) (h : b < a ∨ d < c) :
    Calls Try.prog 16 #[.agg #[.int .i64 a, .int .i64 b], .agg #[.int .i64 c, .int .i64 d]] w fun e w' => e = .returned (.tuple #[.agg #[.int .i64 0, .int .i64 0], .int .i64 2]) ∧ Below w.heap.size w w' := by
  by_cases h1 : b < a
  · have h1' : decide (b < a) = true := by simpa using h1
    clear h
    go_enter Try.func16, Try.ntmps16
    go_wp2
    refine bodyPost_ret (v := .tuple #[.agg #[.int .i64 0, .int .i64 0], .int .i64 2]) (by simp [results, Try.results16, go_sem]) rfl ⟨rfl, ?_⟩
    exact (((Below.refl _ _).alloc (Nat.le_refl _) _).alloc (by simp) _).alloc (by simp; omega) _
  · have h1' : decide (b < a) = false := by simpa using h1
    have h2' : decide (d < c) = true := by simp; omega
    clear h
    go_enter Try.func16, Try.ntmps16
    go_wp2
    refine bodyPost_ret (v := .tuple #[.agg #[.int .i64 0, .int .i64 0], .int .i64 2]) (by simp [results, Try.results16, go_sem]) rfl ⟨rfl, ?_⟩
    exact (((Below.refl _ _).alloc (Nat.le_refl _) _).alloc (by simp) _).alloc (by simp; omega) _

set_option maxHeartbeats 400000 in
theorem join_yes (a b c d : Int) (w : World) (h : a ≤ b) (g : c ≤ d) :
    Calls Try.prog 16 #[.agg #[.int .i64 a, .int .i64 b], .agg #[.int .i64 c, .int .i64 d]] w fun e w' => e = .returned (.tuple #[.agg #[.int .i64 (min a c), .int .i64 (max b d)], .int .i64 0]) ∧ Below w.heap.size w w' := by
  have h1' : decide (b < a) = false := by simpa using h
  have h2' : decide (d < c) = false := by simpa using g
  go_enter Try.func16, Try.ntmps16
  go_wp2
  all_goals
    refine bodyPost_ret (v := .tuple #[.agg #[.int .i64 (min a c), .int .i64 (max b d)], .int .i64 0]) (by simp [results, Try.results16, go_sem]; omega) rfl ⟨rfl, ?_⟩
    exact (((Below.refl _ _).alloc (Nat.le_refl _) _).alloc (by simp) _).alloc (by simp; omega) _

set_option maxHeartbeats 400000 in
theorem meet_bad (a b c d : Int) (w : World) (h : b < a ∨ d < c) :
    Calls Try.prog 18 #[.agg #[.int .i64 a, .int .i64 b], .agg #[.int .i64 c, .int .i64 d]] w fun e w' => e = .returned (.tuple #[.agg #[.int .i64 0, .int .i64 0], .bool false, .int .i64 2]) ∧ Below w.heap.size w w' := by
  by_cases h1 : b < a
  · have h1' : decide (b < a) = true := by simpa using h1
    clear h
    go_enter Try.func18, Try.ntmps18
    go_wp2
    refine bodyPost_ret (v := .tuple #[.agg #[.int .i64 0, .int .i64 0], .bool false, .int .i64 2]) (by simp [results, Try.results18, go_sem]) rfl ⟨rfl, ?_⟩
    exact (((Below.refl _ _).alloc (Nat.le_refl _) _).alloc (by simp) _).alloc (by simp; omega) _
  · have h1' : decide (b < a) = false := by simpa using h1
    have h2' : decide (d < c) = true := by simp; omega
    clear h
    go_enter Try.func18, Try.ntmps18
    go_wp2
    refine bodyPost_ret (v := .tuple #[.agg #[.int .i64 0, .int .i64 0], .bool false, .int .i64 2]) (by simp [results, Try.results18, go_sem]) rfl ⟨rfl, ?_⟩
    exact (((Below.refl _ _).alloc (Nat.le_refl _) _).alloc (by simp) _).alloc (by simp; omega) _

set_option maxHeartbeats 400000 in
theorem meet_yes (a b c d : Int) (w : World) (h : a ≤ b) (g : c ≤ d) (hm : max a c ≤ min b d) :
    Calls Try.prog 18 #[.agg #[.int .i64 a, .int .i64 b], .agg #[.int .i64 c, .int .i64 d]] w fun e w' => e = .returned (.tuple #[.agg #[.int .i64 (max a c), .int .i64 (min b d)], .bool true, .int .i64 0]) ∧ Below w.heap.size w w' := by
  have h1' : decide (b < a) = false := by simpa using h
  have h2' : decide (d < c) = false := by simpa using g
  have m1 : a ≤ d := by omega
  have m2 : c ≤ b := by omega
  clear hm
  go_enter Try.func18, Try.ntmps18
  go_wp2
  all_goals
    refine bodyPost_ret (v := .tuple #[.agg #[.int .i64 (max a c), .int .i64 (min b d)], .bool true, .int .i64 0]) (by simp [results, Try.results18, go_sem]; omega) rfl ⟨rfl, ?_⟩
    exact ((((Below.refl _ _).alloc (Nat.le_refl _) _).alloc (by simp) _).alloc (by simp; omega) _).alloc (by simp; omega) _

set_option maxHeartbeats 400000 in
theorem meet_no (a b c d : Int) (w : World) (h : a ≤ b) (g : c ≤ d) (hm : min b d < max a c) :
    Calls Try.prog 18 #[.agg #[.int .i64 a, .int .i64 b], .agg #[.int .i64 c, .int .i64 d]] w fun e w' => e = .returned (.tuple #[.agg #[.int .i64 0, .int .i64 0], .bool false, .int .i64 0]) ∧ Below w.heap.size w w' := by
  have h1' : decide (b < a) = false := by simpa using h
  have h2' : decide (d < c) = false := by simpa using g
  have m1 : d < a ∨ b < c := by omega
  clear hm
  go_enter Try.func18, Try.ntmps18
  go_wp2
  all_goals
    refine bodyPost_ret (v := .tuple #[.agg #[.int .i64 0, .int .i64 0], .bool false, .int .i64 0]) (by simp [results, Try.results18, go_sem]) rfl ⟨rfl, ?_⟩
    exact ((((Below.refl _ _).alloc (Nat.le_refl _) _).alloc (by simp) _).alloc (by simp; omega) _).alloc (by simp; omega) _

end Go.Proofs.Ytomjcpgjlhencaa
