/- A part of the proof of SmG. -/
import Derived.Test.YtcfneeeieofkeaaGreatDoorSmD
import Derived.Test.YtcfneeeieofkeaaGreatDoorSmS
set_option linter.unusedVariables false
set_option linter.unusedSimpArgs false
namespace Go.Proofs.YtcfneeeieofkeaaGreatDoor
open Go Go.Ev Go.RowKit
def Yes (W : World) (e : Ending) (w' : World) : Prop := e = .returned (.bool true) ∧ Below W.heap.size W w'
theorem known_shown (vals : List Value) : Known Tryz.prog vals ⟨9, [], .bool true, [(0, g0), (1, g1)]⟩ := by
  refine ⟨⟨_, _, Tryz.func9, rfl⟩, fun v hv => (by cases hv), rfl, fun p hp => ?_, fun w hs hn => ?_⟩
  · rw [nglobals]
    simp at hp
    rcases hp with rfl | rfl <;> decide
  · have hL : Laid w := ⟨hn (0, g0) (by simp), hn (1, g1) (by simp)⟩
    exact shown_calls hL
theorem known_sh61 (s0 s1 : Int) (rest : List Value) (h1 : -9223372036854775808 ≤ s0) (h2 : s0 ≤ 9223372036854775807) (h3 : 0 ≤ s1) (h4 : s1 < 64) :
    Known Tryz.prog (.int .i64 s0 :: .int .i64 s1 :: .int .i64 (shlV s0 s1) :: rest) ⟨18, [.int .i64 6, .int .i64 1, .float .f64 0, .float .f64 1], .float .f64 2, []⟩ := by
  refine ⟨⟨_, _, Tryz.func18, rfl⟩, fun v hv => ?_, rfl, fun p hp => (by cases hp), fun w hs hn => ?_⟩
  · simp at hv
    rcases hv with rfl | rfl | rfl | rfl <;> rfl
  · refine (shl1 s0 s1 h1 h2 h3 h4 w).mono ?_
    rintro e w' ⟨he, rfl⟩
    exact ⟨he, Below.refl _ _⟩
theorem known_sh62 (s0 s1 : Int) (rest : List Value) (h1 : -9223372036854775808 ≤ s0) (h2 : s0 ≤ 9223372036854775807) (h3 : 0 ≤ s1) (h4 : s1 < 64) :
    Known Tryz.prog (.int .i64 s0 :: .int .i64 s1 :: .int .i64 (bitV .and .i64 (shlV s0 s1) 255) :: rest) ⟨18, [.int .i64 6, .int .i64 2, .float .f64 0, .float .f64 1], .float .f64 2, []⟩ := by
  refine ⟨⟨_, _, Tryz.func18, rfl⟩, fun v hv => ?_, rfl, fun p hp => (by cases hp), fun w hs hn => ?_⟩
  · simp at hv
    rcases hv with rfl | rfl | rfl | rfl <;> rfl
  · refine (shl2 s0 s1 h1 h2 h3 h4 w).mono ?_
    rintro e w' ⟨he, rfl⟩
    exact ⟨he, Below.refl _ _⟩
theorem known_sh71 (s0 s1 : Int) (rest : List Value) (h1 : -9223372036854775808 ≤ s0) (h2 : s0 ≤ 9223372036854775807) (h3 : 0 ≤ s1) (h4 : s1 < 64) :
    Known Tryz.prog (.int .i64 s0 :: .int .i64 s1 :: .int .i64 (shrV s0 s1) :: rest) ⟨18, [.int .i64 7, .int .i64 1, .float .f64 0, .float .f64 1], .float .f64 2, []⟩ := by
  refine ⟨⟨_, _, Tryz.func18, rfl⟩, fun v hv => ?_, rfl, fun p hp => (by cases hp), fun w hs hn => ?_⟩
  · simp at hv
    rcases hv with rfl | rfl | rfl | rfl <;> rfl
  · refine (shr1 s0 s1 h1 h2 h3 h4 w).mono ?_
    rintro e w' ⟨he, rfl⟩
    exact ⟨he, Below.refl _ _⟩
theorem known_sh72 (s0 s1 : Int) (rest : List Value) (h1 : -9223372036854775808 ≤ s0) (h2 : s0 ≤ 9223372036854775807) (h3 : 0 ≤ s1) (h4 : s1 < 64) :
    Known Tryz.prog (.int .i64 s0 :: .int .i64 s1 :: .int .i64 (bitV .and .i64 (shrV s0 s1) 255) :: rest) ⟨18, [.int .i64 7, .int .i64 2, .float .f64 0, .float .f64 1], .float .f64 2, []⟩ := by
  refine ⟨⟨_, _, Tryz.func18, rfl⟩, fun v hv => ?_, rfl, fun p hp => (by cases hp), fun w hs hn => ?_⟩
  · simp at hv
    rcases hv with rfl | rfl | rfl | rfl <;> rfl
  · refine (shr2 s0 s1 h1 h2 h3 h4 w).mono ?_
    rintro e w' ⟨he, rfl⟩
    exact ⟨he, Below.refl _ _⟩
end Go.Proofs.YtcfneeeieofkeaaGreatDoor
