/- The contracts of Next, mixed and Draw, the program and the reference. -/
import Derived.Test.YtnjihbpgjopghaaGreatDoorGnM
import Derived.LoopTactic
import Derived.RegionTactic
import Derived.Deep.RegionHeld3
import Derived.Deep.DeepCutAuto
set_option linter.unusedVariables false
set_option linter.unusedSimpArgs false
namespace Go.Proofs.YtnjihbpgjopghaaGreatDoor
open Go.Ev Go.RowKit
set_option maxRecDepth 100000
theorem next_gen (s : Int) (w : World) : Calls Tryz.prog 5 #[.int .u64 s] w fun e w' => e = .returned (.int .u64 (IntKind.u64.wrap (s + 11400714819323198485))) ∧ Below w.heap.size w w' := by
  go_enter Tryz.func5, Tryz.ntmps5
  go_wp2
  go_ret
  exact ⟨rfl, Below.refl _ _⟩
theorem next_ref (s : Int) (w : World) : Calls Tryz.prog 6 #[.int .u64 s] w fun e w' => e = .returned (.int .u64 (IntKind.u64.wrap (s + 11400714819323198485))) ∧ Below w.heap.size w w' := by
  go_enter Tryz.func6, Tryz.ntmps6
  go_wp2
  go_ret
  exact ⟨rfl, Below.refl _ _⟩
def mixV (s : Int) : Int :=
  let a := IntKind.u64.wrap (bits BinOp.xor IntKind.u64 s (s / 1073741824) * 13787848793156543929)
  let b := IntKind.u64.wrap (bits BinOp.xor IntKind.u64 a (a / 134217728) * 10723151780598845931)
  bits BinOp.xor IntKind.u64 b (b / 2147483648)
def drawV (s n : Int) : Int := wrap64 ((mixV s).tmod (IntKind.u64.wrap n))
theorem mixed_gen (s : Int) (w : World) : Calls Tryz.prog 12 #[.int .u64 s] w fun e w' => e = .returned (.int .u64 (mixV s)) ∧ Below w.heap.size w w' := by
  go_enter Tryz.func12, Tryz.ntmps12
  go_wp2
  go_ret
  exact ⟨rfl, Below.refl _ _⟩
theorem draw_gen0 (s n : Int) (hn : n < 1) (w : World) : Calls Tryz.prog 7 #[.int .u64 s, .int .i64 n] w fun e w' => e = .returned (.int .i64 0) ∧ Below w.heap.size w w' := by
  go_enter Tryz.func7, Tryz.ntmps7
  go_wp2
  go_ret
  exact ⟨rfl, Below.refl _ _⟩
theorem draw_ref0 (s n : Int) (hn : n < 1) (w : World) : Calls Tryz.prog 8 #[.int .u64 s, .int .i64 n] w fun e w' => e = .returned (.int .i64 0) ∧ Below w.heap.size w w' := by
  go_enter Tryz.func8, Tryz.ntmps8
  go_wp2
  go_ret
  exact ⟨rfl, Below.refl _ _⟩
theorem draw_ref1 (s n : Int) (hn : ¬ n < 1) (hz : ¬ IntKind.u64.wrap n = 0) (w : World) : Calls Tryz.prog 8 #[.int .u64 s, .int .i64 n] w fun e w' => e = .returned (.int .i64 (drawV s n)) ∧ Below w.heap.size w w' := by
  go_enter Tryz.func8, Tryz.ntmps8
  go_wp2
  all_goals go_ret
  all_goals exact ⟨rfl, Below.refl _ _⟩
theorem draw_gen1 (s n : Int) (hn : ¬ n < 1) (hz : ¬ IntKind.u64.wrap n = 0) (w : World) : Calls Tryz.prog 7 #[.int .u64 s, .int .i64 n] w fun e w' => e = .returned (.int .i64 (drawV s n)) ∧ Below w.heap.size w w' := by
  go_enter Tryz.func7, Tryz.ntmps7
  go_wp2_with fail
  refine (mixed_gen _ _).mono ?_
  rintro e1 w1 ⟨rfl, hB1⟩
  go_wp2
  all_goals go_ret
  all_goals exact ⟨rfl, hB1⟩
end Go.Proofs.YtnjihbpgjopghaaGreatDoor
