/- The walk of GenNumbers, out of the contracts of what it calls. -/
import Derived.Test.YtnjihbpgjopghaaGreatDoorGnD
import Derived.WalkKit
import Derived.WalkSpells
import Derived.WalkLawsBesides
import Derived.Deep.QuietTactic
import Derived.BigQuiet
set_option linter.unusedVariables false
set_option linter.unusedSimpArgs false
namespace Go.Proofs.YtnjihbpgjopghaaGreatDoor
open Go.Ev Go.RowKit
set_option maxRecDepth 100000
def ShownOK : Prop := ∀ W : World, Laid W → Calls Tryz.prog 4 #[] W fun e w' => e = .returned (.bool true) ∧ Below W.heap.size W w'
theorem wrap_pos {n : Int} (hn : ¬ n < 1) (hw : (Lit.int .i64 n).wf = true) : ¬ IntKind.u64.wrap n = 0 := by
  have h1 : IntKind.u64.wrap n = n % 18446744073709551616 := by rfl
  have h2 : n < 9223372036854775808 := by
    simp [Lit.wf] at hw
    omega
  rw [h1]; omega
theorem numbers_walk (hs : ShownOK) (s n D : Int) (h7 : ∀ w, Calls Tryz.prog 7 #[.int .u64 s, .int .i64 n] w fun e w' => e = .returned (.int .i64 D) ∧ Below w.heap.size w w') (h8 : ∀ w, Calls Tryz.prog 8 #[.int .u64 s, .int .i64 n] w fun e w' => e = .returned (.int .i64 D) ∧ Below w.heap.size w w') (W : World) (hL : Laid W) :
    Calls Tryz.prog 3 #[.int .u64 s, .int .i64 n] W fun e w' => e = .returned (.bool true) ∧ Below W.heap.size W w' := by
  go_enter Tryz.func3, Tryz.ntmps3
  go_wp2_with fail
  refine (hs _ hL).mono ?_
  rintro e1 w1 ⟨rfl, hB1⟩
  go_wp2_with fail
  refine (next_gen _ _).mono ?_
  rintro e2 w2 ⟨rfl, hB2⟩
  go_wp2_with fail
  refine (next_ref _ _).mono ?_
  rintro e3 w3 ⟨rfl, hB3⟩
  go_wp2_with fail
  refine (h7 _).mono ?_
  rintro e4 w4 ⟨rfl, hB4⟩
  go_wp2_with fail
  refine (h8 _).mono ?_
  rintro e5 w5 ⟨rfl, hB5⟩
  go_wp2
  go_ret
  have z1 := hB1.size
  have z2 := hB2.size
  have z3 := hB3.size
  have z4 := hB4.size
  exact ⟨rfl, (((hB1.trans (hB2.mono z1)).trans (hB3.mono (by omega))).trans (hB4.mono (by omega))).trans (hB5.mono (by omega))⟩

theorem numbers_ok (hs : ShownOK) (s n : Int) (hn : (Lit.int .i64 n).wf = true) (W : World) (hL : Laid W) :
    Calls Tryz.prog 3 #[.int .u64 s, .int .i64 n] W fun e w' => e = .returned (.bool true) ∧ Below W.heap.size W w' := by
  by_cases h : n < 1
  · exact numbers_walk hs s n 0 (draw_gen0 s n h) (draw_ref0 s n h) W hL
  · exact numbers_walk hs s n _ (draw_gen1 s n h (wrap_pos h hn)) (draw_ref1 s n h (wrap_pos h hn)) W hL
end Go.Proofs.YtnjihbpgjopghaaGreatDoor
