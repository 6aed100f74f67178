/- A part of the proof of InlaG. -/
import Derived.KernelRfl
import Derived.Test.YtjahaokkjengkaaGreatDoorInlC1
import Derived.Test.YtjahaokkjengkaaGreatDoorInlC2
import Derived.Test.YtjahaokkjengkaaGreatDoorInlC3
import Derived.Test.YtjahaokkjengkaaGreatDoorInlC4
import Derived.Test.YtjahaokkjengkaaGreatDoorInlC5
import Derived.Test.YtjahaokkjengkaaGreatDoorInlC6
import Derived.Test.YtjahaokkjengkaaGreatDoorInlC7
import Derived.Test.YtjahaokkjengkaaGreatDoorInlC8
import Derived.Test.YtjahaokkjengkaaGreatDoorInlC9
import Derived.Test.YtjahaokkjengkaaGreatDoorInlC10
import Derived.Test.YtjahaokkjengkaaGreatDoorInlC11
import Derived.Test.YtjahaokkjengkaaGreatDoorInlC12
set_option linter.unusedVariables false
set_option maxRecDepth 100000
namespace Go.Proofs.YtjahaokkjengkaaGreatDoor
open Go Go.Ev
theorem okr0 : KRunA Tryz.prog run0 := run_known ok0 runs_nil ⟨_, _, Tryz.func13, rfl⟩ chk0
theorem okr1 : KRunA Tryz.prog run1 := run_known ok0 runs_nil ⟨_, _, Tryz.func57, rfl⟩ chk1
theorem okr2 : KRunA Tryz.prog run2 := run_known ok0 (runs_cons okr1 runs_nil) ⟨_, _, Tryz.func13, rfl⟩ chk2
theorem okr3 : KRunA Tryz.prog run3 := run_known ok0 runs_nil ⟨_, _, Tryz.func13, rfl⟩ chk3
theorem okr4 : KRunA Tryz.prog run4 := run_known ok0 runs_nil ⟨_, _, Tryz.func57, rfl⟩ chk4
theorem okr5 : KRunA Tryz.prog run5 := run_known ok0 (runs_cons okr4 runs_nil) ⟨_, _, Tryz.func13, rfl⟩ chk5
theorem okr6 : KRunA Tryz.prog run6 := run_known ok0 runs_nil ⟨_, _, Tryz.func13, rfl⟩ chk6
theorem okr7 : KRunA Tryz.prog run7 := run_known ok0 runs_nil ⟨_, _, Tryz.func57, rfl⟩ chk7
theorem okr8 : KRunA Tryz.prog run8 := run_known ok0 (runs_cons okr7 runs_nil) ⟨_, _, Tryz.func13, rfl⟩ chk8
theorem okr9 : KRunA Tryz.prog run9 := run_known ok0 runs_nil ⟨_, _, Tryz.func13, rfl⟩ chk9
theorem okr10 : KRunA Tryz.prog run10 := run_known ok0 runs_nil ⟨_, _, Tryz.func13, rfl⟩ chk10
theorem okr11 : KRunA Tryz.prog run11 := run_known ok0 (runs_cons okr3 (runs_cons okr5 (runs_cons okr6 (runs_cons okr8 (runs_cons okr9 (runs_cons okr10 runs_nil)))))) ⟨_, _, Tryz.func5, rfl⟩ chk11
theorem top_run : isT (callN (envR Tryz.prog eqTypes sp [run0, run2, run11]) 199 3 [] (roH Tryz.prog.globals.size tables)) = true := by kernel_rfl
theorem top_known : ∀ r ∈ [run0, run2, run11], KRunA Tryz.prog r := (runs_cons okr0 (runs_cons okr2 (runs_cons okr11 runs_nil)))
end Go.Proofs.YtjahaokkjengkaaGreatDoor
