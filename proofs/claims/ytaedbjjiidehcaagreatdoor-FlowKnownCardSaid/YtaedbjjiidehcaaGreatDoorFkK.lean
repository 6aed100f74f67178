/- The law as a closed run, out of its parts. -/
import Derived.KernelRfl
import Derived.Test.YtaedbjjiidehcaaGreatDoorFkC1
import Derived.Test.YtaedbjjiidehcaaGreatDoorFkC2
import Derived.Test.YtaedbjjiidehcaaGreatDoorFkC3
import Derived.Test.YtaedbjjiidehcaaGreatDoorFkC4
import Derived.Test.YtaedbjjiidehcaaGreatDoorFkC5
import Derived.Test.YtaedbjjiidehcaaGreatDoorFkC6
import Derived.Test.YtaedbjjiidehcaaGreatDoorFkC7
import Derived.Test.YtaedbjjiidehcaaGreatDoorFkC8
set_option linter.unusedVariables false
set_option maxRecDepth 100000
namespace Go.Proofs.YtaedbjjiidehcaaGreatDoor
open Go Go.Ev
theorem okr0 : KRunA Tryz.prog run0 := run_knownT ok0 runs_nil ⟨_, _, Tryz.func17, rfl⟩ chk0
theorem okr1 : KRunA Tryz.prog run1 := run_known ok0 (runs_cons okr0 runs_nil) ⟨_, _, Tryz.func4, rfl⟩ chk1
theorem okr2 : KRunA Tryz.prog run2 := run_knownT ok0 runs_nil ⟨_, _, Tryz.func17, rfl⟩ chk2
theorem okr3 : KRunA Tryz.prog run3 := run_known ok0 (runs_cons okr2 runs_nil) ⟨_, _, Tryz.func4, rfl⟩ chk3
theorem okr4 : KRunA Tryz.prog run4 := run_knownT ok0 runs_nil ⟨_, _, Tryz.func17, rfl⟩ chk4
theorem okr5 : KRunA Tryz.prog run5 := run_known ok0 (runs_cons okr4 runs_nil) ⟨_, _, Tryz.func14, rfl⟩ chk5
theorem okr6 : KRunA Tryz.prog run6 := run_knownT ok0 runs_nil ⟨_, _, Tryz.func17, rfl⟩ chk6
theorem okr7 : KRunA Tryz.prog run7 := run_knownT ok0 (runs_cons okr6 runs_nil) ⟨_, _, Tryz.func14, rfl⟩ chk7
theorem okr8 : KRunA Tryz.prog run8 := run_knownT ok0 runs_nil ⟨_, _, Tryz.func17, rfl⟩ chk8
theorem okr9 : KRunA Tryz.prog run9 := run_known ok0 (runs_cons okr3 (runs_cons okr5 (runs_cons okr7 (runs_cons okr8 runs_nil)))) ⟨_, _, Tryz.func7, rfl⟩ chk9
theorem top_run : isT (callN (envR Tryz.prog eqTypes sp [run1, run9]) 199 3 [] (roH Tryz.prog.globals.size tables)) = true := by kernel_rfl
theorem top_known : ∀ r ∈ [run1, run9], KRunA Tryz.prog r := (runs_cons okr1 (runs_cons okr9 runs_nil))
end Go.Proofs.YtaedbjjiidehcaaGreatDoor
