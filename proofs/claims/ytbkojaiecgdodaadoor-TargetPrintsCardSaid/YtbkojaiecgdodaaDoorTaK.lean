/- A part of the proof of TacG. -/
import Derived.KernelRfl
import Derived.Test.YtbkojaiecgdodaaDoorTaC1
import Derived.Test.YtbkojaiecgdodaaDoorTaC2
set_option linter.unusedVariables false
set_option maxRecDepth 100000
namespace Go.Proofs.YtbkojaiecgdodaaDoor
open Go Go.Ev
theorem okr0 : KRunA Tryd.prog run0 := run_known ok0 runs_nil ⟨_, _, Tryd.func20, rfl⟩ chk0
theorem okr1 : KRunA Tryd.prog run1 := run_known ok0 runs_nil ⟨_, _, Tryd.func20, rfl⟩ chk1
theorem top_run : isT (callN (envR Tryd.prog eqTypes sp [run0, run1]) 199 8 [] (roH Tryd.prog.globals.size tables)) = true := by kernel_rfl
theorem top_known : ∀ r ∈ [run0, run1], KRunA Tryd.prog r := (runs_cons okr0 (runs_cons okr1 runs_nil))
end Go.Proofs.YtbkojaiecgdodaaDoor
