/- A part of the proof of InlaG. -/
import Derived.KernelRfl
import Derived.Test.YtjahaokkjengkaaGreatDoorInlL
set_option linter.unusedVariables false
set_option maxRecDepth 100000
namespace Go.Proofs.YtjahaokkjengkaaGreatDoor
open Go Go.Ev
theorem chk0 : chkRun (envR Tryz.prog eqTypes sp []) 199 run0 = true := by kernel_rfl
end Go.Proofs.YtjahaokkjengkaaGreatDoor
