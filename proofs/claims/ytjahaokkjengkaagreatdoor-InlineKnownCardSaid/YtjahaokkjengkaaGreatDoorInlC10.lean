/- A part of the proof of InlaG. -/
import Derived.KernelRfl
import Derived.Test.YtjahaokkjengkaaGreatDoorInlL
set_option linter.unusedVariables false
set_option maxRecDepth 100000
namespace Go.Proofs.YtjahaokkjengkaaGreatDoor
open Go Go.Ev
theorem chk5 : chkRun (envR Tryz.prog eqTypes sp [run4]) 199 run5 = true := by kernel_rfl
end Go.Proofs.YtjahaokkjengkaaGreatDoor
