/- A part of the proof of InlaG. -/
import Derived.KernelRfl
import Derived.Test.YtjahaokkjengkaaGreatDoorInlL
set_option linter.unusedVariables false
set_option maxRecDepth 100000
namespace Go.Proofs.YtjahaokkjengkaaGreatDoor
open Go Go.Ev
theorem chk11 : chkRun (envR Tryz.prog eqTypes sp [run3, run5, run6, run8, run9, run10]) 199 run11 = true := by kernel_rfl
end Go.Proofs.YtjahaokkjengkaaGreatDoor
