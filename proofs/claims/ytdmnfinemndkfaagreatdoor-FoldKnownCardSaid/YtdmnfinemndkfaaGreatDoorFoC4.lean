/- A part of the proof of FoaG. -/
import Derived.KernelRfl
import Derived.Test.YtdmnfinemndkfaaGreatDoorFoL
set_option linter.unusedVariables false
set_option maxRecDepth 100000
namespace Go.Proofs.YtdmnfinemndkfaaGreatDoor
open Go Go.Ev
theorem chk8 : chkRun (envR Tryz.prog eqTypes sp []) 199 run8 = true := by kernel_rfl
end Go.Proofs.YtdmnfinemndkfaaGreatDoor
