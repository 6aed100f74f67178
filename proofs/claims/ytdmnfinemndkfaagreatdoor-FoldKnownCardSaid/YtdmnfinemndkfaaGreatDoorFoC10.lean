/- A part of the proof of FoaG. -/
import Derived.KernelRfl
import Derived.Test.YtdmnfinemndkfaaGreatDoorFoL
set_option linter.unusedVariables false
set_option maxRecDepth 100000
namespace Go.Proofs.YtdmnfinemndkfaaGreatDoor
open Go Go.Ev
theorem chk18 : chkRun (envR Tryz.prog eqTypes sp []) 199 run18 = true := by kernel_rfl
theorem chk19 : chkRun (envR Tryz.prog eqTypes sp [run18]) 199 run19 = true := by kernel_rfl
end Go.Proofs.YtdmnfinemndkfaaGreatDoor
