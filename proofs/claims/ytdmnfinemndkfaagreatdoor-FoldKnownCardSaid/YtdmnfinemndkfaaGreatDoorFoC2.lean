/- A part of the proof of FoaG. -/
import Derived.KernelRfl
import Derived.Test.YtdmnfinemndkfaaGreatDoorFoL
set_option linter.unusedVariables false
set_option maxRecDepth 100000
namespace Go.Proofs.YtdmnfinemndkfaaGreatDoor
open Go Go.Ev
theorem chk3 : chkRun (envR Tryz.prog eqTypes sp []) 199 run3 = true := by kernel_rfl
theorem chk4 : chkRun (envR Tryz.prog eqTypes sp [run3]) 199 run4 = true := by kernel_rfl
theorem chk5 : chkRun (envR Tryz.prog eqTypes sp []) 199 run5 = true := by kernel_rfl
end Go.Proofs.YtdmnfinemndkfaaGreatDoor
