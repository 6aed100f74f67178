/- A part of the proof of FoaG. -/
import Derived.KernelRfl
import Derived.Test.YtdmnfinemndkfaaGreatDoorFoL
set_option linter.unusedVariables false
set_option maxRecDepth 100000
namespace Go.Proofs.YtdmnfinemndkfaaGreatDoor
open Go Go.Ev
theorem chk0 : chkRun (envR Tryz.prog eqTypes sp []) 199 run0 = true := by kernel_rfl
theorem chk1 : chkRun (envR Tryz.prog eqTypes sp [run0]) 199 run1 = true := by kernel_rfl
theorem chk2 : chkRun (envR Tryz.prog eqTypes sp [run1]) 199 run2 = true := by kernel_rfl
end Go.Proofs.YtdmnfinemndkfaaGreatDoor
