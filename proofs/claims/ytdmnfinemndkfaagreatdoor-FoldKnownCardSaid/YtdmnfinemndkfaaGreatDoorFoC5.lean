/- A part of the proof of FoaG. -/
import Derived.KernelRfl
import Derived.Test.YtdmnfinemndkfaaGreatDoorFoL
set_option linter.unusedVariables false
set_option maxRecDepth 100000
namespace Go.Proofs.YtdmnfinemndkfaaGreatDoor
open Go Go.Ev
theorem chk9 : chkRun (envR Tryz.prog eqTypes sp [run8]) 199 run9 = true := by kernel_rfl
theorem chk10 : chkRunT (envR Tryz.prog eqTypes sp []) 199 run10 = true := by kernel_rfl
theorem chk11 : chkRun (envR Tryz.prog eqTypes sp [run10]) 199 run11 = true := by kernel_rfl
end Go.Proofs.YtdmnfinemndkfaaGreatDoor
