/- A part of the proof of FoaG. -/
import Derived.KernelRfl
import Derived.Test.YtdmnfinemndkfaaGreatDoorFoL
set_option linter.unusedVariables false
set_option maxRecDepth 100000
namespace Go.Proofs.YtdmnfinemndkfaaGreatDoor
open Go Go.Ev
theorem chk6 : chkRun (envR Tryz.prog eqTypes sp [run5]) 199 run6 = true := by kernel_rfl
theorem chk7 : chkRun (envR Tryz.prog eqTypes sp [run6]) 199 run7 = true := by kernel_rfl
end Go.Proofs.YtdmnfinemndkfaaGreatDoor
