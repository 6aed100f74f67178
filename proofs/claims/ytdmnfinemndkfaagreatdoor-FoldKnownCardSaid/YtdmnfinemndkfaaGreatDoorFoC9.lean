/- A part of the proof of FoaG. -/
import Derived.KernelRfl
import Derived.Test.YtdmnfinemndkfaaGreatDoorFoL
set_option linter.unusedVariables false
set_option maxRecDepth 100000
namespace Go.Proofs.YtdmnfinemndkfaaGreatDoor
open Go Go.Ev
theorem chk17 : chkRun (envR Tryz.prog eqTypes sp [run16]) 199 run17 = true := by kernel_rfl
end Go.Proofs.YtdmnfinemndkfaaGreatDoor
