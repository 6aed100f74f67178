/- A part of the proof of FoaG. -/
import Derived.KernelRfl
import Derived.Test.YtdmnfinemndkfaaGreatDoorFoL
set_option linter.unusedVariables false
set_option maxRecDepth 100000
namespace Go.Proofs.YtdmnfinemndkfaaGreatDoor
open Go Go.Ev
theorem chk14 : chkRun (envR Tryz.prog eqTypes sp [run13]) 199 run14 = true := by kernel_rfl
theorem chk15 : chkRunT (envR Tryz.prog eqTypes sp []) 199 run15 = true := by kernel_rfl
theorem chk16 : chkRun (envR Tryz.prog eqTypes sp [run15]) 199 run16 = true := by kernel_rfl
end Go.Proofs.YtdmnfinemndkfaaGreatDoor
