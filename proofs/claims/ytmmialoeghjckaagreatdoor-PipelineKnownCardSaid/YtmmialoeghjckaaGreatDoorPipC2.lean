/- A part of the proof of PipaG. -/
import Derived.KernelRfl
import Derived.Test.YtmmialoeghjckaaGreatDoorPipL
set_option linter.unusedVariables false
set_option maxRecDepth 100000
namespace Go.Proofs.YtmmialoeghjckaaGreatDoor
open Go Go.Ev
theorem chk0 : chkRun (envR Tryz.prog eqTypes sp []) 199 run0 = true := by kernel_rfl
theorem chk25 : chkRun (envR Tryz.prog eqTypes sp []) 199 run25 = true := by kernel_rfl
theorem chk90 : chkRun (envR Tryz.prog eqTypes sp [run83, run86, run89]) 199 run90 = true := by kernel_rfl
theorem chk106 : chkRunT (envR Tryz.prog eqTypes sp []) 199 run106 = true := by kernel_rfl
theorem chk168 : chkRun (envR Tryz.prog eqTypes sp [run167]) 199 run168 = true := by kernel_rfl
theorem chk120 : chkRun (envR Tryz.prog eqTypes sp []) 199 run120 = true := by kernel_rfl
theorem chk166 : chkRunT (envR Tryz.prog eqTypes sp []) 199 run166 = true := by kernel_rfl
end Go.Proofs.YtmmialoeghjckaaGreatDoor
