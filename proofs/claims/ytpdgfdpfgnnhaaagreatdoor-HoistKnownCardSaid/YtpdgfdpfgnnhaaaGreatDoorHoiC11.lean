/- A part of the proof of HoiaG. -/
import Derived.KernelRfl
import Derived.Test.YtpdgfdpfgnnhaaaGreatDoorHoiL
set_option linter.unusedVariables false
set_option maxRecDepth 100000
namespace Go.Proofs.YtpdgfdpfgnnhaaaGreatDoor
open Go Go.Ev
theorem chk9 : chkRun (envR Tryz.prog eqTypes sp []) 199 run9 = true := by kernel_rfl
theorem chk16 : chkRun (envR Tryz.prog eqTypes sp []) 199 run16 = true := by kernel_rfl
theorem chk18 : chkRun (envR Tryz.prog eqTypes sp []) 199 run18 = true := by kernel_rfl
theorem chk25 : chkRun (envR Tryz.prog eqTypes sp []) 199 run25 = true := by kernel_rfl
end Go.Proofs.YtpdgfdpfgnnhaaaGreatDoor
