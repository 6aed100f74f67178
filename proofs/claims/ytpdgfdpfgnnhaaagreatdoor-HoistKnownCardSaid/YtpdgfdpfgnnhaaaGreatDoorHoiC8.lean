/- A part of the proof of HoiaG. -/
import Derived.KernelRfl
import Derived.Test.YtpdgfdpfgnnhaaaGreatDoorHoiL
set_option linter.unusedVariables false
set_option maxRecDepth 100000
namespace Go.Proofs.YtpdgfdpfgnnhaaaGreatDoor
open Go Go.Ev
theorem chk26 : chkRun (envR Tryz.prog eqTypes sp [run25]) 199 run26 = true := by kernel_rfl
theorem chk43 : chkRun (envR Tryz.prog eqTypes sp [run42]) 199 run43 = true := by kernel_rfl
theorem chk52 : chkRun (envR Tryz.prog eqTypes sp [run51]) 199 run52 = true := by kernel_rfl
theorem chk49 : chkRunT (envR Tryz.prog eqTypes sp []) 199 run49 = true := by kernel_rfl
end Go.Proofs.YtpdgfdpfgnnhaaaGreatDoor
