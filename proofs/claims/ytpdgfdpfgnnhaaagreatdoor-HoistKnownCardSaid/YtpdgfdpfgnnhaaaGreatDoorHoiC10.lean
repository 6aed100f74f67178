/- A part of the proof of HoiaG. -/
import Derived.KernelRfl
import Derived.Test.YtpdgfdpfgnnhaaaGreatDoorHoiL
set_option linter.unusedVariables false
set_option maxRecDepth 100000
namespace Go.Proofs.YtpdgfdpfgnnhaaaGreatDoor
open Go Go.Ev
theorem chk7 : chkRun (envR Tryz.prog eqTypes sp []) 199 run7 = true := by kernel_rfl
theorem chk42 : chkRun (envR Tryz.prog eqTypes sp []) 199 run42 = true := by kernel_rfl
theorem chk51 : chkRun (envR Tryz.prog eqTypes sp []) 199 run51 = true := by kernel_rfl
theorem chk36 : chkRunT (envR Tryz.prog eqTypes sp []) 199 run36 = true := by kernel_rfl
end Go.Proofs.YtpdgfdpfgnnhaaaGreatDoor
