/- A part of the proof of HoiaG. -/
import Derived.KernelRfl
import Derived.Test.YtpdgfdpfgnnhaaaGreatDoorHoiL
set_option linter.unusedVariables false
set_option maxRecDepth 100000
namespace Go.Proofs.YtpdgfdpfgnnhaaaGreatDoor
open Go Go.Ev
theorem chk30 : chkRunT (envR Tryz.prog eqTypes sp []) 199 run30 = true := by kernel_rfl
theorem chk33 : chkRunT (envR Tryz.prog eqTypes sp []) 199 run33 = true := by kernel_rfl
theorem chk0 : chkRun (envR Tryz.prog eqTypes sp []) 199 run0 = true := by kernel_rfl
theorem chk48 : chkRunT (envR Tryz.prog eqTypes sp []) 199 run48 = true := by kernel_rfl
end Go.Proofs.YtpdgfdpfgnnhaaaGreatDoor
