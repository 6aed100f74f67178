/- A part of the proof of HoiaG. -/
import Derived.KernelRfl
import Derived.Test.YtpdgfdpfgnnhaaaGreatDoorHoiL
set_option linter.unusedVariables false
set_option maxRecDepth 100000
namespace Go.Proofs.YtpdgfdpfgnnhaaaGreatDoor
open Go Go.Ev
theorem chk37 : chkRunT (envR Tryz.prog eqTypes sp []) 199 run37 = true := by kernel_rfl
theorem chk12 : chkRun (envR Tryz.prog eqTypes sp [run11]) 199 run12 = true := by kernel_rfl
theorem chk21 : chkRun (envR Tryz.prog eqTypes sp [run20]) 199 run21 = true := by kernel_rfl
theorem chk4 : chkRunT (envR Tryz.prog eqTypes sp []) 199 run4 = true := by kernel_rfl
end Go.Proofs.YtpdgfdpfgnnhaaaGreatDoor
