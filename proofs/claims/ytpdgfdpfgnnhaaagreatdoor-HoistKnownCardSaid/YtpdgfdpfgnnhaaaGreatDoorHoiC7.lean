/- A part of the proof of HoiaG. -/
import Derived.KernelRfl
import Derived.Test.YtpdgfdpfgnnhaaaGreatDoorHoiL
set_option linter.unusedVariables false
set_option maxRecDepth 100000
namespace Go.Proofs.YtpdgfdpfgnnhaaaGreatDoor
open Go Go.Ev
theorem chk10 : chkRun (envR Tryz.prog eqTypes sp [run9]) 199 run10 = true := by kernel_rfl
theorem chk17 : chkRun (envR Tryz.prog eqTypes sp [run16]) 199 run17 = true := by kernel_rfl
theorem chk19 : chkRun (envR Tryz.prog eqTypes sp [run18]) 199 run19 = true := by kernel_rfl
theorem chk22 : chkRunT (envR Tryz.prog eqTypes sp []) 199 run22 = true := by kernel_rfl
theorem chk23 : chkRunT (envR Tryz.prog eqTypes sp []) 199 run23 = true := by kernel_rfl
theorem chk44 : chkRunT (envR Tryz.prog eqTypes sp []) 199 run44 = true := by kernel_rfl
theorem chk47 : chkRunT (envR Tryz.prog eqTypes sp []) 199 run47 = true := by kernel_rfl
end Go.Proofs.YtpdgfdpfgnnhaaaGreatDoor
