/- A part of the proof of HoiaG. -/
import Derived.KernelRfl
import Derived.Test.YtpdgfdpfgnnhaaaGreatDoorHoiL
set_option linter.unusedVariables false
set_option maxRecDepth 100000
namespace Go.Proofs.YtpdgfdpfgnnhaaaGreatDoor
open Go Go.Ev
theorem chk28 : chkRun (envR Tryz.prog eqTypes sp [run27]) 199 run28 = true := by kernel_rfl
theorem chk1 : chkRun (envR Tryz.prog eqTypes sp [run0]) 199 run1 = true := by kernel_rfl
theorem chk8 : chkRun (envR Tryz.prog eqTypes sp [run7]) 199 run8 = true := by kernel_rfl
theorem chk11 : chkRunT (envR Tryz.prog eqTypes sp []) 199 run11 = true := by kernel_rfl
theorem chk13 : chkRunT (envR Tryz.prog eqTypes sp []) 199 run13 = true := by kernel_rfl
theorem chk14 : chkRunT (envR Tryz.prog eqTypes sp []) 199 run14 = true := by kernel_rfl
theorem chk20 : chkRunT (envR Tryz.prog eqTypes sp []) 199 run20 = true := by kernel_rfl
end Go.Proofs.YtpdgfdpfgnnhaaaGreatDoor
