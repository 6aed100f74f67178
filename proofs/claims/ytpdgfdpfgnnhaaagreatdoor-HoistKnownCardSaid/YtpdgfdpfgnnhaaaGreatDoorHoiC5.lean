/- A part of the proof of HoiaG. -/
import Derived.KernelRfl
import Derived.Test.YtpdgfdpfgnnhaaaGreatDoorHoiL
set_option linter.unusedVariables false
set_option maxRecDepth 100000
namespace Go.Proofs.YtpdgfdpfgnnhaaaGreatDoor
open Go Go.Ev
theorem chk50 : chkRun (envR Tryz.prog eqTypes sp [run47, run48, run49]) 199 run50 = true := by kernel_rfl
theorem chk41 : chkRun (envR Tryz.prog eqTypes sp [run40]) 199 run41 = true := by kernel_rfl
theorem chk27 : chkRun (envR Tryz.prog eqTypes sp []) 199 run27 = true := by kernel_rfl
theorem chk2 : chkRunT (envR Tryz.prog eqTypes sp []) 199 run2 = true := by kernel_rfl
theorem chk5 : chkRunT (envR Tryz.prog eqTypes sp []) 199 run5 = true := by kernel_rfl
end Go.Proofs.YtpdgfdpfgnnhaaaGreatDoor
