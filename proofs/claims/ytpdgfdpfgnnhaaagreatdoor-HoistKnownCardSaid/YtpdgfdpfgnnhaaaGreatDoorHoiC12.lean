/- A part of the proof of HoiaG. -/
import Derived.KernelRfl
import Derived.Test.YtpdgfdpfgnnhaaaGreatDoorHoiL
set_option linter.unusedVariables false
set_option maxRecDepth 100000
namespace Go.Proofs.YtpdgfdpfgnnhaaaGreatDoor
open Go Go.Ev
theorem chk46 : chkRun (envR Tryz.prog eqTypes sp [run44, run45]) 199 run46 = true := by kernel_rfl
theorem chk3 : chkRun (envR Tryz.prog eqTypes sp [run2]) 199 run3 = true := by kernel_rfl
theorem chk38 : chkRunT (envR Tryz.prog eqTypes sp []) 199 run38 = true := by kernel_rfl
theorem chk29 : chkRunT (envR Tryz.prog eqTypes sp []) 199 run29 = true := by kernel_rfl
end Go.Proofs.YtpdgfdpfgnnhaaaGreatDoor
