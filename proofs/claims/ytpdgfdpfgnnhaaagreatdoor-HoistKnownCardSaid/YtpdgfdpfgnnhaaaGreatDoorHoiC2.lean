/- A part of the proof of HoiaG. -/
import Derived.KernelRfl
import Derived.Test.YtpdgfdpfgnnhaaaGreatDoorHoiL
set_option linter.unusedVariables false
set_option maxRecDepth 100000
namespace Go.Proofs.YtpdgfdpfgnnhaaaGreatDoor
open Go Go.Ev
theorem chk35 : chkRun (envR Tryz.prog eqTypes sp [run32, run33, run34]) 199 run35 = true := by kernel_rfl
theorem chk15 : chkRun (envR Tryz.prog eqTypes sp [run13, run14]) 199 run15 = true := by kernel_rfl
theorem chk45 : chkRunT (envR Tryz.prog eqTypes sp []) 199 run45 = true := by kernel_rfl
end Go.Proofs.YtpdgfdpfgnnhaaaGreatDoor
