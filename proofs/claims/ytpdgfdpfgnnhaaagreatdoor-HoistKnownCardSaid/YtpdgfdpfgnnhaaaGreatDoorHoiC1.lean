/- A part of the proof of HoiaG. -/
import Derived.KernelRfl
import Derived.Test.YtpdgfdpfgnnhaaaGreatDoorHoiL
set_option linter.unusedVariables false
set_option maxRecDepth 100000
namespace Go.Proofs.YtpdgfdpfgnnhaaaGreatDoor
open Go Go.Ev
theorem chk39 : chkRun (envR Tryz.prog eqTypes sp [run31, run35, run36, run37, run38]) 199 run39 = true := by kernel_rfl
theorem chk6 : chkRun (envR Tryz.prog eqTypes sp [run4, run5]) 199 run6 = true := by kernel_rfl
end Go.Proofs.YtpdgfdpfgnnhaaaGreatDoor
