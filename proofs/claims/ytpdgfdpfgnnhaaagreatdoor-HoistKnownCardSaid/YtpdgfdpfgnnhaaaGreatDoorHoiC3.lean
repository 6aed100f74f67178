/- A part of the proof of HoiaG. -/
import Derived.KernelRfl
import Derived.Test.YtpdgfdpfgnnhaaaGreatDoorHoiL
set_option linter.unusedVariables false
set_option maxRecDepth 100000
namespace Go.Proofs.YtpdgfdpfgnnhaaaGreatDoor
open Go Go.Ev
theorem chk24 : chkRun (envR Tryz.prog eqTypes sp [run22, run23]) 199 run24 = true := by kernel_rfl
theorem chk40 : chkRun (envR Tryz.prog eqTypes sp []) 199 run40 = true := by kernel_rfl
theorem chk31 : chkRun (envR Tryz.prog eqTypes sp [run29, run30]) 199 run31 = true := by kernel_rfl
end Go.Proofs.YtpdgfdpfgnnhaaaGreatDoor
