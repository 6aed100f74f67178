/- A part of the proof of HoiaG. -/
import Derived.KernelRfl
import Derived.Test.YtpdgfdpfgnnhaaaGreatDoorHoiL
set_option linter.unusedVariables false
set_option maxRecDepth 100000
namespace Go.Proofs.YtpdgfdpfgnnhaaaGreatDoor
open Go Go.Ev
theorem chk32 : chkRunT (envR Tryz.prog eqTypes sp []) 199 run32 = true := by kernel_rfl
theorem chk34 : chkRunT (envR Tryz.prog eqTypes sp []) 199 run34 = true := by kernel_rfl
end Go.Proofs.YtpdgfdpfgnnhaaaGreatDoor
