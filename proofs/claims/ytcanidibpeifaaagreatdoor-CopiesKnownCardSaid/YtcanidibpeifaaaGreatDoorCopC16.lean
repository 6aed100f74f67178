/- A part of the proof of CopaG. -/
import Derived.KernelRfl
import Derived.Test.YtcanidibpeifaaaGreatDoorCopL
set_option linter.unusedVariables false
set_option maxRecDepth 100000
namespace Go.Proofs.YtcanidibpeifaaaGreatDoor
open Go Go.Ev
theorem chk17 : chkRun (envR Tryz.prog eqTypes sp [run16]) 199 run17 = true := by kernel_rfl
theorem chk20 : chkRun (envR Tryz.prog eqTypes sp [run19]) 199 run20 = true := by kernel_rfl
end Go.Proofs.YtcanidibpeifaaaGreatDoor
