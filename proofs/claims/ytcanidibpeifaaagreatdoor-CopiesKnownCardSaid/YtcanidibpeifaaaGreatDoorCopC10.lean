/- A part of the proof of CopaG. -/
import Derived.KernelRfl
import Derived.Test.YtcanidibpeifaaaGreatDoorCopL
set_option linter.unusedVariables false
set_option maxRecDepth 100000
namespace Go.Proofs.YtcanidibpeifaaaGreatDoor
open Go Go.Ev
theorem chk18 : chkRun (envR Tryz.prog eqTypes sp []) 199 run18 = true := by kernel_rfl
theorem chk0 : chkRun (envR Tryz.prog eqTypes sp []) 199 run0 = true := by kernel_rfl
end Go.Proofs.YtcanidibpeifaaaGreatDoor
