/- A part of the proof of CopaG. -/
import Derived.KernelRfl
import Derived.Test.YtcanidibpeifaaaGreatDoorCopL
set_option linter.unusedVariables false
set_option maxRecDepth 100000
namespace Go.Proofs.YtcanidibpeifaaaGreatDoor
open Go Go.Ev
theorem chk15 : chkRun (envR Tryz.prog eqTypes sp [run14]) 199 run15 = true := by kernel_rfl
theorem chk23 : chkRun (envR Tryz.prog eqTypes sp []) 199 run23 = true := by kernel_rfl
end Go.Proofs.YtcanidibpeifaaaGreatDoor
