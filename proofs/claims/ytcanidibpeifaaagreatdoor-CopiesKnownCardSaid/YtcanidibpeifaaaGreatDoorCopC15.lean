/- A part of the proof of CopaG. -/
import Derived.KernelRfl
import Derived.Test.YtcanidibpeifaaaGreatDoorCopL
set_option linter.unusedVariables false
set_option maxRecDepth 100000
namespace Go.Proofs.YtcanidibpeifaaaGreatDoor
open Go Go.Ev
theorem chk24 : chkRun (envR Tryz.prog eqTypes sp [run8, run9, run10, run12, run13, run15, run17, run18, run20, run21, run22, run23]) 199 run24 = true := by kernel_rfl
theorem chk21 : chkRun (envR Tryz.prog eqTypes sp []) 199 run21 = true := by kernel_rfl
end Go.Proofs.YtcanidibpeifaaaGreatDoor
