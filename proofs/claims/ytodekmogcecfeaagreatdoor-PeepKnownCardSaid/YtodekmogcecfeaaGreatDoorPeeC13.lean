/- A part of the proof of PeeaG. -/
import Derived.KernelRfl
import Derived.Test.YtodekmogcecfeaaGreatDoorPeeL
set_option linter.unusedVariables false
set_option maxRecDepth 100000
namespace Go.Proofs.YtodekmogcecfeaaGreatDoor
open Go Go.Ev
theorem chk20 : chkRun (envR Tryz.prog eqTypes sp []) 199 run20 = true := by kernel_rfl
theorem chk12 : chkRun (envR Tryz.prog eqTypes sp []) 199 run12 = true := by kernel_rfl
end Go.Proofs.YtodekmogcecfeaaGreatDoor
