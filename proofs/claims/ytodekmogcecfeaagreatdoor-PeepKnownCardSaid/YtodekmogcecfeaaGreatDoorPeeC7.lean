/- A part of the proof of PeeaG. -/
import Derived.KernelRfl
import Derived.Test.YtodekmogcecfeaaGreatDoorPeeL
set_option linter.unusedVariables false
set_option maxRecDepth 100000
namespace Go.Proofs.YtodekmogcecfeaaGreatDoor
open Go Go.Ev
theorem chk0 : chkRun (envR Tryz.prog eqTypes sp []) 199 run0 = true := by kernel_rfl
theorem chk13 : chkRun (envR Tryz.prog eqTypes sp [run12]) 199 run13 = true := by kernel_rfl
end Go.Proofs.YtodekmogcecfeaaGreatDoor
