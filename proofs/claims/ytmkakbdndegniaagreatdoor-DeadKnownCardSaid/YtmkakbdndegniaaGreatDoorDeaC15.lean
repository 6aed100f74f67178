/- A part of the proof of DeaaG. -/
import Derived.KernelRfl
import Derived.Test.YtmkakbdndegniaaGreatDoorDeaL
set_option linter.unusedVariables false
set_option maxRecDepth 100000
namespace Go.Proofs.YtmkakbdndegniaaGreatDoor
open Go Go.Ev
theorem chk0 : chkRun (envR Tryz.prog eqTypes sp []) 199 run0 = true := by kernel_rfl
theorem chk3 : chkRun (envR Tryz.prog eqTypes sp []) 199 run3 = true := by kernel_rfl
end Go.Proofs.YtmkakbdndegniaaGreatDoor
