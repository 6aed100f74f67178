/- A part of the proof of DeaaG. -/
import Derived.KernelRfl
import Derived.Test.YtmkakbdndegniaaGreatDoorDeaL
set_option linter.unusedVariables false
set_option maxRecDepth 100000
namespace Go.Proofs.YtmkakbdndegniaaGreatDoor
open Go Go.Ev
theorem chk9 : chkRun (envR Tryz.prog eqTypes sp []) 199 run9 = true := by kernel_rfl
end Go.Proofs.YtmkakbdndegniaaGreatDoor
