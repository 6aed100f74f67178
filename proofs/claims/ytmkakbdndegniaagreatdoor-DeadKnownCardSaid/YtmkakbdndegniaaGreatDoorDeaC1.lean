/- A part of the proof of DeaaG. -/
import Derived.KernelRfl
import Derived.Test.YtmkakbdndegniaaGreatDoorDeaL
set_option linter.unusedVariables false
set_option maxRecDepth 100000
namespace Go.Proofs.YtmkakbdndegniaaGreatDoor
open Go Go.Ev
theorem chk19 : chkRun (envR Tryz.prog eqTypes sp [run7, run8, run9, run10, run11, run12, run13, run14, run16, run17, run18]) 199 run19 = true := by kernel_rfl
end Go.Proofs.YtmkakbdndegniaaGreatDoor
