/- A part of the proof of PipaG. -/
import Derived.KernelRfl
import Derived.Test.YtmmialoeghjckaaGreatDoorPipL
set_option linter.unusedVariables false
set_option maxRecDepth 100000
namespace Go.Proofs.YtmmialoeghjckaaGreatDoor
open Go Go.Ev
theorem chk157 : chkRunT (envR Tryz.prog eqTypes sp []) 199 run157 = true := by kernel_rfl
theorem chk167 : chkRunT (envR Tryz.prog eqTypes sp []) 199 run167 = true := by kernel_rfl
end Go.Proofs.YtmmialoeghjckaaGreatDoor
