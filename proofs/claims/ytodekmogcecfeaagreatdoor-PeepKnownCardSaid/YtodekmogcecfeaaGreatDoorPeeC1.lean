/- A part of the proof of PeeaG. -/
import Derived.KernelRfl
import Derived.Test.YtodekmogcecfeaaGreatDoorPeeL
set_option linter.unusedVariables false
set_option maxRecDepth 100000
namespace Go.Proofs.YtodekmogcecfeaaGreatDoor
open Go Go.Ev
theorem chk1 : chkRun (envR Tryz.prog eqTypes sp []) 199 run1 = true := by kernel_rfl
theorem chk14 : chkRunT (envR Tryz.prog eqTypes sp []) 199 run14 = true := by kernel_rfl
theorem chk21 : chkRunT (envR Tryz.prog eqTypes sp []) 199 run21 = true := by kernel_rfl
theorem chk22 : chkRunT (envR Tryz.prog eqTypes sp []) 199 run22 = true := by kernel_rfl
end Go.Proofs.YtodekmogcecfeaaGreatDoor
