/- A part of the proof of PipaG. -/
import Derived.KernelRfl
import Derived.Test.YtmmialoeghjckaaGreatDoorPipL
set_option linter.unusedVariables false
set_option maxRecDepth 100000
namespace Go.Proofs.YtmmialoeghjckaaGreatDoor
open Go Go.Ev
theorem chk44 : chkRun (envR Tryz.prog eqTypes sp []) 199 run44 = true := by kernel_rfl
theorem chk58 : chkRun (envR Tryz.prog eqTypes sp []) 199 run58 = true := by kernel_rfl
theorem chk13 : chkRun (envR Tryz.prog eqTypes sp []) 199 run13 = true := by kernel_rfl
theorem chk46 : chkRun (envR Tryz.prog eqTypes sp []) 199 run46 = true := by kernel_rfl
theorem chk59 : chkRun (envR Tryz.prog eqTypes sp []) 199 run59 = true := by kernel_rfl
theorem chk108 : chkRun (envR Tryz.prog eqTypes sp [run97, run100, run107]) 199 run108 = true := by kernel_rfl
theorem chk1 : chkRun (envR Tryz.prog eqTypes sp []) 199 run1 = true := by kernel_rfl
theorem chk26 : chkRun (envR Tryz.prog eqTypes sp []) 199 run26 = true := by kernel_rfl
theorem chk66 : chkRun (envR Tryz.prog eqTypes sp [run61, run64, run65]) 199 run66 = true := by kernel_rfl
theorem chk20 : chkRun (envR Tryz.prog eqTypes sp [run18, run19]) 199 run20 = true := by kernel_rfl
theorem chk169 : chkRun (envR Tryz.prog eqTypes sp []) 199 run169 = true := by kernel_rfl
theorem chk50 : chkRun (envR Tryz.prog eqTypes sp []) 199 run50 = true := by kernel_rfl
theorem chk52 : chkRun (envR Tryz.prog eqTypes sp []) 199 run52 = true := by kernel_rfl
theorem chk75 : chkRunT (envR Tryz.prog eqTypes sp []) 199 run75 = true := by kernel_rfl
theorem chk85 : chkRunT (envR Tryz.prog eqTypes sp []) 199 run85 = true := by kernel_rfl
theorem chk113 : chkRunT (envR Tryz.prog eqTypes sp []) 199 run113 = true := by kernel_rfl
theorem chk115 : chkRunT (envR Tryz.prog eqTypes sp []) 199 run115 = true := by kernel_rfl
end Go.Proofs.YtmmialoeghjckaaGreatDoor
