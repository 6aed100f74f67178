/- A part of the proof of PipaG. -/
import Derived.KernelRfl
import Derived.Test.YtmmialoeghjckaaGreatDoorPipL
set_option linter.unusedVariables false
set_option maxRecDepth 100000
namespace Go.Proofs.YtmmialoeghjckaaGreatDoor
open Go Go.Ev
theorem chk142 : chkRun (envR Tryz.prog eqTypes sp [run140, run141]) 199 run142 = true := by kernel_rfl
theorem chk145 : chkRun (envR Tryz.prog eqTypes sp [run143, run144]) 199 run145 = true := by kernel_rfl
theorem chk155 : chkRun (envR Tryz.prog eqTypes sp [run153, run154]) 199 run155 = true := by kernel_rfl
theorem chk158 : chkRun (envR Tryz.prog eqTypes sp [run156, run157]) 199 run158 = true := by kernel_rfl
theorem chk182 : chkRun (envR Tryz.prog eqTypes sp [run27, run28, run179, run180, run181]) 199 run182 = true := by kernel_rfl
theorem chk2 : chkRun (envR Tryz.prog eqTypes sp [run0, run1]) 199 run2 = true := by kernel_rfl
theorem chk27 : chkRun (envR Tryz.prog eqTypes sp [run25, run26]) 199 run27 = true := by kernel_rfl
theorem chk14 : chkRun (envR Tryz.prog eqTypes sp [run7, run8, run9, run10, run11, run12, run13]) 199 run14 = true := by kernel_rfl
theorem chk49 : chkRun (envR Tryz.prog eqTypes sp [run38, run39, run40, run41, run42, run43, run44, run45, run46, run47, run48]) 199 run49 = true := by kernel_rfl
theorem chk42 : chkRun (envR Tryz.prog eqTypes sp []) 199 run42 = true := by kernel_rfl
theorem chk35 : chkRunT (envR Tryz.prog eqTypes sp []) 199 run35 = true := by kernel_rfl
theorem chk38 : chkRunT (envR Tryz.prog eqTypes sp []) 199 run38 = true := by kernel_rfl
theorem chk82 : chkRunT (envR Tryz.prog eqTypes sp []) 199 run82 = true := by kernel_rfl
theorem chk93 : chkRunT (envR Tryz.prog eqTypes sp []) 199 run93 = true := by kernel_rfl
theorem chk95 : chkRunT (envR Tryz.prog eqTypes sp []) 199 run95 = true := by kernel_rfl
end Go.Proofs.YtmmialoeghjckaaGreatDoor
