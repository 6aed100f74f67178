/- A part of the proof of PipaG. -/
import Derived.KernelRfl
import Derived.Test.YtmmialoeghjckaaGreatDoorPipL
set_option linter.unusedVariables false
set_option maxRecDepth 100000
namespace Go.Proofs.YtmmialoeghjckaaGreatDoor
open Go Go.Ev
theorem chk43 : chkRun (envR Tryz.prog eqTypes sp []) 199 run43 = true := by kernel_rfl
theorem chk45 : chkRun (envR Tryz.prog eqTypes sp []) 199 run45 = true := by kernel_rfl
theorem chk47 : chkRun (envR Tryz.prog eqTypes sp []) 199 run47 = true := by kernel_rfl
theorem chk12 : chkRun (envR Tryz.prog eqTypes sp []) 199 run12 = true := by kernel_rfl
theorem chk48 : chkRun (envR Tryz.prog eqTypes sp []) 199 run48 = true := by kernel_rfl
theorem chk8 : chkRun (envR Tryz.prog eqTypes sp []) 199 run8 = true := by kernel_rfl
theorem chk9 : chkRun (envR Tryz.prog eqTypes sp []) 199 run9 = true := by kernel_rfl
theorem chk10 : chkRun (envR Tryz.prog eqTypes sp []) 199 run10 = true := by kernel_rfl
theorem chk11 : chkRun (envR Tryz.prog eqTypes sp []) 199 run11 = true := by kernel_rfl
theorem chk39 : chkRun (envR Tryz.prog eqTypes sp []) 199 run39 = true := by kernel_rfl
theorem chk40 : chkRun (envR Tryz.prog eqTypes sp []) 199 run40 = true := by kernel_rfl
theorem chk41 : chkRun (envR Tryz.prog eqTypes sp []) 199 run41 = true := by kernel_rfl
theorem chk63 : chkRunT (envR Tryz.prog eqTypes sp []) 199 run63 = true := by kernel_rfl
theorem chk72 : chkRunT (envR Tryz.prog eqTypes sp []) 199 run72 = true := by kernel_rfl
theorem chk174 : chkRunT (envR Tryz.prog eqTypes sp []) 199 run174 = true := by kernel_rfl
theorem chk159 : chkRunT (envR Tryz.prog eqTypes sp []) 199 run159 = true := by kernel_rfl
theorem chk111 : chkRunT (envR Tryz.prog eqTypes sp []) 199 run111 = true := by kernel_rfl
end Go.Proofs.YtmmialoeghjckaaGreatDoor
