/- A part of the proof of PipaG. -/
import Derived.KernelRfl
import Derived.Test.YtmmialoeghjckaaGreatDoorPipL
set_option linter.unusedVariables false
set_option maxRecDepth 100000
namespace Go.Proofs.YtmmialoeghjckaaGreatDoor
open Go Go.Ev
theorem chk123 : chkRun (envR Tryz.prog eqTypes sp []) 199 run123 = true := by kernel_rfl
theorem chk125 : chkRun (envR Tryz.prog eqTypes sp []) 199 run125 = true := by kernel_rfl
theorem chk126 : chkRun (envR Tryz.prog eqTypes sp []) 199 run126 = true := by kernel_rfl
theorem chk129 : chkRun (envR Tryz.prog eqTypes sp []) 199 run129 = true := by kernel_rfl
theorem chk133 : chkRun (envR Tryz.prog eqTypes sp []) 199 run133 = true := by kernel_rfl
theorem chk134 : chkRun (envR Tryz.prog eqTypes sp []) 199 run134 = true := by kernel_rfl
theorem chk136 : chkRun (envR Tryz.prog eqTypes sp []) 199 run136 = true := by kernel_rfl
theorem chk139 : chkRun (envR Tryz.prog eqTypes sp []) 199 run139 = true := by kernel_rfl
theorem chk140 : chkRun (envR Tryz.prog eqTypes sp []) 199 run140 = true := by kernel_rfl
theorem chk143 : chkRun (envR Tryz.prog eqTypes sp []) 199 run143 = true := by kernel_rfl
theorem chk147 : chkRun (envR Tryz.prog eqTypes sp []) 199 run147 = true := by kernel_rfl
theorem chk148 : chkRun (envR Tryz.prog eqTypes sp []) 199 run148 = true := by kernel_rfl
theorem chk150 : chkRun (envR Tryz.prog eqTypes sp []) 199 run150 = true := by kernel_rfl
theorem chk152 : chkRun (envR Tryz.prog eqTypes sp []) 199 run152 = true := by kernel_rfl
theorem chk153 : chkRun (envR Tryz.prog eqTypes sp []) 199 run153 = true := by kernel_rfl
end Go.Proofs.YtmmialoeghjckaaGreatDoor
