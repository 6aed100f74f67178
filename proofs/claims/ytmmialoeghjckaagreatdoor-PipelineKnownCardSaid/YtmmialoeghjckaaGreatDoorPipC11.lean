/- A part of the proof of PipaG. -/
import Derived.KernelRfl
import Derived.Test.YtmmialoeghjckaaGreatDoorPipL
set_option linter.unusedVariables false
set_option maxRecDepth 100000
namespace Go.Proofs.YtmmialoeghjckaaGreatDoor
open Go Go.Ev
theorem chk156 : chkRun (envR Tryz.prog eqTypes sp []) 199 run156 = true := by kernel_rfl
theorem chk181 : chkRun (envR Tryz.prog eqTypes sp []) 199 run181 = true := by kernel_rfl
theorem chk121 : chkRun (envR Tryz.prog eqTypes sp [run116, run119, run120]) 199 run121 = true := by kernel_rfl
theorem chk170 : chkRun (envR Tryz.prog eqTypes sp [run168, run169]) 199 run170 = true := by kernel_rfl
theorem chk51 : chkRun (envR Tryz.prog eqTypes sp [run33, run36, run37, run49, run50]) 199 run51 = true := by kernel_rfl
theorem chk24 : chkRun (envR Tryz.prog eqTypes sp [run23]) 199 run24 = true := by kernel_rfl
theorem chk163 : chkRun (envR Tryz.prog eqTypes sp [run162]) 199 run163 = true := by kernel_rfl
theorem chk31 : chkRun (envR Tryz.prog eqTypes sp []) 199 run31 = true := by kernel_rfl
theorem chk32 : chkRun (envR Tryz.prog eqTypes sp []) 199 run32 = true := by kernel_rfl
theorem chk34 : chkRun (envR Tryz.prog eqTypes sp []) 199 run34 = true := by kernel_rfl
theorem chk37 : chkRun (envR Tryz.prog eqTypes sp []) 199 run37 = true := by kernel_rfl
theorem chk177 : chkRun (envR Tryz.prog eqTypes sp [run176]) 199 run177 = true := by kernel_rfl
theorem chk30 : chkRun (envR Tryz.prog eqTypes sp []) 199 run30 = true := by kernel_rfl
theorem chk96 : chkRun (envR Tryz.prog eqTypes sp [run91, run92, run93, run94, run95]) 199 run96 = true := by kernel_rfl
theorem chk179 : chkRun (envR Tryz.prog eqTypes sp [run29, run178]) 199 run179 = true := by kernel_rfl
theorem chk173 : chkRun (envR Tryz.prog eqTypes sp []) 199 run173 = true := by kernel_rfl
end Go.Proofs.YtmmialoeghjckaaGreatDoor
