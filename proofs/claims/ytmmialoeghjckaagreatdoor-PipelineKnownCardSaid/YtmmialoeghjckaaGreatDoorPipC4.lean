/- A part of the proof of PipaG. -/
import Derived.KernelRfl
import Derived.Test.YtmmialoeghjckaaGreatDoorPipL
set_option linter.unusedVariables false
set_option maxRecDepth 100000
namespace Go.Proofs.YtmmialoeghjckaaGreatDoor
open Go Go.Ev
theorem chk73 : chkRun (envR Tryz.prog eqTypes sp [run71, run72]) 199 run73 = true := by kernel_rfl
theorem chk76 : chkRun (envR Tryz.prog eqTypes sp [run74, run75]) 199 run76 = true := by kernel_rfl
theorem chk86 : chkRun (envR Tryz.prog eqTypes sp [run84, run85]) 199 run86 = true := by kernel_rfl
theorem chk89 : chkRun (envR Tryz.prog eqTypes sp [run87, run88]) 199 run89 = true := by kernel_rfl
theorem chk100 : chkRun (envR Tryz.prog eqTypes sp [run98, run99]) 199 run100 = true := by kernel_rfl
theorem chk103 : chkRun (envR Tryz.prog eqTypes sp [run101, run102]) 199 run103 = true := by kernel_rfl
theorem chk119 : chkRun (envR Tryz.prog eqTypes sp [run117, run118]) 199 run119 = true := by kernel_rfl
theorem chk128 : chkRun (envR Tryz.prog eqTypes sp [run126, run127]) 199 run128 = true := by kernel_rfl
theorem chk131 : chkRun (envR Tryz.prog eqTypes sp [run129, run130]) 199 run131 = true := by kernel_rfl
theorem chk5 : chkRunT (envR Tryz.prog eqTypes sp []) 199 run5 = true := by kernel_rfl
theorem chk19 : chkRunT (envR Tryz.prog eqTypes sp []) 199 run19 = true := by kernel_rfl
theorem chk69 : chkRunT (envR Tryz.prog eqTypes sp []) 199 run69 = true := by kernel_rfl
theorem chk80 : chkRunT (envR Tryz.prog eqTypes sp []) 199 run80 = true := by kernel_rfl
theorem chk176 : chkRunT (envR Tryz.prog eqTypes sp []) 199 run176 = true := by kernel_rfl
end Go.Proofs.YtmmialoeghjckaaGreatDoor
