/- A part of the proof of PipaG. -/
import Derived.KernelRfl
import Derived.Test.YtmmialoeghjckaaGreatDoorPipL
set_option linter.unusedVariables false
set_option maxRecDepth 100000
namespace Go.Proofs.YtmmialoeghjckaaGreatDoor
open Go Go.Ev
theorem chk138 : chkRun (envR Tryz.prog eqTypes sp [run133, run134, run135, run136, run137]) 199 run138 = true := by kernel_rfl
theorem chk21 : chkRun (envR Tryz.prog eqTypes sp []) 199 run21 = true := by kernel_rfl
theorem chk3 : chkRun (envR Tryz.prog eqTypes sp []) 199 run3 = true := by kernel_rfl
theorem chk29 : chkRun (envR Tryz.prog eqTypes sp []) 199 run29 = true := by kernel_rfl
theorem chk172 : chkRun (envR Tryz.prog eqTypes sp [run171]) 199 run172 = true := by kernel_rfl
theorem chk23 : chkRun (envR Tryz.prog eqTypes sp []) 199 run23 = true := by kernel_rfl
theorem chk162 : chkRun (envR Tryz.prog eqTypes sp [run161]) 199 run162 = true := by kernel_rfl
theorem chk165 : chkRun (envR Tryz.prog eqTypes sp [run164]) 199 run165 = true := by kernel_rfl
theorem chk107 : chkRun (envR Tryz.prog eqTypes sp [run103, run104, run105, run106]) 199 run107 = true := by kernel_rfl
theorem chk4 : chkRun (envR Tryz.prog eqTypes sp []) 199 run4 = true := by kernel_rfl
theorem chk28 : chkRun (envR Tryz.prog eqTypes sp []) 199 run28 = true := by kernel_rfl
theorem chk180 : chkRun (envR Tryz.prog eqTypes sp []) 199 run180 = true := by kernel_rfl
theorem chk15 : chkRun (envR Tryz.prog eqTypes sp []) 199 run15 = true := by kernel_rfl
theorem chk17 : chkRun (envR Tryz.prog eqTypes sp []) 199 run17 = true := by kernel_rfl
theorem chk18 : chkRun (envR Tryz.prog eqTypes sp []) 199 run18 = true := by kernel_rfl
theorem chk88 : chkRunT (envR Tryz.prog eqTypes sp []) 199 run88 = true := by kernel_rfl
theorem chk99 : chkRunT (envR Tryz.prog eqTypes sp []) 199 run99 = true := by kernel_rfl
theorem chk102 : chkRunT (envR Tryz.prog eqTypes sp []) 199 run102 = true := by kernel_rfl
theorem chk105 : chkRunT (envR Tryz.prog eqTypes sp []) 199 run105 = true := by kernel_rfl
theorem chk118 : chkRunT (envR Tryz.prog eqTypes sp []) 199 run118 = true := by kernel_rfl
theorem chk127 : chkRunT (envR Tryz.prog eqTypes sp []) 199 run127 = true := by kernel_rfl
theorem chk130 : chkRunT (envR Tryz.prog eqTypes sp []) 199 run130 = true := by kernel_rfl
theorem chk141 : chkRunT (envR Tryz.prog eqTypes sp []) 199 run141 = true := by kernel_rfl
theorem chk144 : chkRunT (envR Tryz.prog eqTypes sp []) 199 run144 = true := by kernel_rfl
theorem chk154 : chkRunT (envR Tryz.prog eqTypes sp []) 199 run154 = true := by kernel_rfl
end Go.Proofs.YtmmialoeghjckaaGreatDoor
