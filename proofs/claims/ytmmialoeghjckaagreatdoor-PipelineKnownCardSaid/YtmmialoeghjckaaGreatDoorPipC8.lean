/- A part of the proof of PipaG. -/
import Derived.KernelRfl
import Derived.Test.YtmmialoeghjckaaGreatDoorPipL
set_option linter.unusedVariables false
set_option maxRecDepth 100000
namespace Go.Proofs.YtmmialoeghjckaaGreatDoor
open Go Go.Ev
theorem chk54 : chkRun (envR Tryz.prog eqTypes sp []) 199 run54 = true := by kernel_rfl
theorem chk56 : chkRun (envR Tryz.prog eqTypes sp []) 199 run56 = true := by kernel_rfl
theorem chk60 : chkRun (envR Tryz.prog eqTypes sp []) 199 run60 = true := by kernel_rfl
theorem chk61 : chkRun (envR Tryz.prog eqTypes sp []) 199 run61 = true := by kernel_rfl
theorem chk62 : chkRun (envR Tryz.prog eqTypes sp []) 199 run62 = true := by kernel_rfl
theorem chk67 : chkRun (envR Tryz.prog eqTypes sp []) 199 run67 = true := by kernel_rfl
theorem chk68 : chkRun (envR Tryz.prog eqTypes sp []) 199 run68 = true := by kernel_rfl
theorem chk70 : chkRun (envR Tryz.prog eqTypes sp []) 199 run70 = true := by kernel_rfl
theorem chk71 : chkRun (envR Tryz.prog eqTypes sp []) 199 run71 = true := by kernel_rfl
theorem chk74 : chkRun (envR Tryz.prog eqTypes sp []) 199 run74 = true := by kernel_rfl
theorem chk78 : chkRun (envR Tryz.prog eqTypes sp []) 199 run78 = true := by kernel_rfl
theorem chk79 : chkRun (envR Tryz.prog eqTypes sp []) 199 run79 = true := by kernel_rfl
theorem chk81 : chkRun (envR Tryz.prog eqTypes sp []) 199 run81 = true := by kernel_rfl
theorem chk83 : chkRun (envR Tryz.prog eqTypes sp []) 199 run83 = true := by kernel_rfl
theorem chk84 : chkRun (envR Tryz.prog eqTypes sp []) 199 run84 = true := by kernel_rfl
theorem chk124 : chkRunT (envR Tryz.prog eqTypes sp []) 199 run124 = true := by kernel_rfl
theorem chk135 : chkRunT (envR Tryz.prog eqTypes sp []) 199 run135 = true := by kernel_rfl
theorem chk137 : chkRunT (envR Tryz.prog eqTypes sp []) 199 run137 = true := by kernel_rfl
end Go.Proofs.YtmmialoeghjckaaGreatDoor
