/- A part of the proof of PipaG. -/
import Derived.KernelRfl
import Derived.Test.YtmmialoeghjckaaGreatDoorPipL
set_option linter.unusedVariables false
set_option maxRecDepth 100000
namespace Go.Proofs.YtmmialoeghjckaaGreatDoor
open Go Go.Ev
theorem chk6 : chkRun (envR Tryz.prog eqTypes sp [run5]) 199 run6 = true := by kernel_rfl
theorem chk175 : chkRun (envR Tryz.prog eqTypes sp [run174]) 199 run175 = true := by kernel_rfl
theorem chk160 : chkRun (envR Tryz.prog eqTypes sp [run152, run155, run158, run159]) 199 run160 = true := by kernel_rfl
theorem chk146 : chkRun (envR Tryz.prog eqTypes sp [run139, run142, run145]) 199 run146 = true := by kernel_rfl
theorem chk22 : chkRun (envR Tryz.prog eqTypes sp [run4, run16, run17, run20, run21]) 199 run22 = true := by kernel_rfl
theorem chk65 : chkRun (envR Tryz.prog eqTypes sp []) 199 run65 = true := by kernel_rfl
theorem chk36 : chkRun (envR Tryz.prog eqTypes sp [run34, run35]) 199 run36 = true := by kernel_rfl
theorem chk64 : chkRun (envR Tryz.prog eqTypes sp [run62, run63]) 199 run64 = true := by kernel_rfl
theorem chk16 : chkRun (envR Tryz.prog eqTypes sp [run6, run14, run15]) 199 run16 = true := by kernel_rfl
theorem chk33 : chkRunT (envR Tryz.prog eqTypes sp []) 199 run33 = true := by kernel_rfl
end Go.Proofs.YtmmialoeghjckaaGreatDoor
