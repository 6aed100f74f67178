/- A part of the proof of PipaG. -/
import Derived.KernelRfl
import Derived.Test.YtmmialoeghjckaaGreatDoorPipL
set_option linter.unusedVariables false
set_option maxRecDepth 100000
namespace Go.Proofs.YtmmialoeghjckaaGreatDoor
open Go Go.Ev
theorem chk87 : chkRun (envR Tryz.prog eqTypes sp []) 199 run87 = true := by kernel_rfl
theorem chk91 : chkRun (envR Tryz.prog eqTypes sp []) 199 run91 = true := by kernel_rfl
theorem chk92 : chkRun (envR Tryz.prog eqTypes sp []) 199 run92 = true := by kernel_rfl
theorem chk94 : chkRun (envR Tryz.prog eqTypes sp []) 199 run94 = true := by kernel_rfl
theorem chk97 : chkRun (envR Tryz.prog eqTypes sp []) 199 run97 = true := by kernel_rfl
theorem chk98 : chkRun (envR Tryz.prog eqTypes sp []) 199 run98 = true := by kernel_rfl
theorem chk101 : chkRun (envR Tryz.prog eqTypes sp []) 199 run101 = true := by kernel_rfl
theorem chk104 : chkRun (envR Tryz.prog eqTypes sp []) 199 run104 = true := by kernel_rfl
theorem chk109 : chkRun (envR Tryz.prog eqTypes sp []) 199 run109 = true := by kernel_rfl
theorem chk110 : chkRun (envR Tryz.prog eqTypes sp []) 199 run110 = true := by kernel_rfl
theorem chk112 : chkRun (envR Tryz.prog eqTypes sp []) 199 run112 = true := by kernel_rfl
theorem chk114 : chkRun (envR Tryz.prog eqTypes sp []) 199 run114 = true := by kernel_rfl
theorem chk116 : chkRun (envR Tryz.prog eqTypes sp []) 199 run116 = true := by kernel_rfl
theorem chk117 : chkRun (envR Tryz.prog eqTypes sp []) 199 run117 = true := by kernel_rfl
theorem chk122 : chkRun (envR Tryz.prog eqTypes sp []) 199 run122 = true := by kernel_rfl
theorem chk149 : chkRunT (envR Tryz.prog eqTypes sp []) 199 run149 = true := by kernel_rfl
theorem chk151 : chkRunT (envR Tryz.prog eqTypes sp []) 199 run151 = true := by kernel_rfl
theorem chk161 : chkRunT (envR Tryz.prog eqTypes sp []) 199 run161 = true := by kernel_rfl
theorem chk164 : chkRunT (envR Tryz.prog eqTypes sp []) 199 run164 = true := by kernel_rfl
theorem chk171 : chkRunT (envR Tryz.prog eqTypes sp []) 199 run171 = true := by kernel_rfl
end Go.Proofs.YtmmialoeghjckaaGreatDoor
