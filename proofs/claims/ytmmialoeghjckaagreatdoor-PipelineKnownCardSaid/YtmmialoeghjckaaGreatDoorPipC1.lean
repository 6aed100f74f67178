/- A part of the proof of PipaG. -/
import Derived.KernelRfl
import Derived.Test.YtmmialoeghjckaaGreatDoorPipL
set_option linter.unusedVariables false
set_option maxRecDepth 100000
namespace Go.Proofs.YtmmialoeghjckaaGreatDoor
open Go Go.Ev
theorem chk178 : chkRun (envR Tryz.prog eqTypes sp [run30, run31, run32, run51, run52, run53, run54, run55, run56, run57, run58, run59, run60, run66, run67, run68, run69, run77, run78, run79, run80, run81, run82, run90, run96, run108, run109, run110, run111, run112, run113, run114, run115, run121, run122, run123, run124, run132, run138, run146, run147, run148, run149, run150, run151, run160, run163, run165, run166, run170, run172, run173, run175, run177]) 199 run178 = true := by kernel_rfl
theorem chk77 : chkRun (envR Tryz.prog eqTypes sp [run70, run73, run76]) 199 run77 = true := by kernel_rfl
theorem chk132 : chkRun (envR Tryz.prog eqTypes sp [run125, run128, run131]) 199 run132 = true := by kernel_rfl
theorem chk7 : chkRunT (envR Tryz.prog eqTypes sp []) 199 run7 = true := by kernel_rfl
theorem chk55 : chkRunT (envR Tryz.prog eqTypes sp []) 199 run55 = true := by kernel_rfl
theorem chk57 : chkRunT (envR Tryz.prog eqTypes sp []) 199 run57 = true := by kernel_rfl
theorem chk53 : chkRunT (envR Tryz.prog eqTypes sp []) 199 run53 = true := by kernel_rfl
end Go.Proofs.YtmmialoeghjckaaGreatDoor
