/- A part of the proof of SgG. -/
import Derived.KernelRfl
import Derived.Test.YtcfneeeieofkeaaGreatDoorSmL
set_option linter.unusedVariables false
set_option maxRecDepth 100000
namespace Go.Proofs.YtcfneeeieofkeaaGreatDoor
open Go Go.Ev
theorem run1 : isT (callN (envF Tryz.prog [49] 0 [] []) 199 21 [str1, .int .i64 1, .int .i64 0, .slice none 0 0, sliceR 2 ou1] (rowsH (roH Tryz.prog.globals.size [(0, g0), (1, g1)]) [ou1])) = true := by kernel_rfl
end Go.Proofs.YtcfneeeieofkeaaGreatDoor
