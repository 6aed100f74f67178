/- A part of the proof of SgG. -/
import Derived.KernelRfl
import Derived.Test.YtcfneeeieofkeaaGreatDoorSmL
set_option linter.unusedVariables false
set_option maxRecDepth 100000
namespace Go.Proofs.YtcfneeeieofkeaaGreatDoor
open Go Go.Ev
theorem run5 : isT (callN (envF Tryz.prog [49] 0 [] []) 199 21 [str5, .int .i64 2, .int .i64 1, sliceR 2 pl5, sliceR 3 ou5] (rowsH (roH Tryz.prog.globals.size [(0, g0), (1, g1)]) [pl5, ou5])) = true := by kernel_rfl
end Go.Proofs.YtcfneeeieofkeaaGreatDoor
