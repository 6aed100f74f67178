/- A part of the proof of SgG. -/
import Derived.KernelRfl
import Derived.Test.YtcfneeeieofkeaaGreatDoorSmL
section
set_option linter.unusedVariables false
set_option maxRecDepth 100000
namespace Go.Proofs.YtcfneeeieofkeaaGreatDoor
open Go Go.Ev
theorem run2 : isT (callN (envF Tryz.prog [49] 0 [] []) 199 21 [str2, .int .i64 2, .int .i64 1, sliceR 2 pl2, sliceR 3 ou2] (rowsH (roH Tryz.prog.globals.size [(0, g0), (1, g1)]) [pl2, ou2])) = true := by kernel_rfl
end Go.Proofs.YtcfneeeieofkeaaGreatDoor
end
section
set_option linter.unusedVariables false
set_option maxRecDepth 100000
namespace Go.Proofs.YtcfneeeieofkeaaGreatDoor
open Go Go.Ev
theorem run3 : isT (callN (envF Tryz.prog [49] 0 [] []) 199 21 [str3, .int .i64 3, .int .i64 1, sliceR 2 pl3, .slice none 0 0] (rowsH (roH Tryz.prog.globals.size [(0, g0), (1, g1)]) [pl3])) = true := by kernel_rfl
end Go.Proofs.YtcfneeeieofkeaaGreatDoor
end
