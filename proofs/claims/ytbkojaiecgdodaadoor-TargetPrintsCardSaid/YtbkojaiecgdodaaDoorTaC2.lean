/- A part of the proof of TacG. -/
import Derived.KernelRfl
import Derived.Test.YtbkojaiecgdodaaDoorTaL
set_option linter.unusedVariables false
set_option maxRecDepth 100000
namespace Go.Proofs.YtbkojaiecgdodaaDoor
open Go Go.Ev
theorem chk0 : chkRun (envR Tryd.prog eqTypes sp []) 199 run0 = true := by kernel_rfl
end Go.Proofs.YtbkojaiecgdodaaDoor
