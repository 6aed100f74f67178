/- Runs of the law, checked by the kernel, part 4; where the order of the entries of a map is open, in each order. -/
import Derived.KernelRfl
import Derived.Test.YtaedbjjiidehcaaGreatDoorFkL
set_option linter.unusedVariables false
set_option maxRecDepth 100000
namespace Go.Proofs.YtaedbjjiidehcaaGreatDoor
open Go Go.Ev
theorem chk3 : chkRun (envR Tryz.prog eqTypes sp [run2]) 199 run3 = true := by kernel_rfl
end Go.Proofs.YtaedbjjiidehcaaGreatDoor
