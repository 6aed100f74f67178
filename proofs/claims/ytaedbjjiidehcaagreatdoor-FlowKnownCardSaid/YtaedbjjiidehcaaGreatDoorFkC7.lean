/- Runs of the law, checked by the kernel, part 7; where the order of the entries of a map is open, in each order. -/
import Derived.KernelRfl
import Derived.Test.YtaedbjjiidehcaaGreatDoorFkL
set_option linter.unusedVariables false
set_option maxRecDepth 100000
namespace Go.Proofs.YtaedbjjiidehcaaGreatDoor
open Go Go.Ev
theorem chk8 : chkRunT (envR Tryz.prog eqTypes sp []) 199 run8 = true := by kernel_rfl
end Go.Proofs.YtaedbjjiidehcaaGreatDoor
