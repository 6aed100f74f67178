/- Runs of the law, checked by the kernel, part 6; where the order of the entries of a map is open, in each order. -/
import Derived.KernelRfl
import Derived.Test.YtaedbjjiidehcaaGreatDoorFkL
set_option linter.unusedVariables false
set_option maxRecDepth 100000
namespace Go.Proofs.YtaedbjjiidehcaaGreatDoor
open Go Go.Ev
theorem chk6 : chkRunT (envR Tryz.prog eqTypes sp []) 199 run6 = true := by kernel_rfl
theorem chk7 : chkRunT (envR Tryz.prog eqTypes sp [run6]) 199 run7 = true := by kernel_rfl
end Go.Proofs.YtaedbjjiidehcaaGreatDoor
