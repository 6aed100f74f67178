/- Runs of the law, checked by the kernel, part 6; where the order of the entries of a map is open, in each order. -/
import Derived.KernelRfl
import Derived.Test.YtkaibjghhopklaaGreatDoorSaL
set_option linter.unusedVariables false
set_option maxRecDepth 100000
namespace Go.Proofs.YtkaibjghhopklaaGreatDoor
open Go Go.Ev
theorem chk9 : chkRun (envR Tryz.prog eqTypes sp []) 199 run9 = true := by kernel_rfl
theorem chk10 : chkRun (envR Tryz.prog eqTypes sp []) 199 run10 = true := by kernel_rfl
end Go.Proofs.YtkaibjghhopklaaGreatDoor
