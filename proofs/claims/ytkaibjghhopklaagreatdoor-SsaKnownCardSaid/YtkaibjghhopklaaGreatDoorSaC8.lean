/- Runs of the law, checked by the kernel, part 8; where the order of the entries of a map is open, in each order. -/
import Derived.KernelRfl
import Derived.Test.YtkaibjghhopklaaGreatDoorSaL
set_option linter.unusedVariables false
set_option maxRecDepth 100000
namespace Go.Proofs.YtkaibjghhopklaaGreatDoor
open Go Go.Ev
theorem chk13 : chkRun (envR Tryz.prog eqTypes sp [run3, run4, run5, run6, run7, run8, run9, run10, run11, run12]) 199 run13 = true := by kernel_rfl
theorem chk14 : chkRunT (envR Tryz.prog eqTypes sp []) 199 run14 = true := by kernel_rfl
end Go.Proofs.YtkaibjghhopklaaGreatDoor
