/- A closed run: Same over the two programs of the examples. -/
import Derived.KernelRfl
import Derived.Test.YtnjihbpgjopghaaGreatDoorProg
import Derived.Test.YtnjihbpgjopghaaGreatDoorGnL
set_option linter.unusedVariables false
set_option maxRecDepth 100000
namespace Go.Proofs.YtnjihbpgjopghaaGreatDoor
open Go Go.Ev
theorem runS : runK (Env.of Tryz.prog [49, 93, 47, 62, 160, 280] 222) 199 11 [vP, vB] hB [0, 1] [] = some (vS, hS) := by kernel_rfl
end Go.Proofs.YtnjihbpgjopghaaGreatDoor
