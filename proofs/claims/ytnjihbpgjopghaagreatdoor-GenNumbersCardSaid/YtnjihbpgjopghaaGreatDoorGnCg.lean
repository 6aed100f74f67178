/- A closed run: Guard over the first text of the examples. -/
import Derived.KernelRfl
import Derived.Test.YtnjihbpgjopghaaGreatDoorProg
import Derived.Test.YtnjihbpgjopghaaGreatDoorGnL
set_option linter.unusedVariables false
set_option maxRecDepth 100000
namespace Go.Proofs.YtnjihbpgjopghaaGreatDoor
open Go Go.Ev
theorem runG : runK (Env.of Tryz.prog [49, 93, 47, 62, 160, 280] 222) 199 9 [vA] hA [0, 1, 9700, 9741, 9743, 9745, 9747, 9749] [9700, 9702, 9728, 9736, 9745, 9749] = some (vG, hG) := by kernel_rfl
end Go.Proofs.YtnjihbpgjopghaaGreatDoor
