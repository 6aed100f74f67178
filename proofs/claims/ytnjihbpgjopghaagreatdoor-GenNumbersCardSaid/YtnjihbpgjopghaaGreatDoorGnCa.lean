/- A closed run: the reader over the first text of the examples. -/
import Derived.KernelRfl
import Derived.Test.YtnjihbpgjopghaaGreatDoorProg
import Derived.Test.YtnjihbpgjopghaaGreatDoorGnL
set_option linter.unusedVariables false
set_option maxRecDepth 100000
namespace Go.Proofs.YtnjihbpgjopghaaGreatDoor
open Go Go.Ev
theorem runA : runK (Env.of Tryz.prog [49, 93, 47, 62, 160, 280] 222) 199 10 [strA] hO [0, 1, 2225, 2538, 3175, 3441, 3458] [2225, 2243, 2985, 3175, 3458] = some (vA, hA) := by kernel_rfl
end Go.Proofs.YtnjihbpgjopghaaGreatDoor
