/- A closed run: the reader over the second text of the examples. -/
import Derived.KernelRfl
import Derived.Test.YtnjihbpgjopghaaGreatDoorProg
import Derived.Test.YtnjihbpgjopghaaGreatDoorGnL
set_option linter.unusedVariables false
set_option maxRecDepth 100000
namespace Go.Proofs.YtnjihbpgjopghaaGreatDoor
open Go Go.Ev
theorem runB : runK (Env.of Tryz.prog [49, 93, 47, 62, 160, 280] 222) 199 10 [strB] hG [0, 1, 9700, 9741, 9743, 9745, 9747, 9749, 11973, 12477, 13199, 14329, 14595, 14612] [9700, 9702, 9728, 9736, 9745, 9749, 11973, 11991, 13569, 14139, 14329, 14612] = some (vB, hB) := by kernel_rfl
end Go.Proofs.YtnjihbpgjopghaaGreatDoor
