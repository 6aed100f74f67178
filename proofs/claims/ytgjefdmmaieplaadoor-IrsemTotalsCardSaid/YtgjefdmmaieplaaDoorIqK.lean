/- The examples (awake) as a closed run, checked by the kernel. -/
import Derived.Test.YtgjefdmmaieplaaDoorEvB1
import Derived.Test.YtgjefdmmaieplaaDoorIqA
import Derived.Test.YtgjefdmmaieplaaDoorIqV
import Derived.KernelRfl
section
set_option linter.unusedVariables false
set_option maxRecDepth 100000
namespace Go.Proofs.YtgjefdmmaieplaaDoor
open Go Go.Ev

end Go.Proofs.YtgjefdmmaieplaaDoor
end
section
set_option linter.unusedVariables false
set_option maxRecDepth 100000
namespace Go.Proofs.YtgjefdmmaieplaaDoor
open Go Go.Ev
end Go.Proofs.YtgjefdmmaieplaaDoor
end
section
set_option linter.unusedVariables false
set_option maxRecDepth 100000
namespace Go.Proofs.YtgjefdmmaieplaaDoor
open Go Go.Ev
theorem top_run : isT (callN (envR Tryd.prog eqTypes sp []) 199 8 [] (roH Tryd.prog.globals.size tables)) = true := by kernel_rfl
theorem top_known : ∀ r ∈ [], KRunA Tryd.prog r := runs_nil
end Go.Proofs.YtgjefdmmaieplaaDoor
end
