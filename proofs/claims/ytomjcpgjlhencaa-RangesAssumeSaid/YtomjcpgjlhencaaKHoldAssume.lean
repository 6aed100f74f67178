/- RangesAssume of layer 4: for every input the law returns true. No condition. -/
import Derived.Test.YtomjcpgjlhencaaKGlueBToGlueQ
import Derived.Test.YtomjcpgjlhencaaKRngZCToRngZE
set_option linter.unusedSimpArgs false
set_option linter.unusedVariables false
namespace Go.Proofs.Ytomjcpgjlhencaa

theorem ranges_assume_holds : Rows.RangesAssumeSaid := holdsRangesAssume (assume_glue shown_ok passume_spec ref_assume)

end Go.Proofs.Ytomjcpgjlhencaa
