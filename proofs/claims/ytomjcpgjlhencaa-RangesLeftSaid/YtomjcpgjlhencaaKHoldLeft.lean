/- RangesLeft of layer 4: for every input the law returns true. No condition. -/
import Derived.Test.YtomjcpgjlhencaaKGlueL
import Derived.Test.YtomjcpgjlhencaaKRngZCToRngZE
set_option linter.unusedSimpArgs false
set_option linter.unusedVariables false
namespace Go.Proofs.Ytomjcpgjlhencaa

theorem ranges_left_holds : Rows.RangesLeftSaid := holdsRangesLeft (left_glue shown_ok passume_spec)

end Go.Proofs.Ytomjcpgjlhencaa
