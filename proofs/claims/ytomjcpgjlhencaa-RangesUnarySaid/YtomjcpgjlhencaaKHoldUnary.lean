/- RangesUnary of layer 4: for every input the law returns true. No condition. -/
import Derived.Test.YtomjcpgjlhencaaKGlueUToRngZF
import Derived.Test.YtomjcpgjlhencaaKRngZGToRngZH
import Derived.Test.YtomjcpgjlhencaaKRngZCToRngZE
set_option linter.unusedSimpArgs false
set_option linter.unusedVariables false
namespace Go.Proofs.Ytomjcpgjlhencaa

theorem ranges_unary_holds : Rows.RangesUnarySaid := holdsRangesUnary (unary_glue shown_ok punary_spec psmall_spec pcheck_any)

end Go.Proofs.Ytomjcpgjlhencaa
