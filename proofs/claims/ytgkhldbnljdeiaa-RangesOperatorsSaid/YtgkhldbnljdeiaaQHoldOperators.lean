/- RangesOperators of layer 4: for every input the law returns true. No condition. -/
import Derived.Test.YtgkhldbnljdeiaaQGlueAToRngN
import Derived.Test.YtgkhldbnljdeiaaQRngZXToRefF4
import Derived.Test.YtgkhldbnljdeiaaQRngZHToRngZM
import Derived.Test.YtgkhldbnljdeiaaQRngZBToRngZG
set_option linter.unusedSimpArgs false
set_option linter.unusedVariables false
namespace Go.Proofs.Ytgkhldbnljdeiaa
theorem ranges_operators_holds : Rows.RangesOperatorsSaid := holdsRangesOperators (ops_glue shown_ok punary_spec ref_unary pbinary_spec ref_binary psmall_spec ref_small)
end Go.Proofs.Ytgkhldbnljdeiaa
