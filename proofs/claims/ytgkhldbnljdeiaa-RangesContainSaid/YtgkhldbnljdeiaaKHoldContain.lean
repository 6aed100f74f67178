/- RangesContain of layer 4: for every input the law returns true. No condition. -/
import Derived.Test.YtgkhldbnljdeiaaKLawContainNoToGlueC
import Derived.Test.YtgkhldbnljdeiaaKRngZZ
import Derived.Test.YtgkhldbnljdeiaaKRngZBToRngZE
set_option linter.unusedSimpArgs false
set_option linter.unusedVariables false
namespace Go.Proofs.Ytgkhldbnljdeiaa

theorem ranges_contain_holds : Rows.RangesContainSaid := holdsRangesContain (contain_glue shown_ok pbinary_spec pcheck_any)

end Go.Proofs.Ytgkhldbnljdeiaa
