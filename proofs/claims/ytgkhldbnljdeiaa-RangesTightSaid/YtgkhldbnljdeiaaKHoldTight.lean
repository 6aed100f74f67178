/- RangesTight of layer 4: for every input the law returns true. No condition. -/
import Derived.Test.YtgkhldbnljdeiaaKLawTightToGlueT
import Derived.Test.YtgkhldbnljdeiaaKRngZZ
import Derived.Test.YtgkhldbnljdeiaaKRngZBToRngZE
set_option linter.unusedSimpArgs false
set_option linter.unusedVariables false
namespace Go.Proofs.Ytgkhldbnljdeiaa

theorem ranges_tight_holds : Rows.RangesTightSaid := holdsRangesTight (tight_glue shown_ok pbinary_spec pjoin_spec pcheck_any)

end Go.Proofs.Ytgkhldbnljdeiaa
