/- RangesSets of layer 4: for every input the law returns true. No condition. -/
import Derived.Test.YtomjcpgjlhencaaKGlueSToRngK
import Derived.Test.YtomjcpgjlhencaaKRngZCToRngZE
set_option linter.unusedSimpArgs false
set_option linter.unusedVariables false
namespace Go.Proofs.Ytomjcpgjlhencaa

theorem ranges_sets_holds : Rows.RangesSetsSaid :=
  holdsRangesSets (sets_glue shown_ok pfull_any full_any pcheck_any check_any pjoin_spec ref_join pmeet_spec ref_meet)

end Go.Proofs.Ytomjcpgjlhencaa
