/- For every kind and all numbers the law answers true. -/
import Derived.Test.YtgjefdmmaieplaaDoorIqY
set_option linter.unusedVariables false
namespace Go.Proofs.YtgjefdmmaieplaaDoor
open Go Go.Ev Go.RowKit
theorem operates_ok (kind a b : Int) {W : World} (hL : Laid W) (l0 : -9223372036854775808 ≤ a) (u0 : a ≤ 9223372036854775807) (l1 : -9223372036854775808 ≤ b) (u1 : b ≤ 9223372036854775807) :
    Calls Tryd.prog 3 #[.int .i64 kind, .int .i64 a, .int .i64 b] W (Yes W) := by
  by_cases c1 : kind ≤ 0
  · exact j_oL hL l0 u0 l1 u1 c1
  by_cases c2 : 15 ≤ kind
  · exact j_oH hL l0 u0 l1 u1 c2
  have ho : kind = 1 ∨ kind = 2 ∨ kind = 3 ∨ kind = 4 ∨ kind = 5 ∨ kind = 6 ∨ kind = 7 ∨ kind = 8 ∨ kind = 9 ∨ kind = 10 ∨ kind = 11 ∨ kind = 12 ∨ kind = 13 ∨ kind = 14 := by omega
  clear c1 c2
  rcases ho with rfl | rfl | rfl | rfl | rfl | rfl | rfl | rfl | rfl | rfl | rfl | rfl | rfl | rfl
  · exact j_o1 hL l0 u0 l1 u1
  · exact j_o2 hL l0 u0 l1 u1
  · exact j_o3 hL l0 u0 l1 u1
  · exact j_o4 hL l0 u0 l1 u1
  · exact j_o5 hL l0 u0 l1 u1
  · exact j_o6 hL l0 u0 l1 u1
  · exact j_o7 hL l0 u0 l1 u1
  · exact j_o8 hL l0 u0 l1 u1
  · exact j_o9 hL l0 u0 l1 u1
  · exact j_o10 hL l0 u0 l1 u1
  · exact j_o11 hL l0 u0 l1 u1
  · exact j_o12 hL l0 u0 l1 u1
  · exact j_o13 hL l0 u0 l1 u1
  · exact j_o14 hL l0 u0 l1 u1
end Go.Proofs.YtgjefdmmaieplaaDoor
