/- The laws over numbers: the case analysis over the open runs. -/
import Derived.Test.YtgjefdmmaieplaaDoorIqX1
set_option linter.unusedVariables false
set_option maxRecDepth 100000
namespace Go.Proofs.YtgjefdmmaieplaaDoor
open Go Go.Ev Go.RowKit
theorem j_o1 {s0 s1 : Int} {W : World} (hL : Laid W) (l0 : -9223372036854775808 ≤ s0) (u0 : s0 ≤ 9223372036854775807) (l1 : -9223372036854775808 ≤ s1) (u1 : s1 ≤ 9223372036854775807) : Calls Tryd.prog 3 #[.int .i64 1, .int .i64 s0, .int .i64 s1] W (Yes W) := by
  exact w_o1_0 hL l0 u0 l1 u1 
theorem j_o2 {s0 s1 : Int} {W : World} (hL : Laid W) (l0 : -9223372036854775808 ≤ s0) (u0 : s0 ≤ 9223372036854775807) (l1 : -9223372036854775808 ≤ s1) (u1 : s1 ≤ 9223372036854775807) : Calls Tryd.prog 3 #[.int .i64 2, .int .i64 s0, .int .i64 s1] W (Yes W) := by
  exact w_o2_0 hL l0 u0 l1 u1 
theorem j_o3 {s0 s1 : Int} {W : World} (hL : Laid W) (l0 : -9223372036854775808 ≤ s0) (u0 : s0 ≤ 9223372036854775807) (l1 : -9223372036854775808 ≤ s1) (u1 : s1 ≤ 9223372036854775807) : Calls Tryd.prog 3 #[.int .i64 3, .int .i64 s0, .int .i64 s1] W (Yes W) := by
  exact w_o3_0 hL l0 u0 l1 u1 
theorem j_o4 {s0 s1 : Int} {W : World} (hL : Laid W) (l0 : -9223372036854775808 ≤ s0) (u0 : s0 ≤ 9223372036854775807) (l1 : -9223372036854775808 ≤ s1) (u1 : s1 ≤ 9223372036854775807) : Calls Tryd.prog 3 #[.int .i64 4, .int .i64 s0, .int .i64 s1] W (Yes W) := by
  by_cases H0 : s1 = 0
  · exact w_o4_0 hL l0 u0 l1 u1 H0
  · by_cases H1 : s1 = (-1)
    · exact w_o4_1 hL l0 u0 l1 u1 H0 H1
    · exact w_o4_2 hL l0 u0 l1 u1 H0 H1
theorem j_o5 {s0 s1 : Int} {W : World} (hL : Laid W) (l0 : -9223372036854775808 ≤ s0) (u0 : s0 ≤ 9223372036854775807) (l1 : -9223372036854775808 ≤ s1) (u1 : s1 ≤ 9223372036854775807) : Calls Tryd.prog 3 #[.int .i64 5, .int .i64 s0, .int .i64 s1] W (Yes W) := by
  by_cases H0 : s1 = 0
  · exact w_o5_0 hL l0 u0 l1 u1 H0
  · by_cases H1 : s1 = (-1)
    · exact w_o5_1 hL l0 u0 l1 u1 H0 H1
    · exact w_o5_3 hL l0 u0 l1 u1 H0 H1
theorem j_o6 {s0 s1 : Int} {W : World} (hL : Laid W) (l0 : -9223372036854775808 ≤ s0) (u0 : s0 ≤ 9223372036854775807) (l1 : -9223372036854775808 ≤ s1) (u1 : s1 ≤ 9223372036854775807) : Calls Tryd.prog 3 #[.int .i64 6, .int .i64 s0, .int .i64 s1] W (Yes W) := by
  exact w_o6_0 hL l0 u0 l1 u1 
theorem j_o7 {s0 s1 : Int} {W : World} (hL : Laid W) (l0 : -9223372036854775808 ≤ s0) (u0 : s0 ≤ 9223372036854775807) (l1 : -9223372036854775808 ≤ s1) (u1 : s1 ≤ 9223372036854775807) : Calls Tryd.prog 3 #[.int .i64 7, .int .i64 s0, .int .i64 s1] W (Yes W) := by
  exact w_o7_0 hL l0 u0 l1 u1 
theorem j_o8 {s0 s1 : Int} {W : World} (hL : Laid W) (l0 : -9223372036854775808 ≤ s0) (u0 : s0 ≤ 9223372036854775807) (l1 : -9223372036854775808 ≤ s1) (u1 : s1 ≤ 9223372036854775807) : Calls Tryd.prog 3 #[.int .i64 8, .int .i64 s0, .int .i64 s1] W (Yes W) := by
  exact w_o8_0 hL l0 u0 l1 u1 
theorem j_o9 {s0 s1 : Int} {W : World} (hL : Laid W) (l0 : -9223372036854775808 ≤ s0) (u0 : s0 ≤ 9223372036854775807) (l1 : -9223372036854775808 ≤ s1) (u1 : s1 ≤ 9223372036854775807) : Calls Tryd.prog 3 #[.int .i64 9, .int .i64 s0, .int .i64 s1] W (Yes W) := by
  exact w_o9_0 hL l0 u0 l1 u1 
theorem j_o10 {s0 s1 : Int} {W : World} (hL : Laid W) (l0 : -9223372036854775808 ≤ s0) (u0 : s0 ≤ 9223372036854775807) (l1 : -9223372036854775808 ≤ s1) (u1 : s1 ≤ 9223372036854775807) : Calls Tryd.prog 3 #[.int .i64 10, .int .i64 s0, .int .i64 s1] W (Yes W) := by
  exact w_o10_0 hL l0 u0 l1 u1 
theorem j_o11 {s0 s1 : Int} {W : World} (hL : Laid W) (l0 : -9223372036854775808 ≤ s0) (u0 : s0 ≤ 9223372036854775807) (l1 : -9223372036854775808 ≤ s1) (u1 : s1 ≤ 9223372036854775807) : Calls Tryd.prog 3 #[.int .i64 11, .int .i64 s0, .int .i64 s1] W (Yes W) := by
  by_cases H0 : s0 = s1
  · exact w_o11_0 hL l0 u0 l1 u1 H0
  · exact w_o11_1 hL l0 u0 l1 u1 H0
theorem j_o12 {s0 s1 : Int} {W : World} (hL : Laid W) (l0 : -9223372036854775808 ≤ s0) (u0 : s0 ≤ 9223372036854775807) (l1 : -9223372036854775808 ≤ s1) (u1 : s1 ≤ 9223372036854775807) : Calls Tryd.prog 3 #[.int .i64 12, .int .i64 s0, .int .i64 s1] W (Yes W) := by
  by_cases H0 : s0 = s1
  · exact w_o12_1 hL l0 u0 l1 u1 H0
  · exact w_o12_0 hL l0 u0 l1 u1 H0
theorem j_o13 {s0 s1 : Int} {W : World} (hL : Laid W) (l0 : -9223372036854775808 ≤ s0) (u0 : s0 ≤ 9223372036854775807) (l1 : -9223372036854775808 ≤ s1) (u1 : s1 ≤ 9223372036854775807) : Calls Tryd.prog 3 #[.int .i64 13, .int .i64 s0, .int .i64 s1] W (Yes W) := by
  by_cases H0 : s0 < s1
  · exact w_o13_0 hL l0 u0 l1 u1 H0
  · exact w_o13_1 hL l0 u0 l1 u1 H0
theorem j_o14 {s0 s1 : Int} {W : World} (hL : Laid W) (l0 : -9223372036854775808 ≤ s0) (u0 : s0 ≤ 9223372036854775807) (l1 : -9223372036854775808 ≤ s1) (u1 : s1 ≤ 9223372036854775807) : Calls Tryd.prog 3 #[.int .i64 14, .int .i64 s0, .int .i64 s1] W (Yes W) := by
  by_cases H0 : s0 ≤ s1
  · exact w_o14_0 hL l0 u0 l1 u1 H0
  · exact w_o14_1 hL l0 u0 l1 u1 H0
theorem j_oL {s0 s1 s2 : Int} {W : World} (hL : Laid W) (l0 : -9223372036854775808 ≤ s0) (u0 : s0 ≤ 9223372036854775807) (l1 : -9223372036854775808 ≤ s1) (u1 : s1 ≤ 9223372036854775807) (hk : s2 ≤ 0) : Calls Tryd.prog 3 #[.int .i64 s2, .int .i64 s0, .int .i64 s1] W (Yes W) := by
  exact w_oL_0 hL l0 u0 l1 u1 hk 
theorem j_oH {s0 s1 s2 : Int} {W : World} (hL : Laid W) (l0 : -9223372036854775808 ≤ s0) (u0 : s0 ≤ 9223372036854775807) (l1 : -9223372036854775808 ≤ s1) (u1 : s1 ≤ 9223372036854775807) (hk : 15 ≤ s2) : Calls Tryd.prog 3 #[.int .i64 s2, .int .i64 s0, .int .i64 s1] W (Yes W) := by
  exact w_oH_0 hL l0 u0 l1 u1 hk 
theorem j_tot {s0 s1 : Int} {W : World} (hL : Laid W) (l0 : -9223372036854775808 ≤ s0) (u0 : s0 ≤ 9223372036854775807) (l1 : -9223372036854775808 ≤ s1) (u1 : s1 ≤ 9223372036854775807) : Calls Tryd.prog 5 #[.int .i64 s0, .int .i64 s1] W (Yes W) := by
  by_cases H0 : s1 = 0
  · by_cases H1 : s0 < s1
    · exact w_tot_0 hL l0 u0 l1 u1 H0 H1
    · exact w_tot_1 hL l0 u0 l1 u1 H0 H1
  · by_cases H1 : s0 < s1
    · exact w_tot_2 hL l0 u0 l1 u1 H0 H1
    · exact w_tot_3 hL l0 u0 l1 u1 H0 H1
end Go.Proofs.YtgjefdmmaieplaaDoor
