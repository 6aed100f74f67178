/- A part of the proof of SmG. -/
import Derived.Test.YtcfneeeieofkeaaGreatDoorSmX1
import Derived.Test.YtcfneeeieofkeaaGreatDoorSmX2
import Derived.Test.YtcfneeeieofkeaaGreatDoorSmX3
import Derived.Test.YtcfneeeieofkeaaGreatDoorSmX4
import Derived.Test.YtcfneeeieofkeaaGreatDoorSmX5
import Derived.Test.YtcfneeeieofkeaaGreatDoorSmX6
import Derived.Test.YtcfneeeieofkeaaGreatDoorSmX7
section
set_option linter.unusedVariables false
set_option maxRecDepth 100000
namespace Go.Proofs.YtcfneeeieofkeaaGreatDoor
open Go Go.Ev Go.RowKit
theorem j_o1_1 (s0 s1 : Int) (ls0 : -9223372036854775808 ≤ s0) (us0 : s0 ≤ 9223372036854775807) (ls1 : -9223372036854775808 ≤ s1) (us1 : s1 ≤ 9223372036854775807) {W : World} (hL : Laid W) : Calls Tryz.prog 3 #[.agg #[.int .i64 1, .int .i64 1, .int .i64 s0, .int .i64 s1]] W (Yes W) := by
  exact w_o1_1_0 s0 s1 ls0 us0 ls1 us1  hL
theorem j_o1_2 (s0 s1 : Int) (ls0 : -9223372036854775808 ≤ s0) (us0 : s0 ≤ 9223372036854775807) (ls1 : -9223372036854775808 ≤ s1) (us1 : s1 ≤ 9223372036854775807) {W : World} (hL : Laid W) : Calls Tryz.prog 3 #[.agg #[.int .i64 1, .int .i64 2, .int .i64 s0, .int .i64 s1]] W (Yes W) := by
  by_cases H0 : 0 ≤ s0
  · by_cases H1 : s0 ≤ 255
    · by_cases H2 : 0 ≤ s1
      · by_cases H3 : s1 ≤ 255
        · exact w_o1_2_0 s0 s1 ls0 us0 ls1 us1 H0 H1 H2 H3 hL
        · exact w_o1_2_1 s0 s1 ls0 us0 ls1 us1 H0 H1 H2 H3 hL
      · exact w_o1_2_2 s0 s1 ls0 us0 ls1 us1 H0 H1 H2 hL
    · exact w_o1_2_3 s0 s1 ls0 us0 ls1 us1 H0 H1 hL
  · exact w_o1_2_4 s0 s1 ls0 us0 ls1 us1 H0 hL
theorem j_o1_3 (s0 s1 : Int) (ls0 : -9223372036854775808 ≤ s0) (us0 : s0 ≤ 9223372036854775807) (ls1 : -9223372036854775808 ≤ s1) (us1 : s1 ≤ 9223372036854775807) {W : World} (hL : Laid W) : Calls Tryz.prog 3 #[.agg #[.int .i64 1, .int .i64 3, .int .i64 s0, .int .i64 s1]] W (Yes W) := by
  by_cases H0 : s0 = 0
  · by_cases H1 : s1 = 0
    · exact w_o1_3_0 s0 s1 ls0 us0 ls1 us1 H0 H1 hL
    · by_cases H2 : s1 = 1
      · exact w_o1_3_1 s0 s1 ls0 us0 ls1 us1 H0 H1 H2 hL
      · exact w_o1_3_2 s0 s1 ls0 us0 ls1 us1 H0 H1 H2 hL
  · by_cases H1 : s0 = 1
    · by_cases H2 : s1 = 0
      · exact w_o1_3_3 s0 s1 ls0 us0 ls1 us1 H0 H1 H2 hL
      · by_cases H3 : s1 = 1
        · exact w_o1_3_4 s0 s1 ls0 us0 ls1 us1 H0 H1 H2 H3 hL
        · exact w_o1_3_5 s0 s1 ls0 us0 ls1 us1 H0 H1 H2 H3 hL
    · exact w_o1_3_6 s0 s1 ls0 us0 ls1 us1 H0 H1 hL
theorem j_o1_X (s0 s1 s2 : Int) (ls0 : -9223372036854775808 ≤ s0) (us0 : s0 ≤ 9223372036854775807) (ns0_1 : ¬ s0 = 1) (ns0_2 : ¬ s0 = 2) (ns0_3 : ¬ s0 = 3) (ls1 : -9223372036854775808 ≤ s1) (us1 : s1 ≤ 9223372036854775807) (ls2 : -9223372036854775808 ≤ s2) (us2 : s2 ≤ 9223372036854775807) {W : World} (hL : Laid W) : Calls Tryz.prog 3 #[.agg #[.int .i64 1, .int .i64 s0, .int .i64 s1, .int .i64 s2]] W (Yes W) := by
  by_cases H0 : s0 < 1
  · exact w_o1_X_0 s0 s1 s2 ls0 us0 ns0_1 ns0_2 ns0_3 ls1 us1 ls2 us2 H0 hL
  · exact w_o1_X_1 s0 s1 s2 ls0 us0 ns0_1 ns0_2 ns0_3 ls1 us1 ls2 us2 H0 hL
theorem j_o2_1 (s0 s1 : Int) (ls0 : -9223372036854775808 ≤ s0) (us0 : s0 ≤ 9223372036854775807) (ls1 : -9223372036854775808 ≤ s1) (us1 : s1 ≤ 9223372036854775807) {W : World} (hL : Laid W) : Calls Tryz.prog 3 #[.agg #[.int .i64 2, .int .i64 1, .int .i64 s0, .int .i64 s1]] W (Yes W) := by
  by_cases H0 : s1 = 0
  · exact w_o2_1_0 s0 s1 ls0 us0 ls1 us1 H0 hL
  · by_cases H1 : s0 = (-9223372036854775808)
    · by_cases H2 : s1 = (-1)
      · exact w_o2_1_1 s0 s1 ls0 us0 ls1 us1 H0 H1 H2 hL
      · exact w_o2_1_2 s0 s1 ls0 us0 ls1 us1 H0 H1 H2 hL
    · exact w_o2_1_3 s0 s1 ls0 us0 ls1 us1 H0 H1 hL
theorem j_o2_2 (s0 s1 : Int) (ls0 : -9223372036854775808 ≤ s0) (us0 : s0 ≤ 9223372036854775807) (ls1 : -9223372036854775808 ≤ s1) (us1 : s1 ≤ 9223372036854775807) {W : World} (hL : Laid W) : Calls Tryz.prog 3 #[.agg #[.int .i64 2, .int .i64 2, .int .i64 s0, .int .i64 s1]] W (Yes W) := by
  by_cases H0 : 0 ≤ s0
  · by_cases H1 : s0 ≤ 255
    · by_cases H2 : 0 ≤ s1
      · by_cases H3 : s1 ≤ 255
        · by_cases H4 : s1 = 0
          · exact w_o2_2_0 s0 s1 ls0 us0 ls1 us1 H0 H1 H2 H3 H4 hL
          · exact w_o2_2_1 s0 s1 ls0 us0 ls1 us1 H0 H1 H2 H3 H4 hL
        · exact w_o2_2_2 s0 s1 ls0 us0 ls1 us1 H0 H1 H2 H3 hL
      · exact w_o2_2_3 s0 s1 ls0 us0 ls1 us1 H0 H1 H2 hL
    · exact w_o2_2_4 s0 s1 ls0 us0 ls1 us1 H0 H1 hL
  · exact w_o2_2_5 s0 s1 ls0 us0 ls1 us1 H0 hL
theorem j_o2_3 (s0 s1 : Int) (ls0 : -9223372036854775808 ≤ s0) (us0 : s0 ≤ 9223372036854775807) (ls1 : -9223372036854775808 ≤ s1) (us1 : s1 ≤ 9223372036854775807) {W : World} (hL : Laid W) : Calls Tryz.prog 3 #[.agg #[.int .i64 2, .int .i64 3, .int .i64 s0, .int .i64 s1]] W (Yes W) := by
  by_cases H0 : s0 = 0
  · by_cases H1 : s1 = 0
    · exact w_o2_3_0 s0 s1 ls0 us0 ls1 us1 H0 H1 hL
    · by_cases H2 : s1 = 1
      · exact w_o2_3_1 s0 s1 ls0 us0 ls1 us1 H0 H1 H2 hL
      · exact w_o2_3_2 s0 s1 ls0 us0 ls1 us1 H0 H1 H2 hL
  · by_cases H1 : s0 = 1
    · by_cases H2 : s1 = 0
      · exact w_o2_3_3 s0 s1 ls0 us0 ls1 us1 H0 H1 H2 hL
      · by_cases H3 : s1 = 1
        · exact w_o2_3_4 s0 s1 ls0 us0 ls1 us1 H0 H1 H2 H3 hL
        · exact w_o2_3_5 s0 s1 ls0 us0 ls1 us1 H0 H1 H2 H3 hL
    · exact w_o2_3_6 s0 s1 ls0 us0 ls1 us1 H0 H1 hL
theorem j_o2_X (s0 s1 s2 : Int) (ls0 : -9223372036854775808 ≤ s0) (us0 : s0 ≤ 9223372036854775807) (ns0_1 : ¬ s0 = 1) (ns0_2 : ¬ s0 = 2) (ns0_3 : ¬ s0 = 3) (ls1 : -9223372036854775808 ≤ s1) (us1 : s1 ≤ 9223372036854775807) (ls2 : -9223372036854775808 ≤ s2) (us2 : s2 ≤ 9223372036854775807) {W : World} (hL : Laid W) : Calls Tryz.prog 3 #[.agg #[.int .i64 2, .int .i64 s0, .int .i64 s1, .int .i64 s2]] W (Yes W) := by
  by_cases H0 : s0 < 1
  · exact w_o2_X_0 s0 s1 s2 ls0 us0 ns0_1 ns0_2 ns0_3 ls1 us1 ls2 us2 H0 hL
  · exact w_o2_X_1 s0 s1 s2 ls0 us0 ns0_1 ns0_2 ns0_3 ls1 us1 ls2 us2 H0 hL
theorem j_o3_1 (s0 s1 : Int) (ls0 : -9223372036854775808 ≤ s0) (us0 : s0 ≤ 9223372036854775807) (ls1 : -9223372036854775808 ≤ s1) (us1 : s1 ≤ 9223372036854775807) {W : World} (hL : Laid W) : Calls Tryz.prog 3 #[.agg #[.int .i64 3, .int .i64 1, .int .i64 s0, .int .i64 s1]] W (Yes W) := by
  by_cases H0 : s1 = 0
  · exact w_o3_1_0 s0 s1 ls0 us0 ls1 us1 H0 hL
  · by_cases H1 : s0 = (-9223372036854775808)
    · by_cases H2 : s1 = (-1)
      · exact w_o3_1_1 s0 s1 ls0 us0 ls1 us1 H0 H1 H2 hL
      · exact w_o3_1_2 s0 s1 ls0 us0 ls1 us1 H0 H1 H2 hL
    · exact w_o3_1_3 s0 s1 ls0 us0 ls1 us1 H0 H1 hL
theorem j_o3_2 (s0 s1 : Int) (ls0 : -9223372036854775808 ≤ s0) (us0 : s0 ≤ 9223372036854775807) (ls1 : -9223372036854775808 ≤ s1) (us1 : s1 ≤ 9223372036854775807) {W : World} (hL : Laid W) : Calls Tryz.prog 3 #[.agg #[.int .i64 3, .int .i64 2, .int .i64 s0, .int .i64 s1]] W (Yes W) := by
  by_cases H0 : 0 ≤ s0
  · by_cases H1 : s0 ≤ 255
    · by_cases H2 : 0 ≤ s1
      · by_cases H3 : s1 ≤ 255
        · by_cases H4 : s1 = 0
          · exact w_o3_2_0 s0 s1 ls0 us0 ls1 us1 H0 H1 H2 H3 H4 hL
          · exact w_o3_2_1 s0 s1 ls0 us0 ls1 us1 H0 H1 H2 H3 H4 hL
        · exact w_o3_2_2 s0 s1 ls0 us0 ls1 us1 H0 H1 H2 H3 hL
      · exact w_o3_2_3 s0 s1 ls0 us0 ls1 us1 H0 H1 H2 hL
    · exact w_o3_2_4 s0 s1 ls0 us0 ls1 us1 H0 H1 hL
  · exact w_o3_2_5 s0 s1 ls0 us0 ls1 us1 H0 hL
theorem j_o3_3 (s0 s1 : Int) (ls0 : -9223372036854775808 ≤ s0) (us0 : s0 ≤ 9223372036854775807) (ls1 : -9223372036854775808 ≤ s1) (us1 : s1 ≤ 9223372036854775807) {W : World} (hL : Laid W) : Calls Tryz.prog 3 #[.agg #[.int .i64 3, .int .i64 3, .int .i64 s0, .int .i64 s1]] W (Yes W) := by
  by_cases H0 : s0 = 0
  · by_cases H1 : s1 = 0
    · exact w_o3_3_0 s0 s1 ls0 us0 ls1 us1 H0 H1 hL
    · by_cases H2 : s1 = 1
      · exact w_o3_3_1 s0 s1 ls0 us0 ls1 us1 H0 H1 H2 hL
      · exact w_o3_3_2 s0 s1 ls0 us0 ls1 us1 H0 H1 H2 hL
  · by_cases H1 : s0 = 1
    · by_cases H2 : s1 = 0
      · exact w_o3_3_3 s0 s1 ls0 us0 ls1 us1 H0 H1 H2 hL
      · by_cases H3 : s1 = 1
        · exact w_o3_3_4 s0 s1 ls0 us0 ls1 us1 H0 H1 H2 H3 hL
        · exact w_o3_3_5 s0 s1 ls0 us0 ls1 us1 H0 H1 H2 H3 hL
    · exact w_o3_3_6 s0 s1 ls0 us0 ls1 us1 H0 H1 hL
theorem j_o3_X (s0 s1 s2 : Int) (ls0 : -9223372036854775808 ≤ s0) (us0 : s0 ≤ 9223372036854775807) (ns0_1 : ¬ s0 = 1) (ns0_2 : ¬ s0 = 2) (ns0_3 : ¬ s0 = 3) (ls1 : -9223372036854775808 ≤ s1) (us1 : s1 ≤ 9223372036854775807) (ls2 : -9223372036854775808 ≤ s2) (us2 : s2 ≤ 9223372036854775807) {W : World} (hL : Laid W) : Calls Tryz.prog 3 #[.agg #[.int .i64 3, .int .i64 s0, .int .i64 s1, .int .i64 s2]] W (Yes W) := by
  by_cases H0 : s0 < 1
  · exact w_o3_X_0 s0 s1 s2 ls0 us0 ns0_1 ns0_2 ns0_3 ls1 us1 ls2 us2 H0 hL
  · exact w_o3_X_1 s0 s1 s2 ls0 us0 ns0_1 ns0_2 ns0_3 ls1 us1 ls2 us2 H0 hL
theorem j_o4_1 (s0 s1 : Int) (ls0 : -9223372036854775808 ≤ s0) (us0 : s0 ≤ 9223372036854775807) (ls1 : -9223372036854775808 ≤ s1) (us1 : s1 ≤ 9223372036854775807) {W : World} (hL : Laid W) : Calls Tryz.prog 3 #[.agg #[.int .i64 4, .int .i64 1, .int .i64 s0, .int .i64 s1]] W (Yes W) := by
  exact w_o4_1_0 s0 s1 ls0 us0 ls1 us1  hL
theorem j_o4_2 (s0 s1 : Int) (ls0 : -9223372036854775808 ≤ s0) (us0 : s0 ≤ 9223372036854775807) (ls1 : -9223372036854775808 ≤ s1) (us1 : s1 ≤ 9223372036854775807) {W : World} (hL : Laid W) : Calls Tryz.prog 3 #[.agg #[.int .i64 4, .int .i64 2, .int .i64 s0, .int .i64 s1]] W (Yes W) := by
  by_cases H0 : 0 ≤ s0
  · by_cases H1 : s0 ≤ 255
    · by_cases H2 : 0 ≤ s1
      · by_cases H3 : s1 ≤ 255
        · exact w_o4_2_0 s0 s1 ls0 us0 ls1 us1 H0 H1 H2 H3 hL
        · exact w_o4_2_1 s0 s1 ls0 us0 ls1 us1 H0 H1 H2 H3 hL
      · exact w_o4_2_2 s0 s1 ls0 us0 ls1 us1 H0 H1 H2 hL
    · exact w_o4_2_3 s0 s1 ls0 us0 ls1 us1 H0 H1 hL
  · exact w_o4_2_4 s0 s1 ls0 us0 ls1 us1 H0 hL
theorem j_o4_3 (s0 s1 : Int) (ls0 : -9223372036854775808 ≤ s0) (us0 : s0 ≤ 9223372036854775807) (ls1 : -9223372036854775808 ≤ s1) (us1 : s1 ≤ 9223372036854775807) {W : World} (hL : Laid W) : Calls Tryz.prog 3 #[.agg #[.int .i64 4, .int .i64 3, .int .i64 s0, .int .i64 s1]] W (Yes W) := by
  by_cases H0 : s0 = 0
  · by_cases H1 : s1 = 0
    · exact w_o4_3_0 s0 s1 ls0 us0 ls1 us1 H0 H1 hL
    · by_cases H2 : s1 = 1
      · exact w_o4_3_1 s0 s1 ls0 us0 ls1 us1 H0 H1 H2 hL
      · exact w_o4_3_2 s0 s1 ls0 us0 ls1 us1 H0 H1 H2 hL
  · by_cases H1 : s0 = 1
    · by_cases H2 : s1 = 0
      · exact w_o4_3_3 s0 s1 ls0 us0 ls1 us1 H0 H1 H2 hL
      · by_cases H3 : s1 = 1
        · exact w_o4_3_4 s0 s1 ls0 us0 ls1 us1 H0 H1 H2 H3 hL
        · exact w_o4_3_5 s0 s1 ls0 us0 ls1 us1 H0 H1 H2 H3 hL
    · exact w_o4_3_6 s0 s1 ls0 us0 ls1 us1 H0 H1 hL
theorem j_o4_X (s0 s1 s2 : Int) (ls0 : -9223372036854775808 ≤ s0) (us0 : s0 ≤ 9223372036854775807) (ns0_1 : ¬ s0 = 1) (ns0_2 : ¬ s0 = 2) (ns0_3 : ¬ s0 = 3) (ls1 : -9223372036854775808 ≤ s1) (us1 : s1 ≤ 9223372036854775807) (ls2 : -9223372036854775808 ≤ s2) (us2 : s2 ≤ 9223372036854775807) {W : World} (hL : Laid W) : Calls Tryz.prog 3 #[.agg #[.int .i64 4, .int .i64 s0, .int .i64 s1, .int .i64 s2]] W (Yes W) := by
  by_cases H0 : s0 < 1
  · exact w_o4_X_0 s0 s1 s2 ls0 us0 ns0_1 ns0_2 ns0_3 ls1 us1 ls2 us2 H0 hL
  · exact w_o4_X_1 s0 s1 s2 ls0 us0 ns0_1 ns0_2 ns0_3 ls1 us1 ls2 us2 H0 hL
theorem j_o5_1 (s0 s1 : Int) (ls0 : -9223372036854775808 ≤ s0) (us0 : s0 ≤ 9223372036854775807) (ls1 : -9223372036854775808 ≤ s1) (us1 : s1 ≤ 9223372036854775807) {W : World} (hL : Laid W) : Calls Tryz.prog 3 #[.agg #[.int .i64 5, .int .i64 1, .int .i64 s0, .int .i64 s1]] W (Yes W) := by
  exact w_o5_1_0 s0 s1 ls0 us0 ls1 us1  hL
theorem j_o5_2 (s0 s1 : Int) (ls0 : -9223372036854775808 ≤ s0) (us0 : s0 ≤ 9223372036854775807) (ls1 : -9223372036854775808 ≤ s1) (us1 : s1 ≤ 9223372036854775807) {W : World} (hL : Laid W) : Calls Tryz.prog 3 #[.agg #[.int .i64 5, .int .i64 2, .int .i64 s0, .int .i64 s1]] W (Yes W) := by
  by_cases H0 : 0 ≤ s0
  · by_cases H1 : s0 ≤ 255
    · by_cases H2 : 0 ≤ s1
      · by_cases H3 : s1 ≤ 255
        · exact w_o5_2_0 s0 s1 ls0 us0 ls1 us1 H0 H1 H2 H3 hL
        · exact w_o5_2_1 s0 s1 ls0 us0 ls1 us1 H0 H1 H2 H3 hL
      · exact w_o5_2_2 s0 s1 ls0 us0 ls1 us1 H0 H1 H2 hL
    · exact w_o5_2_3 s0 s1 ls0 us0 ls1 us1 H0 H1 hL
  · exact w_o5_2_4 s0 s1 ls0 us0 ls1 us1 H0 hL
theorem j_o5_3 (s0 s1 : Int) (ls0 : -9223372036854775808 ≤ s0) (us0 : s0 ≤ 9223372036854775807) (ls1 : -9223372036854775808 ≤ s1) (us1 : s1 ≤ 9223372036854775807) {W : World} (hL : Laid W) : Calls Tryz.prog 3 #[.agg #[.int .i64 5, .int .i64 3, .int .i64 s0, .int .i64 s1]] W (Yes W) := by
  by_cases H0 : s0 = 0
  · by_cases H1 : s1 = 0
    · exact w_o5_3_0 s0 s1 ls0 us0 ls1 us1 H0 H1 hL
    · by_cases H2 : s1 = 1
      · exact w_o5_3_1 s0 s1 ls0 us0 ls1 us1 H0 H1 H2 hL
      · exact w_o5_3_2 s0 s1 ls0 us0 ls1 us1 H0 H1 H2 hL
  · by_cases H1 : s0 = 1
    · by_cases H2 : s1 = 0
      · exact w_o5_3_3 s0 s1 ls0 us0 ls1 us1 H0 H1 H2 hL
      · by_cases H3 : s1 = 1
        · exact w_o5_3_4 s0 s1 ls0 us0 ls1 us1 H0 H1 H2 H3 hL
        · exact w_o5_3_5 s0 s1 ls0 us0 ls1 us1 H0 H1 H2 H3 hL
    · exact w_o5_3_6 s0 s1 ls0 us0 ls1 us1 H0 H1 hL
theorem j_o5_X (s0 s1 s2 : Int) (ls0 : -9223372036854775808 ≤ s0) (us0 : s0 ≤ 9223372036854775807) (ns0_1 : ¬ s0 = 1) (ns0_2 : ¬ s0 = 2) (ns0_3 : ¬ s0 = 3) (ls1 : -9223372036854775808 ≤ s1) (us1 : s1 ≤ 9223372036854775807) (ls2 : -9223372036854775808 ≤ s2) (us2 : s2 ≤ 9223372036854775807) {W : World} (hL : Laid W) : Calls Tryz.prog 3 #[.agg #[.int .i64 5, .int .i64 s0, .int .i64 s1, .int .i64 s2]] W (Yes W) := by
  by_cases H0 : s0 < 1
  · exact w_o5_X_0 s0 s1 s2 ls0 us0 ns0_1 ns0_2 ns0_3 ls1 us1 ls2 us2 H0 hL
  · exact w_o5_X_1 s0 s1 s2 ls0 us0 ns0_1 ns0_2 ns0_3 ls1 us1 ls2 us2 H0 hL
theorem j_o6_1 (s0 s1 : Int) (ls0 : -9223372036854775808 ≤ s0) (us0 : s0 ≤ 9223372036854775807) (ls1 : -9223372036854775808 ≤ s1) (us1 : s1 ≤ 9223372036854775807) {W : World} (hL : Laid W) : Calls Tryz.prog 3 #[.agg #[.int .i64 6, .int .i64 1, .int .i64 s0, .int .i64 s1]] W (Yes W) := by
  by_cases H0 : s1 < 0
  · exact w_o6_1_0 s0 s1 ls0 us0 ls1 us1 H0 hL
  · by_cases H1 : 64 ≤ s1
    · exact w_o6_1_1 s0 s1 ls0 us0 ls1 us1 H0 H1 hL
    · exact w_o6_1_2 s0 s1 ls0 us0 ls1 us1 H0 H1 hL
theorem j_o6_2 (s0 s1 : Int) (ls0 : -9223372036854775808 ≤ s0) (us0 : s0 ≤ 9223372036854775807) (ls1 : -9223372036854775808 ≤ s1) (us1 : s1 ≤ 9223372036854775807) {W : World} (hL : Laid W) : Calls Tryz.prog 3 #[.agg #[.int .i64 6, .int .i64 2, .int .i64 s0, .int .i64 s1]] W (Yes W) := by
  by_cases H0 : 0 ≤ s0
  · by_cases H1 : s0 ≤ 255
    · by_cases H2 : 0 ≤ s1
      · by_cases H3 : s1 ≤ 255
        · by_cases H4 : 8 ≤ s1
          · exact w_o6_2_0 s0 s1 ls0 us0 ls1 us1 H0 H1 H2 H3 H4 hL
          · exact w_o6_2_1 s0 s1 ls0 us0 ls1 us1 H0 H1 H2 H3 H4 hL
        · exact w_o6_2_2 s0 s1 ls0 us0 ls1 us1 H0 H1 H2 H3 hL
      · exact w_o6_2_3 s0 s1 ls0 us0 ls1 us1 H0 H1 H2 hL
    · exact w_o6_2_4 s0 s1 ls0 us0 ls1 us1 H0 H1 hL
  · exact w_o6_2_5 s0 s1 ls0 us0 ls1 us1 H0 hL
theorem j_o6_3 (s0 s1 : Int) (ls0 : -9223372036854775808 ≤ s0) (us0 : s0 ≤ 9223372036854775807) (ls1 : -9223372036854775808 ≤ s1) (us1 : s1 ≤ 9223372036854775807) {W : World} (hL : Laid W) : Calls Tryz.prog 3 #[.agg #[.int .i64 6, .int .i64 3, .int .i64 s0, .int .i64 s1]] W (Yes W) := by
  by_cases H0 : s0 = 0
  · by_cases H1 : s1 = 0
    · exact w_o6_3_0 s0 s1 ls0 us0 ls1 us1 H0 H1 hL
    · by_cases H2 : s1 = 1
      · exact w_o6_3_1 s0 s1 ls0 us0 ls1 us1 H0 H1 H2 hL
      · exact w_o6_3_2 s0 s1 ls0 us0 ls1 us1 H0 H1 H2 hL
  · by_cases H1 : s0 = 1
    · by_cases H2 : s1 = 0
      · exact w_o6_3_3 s0 s1 ls0 us0 ls1 us1 H0 H1 H2 hL
      · by_cases H3 : s1 = 1
        · exact w_o6_3_4 s0 s1 ls0 us0 ls1 us1 H0 H1 H2 H3 hL
        · exact w_o6_3_5 s0 s1 ls0 us0 ls1 us1 H0 H1 H2 H3 hL
    · exact w_o6_3_6 s0 s1 ls0 us0 ls1 us1 H0 H1 hL
theorem j_o6_X (s0 s1 s2 : Int) (ls0 : -9223372036854775808 ≤ s0) (us0 : s0 ≤ 9223372036854775807) (ns0_1 : ¬ s0 = 1) (ns0_2 : ¬ s0 = 2) (ns0_3 : ¬ s0 = 3) (ls1 : -9223372036854775808 ≤ s1) (us1 : s1 ≤ 9223372036854775807) (ls2 : -9223372036854775808 ≤ s2) (us2 : s2 ≤ 9223372036854775807) {W : World} (hL : Laid W) : Calls Tryz.prog 3 #[.agg #[.int .i64 6, .int .i64 s0, .int .i64 s1, .int .i64 s2]] W (Yes W) := by
  by_cases H0 : s0 < 1
  · exact w_o6_X_0 s0 s1 s2 ls0 us0 ns0_1 ns0_2 ns0_3 ls1 us1 ls2 us2 H0 hL
  · exact w_o6_X_1 s0 s1 s2 ls0 us0 ns0_1 ns0_2 ns0_3 ls1 us1 ls2 us2 H0 hL
theorem j_o7_1 (s0 s1 : Int) (ls0 : -9223372036854775808 ≤ s0) (us0 : s0 ≤ 9223372036854775807) (ls1 : -9223372036854775808 ≤ s1) (us1 : s1 ≤ 9223372036854775807) {W : World} (hL : Laid W) : Calls Tryz.prog 3 #[.agg #[.int .i64 7, .int .i64 1, .int .i64 s0, .int .i64 s1]] W (Yes W) := by
  by_cases H0 : s1 < 0
  · exact w_o7_1_0 s0 s1 ls0 us0 ls1 us1 H0 hL
  · by_cases H1 : 64 ≤ s1
    · exact w_o7_1_1 s0 s1 ls0 us0 ls1 us1 H0 H1 hL
    · exact w_o7_1_2 s0 s1 ls0 us0 ls1 us1 H0 H1 hL
theorem j_o7_2 (s0 s1 : Int) (ls0 : -9223372036854775808 ≤ s0) (us0 : s0 ≤ 9223372036854775807) (ls1 : -9223372036854775808 ≤ s1) (us1 : s1 ≤ 9223372036854775807) {W : World} (hL : Laid W) : Calls Tryz.prog 3 #[.agg #[.int .i64 7, .int .i64 2, .int .i64 s0, .int .i64 s1]] W (Yes W) := by
  by_cases H0 : 0 ≤ s0
  · by_cases H1 : s0 ≤ 255
    · by_cases H2 : 0 ≤ s1
      · by_cases H3 : s1 ≤ 255
        · by_cases H4 : 8 ≤ s1
          · exact w_o7_2_0 s0 s1 ls0 us0 ls1 us1 H0 H1 H2 H3 H4 hL
          · exact w_o7_2_1 s0 s1 ls0 us0 ls1 us1 H0 H1 H2 H3 H4 hL
        · exact w_o7_2_2 s0 s1 ls0 us0 ls1 us1 H0 H1 H2 H3 hL
      · exact w_o7_2_3 s0 s1 ls0 us0 ls1 us1 H0 H1 H2 hL
    · exact w_o7_2_4 s0 s1 ls0 us0 ls1 us1 H0 H1 hL
  · exact w_o7_2_5 s0 s1 ls0 us0 ls1 us1 H0 hL
theorem j_o7_3 (s0 s1 : Int) (ls0 : -9223372036854775808 ≤ s0) (us0 : s0 ≤ 9223372036854775807) (ls1 : -9223372036854775808 ≤ s1) (us1 : s1 ≤ 9223372036854775807) {W : World} (hL : Laid W) : Calls Tryz.prog 3 #[.agg #[.int .i64 7, .int .i64 3, .int .i64 s0, .int .i64 s1]] W (Yes W) := by
  by_cases H0 : s0 = 0
  · by_cases H1 : s1 = 0
    · exact w_o7_3_0 s0 s1 ls0 us0 ls1 us1 H0 H1 hL
    · by_cases H2 : s1 = 1
      · exact w_o7_3_1 s0 s1 ls0 us0 ls1 us1 H0 H1 H2 hL
      · exact w_o7_3_2 s0 s1 ls0 us0 ls1 us1 H0 H1 H2 hL
  · by_cases H1 : s0 = 1
    · by_cases H2 : s1 = 0
      · exact w_o7_3_3 s0 s1 ls0 us0 ls1 us1 H0 H1 H2 hL
      · by_cases H3 : s1 = 1
        · exact w_o7_3_4 s0 s1 ls0 us0 ls1 us1 H0 H1 H2 H3 hL
        · exact w_o7_3_5 s0 s1 ls0 us0 ls1 us1 H0 H1 H2 H3 hL
    · exact w_o7_3_6 s0 s1 ls0 us0 ls1 us1 H0 H1 hL
theorem j_o7_X (s0 s1 s2 : Int) (ls0 : -9223372036854775808 ≤ s0) (us0 : s0 ≤ 9223372036854775807) (ns0_1 : ¬ s0 = 1) (ns0_2 : ¬ s0 = 2) (ns0_3 : ¬ s0 = 3) (ls1 : -9223372036854775808 ≤ s1) (us1 : s1 ≤ 9223372036854775807) (ls2 : -9223372036854775808 ≤ s2) (us2 : s2 ≤ 9223372036854775807) {W : World} (hL : Laid W) : Calls Tryz.prog 3 #[.agg #[.int .i64 7, .int .i64 s0, .int .i64 s1, .int .i64 s2]] W (Yes W) := by
  by_cases H0 : s0 < 1
  · exact w_o7_X_0 s0 s1 s2 ls0 us0 ns0_1 ns0_2 ns0_3 ls1 us1 ls2 us2 H0 hL
  · exact w_o7_X_1 s0 s1 s2 ls0 us0 ns0_1 ns0_2 ns0_3 ls1 us1 ls2 us2 H0 hL
theorem j_o8_1 (s0 s1 : Int) (ls0 : -9223372036854775808 ≤ s0) (us0 : s0 ≤ 9223372036854775807) (ls1 : -9223372036854775808 ≤ s1) (us1 : s1 ≤ 9223372036854775807) {W : World} (hL : Laid W) : Calls Tryz.prog 3 #[.agg #[.int .i64 8, .int .i64 1, .int .i64 s0, .int .i64 s1]] W (Yes W) := by
  exact w_o8_1_0 s0 s1 ls0 us0 ls1 us1  hL
theorem j_o8_2 (s0 s1 : Int) (ls0 : -9223372036854775808 ≤ s0) (us0 : s0 ≤ 9223372036854775807) (ls1 : -9223372036854775808 ≤ s1) (us1 : s1 ≤ 9223372036854775807) {W : World} (hL : Laid W) : Calls Tryz.prog 3 #[.agg #[.int .i64 8, .int .i64 2, .int .i64 s0, .int .i64 s1]] W (Yes W) := by
  by_cases H0 : 0 ≤ s0
  · by_cases H1 : s0 ≤ 255
    · by_cases H2 : 0 ≤ s1
      · by_cases H3 : s1 ≤ 255
        · exact w_o8_2_0 s0 s1 ls0 us0 ls1 us1 H0 H1 H2 H3 hL
        · exact w_o8_2_1 s0 s1 ls0 us0 ls1 us1 H0 H1 H2 H3 hL
      · exact w_o8_2_2 s0 s1 ls0 us0 ls1 us1 H0 H1 H2 hL
    · exact w_o8_2_3 s0 s1 ls0 us0 ls1 us1 H0 H1 hL
  · exact w_o8_2_4 s0 s1 ls0 us0 ls1 us1 H0 hL
theorem j_o8_3 (s0 s1 : Int) (ls0 : -9223372036854775808 ≤ s0) (us0 : s0 ≤ 9223372036854775807) (ls1 : -9223372036854775808 ≤ s1) (us1 : s1 ≤ 9223372036854775807) {W : World} (hL : Laid W) : Calls Tryz.prog 3 #[.agg #[.int .i64 8, .int .i64 3, .int .i64 s0, .int .i64 s1]] W (Yes W) := by
  by_cases H0 : s0 = 0
  · by_cases H1 : s1 = 0
    · exact w_o8_3_0 s0 s1 ls0 us0 ls1 us1 H0 H1 hL
    · by_cases H2 : s1 = 1
      · exact w_o8_3_1 s0 s1 ls0 us0 ls1 us1 H0 H1 H2 hL
      · exact w_o8_3_2 s0 s1 ls0 us0 ls1 us1 H0 H1 H2 hL
  · by_cases H1 : s0 = 1
    · by_cases H2 : s1 = 0
      · exact w_o8_3_3 s0 s1 ls0 us0 ls1 us1 H0 H1 H2 hL
      · by_cases H3 : s1 = 1
        · exact w_o8_3_4 s0 s1 ls0 us0 ls1 us1 H0 H1 H2 H3 hL
        · exact w_o8_3_5 s0 s1 ls0 us0 ls1 us1 H0 H1 H2 H3 hL
    · exact w_o8_3_6 s0 s1 ls0 us0 ls1 us1 H0 H1 hL
theorem j_o8_X (s0 s1 s2 : Int) (ls0 : -9223372036854775808 ≤ s0) (us0 : s0 ≤ 9223372036854775807) (ns0_1 : ¬ s0 = 1) (ns0_2 : ¬ s0 = 2) (ns0_3 : ¬ s0 = 3) (ls1 : -9223372036854775808 ≤ s1) (us1 : s1 ≤ 9223372036854775807) (ls2 : -9223372036854775808 ≤ s2) (us2 : s2 ≤ 9223372036854775807) {W : World} (hL : Laid W) : Calls Tryz.prog 3 #[.agg #[.int .i64 8, .int .i64 s0, .int .i64 s1, .int .i64 s2]] W (Yes W) := by
  by_cases H0 : s0 < 1
  · exact w_o8_X_0 s0 s1 s2 ls0 us0 ns0_1 ns0_2 ns0_3 ls1 us1 ls2 us2 H0 hL
  · exact w_o8_X_1 s0 s1 s2 ls0 us0 ns0_1 ns0_2 ns0_3 ls1 us1 ls2 us2 H0 hL
theorem j_o9_1 (s0 s1 : Int) (ls0 : -9223372036854775808 ≤ s0) (us0 : s0 ≤ 9223372036854775807) (ls1 : -9223372036854775808 ≤ s1) (us1 : s1 ≤ 9223372036854775807) {W : World} (hL : Laid W) : Calls Tryz.prog 3 #[.agg #[.int .i64 9, .int .i64 1, .int .i64 s0, .int .i64 s1]] W (Yes W) := by
  exact w_o9_1_0 s0 s1 ls0 us0 ls1 us1  hL
theorem j_o9_2 (s0 s1 : Int) (ls0 : -9223372036854775808 ≤ s0) (us0 : s0 ≤ 9223372036854775807) (ls1 : -9223372036854775808 ≤ s1) (us1 : s1 ≤ 9223372036854775807) {W : World} (hL : Laid W) : Calls Tryz.prog 3 #[.agg #[.int .i64 9, .int .i64 2, .int .i64 s0, .int .i64 s1]] W (Yes W) := by
  by_cases H0 : 0 ≤ s0
  · by_cases H1 : s0 ≤ 255
    · by_cases H2 : 0 ≤ s1
      · by_cases H3 : s1 ≤ 255
        · exact w_o9_2_0 s0 s1 ls0 us0 ls1 us1 H0 H1 H2 H3 hL
        · exact w_o9_2_1 s0 s1 ls0 us0 ls1 us1 H0 H1 H2 H3 hL
      · exact w_o9_2_2 s0 s1 ls0 us0 ls1 us1 H0 H1 H2 hL
    · exact w_o9_2_3 s0 s1 ls0 us0 ls1 us1 H0 H1 hL
  · exact w_o9_2_4 s0 s1 ls0 us0 ls1 us1 H0 hL
theorem j_o9_3 (s0 s1 : Int) (ls0 : -9223372036854775808 ≤ s0) (us0 : s0 ≤ 9223372036854775807) (ls1 : -9223372036854775808 ≤ s1) (us1 : s1 ≤ 9223372036854775807) {W : World} (hL : Laid W) : Calls Tryz.prog 3 #[.agg #[.int .i64 9, .int .i64 3, .int .i64 s0, .int .i64 s1]] W (Yes W) := by
  by_cases H0 : s0 = 0
  · by_cases H1 : s1 = 0
    · exact w_o9_3_0 s0 s1 ls0 us0 ls1 us1 H0 H1 hL
    · by_cases H2 : s1 = 1
      · exact w_o9_3_1 s0 s1 ls0 us0 ls1 us1 H0 H1 H2 hL
      · exact w_o9_3_2 s0 s1 ls0 us0 ls1 us1 H0 H1 H2 hL
  · by_cases H1 : s0 = 1
    · by_cases H2 : s1 = 0
      · exact w_o9_3_3 s0 s1 ls0 us0 ls1 us1 H0 H1 H2 hL
      · by_cases H3 : s1 = 1
        · exact w_o9_3_4 s0 s1 ls0 us0 ls1 us1 H0 H1 H2 H3 hL
        · exact w_o9_3_5 s0 s1 ls0 us0 ls1 us1 H0 H1 H2 H3 hL
    · exact w_o9_3_6 s0 s1 ls0 us0 ls1 us1 H0 H1 hL
theorem j_o9_X (s0 s1 s2 : Int) (ls0 : -9223372036854775808 ≤ s0) (us0 : s0 ≤ 9223372036854775807) (ns0_1 : ¬ s0 = 1) (ns0_2 : ¬ s0 = 2) (ns0_3 : ¬ s0 = 3) (ls1 : -9223372036854775808 ≤ s1) (us1 : s1 ≤ 9223372036854775807) (ls2 : -9223372036854775808 ≤ s2) (us2 : s2 ≤ 9223372036854775807) {W : World} (hL : Laid W) : Calls Tryz.prog 3 #[.agg #[.int .i64 9, .int .i64 s0, .int .i64 s1, .int .i64 s2]] W (Yes W) := by
  by_cases H0 : s0 < 1
  · exact w_o9_X_0 s0 s1 s2 ls0 us0 ns0_1 ns0_2 ns0_3 ls1 us1 ls2 us2 H0 hL
  · exact w_o9_X_1 s0 s1 s2 ls0 us0 ns0_1 ns0_2 ns0_3 ls1 us1 ls2 us2 H0 hL
theorem j_o10_1 (s0 s1 : Int) (ls0 : -9223372036854775808 ≤ s0) (us0 : s0 ≤ 9223372036854775807) (ls1 : -9223372036854775808 ≤ s1) (us1 : s1 ≤ 9223372036854775807) {W : World} (hL : Laid W) : Calls Tryz.prog 3 #[.agg #[.int .i64 10, .int .i64 1, .int .i64 s0, .int .i64 s1]] W (Yes W) := by
  exact w_o10_1_0 s0 s1 ls0 us0 ls1 us1  hL
theorem j_o10_2 (s0 s1 : Int) (ls0 : -9223372036854775808 ≤ s0) (us0 : s0 ≤ 9223372036854775807) (ls1 : -9223372036854775808 ≤ s1) (us1 : s1 ≤ 9223372036854775807) {W : World} (hL : Laid W) : Calls Tryz.prog 3 #[.agg #[.int .i64 10, .int .i64 2, .int .i64 s0, .int .i64 s1]] W (Yes W) := by
  by_cases H0 : 0 ≤ s0
  · by_cases H1 : s0 ≤ 255
    · by_cases H2 : 0 ≤ s1
      · by_cases H3 : s1 ≤ 255
        · exact w_o10_2_0 s0 s1 ls0 us0 ls1 us1 H0 H1 H2 H3 hL
        · exact w_o10_2_1 s0 s1 ls0 us0 ls1 us1 H0 H1 H2 H3 hL
      · exact w_o10_2_2 s0 s1 ls0 us0 ls1 us1 H0 H1 H2 hL
    · exact w_o10_2_3 s0 s1 ls0 us0 ls1 us1 H0 H1 hL
  · exact w_o10_2_4 s0 s1 ls0 us0 ls1 us1 H0 hL
theorem j_o10_3 (s0 s1 : Int) (ls0 : -9223372036854775808 ≤ s0) (us0 : s0 ≤ 9223372036854775807) (ls1 : -9223372036854775808 ≤ s1) (us1 : s1 ≤ 9223372036854775807) {W : World} (hL : Laid W) : Calls Tryz.prog 3 #[.agg #[.int .i64 10, .int .i64 3, .int .i64 s0, .int .i64 s1]] W (Yes W) := by
  by_cases H0 : s0 = 0
  · by_cases H1 : s1 = 0
    · exact w_o10_3_0 s0 s1 ls0 us0 ls1 us1 H0 H1 hL
    · by_cases H2 : s1 = 1
      · exact w_o10_3_1 s0 s1 ls0 us0 ls1 us1 H0 H1 H2 hL
      · exact w_o10_3_2 s0 s1 ls0 us0 ls1 us1 H0 H1 H2 hL
  · by_cases H1 : s0 = 1
    · by_cases H2 : s1 = 0
      · exact w_o10_3_3 s0 s1 ls0 us0 ls1 us1 H0 H1 H2 hL
      · by_cases H3 : s1 = 1
        · exact w_o10_3_4 s0 s1 ls0 us0 ls1 us1 H0 H1 H2 H3 hL
        · exact w_o10_3_5 s0 s1 ls0 us0 ls1 us1 H0 H1 H2 H3 hL
    · exact w_o10_3_6 s0 s1 ls0 us0 ls1 us1 H0 H1 hL
theorem j_o10_X (s0 s1 s2 : Int) (ls0 : -9223372036854775808 ≤ s0) (us0 : s0 ≤ 9223372036854775807) (ns0_1 : ¬ s0 = 1) (ns0_2 : ¬ s0 = 2) (ns0_3 : ¬ s0 = 3) (ls1 : -9223372036854775808 ≤ s1) (us1 : s1 ≤ 9223372036854775807) (ls2 : -9223372036854775808 ≤ s2) (us2 : s2 ≤ 9223372036854775807) {W : World} (hL : Laid W) : Calls Tryz.prog 3 #[.agg #[.int .i64 10, .int .i64 s0, .int .i64 s1, .int .i64 s2]] W (Yes W) := by
  by_cases H0 : s0 < 1
  · exact w_o10_X_0 s0 s1 s2 ls0 us0 ns0_1 ns0_2 ns0_3 ls1 us1 ls2 us2 H0 hL
  · exact w_o10_X_1 s0 s1 s2 ls0 us0 ns0_1 ns0_2 ns0_3 ls1 us1 ls2 us2 H0 hL
theorem j_o11_1 (s0 s1 : Int) (ls0 : -9223372036854775808 ≤ s0) (us0 : s0 ≤ 9223372036854775807) (ls1 : -9223372036854775808 ≤ s1) (us1 : s1 ≤ 9223372036854775807) {W : World} (hL : Laid W) : Calls Tryz.prog 3 #[.agg #[.int .i64 11, .int .i64 1, .int .i64 s0, .int .i64 s1]] W (Yes W) := by
  by_cases H0 : s0 = s1
  · exact w_o11_1_0 s0 s1 ls0 us0 ls1 us1 H0 hL
  · exact w_o11_1_1 s0 s1 ls0 us0 ls1 us1 H0 hL
theorem j_o11_2 (s0 s1 : Int) (ls0 : -9223372036854775808 ≤ s0) (us0 : s0 ≤ 9223372036854775807) (ls1 : -9223372036854775808 ≤ s1) (us1 : s1 ≤ 9223372036854775807) {W : World} (hL : Laid W) : Calls Tryz.prog 3 #[.agg #[.int .i64 11, .int .i64 2, .int .i64 s0, .int .i64 s1]] W (Yes W) := by
  by_cases H0 : 0 ≤ s0
  · by_cases H1 : s0 ≤ 255
    · by_cases H2 : 0 ≤ s1
      · by_cases H3 : s1 ≤ 255
        · by_cases H4 : s0 = s1
          · exact w_o11_2_0 s0 s1 ls0 us0 ls1 us1 H0 H1 H2 H3 H4 hL
          · exact w_o11_2_1 s0 s1 ls0 us0 ls1 us1 H0 H1 H2 H3 H4 hL
        · exact w_o11_2_2 s0 s1 ls0 us0 ls1 us1 H0 H1 H2 H3 hL
      · exact w_o11_2_3 s0 s1 ls0 us0 ls1 us1 H0 H1 H2 hL
    · exact w_o11_2_4 s0 s1 ls0 us0 ls1 us1 H0 H1 hL
  · exact w_o11_2_5 s0 s1 ls0 us0 ls1 us1 H0 hL
theorem j_o11_3 (s0 s1 : Int) (ls0 : -9223372036854775808 ≤ s0) (us0 : s0 ≤ 9223372036854775807) (ls1 : -9223372036854775808 ≤ s1) (us1 : s1 ≤ 9223372036854775807) {W : World} (hL : Laid W) : Calls Tryz.prog 3 #[.agg #[.int .i64 11, .int .i64 3, .int .i64 s0, .int .i64 s1]] W (Yes W) := by
  by_cases H0 : s0 = 0
  · by_cases H1 : s1 = 0
    · exact w_o11_3_0 s0 s1 ls0 us0 ls1 us1 H0 H1 hL
    · by_cases H2 : s1 = 1
      · exact w_o11_3_1 s0 s1 ls0 us0 ls1 us1 H0 H1 H2 hL
      · exact w_o11_3_2 s0 s1 ls0 us0 ls1 us1 H0 H1 H2 hL
  · by_cases H1 : s0 = 1
    · by_cases H2 : s1 = 0
      · exact w_o11_3_3 s0 s1 ls0 us0 ls1 us1 H0 H1 H2 hL
      · by_cases H3 : s1 = 1
        · exact w_o11_3_4 s0 s1 ls0 us0 ls1 us1 H0 H1 H2 H3 hL
        · exact w_o11_3_5 s0 s1 ls0 us0 ls1 us1 H0 H1 H2 H3 hL
    · exact w_o11_3_6 s0 s1 ls0 us0 ls1 us1 H0 H1 hL
theorem j_o11_X (s0 s1 s2 : Int) (ls0 : -9223372036854775808 ≤ s0) (us0 : s0 ≤ 9223372036854775807) (ns0_1 : ¬ s0 = 1) (ns0_2 : ¬ s0 = 2) (ns0_3 : ¬ s0 = 3) (ls1 : -9223372036854775808 ≤ s1) (us1 : s1 ≤ 9223372036854775807) (ls2 : -9223372036854775808 ≤ s2) (us2 : s2 ≤ 9223372036854775807) {W : World} (hL : Laid W) : Calls Tryz.prog 3 #[.agg #[.int .i64 11, .int .i64 s0, .int .i64 s1, .int .i64 s2]] W (Yes W) := by
  by_cases H0 : s0 < 1
  · exact w_o11_X_0 s0 s1 s2 ls0 us0 ns0_1 ns0_2 ns0_3 ls1 us1 ls2 us2 H0 hL
  · exact w_o11_X_1 s0 s1 s2 ls0 us0 ns0_1 ns0_2 ns0_3 ls1 us1 ls2 us2 H0 hL
theorem j_o12_1 (s0 s1 : Int) (ls0 : -9223372036854775808 ≤ s0) (us0 : s0 ≤ 9223372036854775807) (ls1 : -9223372036854775808 ≤ s1) (us1 : s1 ≤ 9223372036854775807) {W : World} (hL : Laid W) : Calls Tryz.prog 3 #[.agg #[.int .i64 12, .int .i64 1, .int .i64 s0, .int .i64 s1]] W (Yes W) := by
  by_cases H0 : s0 = s1
  · exact w_o12_1_1 s0 s1 ls0 us0 ls1 us1 H0 hL
  · exact w_o12_1_0 s0 s1 ls0 us0 ls1 us1 H0 hL
theorem j_o12_2 (s0 s1 : Int) (ls0 : -9223372036854775808 ≤ s0) (us0 : s0 ≤ 9223372036854775807) (ls1 : -9223372036854775808 ≤ s1) (us1 : s1 ≤ 9223372036854775807) {W : World} (hL : Laid W) : Calls Tryz.prog 3 #[.agg #[.int .i64 12, .int .i64 2, .int .i64 s0, .int .i64 s1]] W (Yes W) := by
  by_cases H0 : 0 ≤ s0
  · by_cases H1 : s0 ≤ 255
    · by_cases H2 : 0 ≤ s1
      · by_cases H3 : s1 ≤ 255
        · by_cases H4 : s0 = s1
          · exact w_o12_2_1 s0 s1 ls0 us0 ls1 us1 H0 H1 H2 H3 H4 hL
          · exact w_o12_2_0 s0 s1 ls0 us0 ls1 us1 H0 H1 H2 H3 H4 hL
        · exact w_o12_2_2 s0 s1 ls0 us0 ls1 us1 H0 H1 H2 H3 hL
      · exact w_o12_2_3 s0 s1 ls0 us0 ls1 us1 H0 H1 H2 hL
    · exact w_o12_2_4 s0 s1 ls0 us0 ls1 us1 H0 H1 hL
  · exact w_o12_2_5 s0 s1 ls0 us0 ls1 us1 H0 hL
theorem j_o12_3 (s0 s1 : Int) (ls0 : -9223372036854775808 ≤ s0) (us0 : s0 ≤ 9223372036854775807) (ls1 : -9223372036854775808 ≤ s1) (us1 : s1 ≤ 9223372036854775807) {W : World} (hL : Laid W) : Calls Tryz.prog 3 #[.agg #[.int .i64 12, .int .i64 3, .int .i64 s0, .int .i64 s1]] W (Yes W) := by
  by_cases H0 : s0 = 0
  · by_cases H1 : s1 = 0
    · exact w_o12_3_0 s0 s1 ls0 us0 ls1 us1 H0 H1 hL
    · by_cases H2 : s1 = 1
      · exact w_o12_3_1 s0 s1 ls0 us0 ls1 us1 H0 H1 H2 hL
      · exact w_o12_3_2 s0 s1 ls0 us0 ls1 us1 H0 H1 H2 hL
  · by_cases H1 : s0 = 1
    · by_cases H2 : s1 = 0
      · exact w_o12_3_3 s0 s1 ls0 us0 ls1 us1 H0 H1 H2 hL
      · by_cases H3 : s1 = 1
        · exact w_o12_3_4 s0 s1 ls0 us0 ls1 us1 H0 H1 H2 H3 hL
        · exact w_o12_3_5 s0 s1 ls0 us0 ls1 us1 H0 H1 H2 H3 hL
    · exact w_o12_3_6 s0 s1 ls0 us0 ls1 us1 H0 H1 hL
theorem j_o12_X (s0 s1 s2 : Int) (ls0 : -9223372036854775808 ≤ s0) (us0 : s0 ≤ 9223372036854775807) (ns0_1 : ¬ s0 = 1) (ns0_2 : ¬ s0 = 2) (ns0_3 : ¬ s0 = 3) (ls1 : -9223372036854775808 ≤ s1) (us1 : s1 ≤ 9223372036854775807) (ls2 : -9223372036854775808 ≤ s2) (us2 : s2 ≤ 9223372036854775807) {W : World} (hL : Laid W) : Calls Tryz.prog 3 #[.agg #[.int .i64 12, .int .i64 s0, .int .i64 s1, .int .i64 s2]] W (Yes W) := by
  by_cases H0 : s0 < 1
  · exact w_o12_X_0 s0 s1 s2 ls0 us0 ns0_1 ns0_2 ns0_3 ls1 us1 ls2 us2 H0 hL
  · exact w_o12_X_1 s0 s1 s2 ls0 us0 ns0_1 ns0_2 ns0_3 ls1 us1 ls2 us2 H0 hL
theorem j_o13_1 (s0 s1 : Int) (ls0 : -9223372036854775808 ≤ s0) (us0 : s0 ≤ 9223372036854775807) (ls1 : -9223372036854775808 ≤ s1) (us1 : s1 ≤ 9223372036854775807) {W : World} (hL : Laid W) : Calls Tryz.prog 3 #[.agg #[.int .i64 13, .int .i64 1, .int .i64 s0, .int .i64 s1]] W (Yes W) := by
  by_cases H0 : s0 < s1
  · exact w_o13_1_0 s0 s1 ls0 us0 ls1 us1 H0 hL
  · exact w_o13_1_1 s0 s1 ls0 us0 ls1 us1 H0 hL
theorem j_o13_2 (s0 s1 : Int) (ls0 : -9223372036854775808 ≤ s0) (us0 : s0 ≤ 9223372036854775807) (ls1 : -9223372036854775808 ≤ s1) (us1 : s1 ≤ 9223372036854775807) {W : World} (hL : Laid W) : Calls Tryz.prog 3 #[.agg #[.int .i64 13, .int .i64 2, .int .i64 s0, .int .i64 s1]] W (Yes W) := by
  by_cases H0 : 0 ≤ s0
  · by_cases H1 : s0 ≤ 255
    · by_cases H2 : 0 ≤ s1
      · by_cases H3 : s1 ≤ 255
        · by_cases H4 : s0 < s1
          · exact w_o13_2_0 s0 s1 ls0 us0 ls1 us1 H0 H1 H2 H3 H4 hL
          · exact w_o13_2_1 s0 s1 ls0 us0 ls1 us1 H0 H1 H2 H3 H4 hL
        · exact w_o13_2_2 s0 s1 ls0 us0 ls1 us1 H0 H1 H2 H3 hL
      · exact w_o13_2_3 s0 s1 ls0 us0 ls1 us1 H0 H1 H2 hL
    · exact w_o13_2_4 s0 s1 ls0 us0 ls1 us1 H0 H1 hL
  · exact w_o13_2_5 s0 s1 ls0 us0 ls1 us1 H0 hL
theorem j_o13_3 (s0 s1 : Int) (ls0 : -9223372036854775808 ≤ s0) (us0 : s0 ≤ 9223372036854775807) (ls1 : -9223372036854775808 ≤ s1) (us1 : s1 ≤ 9223372036854775807) {W : World} (hL : Laid W) : Calls Tryz.prog 3 #[.agg #[.int .i64 13, .int .i64 3, .int .i64 s0, .int .i64 s1]] W (Yes W) := by
  by_cases H0 : s0 = 0
  · by_cases H1 : s1 = 0
    · exact w_o13_3_0 s0 s1 ls0 us0 ls1 us1 H0 H1 hL
    · by_cases H2 : s1 = 1
      · exact w_o13_3_1 s0 s1 ls0 us0 ls1 us1 H0 H1 H2 hL
      · exact w_o13_3_2 s0 s1 ls0 us0 ls1 us1 H0 H1 H2 hL
  · by_cases H1 : s0 = 1
    · by_cases H2 : s1 = 0
      · exact w_o13_3_3 s0 s1 ls0 us0 ls1 us1 H0 H1 H2 hL
      · by_cases H3 : s1 = 1
        · exact w_o13_3_4 s0 s1 ls0 us0 ls1 us1 H0 H1 H2 H3 hL
        · exact w_o13_3_5 s0 s1 ls0 us0 ls1 us1 H0 H1 H2 H3 hL
    · exact w_o13_3_6 s0 s1 ls0 us0 ls1 us1 H0 H1 hL
theorem j_o13_X (s0 s1 s2 : Int) (ls0 : -9223372036854775808 ≤ s0) (us0 : s0 ≤ 9223372036854775807) (ns0_1 : ¬ s0 = 1) (ns0_2 : ¬ s0 = 2) (ns0_3 : ¬ s0 = 3) (ls1 : -9223372036854775808 ≤ s1) (us1 : s1 ≤ 9223372036854775807) (ls2 : -9223372036854775808 ≤ s2) (us2 : s2 ≤ 9223372036854775807) {W : World} (hL : Laid W) : Calls Tryz.prog 3 #[.agg #[.int .i64 13, .int .i64 s0, .int .i64 s1, .int .i64 s2]] W (Yes W) := by
  by_cases H0 : s0 < 1
  · exact w_o13_X_0 s0 s1 s2 ls0 us0 ns0_1 ns0_2 ns0_3 ls1 us1 ls2 us2 H0 hL
  · exact w_o13_X_1 s0 s1 s2 ls0 us0 ns0_1 ns0_2 ns0_3 ls1 us1 ls2 us2 H0 hL
theorem j_o14_1 (s0 s1 : Int) (ls0 : -9223372036854775808 ≤ s0) (us0 : s0 ≤ 9223372036854775807) (ls1 : -9223372036854775808 ≤ s1) (us1 : s1 ≤ 9223372036854775807) {W : World} (hL : Laid W) : Calls Tryz.prog 3 #[.agg #[.int .i64 14, .int .i64 1, .int .i64 s0, .int .i64 s1]] W (Yes W) := by
  by_cases H0 : s0 ≤ s1
  · exact w_o14_1_0 s0 s1 ls0 us0 ls1 us1 H0 hL
  · exact w_o14_1_1 s0 s1 ls0 us0 ls1 us1 H0 hL
theorem j_o14_2 (s0 s1 : Int) (ls0 : -9223372036854775808 ≤ s0) (us0 : s0 ≤ 9223372036854775807) (ls1 : -9223372036854775808 ≤ s1) (us1 : s1 ≤ 9223372036854775807) {W : World} (hL : Laid W) : Calls Tryz.prog 3 #[.agg #[.int .i64 14, .int .i64 2, .int .i64 s0, .int .i64 s1]] W (Yes W) := by
  by_cases H0 : 0 ≤ s0
  · by_cases H1 : s0 ≤ 255
    · by_cases H2 : 0 ≤ s1
      · by_cases H3 : s1 ≤ 255
        · by_cases H4 : s0 ≤ s1
          · exact w_o14_2_0 s0 s1 ls0 us0 ls1 us1 H0 H1 H2 H3 H4 hL
          · exact w_o14_2_1 s0 s1 ls0 us0 ls1 us1 H0 H1 H2 H3 H4 hL
        · exact w_o14_2_2 s0 s1 ls0 us0 ls1 us1 H0 H1 H2 H3 hL
      · exact w_o14_2_3 s0 s1 ls0 us0 ls1 us1 H0 H1 H2 hL
    · exact w_o14_2_4 s0 s1 ls0 us0 ls1 us1 H0 H1 hL
  · exact w_o14_2_5 s0 s1 ls0 us0 ls1 us1 H0 hL
theorem j_o14_3 (s0 s1 : Int) (ls0 : -9223372036854775808 ≤ s0) (us0 : s0 ≤ 9223372036854775807) (ls1 : -9223372036854775808 ≤ s1) (us1 : s1 ≤ 9223372036854775807) {W : World} (hL : Laid W) : Calls Tryz.prog 3 #[.agg #[.int .i64 14, .int .i64 3, .int .i64 s0, .int .i64 s1]] W (Yes W) := by
  by_cases H0 : s0 = 0
  · by_cases H1 : s1 = 0
    · exact w_o14_3_0 s0 s1 ls0 us0 ls1 us1 H0 H1 hL
    · by_cases H2 : s1 = 1
      · exact w_o14_3_1 s0 s1 ls0 us0 ls1 us1 H0 H1 H2 hL
      · exact w_o14_3_2 s0 s1 ls0 us0 ls1 us1 H0 H1 H2 hL
  · by_cases H1 : s0 = 1
    · by_cases H2 : s1 = 0
      · exact w_o14_3_3 s0 s1 ls0 us0 ls1 us1 H0 H1 H2 hL
      · by_cases H3 : s1 = 1
        · exact w_o14_3_4 s0 s1 ls0 us0 ls1 us1 H0 H1 H2 H3 hL
        · exact w_o14_3_5 s0 s1 ls0 us0 ls1 us1 H0 H1 H2 H3 hL
    · exact w_o14_3_6 s0 s1 ls0 us0 ls1 us1 H0 H1 hL
theorem j_o14_X (s0 s1 s2 : Int) (ls0 : -9223372036854775808 ≤ s0) (us0 : s0 ≤ 9223372036854775807) (ns0_1 : ¬ s0 = 1) (ns0_2 : ¬ s0 = 2) (ns0_3 : ¬ s0 = 3) (ls1 : -9223372036854775808 ≤ s1) (us1 : s1 ≤ 9223372036854775807) (ls2 : -9223372036854775808 ≤ s2) (us2 : s2 ≤ 9223372036854775807) {W : World} (hL : Laid W) : Calls Tryz.prog 3 #[.agg #[.int .i64 14, .int .i64 s0, .int .i64 s1, .int .i64 s2]] W (Yes W) := by
  by_cases H0 : s0 < 1
  · exact w_o14_X_0 s0 s1 s2 ls0 us0 ns0_1 ns0_2 ns0_3 ls1 us1 ls2 us2 H0 hL
  · exact w_o14_X_1 s0 s1 s2 ls0 us0 ns0_1 ns0_2 ns0_3 ls1 us1 ls2 us2 H0 hL
theorem j_o15_1 (s0 s1 : Int) (ls0 : -9223372036854775808 ≤ s0) (us0 : s0 ≤ 9223372036854775807) (ls1 : -9223372036854775808 ≤ s1) (us1 : s1 ≤ 9223372036854775807) {W : World} (hL : Laid W) : Calls Tryz.prog 3 #[.agg #[.int .i64 15, .int .i64 1, .int .i64 s0, .int .i64 s1]] W (Yes W) := by
  by_cases H0 : s1 < s0
  · exact w_o15_1_0 s0 s1 ls0 us0 ls1 us1 H0 hL
  · exact w_o15_1_1 s0 s1 ls0 us0 ls1 us1 H0 hL
theorem j_o15_2 (s0 s1 : Int) (ls0 : -9223372036854775808 ≤ s0) (us0 : s0 ≤ 9223372036854775807) (ls1 : -9223372036854775808 ≤ s1) (us1 : s1 ≤ 9223372036854775807) {W : World} (hL : Laid W) : Calls Tryz.prog 3 #[.agg #[.int .i64 15, .int .i64 2, .int .i64 s0, .int .i64 s1]] W (Yes W) := by
  by_cases H0 : 0 ≤ s0
  · by_cases H1 : s0 ≤ 255
    · by_cases H2 : 0 ≤ s1
      · by_cases H3 : s1 ≤ 255
        · by_cases H4 : s1 < s0
          · exact w_o15_2_0 s0 s1 ls0 us0 ls1 us1 H0 H1 H2 H3 H4 hL
          · exact w_o15_2_1 s0 s1 ls0 us0 ls1 us1 H0 H1 H2 H3 H4 hL
        · exact w_o15_2_2 s0 s1 ls0 us0 ls1 us1 H0 H1 H2 H3 hL
      · exact w_o15_2_3 s0 s1 ls0 us0 ls1 us1 H0 H1 H2 hL
    · exact w_o15_2_4 s0 s1 ls0 us0 ls1 us1 H0 H1 hL
  · exact w_o15_2_5 s0 s1 ls0 us0 ls1 us1 H0 hL
theorem j_o15_3 (s0 s1 : Int) (ls0 : -9223372036854775808 ≤ s0) (us0 : s0 ≤ 9223372036854775807) (ls1 : -9223372036854775808 ≤ s1) (us1 : s1 ≤ 9223372036854775807) {W : World} (hL : Laid W) : Calls Tryz.prog 3 #[.agg #[.int .i64 15, .int .i64 3, .int .i64 s0, .int .i64 s1]] W (Yes W) := by
  by_cases H0 : s0 = 0
  · by_cases H1 : s1 = 0
    · exact w_o15_3_0 s0 s1 ls0 us0 ls1 us1 H0 H1 hL
    · by_cases H2 : s1 = 1
      · exact w_o15_3_1 s0 s1 ls0 us0 ls1 us1 H0 H1 H2 hL
      · exact w_o15_3_2 s0 s1 ls0 us0 ls1 us1 H0 H1 H2 hL
  · by_cases H1 : s0 = 1
    · by_cases H2 : s1 = 0
      · exact w_o15_3_3 s0 s1 ls0 us0 ls1 us1 H0 H1 H2 hL
      · by_cases H3 : s1 = 1
        · exact w_o15_3_4 s0 s1 ls0 us0 ls1 us1 H0 H1 H2 H3 hL
        · exact w_o15_3_5 s0 s1 ls0 us0 ls1 us1 H0 H1 H2 H3 hL
    · exact w_o15_3_6 s0 s1 ls0 us0 ls1 us1 H0 H1 hL
theorem j_o15_X (s0 s1 s2 : Int) (ls0 : -9223372036854775808 ≤ s0) (us0 : s0 ≤ 9223372036854775807) (ns0_1 : ¬ s0 = 1) (ns0_2 : ¬ s0 = 2) (ns0_3 : ¬ s0 = 3) (ls1 : -9223372036854775808 ≤ s1) (us1 : s1 ≤ 9223372036854775807) (ls2 : -9223372036854775808 ≤ s2) (us2 : s2 ≤ 9223372036854775807) {W : World} (hL : Laid W) : Calls Tryz.prog 3 #[.agg #[.int .i64 15, .int .i64 s0, .int .i64 s1, .int .i64 s2]] W (Yes W) := by
  by_cases H0 : s0 < 1
  · exact w_o15_X_0 s0 s1 s2 ls0 us0 ns0_1 ns0_2 ns0_3 ls1 us1 ls2 us2 H0 hL
  · exact w_o15_X_1 s0 s1 s2 ls0 us0 ns0_1 ns0_2 ns0_3 ls1 us1 ls2 us2 H0 hL
theorem j_o16_1 (s0 s1 : Int) (ls0 : -9223372036854775808 ≤ s0) (us0 : s0 ≤ 9223372036854775807) (ls1 : -9223372036854775808 ≤ s1) (us1 : s1 ≤ 9223372036854775807) {W : World} (hL : Laid W) : Calls Tryz.prog 3 #[.agg #[.int .i64 16, .int .i64 1, .int .i64 s0, .int .i64 s1]] W (Yes W) := by
  by_cases H0 : s1 ≤ s0
  · exact w_o16_1_0 s0 s1 ls0 us0 ls1 us1 H0 hL
  · exact w_o16_1_1 s0 s1 ls0 us0 ls1 us1 H0 hL
theorem j_o16_2 (s0 s1 : Int) (ls0 : -9223372036854775808 ≤ s0) (us0 : s0 ≤ 9223372036854775807) (ls1 : -9223372036854775808 ≤ s1) (us1 : s1 ≤ 9223372036854775807) {W : World} (hL : Laid W) : Calls Tryz.prog 3 #[.agg #[.int .i64 16, .int .i64 2, .int .i64 s0, .int .i64 s1]] W (Yes W) := by
  by_cases H0 : 0 ≤ s0
  · by_cases H1 : s0 ≤ 255
    · by_cases H2 : 0 ≤ s1
      · by_cases H3 : s1 ≤ 255
        · by_cases H4 : s1 ≤ s0
          · exact w_o16_2_0 s0 s1 ls0 us0 ls1 us1 H0 H1 H2 H3 H4 hL
          · exact w_o16_2_1 s0 s1 ls0 us0 ls1 us1 H0 H1 H2 H3 H4 hL
        · exact w_o16_2_2 s0 s1 ls0 us0 ls1 us1 H0 H1 H2 H3 hL
      · exact w_o16_2_3 s0 s1 ls0 us0 ls1 us1 H0 H1 H2 hL
    · exact w_o16_2_4 s0 s1 ls0 us0 ls1 us1 H0 H1 hL
  · exact w_o16_2_5 s0 s1 ls0 us0 ls1 us1 H0 hL
theorem j_o16_3 (s0 s1 : Int) (ls0 : -9223372036854775808 ≤ s0) (us0 : s0 ≤ 9223372036854775807) (ls1 : -9223372036854775808 ≤ s1) (us1 : s1 ≤ 9223372036854775807) {W : World} (hL : Laid W) : Calls Tryz.prog 3 #[.agg #[.int .i64 16, .int .i64 3, .int .i64 s0, .int .i64 s1]] W (Yes W) := by
  by_cases H0 : s0 = 0
  · by_cases H1 : s1 = 0
    · exact w_o16_3_0 s0 s1 ls0 us0 ls1 us1 H0 H1 hL
    · by_cases H2 : s1 = 1
      · exact w_o16_3_1 s0 s1 ls0 us0 ls1 us1 H0 H1 H2 hL
      · exact w_o16_3_2 s0 s1 ls0 us0 ls1 us1 H0 H1 H2 hL
  · by_cases H1 : s0 = 1
    · by_cases H2 : s1 = 0
      · exact w_o16_3_3 s0 s1 ls0 us0 ls1 us1 H0 H1 H2 hL
      · by_cases H3 : s1 = 1
        · exact w_o16_3_4 s0 s1 ls0 us0 ls1 us1 H0 H1 H2 H3 hL
        · exact w_o16_3_5 s0 s1 ls0 us0 ls1 us1 H0 H1 H2 H3 hL
    · exact w_o16_3_6 s0 s1 ls0 us0 ls1 us1 H0 H1 hL
theorem j_o16_X (s0 s1 s2 : Int) (ls0 : -9223372036854775808 ≤ s0) (us0 : s0 ≤ 9223372036854775807) (ns0_1 : ¬ s0 = 1) (ns0_2 : ¬ s0 = 2) (ns0_3 : ¬ s0 = 3) (ls1 : -9223372036854775808 ≤ s1) (us1 : s1 ≤ 9223372036854775807) (ls2 : -9223372036854775808 ≤ s2) (us2 : s2 ≤ 9223372036854775807) {W : World} (hL : Laid W) : Calls Tryz.prog 3 #[.agg #[.int .i64 16, .int .i64 s0, .int .i64 s1, .int .i64 s2]] W (Yes W) := by
  by_cases H0 : s0 < 1
  · exact w_o16_X_0 s0 s1 s2 ls0 us0 ns0_1 ns0_2 ns0_3 ls1 us1 ls2 us2 H0 hL
  · exact w_o16_X_1 s0 s1 s2 ls0 us0 ns0_1 ns0_2 ns0_3 ls1 us1 ls2 us2 H0 hL
theorem j_o17_1 (s0 s1 : Int) (ls0 : -9223372036854775808 ≤ s0) (us0 : s0 ≤ 9223372036854775807) (ls1 : -9223372036854775808 ≤ s1) (us1 : s1 ≤ 9223372036854775807) {W : World} (hL : Laid W) : Calls Tryz.prog 3 #[.agg #[.int .i64 17, .int .i64 1, .int .i64 s0, .int .i64 s1]] W (Yes W) := by
  exact w_o17_1_0 s0 s1 ls0 us0 ls1 us1  hL
theorem j_o17_2 (s0 s1 : Int) (ls0 : -9223372036854775808 ≤ s0) (us0 : s0 ≤ 9223372036854775807) (ls1 : -9223372036854775808 ≤ s1) (us1 : s1 ≤ 9223372036854775807) {W : World} (hL : Laid W) : Calls Tryz.prog 3 #[.agg #[.int .i64 17, .int .i64 2, .int .i64 s0, .int .i64 s1]] W (Yes W) := by
  by_cases H0 : 0 ≤ s0
  · by_cases H1 : s0 ≤ 255
    · by_cases H2 : 0 ≤ s1
      · by_cases H3 : s1 ≤ 255
        · exact w_o17_2_0 s0 s1 ls0 us0 ls1 us1 H0 H1 H2 H3 hL
        · exact w_o17_2_1 s0 s1 ls0 us0 ls1 us1 H0 H1 H2 H3 hL
      · exact w_o17_2_2 s0 s1 ls0 us0 ls1 us1 H0 H1 H2 hL
    · exact w_o17_2_3 s0 s1 ls0 us0 ls1 us1 H0 H1 hL
  · exact w_o17_2_4 s0 s1 ls0 us0 ls1 us1 H0 hL
theorem j_o17_3 (s0 s1 : Int) (ls0 : -9223372036854775808 ≤ s0) (us0 : s0 ≤ 9223372036854775807) (ls1 : -9223372036854775808 ≤ s1) (us1 : s1 ≤ 9223372036854775807) {W : World} (hL : Laid W) : Calls Tryz.prog 3 #[.agg #[.int .i64 17, .int .i64 3, .int .i64 s0, .int .i64 s1]] W (Yes W) := by
  by_cases H0 : s0 = 0
  · by_cases H1 : s1 = 0
    · exact w_o17_3_0 s0 s1 ls0 us0 ls1 us1 H0 H1 hL
    · by_cases H2 : s1 = 1
      · exact w_o17_3_1 s0 s1 ls0 us0 ls1 us1 H0 H1 H2 hL
      · exact w_o17_3_2 s0 s1 ls0 us0 ls1 us1 H0 H1 H2 hL
  · by_cases H1 : s0 = 1
    · by_cases H2 : s1 = 0
      · exact w_o17_3_3 s0 s1 ls0 us0 ls1 us1 H0 H1 H2 hL
      · by_cases H3 : s1 = 1
        · exact w_o17_3_4 s0 s1 ls0 us0 ls1 us1 H0 H1 H2 H3 hL
        · exact w_o17_3_5 s0 s1 ls0 us0 ls1 us1 H0 H1 H2 H3 hL
    · exact w_o17_3_6 s0 s1 ls0 us0 ls1 us1 H0 H1 hL
theorem j_o17_X (s0 s1 s2 : Int) (ls0 : -9223372036854775808 ≤ s0) (us0 : s0 ≤ 9223372036854775807) (ns0_1 : ¬ s0 = 1) (ns0_2 : ¬ s0 = 2) (ns0_3 : ¬ s0 = 3) (ls1 : -9223372036854775808 ≤ s1) (us1 : s1 ≤ 9223372036854775807) (ls2 : -9223372036854775808 ≤ s2) (us2 : s2 ≤ 9223372036854775807) {W : World} (hL : Laid W) : Calls Tryz.prog 3 #[.agg #[.int .i64 17, .int .i64 s0, .int .i64 s1, .int .i64 s2]] W (Yes W) := by
  by_cases H0 : s0 < 1
  · exact w_o17_X_0 s0 s1 s2 ls0 us0 ns0_1 ns0_2 ns0_3 ls1 us1 ls2 us2 H0 hL
  · exact w_o17_X_1 s0 s1 s2 ls0 us0 ns0_1 ns0_2 ns0_3 ls1 us1 ls2 us2 H0 hL
theorem j_o18_1 (s0 s1 : Int) (ls0 : -9223372036854775808 ≤ s0) (us0 : s0 ≤ 9223372036854775807) (ls1 : -9223372036854775808 ≤ s1) (us1 : s1 ≤ 9223372036854775807) {W : World} (hL : Laid W) : Calls Tryz.prog 3 #[.agg #[.int .i64 18, .int .i64 1, .int .i64 s0, .int .i64 s1]] W (Yes W) := by
  exact w_o18_1_0 s0 s1 ls0 us0 ls1 us1  hL
theorem j_o18_2 (s0 s1 : Int) (ls0 : -9223372036854775808 ≤ s0) (us0 : s0 ≤ 9223372036854775807) (ls1 : -9223372036854775808 ≤ s1) (us1 : s1 ≤ 9223372036854775807) {W : World} (hL : Laid W) : Calls Tryz.prog 3 #[.agg #[.int .i64 18, .int .i64 2, .int .i64 s0, .int .i64 s1]] W (Yes W) := by
  by_cases H0 : 0 ≤ s0
  · by_cases H1 : s0 ≤ 255
    · by_cases H2 : 0 ≤ s1
      · by_cases H3 : s1 ≤ 255
        · exact w_o18_2_0 s0 s1 ls0 us0 ls1 us1 H0 H1 H2 H3 hL
        · exact w_o18_2_1 s0 s1 ls0 us0 ls1 us1 H0 H1 H2 H3 hL
      · exact w_o18_2_2 s0 s1 ls0 us0 ls1 us1 H0 H1 H2 hL
    · exact w_o18_2_3 s0 s1 ls0 us0 ls1 us1 H0 H1 hL
  · exact w_o18_2_4 s0 s1 ls0 us0 ls1 us1 H0 hL
theorem j_o18_3 (s0 s1 : Int) (ls0 : -9223372036854775808 ≤ s0) (us0 : s0 ≤ 9223372036854775807) (ls1 : -9223372036854775808 ≤ s1) (us1 : s1 ≤ 9223372036854775807) {W : World} (hL : Laid W) : Calls Tryz.prog 3 #[.agg #[.int .i64 18, .int .i64 3, .int .i64 s0, .int .i64 s1]] W (Yes W) := by
  by_cases H0 : s0 = 0
  · by_cases H1 : s1 = 0
    · exact w_o18_3_0 s0 s1 ls0 us0 ls1 us1 H0 H1 hL
    · by_cases H2 : s1 = 1
      · exact w_o18_3_1 s0 s1 ls0 us0 ls1 us1 H0 H1 H2 hL
      · exact w_o18_3_2 s0 s1 ls0 us0 ls1 us1 H0 H1 H2 hL
  · by_cases H1 : s0 = 1
    · by_cases H2 : s1 = 0
      · exact w_o18_3_3 s0 s1 ls0 us0 ls1 us1 H0 H1 H2 hL
      · by_cases H3 : s1 = 1
        · exact w_o18_3_4 s0 s1 ls0 us0 ls1 us1 H0 H1 H2 H3 hL
        · exact w_o18_3_5 s0 s1 ls0 us0 ls1 us1 H0 H1 H2 H3 hL
    · exact w_o18_3_6 s0 s1 ls0 us0 ls1 us1 H0 H1 hL
theorem j_o18_X (s0 s1 s2 : Int) (ls0 : -9223372036854775808 ≤ s0) (us0 : s0 ≤ 9223372036854775807) (ns0_1 : ¬ s0 = 1) (ns0_2 : ¬ s0 = 2) (ns0_3 : ¬ s0 = 3) (ls1 : -9223372036854775808 ≤ s1) (us1 : s1 ≤ 9223372036854775807) (ls2 : -9223372036854775808 ≤ s2) (us2 : s2 ≤ 9223372036854775807) {W : World} (hL : Laid W) : Calls Tryz.prog 3 #[.agg #[.int .i64 18, .int .i64 s0, .int .i64 s1, .int .i64 s2]] W (Yes W) := by
  by_cases H0 : s0 < 1
  · exact w_o18_X_0 s0 s1 s2 ls0 us0 ns0_1 ns0_2 ns0_3 ls1 us1 ls2 us2 H0 hL
  · exact w_o18_X_1 s0 s1 s2 ls0 us0 ns0_1 ns0_2 ns0_3 ls1 us1 ls2 us2 H0 hL
theorem j_oL (s0 s1 s2 s3 : Int) (ls0 : -9223372036854775808 ≤ s0) (us0 : s0 ≤ 9223372036854775807) (ms0 : s0 ≤ 0) (ls1 : -9223372036854775808 ≤ s1) (us1 : s1 ≤ 9223372036854775807) (ls2 : -9223372036854775808 ≤ s2) (us2 : s2 ≤ 9223372036854775807) (ls3 : -9223372036854775808 ≤ s3) (us3 : s3 ≤ 9223372036854775807) {W : World} (hL : Laid W) : Calls Tryz.prog 3 #[.agg #[.int .i64 s0, .int .i64 s1, .int .i64 s2, .int .i64 s3]] W (Yes W) := by
  by_cases H0 : s1 = 1
  · exact w_oL_0 s0 s1 s2 s3 ls0 us0 ms0 ls1 us1 ls2 us2 ls3 us3 H0 hL
  · by_cases H1 : s1 = 2
    · by_cases H2 : 0 ≤ s2
      · by_cases H3 : s2 ≤ 255
        · exact w_oL_1 s0 s1 s2 s3 ls0 us0 ms0 ls1 us1 ls2 us2 ls3 us3 H0 H1 H2 H3 hL
        · exact w_oL_2 s0 s1 s2 s3 ls0 us0 ms0 ls1 us1 ls2 us2 ls3 us3 H0 H1 H2 H3 hL
      · exact w_oL_3 s0 s1 s2 s3 ls0 us0 ms0 ls1 us1 ls2 us2 ls3 us3 H0 H1 H2 hL
    · by_cases H2 : s1 = 3
      · by_cases H3 : s2 = 0
        · exact w_oL_4 s0 s1 s2 s3 ls0 us0 ms0 ls1 us1 ls2 us2 ls3 us3 H0 H1 H2 H3 hL
        · by_cases H4 : s2 = 1
          · exact w_oL_5 s0 s1 s2 s3 ls0 us0 ms0 ls1 us1 ls2 us2 ls3 us3 H0 H1 H2 H3 H4 hL
          · exact w_oL_6 s0 s1 s2 s3 ls0 us0 ms0 ls1 us1 ls2 us2 ls3 us3 H0 H1 H2 H3 H4 hL
      · by_cases H3 : s1 < 1
        · exact w_oL_7 s0 s1 s2 s3 ls0 us0 ms0 ls1 us1 ls2 us2 ls3 us3 H0 H1 H2 H3 hL
        · exact w_oL_8 s0 s1 s2 s3 ls0 us0 ms0 ls1 us1 ls2 us2 ls3 us3 H0 H1 H2 H3 hL
theorem j_oH (s0 s1 s2 s3 : Int) (ls0 : -9223372036854775808 ≤ s0) (us0 : s0 ≤ 9223372036854775807) (ms0 : 19 ≤ s0) (ls1 : -9223372036854775808 ≤ s1) (us1 : s1 ≤ 9223372036854775807) (ls2 : -9223372036854775808 ≤ s2) (us2 : s2 ≤ 9223372036854775807) (ls3 : -9223372036854775808 ≤ s3) (us3 : s3 ≤ 9223372036854775807) {W : World} (hL : Laid W) : Calls Tryz.prog 3 #[.agg #[.int .i64 s0, .int .i64 s1, .int .i64 s2, .int .i64 s3]] W (Yes W) := by
  by_cases H0 : s1 = 1
  · exact w_oH_0 s0 s1 s2 s3 ls0 us0 ms0 ls1 us1 ls2 us2 ls3 us3 H0 hL
  · by_cases H1 : s1 = 2
    · by_cases H2 : 0 ≤ s2
      · by_cases H3 : s2 ≤ 255
        · exact w_oH_1 s0 s1 s2 s3 ls0 us0 ms0 ls1 us1 ls2 us2 ls3 us3 H0 H1 H2 H3 hL
        · exact w_oH_2 s0 s1 s2 s3 ls0 us0 ms0 ls1 us1 ls2 us2 ls3 us3 H0 H1 H2 H3 hL
      · exact w_oH_3 s0 s1 s2 s3 ls0 us0 ms0 ls1 us1 ls2 us2 ls3 us3 H0 H1 H2 hL
    · by_cases H2 : s1 = 3
      · by_cases H3 : s2 = 0
        · exact w_oH_4 s0 s1 s2 s3 ls0 us0 ms0 ls1 us1 ls2 us2 ls3 us3 H0 H1 H2 H3 hL
        · by_cases H4 : s2 = 1
          · exact w_oH_5 s0 s1 s2 s3 ls0 us0 ms0 ls1 us1 ls2 us2 ls3 us3 H0 H1 H2 H3 H4 hL
          · exact w_oH_6 s0 s1 s2 s3 ls0 us0 ms0 ls1 us1 ls2 us2 ls3 us3 H0 H1 H2 H3 H4 hL
      · by_cases H3 : s1 < 1
        · exact w_oH_7 s0 s1 s2 s3 ls0 us0 ms0 ls1 us1 ls2 us2 ls3 us3 H0 H1 H2 H3 hL
        · exact w_oH_8 s0 s1 s2 s3 ls0 us0 ms0 ls1 us1 ls2 us2 ls3 us3 H0 H1 H2 H3 hL
end Go.Proofs.YtcfneeeieofkeaaGreatDoor
end
section
set_option linter.unusedVariables false
namespace Go.Proofs.YtcfneeeieofkeaaGreatDoor
open Go Go.Ev Go.RowKit
theorem operates_ok (op kind a b : Int) (h1 : -9223372036854775808 ≤ op) (h2 : op ≤ 9223372036854775807) (h3 : -9223372036854775808 ≤ kind) (h4 : kind ≤ 9223372036854775807)
    (h5 : -9223372036854775808 ≤ a) (h6 : a ≤ 9223372036854775807) (h7 : -9223372036854775808 ≤ b) (h8 : b ≤ 9223372036854775807) {W : World} (hL : Laid W) :
    Calls Tryz.prog 3 #[.agg #[.int .i64 op, .int .i64 kind, .int .i64 a, .int .i64 b]] W (Yes W) := by
  by_cases c1 : op ≤ 0
  · exact j_oL op kind a b h1 h2 c1 h3 h4 h5 h6 h7 h8 hL
  by_cases c2 : 19 ≤ op
  · exact j_oH op kind a b h1 h2 c2 h3 h4 h5 h6 h7 h8 hL
  have ho : op = 1 ∨ op = 2 ∨ op = 3 ∨ op = 4 ∨ op = 5 ∨ op = 6 ∨ op = 7 ∨ op = 8 ∨ op = 9 ∨ op = 10 ∨ op = 11 ∨ op = 12 ∨ op = 13 ∨ op = 14 ∨ op = 15 ∨ op = 16 ∨ op = 17 ∨ op = 18 := by omega
  have hk : kind = 1 ∨ kind = 2 ∨ kind = 3 ∨ (¬ kind = 1 ∧ ¬ kind = 2 ∧ ¬ kind = 3) := by omega
  clear c1 c2
  rcases ho with rfl | rfl | rfl | rfl | rfl | rfl | rfl | rfl | rfl | rfl | rfl | rfl | rfl | rfl | rfl | rfl | rfl | rfl
  · rcases hk with rfl | rfl | rfl | ⟨n1, n2, n3⟩
    · exact j_o1_1 a b h5 h6 h7 h8 hL
    · exact j_o1_2 a b h5 h6 h7 h8 hL
    · exact j_o1_3 a b h5 h6 h7 h8 hL
    · exact j_o1_X kind a b h3 h4 n1 n2 n3 h5 h6 h7 h8 hL
  · rcases hk with rfl | rfl | rfl | ⟨n1, n2, n3⟩
    · exact j_o2_1 a b h5 h6 h7 h8 hL
    · exact j_o2_2 a b h5 h6 h7 h8 hL
    · exact j_o2_3 a b h5 h6 h7 h8 hL
    · exact j_o2_X kind a b h3 h4 n1 n2 n3 h5 h6 h7 h8 hL
  · rcases hk with rfl | rfl | rfl | ⟨n1, n2, n3⟩
    · exact j_o3_1 a b h5 h6 h7 h8 hL
    · exact j_o3_2 a b h5 h6 h7 h8 hL
    · exact j_o3_3 a b h5 h6 h7 h8 hL
    · exact j_o3_X kind a b h3 h4 n1 n2 n3 h5 h6 h7 h8 hL
  · rcases hk with rfl | rfl | rfl | ⟨n1, n2, n3⟩
    · exact j_o4_1 a b h5 h6 h7 h8 hL
    · exact j_o4_2 a b h5 h6 h7 h8 hL
    · exact j_o4_3 a b h5 h6 h7 h8 hL
    · exact j_o4_X kind a b h3 h4 n1 n2 n3 h5 h6 h7 h8 hL
  · rcases hk with rfl | rfl | rfl | ⟨n1, n2, n3⟩
    · exact j_o5_1 a b h5 h6 h7 h8 hL
    · exact j_o5_2 a b h5 h6 h7 h8 hL
    · exact j_o5_3 a b h5 h6 h7 h8 hL
    · exact j_o5_X kind a b h3 h4 n1 n2 n3 h5 h6 h7 h8 hL
  · rcases hk with rfl | rfl | rfl | ⟨n1, n2, n3⟩
    · exact j_o6_1 a b h5 h6 h7 h8 hL
    · exact j_o6_2 a b h5 h6 h7 h8 hL
    · exact j_o6_3 a b h5 h6 h7 h8 hL
    · exact j_o6_X kind a b h3 h4 n1 n2 n3 h5 h6 h7 h8 hL
  · rcases hk with rfl | rfl | rfl | ⟨n1, n2, n3⟩
    · exact j_o7_1 a b h5 h6 h7 h8 hL
    · exact j_o7_2 a b h5 h6 h7 h8 hL
    · exact j_o7_3 a b h5 h6 h7 h8 hL
    · exact j_o7_X kind a b h3 h4 n1 n2 n3 h5 h6 h7 h8 hL
  · rcases hk with rfl | rfl | rfl | ⟨n1, n2, n3⟩
    · exact j_o8_1 a b h5 h6 h7 h8 hL
    · exact j_o8_2 a b h5 h6 h7 h8 hL
    · exact j_o8_3 a b h5 h6 h7 h8 hL
    · exact j_o8_X kind a b h3 h4 n1 n2 n3 h5 h6 h7 h8 hL
  · rcases hk with rfl | rfl | rfl | ⟨n1, n2, n3⟩
    · exact j_o9_1 a b h5 h6 h7 h8 hL
    · exact j_o9_2 a b h5 h6 h7 h8 hL
    · exact j_o9_3 a b h5 h6 h7 h8 hL
    · exact j_o9_X kind a b h3 h4 n1 n2 n3 h5 h6 h7 h8 hL
  · rcases hk with rfl | rfl | rfl | ⟨n1, n2, n3⟩
    · exact j_o10_1 a b h5 h6 h7 h8 hL
    · exact j_o10_2 a b h5 h6 h7 h8 hL
    · exact j_o10_3 a b h5 h6 h7 h8 hL
    · exact j_o10_X kind a b h3 h4 n1 n2 n3 h5 h6 h7 h8 hL
  · rcases hk with rfl | rfl | rfl | ⟨n1, n2, n3⟩
    · exact j_o11_1 a b h5 h6 h7 h8 hL
    · exact j_o11_2 a b h5 h6 h7 h8 hL
    · exact j_o11_3 a b h5 h6 h7 h8 hL
    · exact j_o11_X kind a b h3 h4 n1 n2 n3 h5 h6 h7 h8 hL
  · rcases hk with rfl | rfl | rfl | ⟨n1, n2, n3⟩
    · exact j_o12_1 a b h5 h6 h7 h8 hL
    · exact j_o12_2 a b h5 h6 h7 h8 hL
    · exact j_o12_3 a b h5 h6 h7 h8 hL
    · exact j_o12_X kind a b h3 h4 n1 n2 n3 h5 h6 h7 h8 hL
  · rcases hk with rfl | rfl | rfl | ⟨n1, n2, n3⟩
    · exact j_o13_1 a b h5 h6 h7 h8 hL
    · exact j_o13_2 a b h5 h6 h7 h8 hL
    · exact j_o13_3 a b h5 h6 h7 h8 hL
    · exact j_o13_X kind a b h3 h4 n1 n2 n3 h5 h6 h7 h8 hL
  · rcases hk with rfl | rfl | rfl | ⟨n1, n2, n3⟩
    · exact j_o14_1 a b h5 h6 h7 h8 hL
    · exact j_o14_2 a b h5 h6 h7 h8 hL
    · exact j_o14_3 a b h5 h6 h7 h8 hL
    · exact j_o14_X kind a b h3 h4 n1 n2 n3 h5 h6 h7 h8 hL
  · rcases hk with rfl | rfl | rfl | ⟨n1, n2, n3⟩
    · exact j_o15_1 a b h5 h6 h7 h8 hL
    · exact j_o15_2 a b h5 h6 h7 h8 hL
    · exact j_o15_3 a b h5 h6 h7 h8 hL
    · exact j_o15_X kind a b h3 h4 n1 n2 n3 h5 h6 h7 h8 hL
  · rcases hk with rfl | rfl | rfl | ⟨n1, n2, n3⟩
    · exact j_o16_1 a b h5 h6 h7 h8 hL
    · exact j_o16_2 a b h5 h6 h7 h8 hL
    · exact j_o16_3 a b h5 h6 h7 h8 hL
    · exact j_o16_X kind a b h3 h4 n1 n2 n3 h5 h6 h7 h8 hL
  · rcases hk with rfl | rfl | rfl | ⟨n1, n2, n3⟩
    · exact j_o17_1 a b h5 h6 h7 h8 hL
    · exact j_o17_2 a b h5 h6 h7 h8 hL
    · exact j_o17_3 a b h5 h6 h7 h8 hL
    · exact j_o17_X kind a b h3 h4 n1 n2 n3 h5 h6 h7 h8 hL
  · rcases hk with rfl | rfl | rfl | ⟨n1, n2, n3⟩
    · exact j_o18_1 a b h5 h6 h7 h8 hL
    · exact j_o18_2 a b h5 h6 h7 h8 hL
    · exact j_o18_3 a b h5 h6 h7 h8 hL
    · exact j_o18_X kind a b h3 h4 n1 n2 n3 h5 h6 h7 h8 hL
end Go.Proofs.YtcfneeeieofkeaaGreatDoor
end
