/- The law at the operations other than call and phi: the case analysis over the open runs. -/
import Derived.Test.YtlcnpcaeoahobaaGreatDoorIuX1
set_option linter.unusedVariables false
set_option maxRecDepth 100000
namespace Go.Proofs.YtlcnpcaeoahobaaGreatDoor
open Go Go.Ev Go.RowKit
theorem j_u1 {p p2 p3 : Option Addr} {n c n2 c2 n3 c3 : Nat} {s0 s1 s2 s3 s4 s5 s6 s7 s8 s13 : Int} {W : World} (hL : Laid W) (hn : n ≤ 500) (hs : s13 = 0) : Calls Tryz.prog 3 #[.agg #[.int .i64 1, .int .i64 s0, .int .i64 s1, .int .i64 s2, .int .i64 s3, .int .i64 s4, .int .i64 s5, .int .i64 s6, .int .i64 s7, .int .i64 s8, .slice p n c, .slice p2 n2 c2, .slice p3 n3 c3]] W (Yes W) := by
  by_cases H0 : 0 ≤ s2
  · by_cases H1 : (-1) ≤ s1
    · exact w_u1_0 hL hn hs H0 H1
    · exact w_u1_1 hL hn hs H0 H1
  · by_cases H1 : (-1) ≤ s1
    · exact w_u1_2 hL hn hs H0 H1
    · exact w_u1_3 hL hn hs H0 H1
theorem j_u2 {p p2 p3 : Option Addr} {n c n2 c2 n3 c3 : Nat} {s0 s1 s2 s3 s4 s5 s6 s7 s8 s13 : Int} {W : World} (hL : Laid W) (hn : n ≤ 500) (hs : s13 = 0) : Calls Tryz.prog 3 #[.agg #[.int .i64 2, .int .i64 s0, .int .i64 s1, .int .i64 s2, .int .i64 s3, .int .i64 s4, .int .i64 s5, .int .i64 s6, .int .i64 s7, .int .i64 s8, .slice p n c, .slice p2 n2 c2, .slice p3 n3 c3]] W (Yes W) := by
  by_cases H0 : 0 ≤ s2
  · by_cases H1 : 0 ≤ s4
    · by_cases H2 : (-1) ≤ s1
      · exact w_u2_0 hL hn hs H0 H1 H2
      · exact w_u2_1 hL hn hs H0 H1 H2
    · by_cases H2 : (-1) ≤ s1
      · exact w_u2_2 hL hn hs H0 H1 H2
      · exact w_u2_3 hL hn hs H0 H1 H2
  · by_cases H1 : 0 ≤ s4
    · by_cases H2 : (-1) ≤ s1
      · exact w_u2_4 hL hn hs H0 H1 H2
      · exact w_u2_5 hL hn hs H0 H1 H2
    · by_cases H2 : (-1) ≤ s1
      · exact w_u2_6 hL hn hs H0 H1 H2
      · exact w_u2_7 hL hn hs H0 H1 H2
theorem j_u3 {p p2 p3 : Option Addr} {n c n2 c2 n3 c3 : Nat} {s0 s1 s2 s3 s4 s5 s6 s7 s8 s13 : Int} {W : World} (hL : Laid W) (hn : n ≤ 500) (hs : s13 = 0) : Calls Tryz.prog 3 #[.agg #[.int .i64 3, .int .i64 s0, .int .i64 s1, .int .i64 s2, .int .i64 s3, .int .i64 s4, .int .i64 s5, .int .i64 s6, .int .i64 s7, .int .i64 s8, .slice p n c, .slice p2 n2 c2, .slice p3 n3 c3]] W (Yes W) := by
  by_cases H0 : 0 ≤ s2
  · by_cases H1 : 0 ≤ s4
    · exact w_u3_0 hL hn hs H0 H1
    · exact w_u3_1 hL hn hs H0 H1
  · by_cases H1 : 0 ≤ s4
    · exact w_u3_2 hL hn hs H0 H1
    · exact w_u3_3 hL hn hs H0 H1
theorem j_u4 {p p2 p3 : Option Addr} {n c n2 c2 n3 c3 : Nat} {s0 s1 s2 s3 s4 s5 s6 s7 s8 s13 : Int} {W : World} (hL : Laid W) (hn : n ≤ 500) (hs : s13 = 0) : Calls Tryz.prog 3 #[.agg #[.int .i64 4, .int .i64 s0, .int .i64 s1, .int .i64 s2, .int .i64 s3, .int .i64 s4, .int .i64 s5, .int .i64 s6, .int .i64 s7, .int .i64 s8, .slice p n c, .slice p2 n2 c2, .slice p3 n3 c3]] W (Yes W) := by
  by_cases H0 : 0 ≤ s2
  · by_cases H1 : (-1) ≤ s1
    · exact w_u4_0 hL hn hs H0 H1
    · exact w_u4_1 hL hn hs H0 H1
  · by_cases H1 : (-1) ≤ s1
    · exact w_u4_2 hL hn hs H0 H1
    · exact w_u4_3 hL hn hs H0 H1
theorem j_u5 {p p2 p3 : Option Addr} {n c n2 c2 n3 c3 : Nat} {s0 s1 s2 s3 s4 s5 s6 s7 s8 s13 : Int} {W : World} (hL : Laid W) (hn : n ≤ 500) (hs : s13 = 0) : Calls Tryz.prog 3 #[.agg #[.int .i64 5, .int .i64 s0, .int .i64 s1, .int .i64 s2, .int .i64 s3, .int .i64 s4, .int .i64 s5, .int .i64 s6, .int .i64 s7, .int .i64 s8, .slice p n c, .slice p2 n2 c2, .slice p3 n3 c3]] W (Yes W) := by
  by_cases H0 : 0 ≤ s2
  · by_cases H1 : 0 ≤ s4
    · exact w_u5_0 hL hn hs H0 H1
    · exact w_u5_1 hL hn hs H0 H1
  · by_cases H1 : 0 ≤ s4
    · exact w_u5_2 hL hn hs H0 H1
    · exact w_u5_3 hL hn hs H0 H1
theorem j_u6 {p p2 p3 : Option Addr} {n c n2 c2 n3 c3 : Nat} {s0 s1 s2 s3 s4 s5 s6 s7 s8 s13 : Int} {W : World} (hL : Laid W) (hn : n ≤ 500) (hs : s13 = 0) : Calls Tryz.prog 3 #[.agg #[.int .i64 6, .int .i64 s0, .int .i64 s1, .int .i64 s2, .int .i64 s3, .int .i64 s4, .int .i64 s5, .int .i64 s6, .int .i64 s7, .int .i64 s8, .slice p n c, .slice p2 n2 c2, .slice p3 n3 c3]] W (Yes W) := by
  by_cases H0 : (-1) ≤ s1
  · exact w_u6_0 hL hn hs H0
  · exact w_u6_1 hL hn hs H0
theorem j_u7 {p p2 p3 : Option Addr} {n c n2 c2 n3 c3 : Nat} {s0 s1 s2 s3 s4 s5 s6 s7 s8 s13 : Int} {W : World} (hL : Laid W) (hn : n ≤ 500) (hs : s13 = 0) : Calls Tryz.prog 3 #[.agg #[.int .i64 7, .int .i64 s0, .int .i64 s1, .int .i64 s2, .int .i64 s3, .int .i64 s4, .int .i64 s5, .int .i64 s6, .int .i64 s7, .int .i64 s8, .slice p n c, .slice p2 n2 c2, .slice p3 n3 c3]] W (Yes W) := by
  by_cases H0 : 0 ≤ s2
  · exact w_u7_0 hL hn hs H0
  · exact w_u7_1 hL hn hs H0
theorem j_u8 {p p2 p3 : Option Addr} {n c n2 c2 n3 c3 : Nat} {s0 s1 s2 s3 s4 s5 s6 s7 s8 s13 : Int} {W : World} (hL : Laid W) (hn : n ≤ 500) (hs : s13 = 0) : Calls Tryz.prog 3 #[.agg #[.int .i64 8, .int .i64 s0, .int .i64 s1, .int .i64 s2, .int .i64 s3, .int .i64 s4, .int .i64 s5, .int .i64 s6, .int .i64 s7, .int .i64 s8, .slice p n c, .slice p2 n2 c2, .slice p3 n3 c3]] W (Yes W) := by
  by_cases H0 : 0 ≤ s2
  · exact w_u8_0 hL hn hs H0
  · exact w_u8_1 hL hn hs H0
theorem j_ulo {p p2 p3 : Option Addr} {n c n2 c2 n3 c3 : Nat} {s0 s1 s2 s3 s4 s5 s6 s7 s8 s13 : Int} {W : World} (hL : Laid W) (hn : n ≤ 500) (hs : s13 ≤ 0) : Calls Tryz.prog 3 #[.agg #[.int .i64 s13, .int .i64 s0, .int .i64 s1, .int .i64 s2, .int .i64 s3, .int .i64 s4, .int .i64 s5, .int .i64 s6, .int .i64 s7, .int .i64 s8, .slice p n c, .slice p2 n2 c2, .slice p3 n3 c3]] W (Yes W) := by
  exact w_ulo_0 hL hn hs 
theorem j_uhi {p p2 p3 : Option Addr} {n c n2 c2 n3 c3 : Nat} {s0 s1 s2 s3 s4 s5 s6 s7 s8 s13 : Int} {W : World} (hL : Laid W) (hn : n ≤ 500) (hs : 11 ≤ s13) : Calls Tryz.prog 3 #[.agg #[.int .i64 s13, .int .i64 s0, .int .i64 s1, .int .i64 s2, .int .i64 s3, .int .i64 s4, .int .i64 s5, .int .i64 s6, .int .i64 s7, .int .i64 s8, .slice p n c, .slice p2 n2 c2, .slice p3 n3 c3]] W (Yes W) := by
  exact w_uhi_0 hL hn hs 
theorem j_ulong {p p2 p3 : Option Addr} {n c n2 c2 n3 c3 : Nat} {s0 s1 s2 s3 s4 s5 s6 s7 s8 s13 : Int} {W : World} (hL : Laid W) (hn : 500 < n) (hs : s13 = s13) : Calls Tryz.prog 3 #[.agg #[.int .i64 s13, .int .i64 s0, .int .i64 s1, .int .i64 s2, .int .i64 s3, .int .i64 s4, .int .i64 s5, .int .i64 s6, .int .i64 s7, .int .i64 s8, .slice p n c, .slice p2 n2 c2, .slice p3 n3 c3]] W (Yes W) := by
  exact w_ulong_0 hL hn hs 
end Go.Proofs.YtlcnpcaeoahobaaGreatDoor
