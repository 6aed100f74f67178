/- The law over behaviours: the case analysis over the open runs. -/
import Derived.Test.YtgjefdmmaieplaaDoorIrX1
import Derived.Test.YtgjefdmmaieplaaDoorIrX2
set_option linter.unusedVariables false
set_option maxRecDepth 100000
namespace Go.Proofs.YtgjefdmmaieplaaDoor
open Go Go.Ev Go.RowKit
theorem j_alt1 {p p2 : Option Addr} {n c n2 c2 : Nat} {s1 s2 s4 s5 : Int} {xs ys : List Int} {W : World} (hL : Laid W) (hx : Ints W (.slice p n c) xs) (hy : Ints W (.slice p2 n2 c2) ys) (en : n = xs.length) (en2 : n2 = ys.length) (hr : n < n2) (ha : n ≤ 3000) (hb : n2 ≤ 3000) (hp : decide (xs <+: ys) = true) (hq : decide (ys <+: xs) = false) (he : decide (xs = ys) = false) (he2 : decide (ys = xs) = false) : Calls Tryd.prog 4 #[.agg #[.slice p n c, .int .i64 s1, .int .i64 s2], .agg #[.slice p2 n2 c2, .int .i64 s4, .int .i64 s5]] W (Yes W) := by
  by_cases H0 : s1 = s4
  · by_cases H1 : s2 = s5
    · by_cases H2 : s1 = 4
      · by_cases H3 : s4 = 4
        · exact w_alt1_0 hL hx hy en en2 hr ha hb hp hq he he2 H0 H1 H2 H3
        · exact w_alt1_1 hL hx hy en en2 hr ha hb hp hq he he2 H0 H1 H2 H3
      · by_cases H3 : s4 = 4
        · exact w_alt1_2 hL hx hy en en2 hr ha hb hp hq he he2 H0 H1 H2 H3
        · exact w_alt1_3 hL hx hy en en2 hr ha hb hp hq he he2 H0 H1 H2 H3
    · by_cases H2 : s1 = 4
      · by_cases H3 : s4 = 4
        · exact w_alt1_4 hL hx hy en en2 hr ha hb hp hq he he2 H0 H1 H2 H3
        · exact w_alt1_5 hL hx hy en en2 hr ha hb hp hq he he2 H0 H1 H2 H3
      · by_cases H3 : s4 = 4
        · exact w_alt1_6 hL hx hy en en2 hr ha hb hp hq he he2 H0 H1 H2 H3
        · exact w_alt1_7 hL hx hy en en2 hr ha hb hp hq he he2 H0 H1 H2 H3
  · by_cases H1 : s1 = 4
    · by_cases H2 : s4 = 4
      · exact w_alt1_8 hL hx hy en en2 hr ha hb hp hq he he2 H0 H1 H2
      · exact w_alt1_9 hL hx hy en en2 hr ha hb hp hq he he2 H0 H1 H2
    · by_cases H2 : s4 = 4
      · exact w_alt1_10 hL hx hy en en2 hr ha hb hp hq he he2 H0 H1 H2
      · exact w_alt1_11 hL hx hy en en2 hr ha hb hp hq he he2 H0 H1 H2
theorem j_alt0 {p p2 : Option Addr} {n c n2 c2 : Nat} {s1 s2 s4 s5 : Int} {xs ys : List Int} {W : World} (hL : Laid W) (hx : Ints W (.slice p n c) xs) (hy : Ints W (.slice p2 n2 c2) ys) (en : n = xs.length) (en2 : n2 = ys.length) (hr : n < n2) (ha : n ≤ 3000) (hb : n2 ≤ 3000) (hp : decide (xs <+: ys) = false) (hq : decide (ys <+: xs) = false) (he : decide (xs = ys) = false) (he2 : decide (ys = xs) = false) : Calls Tryd.prog 4 #[.agg #[.slice p n c, .int .i64 s1, .int .i64 s2], .agg #[.slice p2 n2 c2, .int .i64 s4, .int .i64 s5]] W (Yes W) := by
  by_cases H0 : s1 = s4
  · by_cases H1 : s2 = s5
    · by_cases H2 : s1 = 4
      · by_cases H3 : s4 = 4
        · exact w_alt0_0 hL hx hy en en2 hr ha hb hp hq he he2 H0 H1 H2 H3
        · exact w_alt0_1 hL hx hy en en2 hr ha hb hp hq he he2 H0 H1 H2 H3
      · by_cases H3 : s4 = 4
        · exact w_alt0_2 hL hx hy en en2 hr ha hb hp hq he he2 H0 H1 H2 H3
        · exact w_alt0_3 hL hx hy en en2 hr ha hb hp hq he he2 H0 H1 H2 H3
    · by_cases H2 : s1 = 4
      · by_cases H3 : s4 = 4
        · exact w_alt0_4 hL hx hy en en2 hr ha hb hp hq he he2 H0 H1 H2 H3
        · exact w_alt0_5 hL hx hy en en2 hr ha hb hp hq he he2 H0 H1 H2 H3
      · by_cases H3 : s4 = 4
        · exact w_alt0_6 hL hx hy en en2 hr ha hb hp hq he he2 H0 H1 H2 H3
        · exact w_alt0_7 hL hx hy en en2 hr ha hb hp hq he he2 H0 H1 H2 H3
  · by_cases H1 : s1 = 4
    · by_cases H2 : s4 = 4
      · exfalso; omega
      · exact w_alt0_8 hL hx hy en en2 hr ha hb hp hq he he2 H0 H1 H2
    · by_cases H2 : s4 = 4
      · exact w_alt0_9 hL hx hy en en2 hr ha hb hp hq he he2 H0 H1 H2
      · exact w_alt0_10 hL hx hy en en2 hr ha hb hp hq he he2 H0 H1 H2
theorem j_aeq1 {p p2 : Option Addr} {n c n2 c2 : Nat} {s1 s2 s4 s5 : Int} {xs ys : List Int} {W : World} (hL : Laid W) (hx : Ints W (.slice p n c) xs) (hy : Ints W (.slice p2 n2 c2) ys) (en : n = xs.length) (en2 : n2 = ys.length) (hr : n = n2) (ha : n ≤ 3000) (hb : n2 ≤ 3000) (hp : decide (xs <+: ys) = true) (hq : decide (ys <+: xs) = true) (he : decide (xs = ys) = true) (he2 : decide (ys = xs) = true) : Calls Tryd.prog 4 #[.agg #[.slice p n c, .int .i64 s1, .int .i64 s2], .agg #[.slice p2 n2 c2, .int .i64 s4, .int .i64 s5]] W (Yes W) := by
  by_cases H0 : s1 = s4
  · by_cases H1 : s2 = s5
    · exact w_aeq1_0 hL hx hy en en2 hr ha hb hp hq he he2 H0 H1
    · by_cases H2 : s1 = 4
      · by_cases H3 : s4 = 4
        · exact w_aeq1_1 hL hx hy en en2 hr ha hb hp hq he he2 H0 H1 H2 H3
        · exact w_aeq1_2 hL hx hy en en2 hr ha hb hp hq he he2 H0 H1 H2 H3
      · by_cases H3 : s4 = 4
        · exact w_aeq1_3 hL hx hy en en2 hr ha hb hp hq he he2 H0 H1 H2 H3
        · exact w_aeq1_4 hL hx hy en en2 hr ha hb hp hq he he2 H0 H1 H2 H3
  · by_cases H1 : s1 = 4
    · by_cases H2 : s4 = 4
      · exact w_aeq1_5 hL hx hy en en2 hr ha hb hp hq he he2 H0 H1 H2
      · exact w_aeq1_6 hL hx hy en en2 hr ha hb hp hq he he2 H0 H1 H2
    · by_cases H2 : s4 = 4
      · exact w_aeq1_7 hL hx hy en en2 hr ha hb hp hq he he2 H0 H1 H2
      · exact w_aeq1_8 hL hx hy en en2 hr ha hb hp hq he he2 H0 H1 H2
theorem j_aeq0 {p p2 : Option Addr} {n c n2 c2 : Nat} {s1 s2 s4 s5 : Int} {xs ys : List Int} {W : World} (hL : Laid W) (hx : Ints W (.slice p n c) xs) (hy : Ints W (.slice p2 n2 c2) ys) (en : n = xs.length) (en2 : n2 = ys.length) (hr : n = n2) (ha : n ≤ 3000) (hb : n2 ≤ 3000) (hp : decide (xs <+: ys) = false) (hq : decide (ys <+: xs) = false) (he : decide (xs = ys) = false) (he2 : decide (ys = xs) = false) : Calls Tryd.prog 4 #[.agg #[.slice p n c, .int .i64 s1, .int .i64 s2], .agg #[.slice p2 n2 c2, .int .i64 s4, .int .i64 s5]] W (Yes W) := by
  by_cases H0 : s1 = s4
  · by_cases H1 : s2 = s5
    · by_cases H2 : s1 = 4
      · by_cases H3 : s4 = 4
        · exact w_aeq0_0 hL hx hy en en2 hr ha hb hp hq he he2 H0 H1 H2 H3
        · exact w_aeq0_1 hL hx hy en en2 hr ha hb hp hq he he2 H0 H1 H2 H3
      · by_cases H3 : s4 = 4
        · exact w_aeq0_2 hL hx hy en en2 hr ha hb hp hq he he2 H0 H1 H2 H3
        · exact w_aeq0_3 hL hx hy en en2 hr ha hb hp hq he he2 H0 H1 H2 H3
    · by_cases H2 : s1 = 4
      · by_cases H3 : s4 = 4
        · exact w_aeq0_4 hL hx hy en en2 hr ha hb hp hq he he2 H0 H1 H2 H3
        · exact w_aeq0_5 hL hx hy en en2 hr ha hb hp hq he he2 H0 H1 H2 H3
      · by_cases H3 : s4 = 4
        · exact w_aeq0_6 hL hx hy en en2 hr ha hb hp hq he he2 H0 H1 H2 H3
        · exact w_aeq0_7 hL hx hy en en2 hr ha hb hp hq he he2 H0 H1 H2 H3
  · by_cases H1 : s1 = 4
    · by_cases H2 : s4 = 4
      · exfalso; omega
      · exact w_aeq0_8 hL hx hy en en2 hr ha hb hp hq he he2 H0 H1 H2
    · by_cases H2 : s4 = 4
      · exact w_aeq0_9 hL hx hy en en2 hr ha hb hp hq he he2 H0 H1 H2
      · exact w_aeq0_10 hL hx hy en en2 hr ha hb hp hq he he2 H0 H1 H2
theorem j_agt1 {p p2 : Option Addr} {n c n2 c2 : Nat} {s1 s2 s4 s5 : Int} {xs ys : List Int} {W : World} (hL : Laid W) (hx : Ints W (.slice p n c) xs) (hy : Ints W (.slice p2 n2 c2) ys) (en : n = xs.length) (en2 : n2 = ys.length) (hr : n2 < n) (ha : n ≤ 3000) (hb : n2 ≤ 3000) (hp : decide (xs <+: ys) = false) (hq : decide (ys <+: xs) = true) (he : decide (xs = ys) = false) (he2 : decide (ys = xs) = false) : Calls Tryd.prog 4 #[.agg #[.slice p n c, .int .i64 s1, .int .i64 s2], .agg #[.slice p2 n2 c2, .int .i64 s4, .int .i64 s5]] W (Yes W) := by
  by_cases H0 : s1 = s4
  · by_cases H1 : s2 = s5
    · by_cases H2 : s1 = 4
      · by_cases H3 : s4 = 4
        · exact w_agt1_0 hL hx hy en en2 hr ha hb hp hq he he2 H0 H1 H2 H3
        · exact w_agt1_1 hL hx hy en en2 hr ha hb hp hq he he2 H0 H1 H2 H3
      · by_cases H3 : s4 = 4
        · exact w_agt1_2 hL hx hy en en2 hr ha hb hp hq he he2 H0 H1 H2 H3
        · exact w_agt1_3 hL hx hy en en2 hr ha hb hp hq he he2 H0 H1 H2 H3
    · by_cases H2 : s1 = 4
      · by_cases H3 : s4 = 4
        · exact w_agt1_4 hL hx hy en en2 hr ha hb hp hq he he2 H0 H1 H2 H3
        · exact w_agt1_5 hL hx hy en en2 hr ha hb hp hq he he2 H0 H1 H2 H3
      · by_cases H3 : s4 = 4
        · exact w_agt1_6 hL hx hy en en2 hr ha hb hp hq he he2 H0 H1 H2 H3
        · exact w_agt1_7 hL hx hy en en2 hr ha hb hp hq he he2 H0 H1 H2 H3
  · by_cases H1 : s1 = 4
    · by_cases H2 : s4 = 4
      · exfalso; omega
      · exact w_agt1_8 hL hx hy en en2 hr ha hb hp hq he he2 H0 H1 H2
    · by_cases H2 : s4 = 4
      · exact w_agt1_9 hL hx hy en en2 hr ha hb hp hq he he2 H0 H1 H2
      · exact w_agt1_10 hL hx hy en en2 hr ha hb hp hq he he2 H0 H1 H2
theorem j_agt0 {p p2 : Option Addr} {n c n2 c2 : Nat} {s1 s2 s4 s5 : Int} {xs ys : List Int} {W : World} (hL : Laid W) (hx : Ints W (.slice p n c) xs) (hy : Ints W (.slice p2 n2 c2) ys) (en : n = xs.length) (en2 : n2 = ys.length) (hr : n2 < n) (ha : n ≤ 3000) (hb : n2 ≤ 3000) (hp : decide (xs <+: ys) = false) (hq : decide (ys <+: xs) = false) (he : decide (xs = ys) = false) (he2 : decide (ys = xs) = false) : Calls Tryd.prog 4 #[.agg #[.slice p n c, .int .i64 s1, .int .i64 s2], .agg #[.slice p2 n2 c2, .int .i64 s4, .int .i64 s5]] W (Yes W) := by
  by_cases H0 : s1 = s4
  · by_cases H1 : s2 = s5
    · by_cases H2 : s1 = 4
      · by_cases H3 : s4 = 4
        · exact w_agt0_0 hL hx hy en en2 hr ha hb hp hq he he2 H0 H1 H2 H3
        · exact w_agt0_1 hL hx hy en en2 hr ha hb hp hq he he2 H0 H1 H2 H3
      · by_cases H3 : s4 = 4
        · exact w_agt0_2 hL hx hy en en2 hr ha hb hp hq he he2 H0 H1 H2 H3
        · exact w_agt0_3 hL hx hy en en2 hr ha hb hp hq he he2 H0 H1 H2 H3
    · by_cases H2 : s1 = 4
      · by_cases H3 : s4 = 4
        · exact w_agt0_4 hL hx hy en en2 hr ha hb hp hq he he2 H0 H1 H2 H3
        · exact w_agt0_5 hL hx hy en en2 hr ha hb hp hq he he2 H0 H1 H2 H3
      · by_cases H3 : s4 = 4
        · exact w_agt0_6 hL hx hy en en2 hr ha hb hp hq he he2 H0 H1 H2 H3
        · exact w_agt0_7 hL hx hy en en2 hr ha hb hp hq he he2 H0 H1 H2 H3
  · by_cases H1 : s1 = 4
    · by_cases H2 : s4 = 4
      · exfalso; omega
      · exact w_agt0_8 hL hx hy en en2 hr ha hb hp hq he he2 H0 H1 H2
    · by_cases H2 : s4 = 4
      · exact w_agt0_9 hL hx hy en en2 hr ha hb hp hq he he2 H0 H1 H2
      · exact w_agt0_10 hL hx hy en en2 hr ha hb hp hq he he2 H0 H1 H2
theorem j_along {p p2 : Option Addr} {n c n2 c2 : Nat} {s1 s2 s4 s5 : Int} {xs ys : List Int} {W : World} (hL : Laid W) (hx : Ints W (.slice p n c) xs) (hy : Ints W (.slice p2 n2 c2) ys) (en : n = xs.length) (en2 : n2 = ys.length) (hr : 3000 < n) : Calls Tryd.prog 4 #[.agg #[.slice p n c, .int .i64 s1, .int .i64 s2], .agg #[.slice p2 n2 c2, .int .i64 s4, .int .i64 s5]] W (Yes W) := by
  exact w_along_0 hL hx hy en en2 hr 
theorem j_blong {p p2 : Option Addr} {n c n2 c2 : Nat} {s1 s2 s4 s5 : Int} {xs ys : List Int} {W : World} (hL : Laid W) (hx : Ints W (.slice p n c) xs) (hy : Ints W (.slice p2 n2 c2) ys) (en : n = xs.length) (en2 : n2 = ys.length) (hr : n ≤ 3000) (hr2 : 3000 < n2) : Calls Tryd.prog 4 #[.agg #[.slice p n c, .int .i64 s1, .int .i64 s2], .agg #[.slice p2 n2 c2, .int .i64 s4, .int .i64 s5]] W (Yes W) := by
  exact w_blong_0 hL hx hy en en2 hr hr2 
end Go.Proofs.YtgjefdmmaieplaaDoor
