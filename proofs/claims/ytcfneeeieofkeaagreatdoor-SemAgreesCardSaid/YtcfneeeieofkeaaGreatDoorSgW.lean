/- A part of the proof of SgG. -/
import Derived.Test.YtcfneeeieofkeaaGreatDoorSgX1
import Derived.Test.YtcfneeeieofkeaaGreatDoorSgX2
section
set_option linter.unusedVariables false
set_option maxRecDepth 100000
namespace Go.Proofs.YtcfneeeieofkeaaGreatDoor
open Go Go.Ev Go.RowKit
theorem j_alt1 {p p2 : Option Addr} {n c n2 c2 : Nat} {s1 s2 s4 s5 : Int} {xs ys : List Int} {W : World} (hL : Laid W) (hx : Ints W (.slice p n c) xs) (hy : Ints W (.slice p2 n2 c2) ys) (en : n = xs.length) (en2 : n2 = ys.length) (hr : n < n2) (hp : decide (xs <+: ys) = true) (hq : decide (ys <+: xs) = false) (he : decide (xs = ys) = false) (he2 : decide (ys = xs) = false) : Calls Tryz.prog 4 #[.agg #[.slice p n c, .int .i64 s1, .int .i64 s2], .agg #[.slice p2 n2 c2, .int .i64 s4, .int .i64 s5]] W (Yes W) := by
  by_cases H0 : 5000 < (n : Int)
  · exact w_alt1_0 hL hx hy en en2 hr hp hq he he2 H0
  · by_cases H1 : 5000 < (n2 : Int)
    · exact w_alt1_1 hL hx hy en en2 hr hp hq he he2 H0 H1
    · by_cases H2 : s1 = s4
      · by_cases H3 : s2 = s5
        · by_cases H4 : s1 = 4
          · by_cases H5 : s4 = 4
            · exact w_alt1_2 hL hx hy en en2 hr hp hq he he2 H0 H1 H2 H3 H4 H5
            · exact w_alt1_3 hL hx hy en en2 hr hp hq he he2 H0 H1 H2 H3 H4 H5
          · by_cases H5 : s4 = 4
            · exact w_alt1_4 hL hx hy en en2 hr hp hq he he2 H0 H1 H2 H3 H4 H5
            · exact w_alt1_5 hL hx hy en en2 hr hp hq he he2 H0 H1 H2 H3 H4 H5
        · by_cases H4 : s1 = 4
          · by_cases H5 : s4 = 4
            · exact w_alt1_6 hL hx hy en en2 hr hp hq he he2 H0 H1 H2 H3 H4 H5
            · exact w_alt1_7 hL hx hy en en2 hr hp hq he he2 H0 H1 H2 H3 H4 H5
          · by_cases H5 : s4 = 4
            · exact w_alt1_8 hL hx hy en en2 hr hp hq he he2 H0 H1 H2 H3 H4 H5
            · exact w_alt1_9 hL hx hy en en2 hr hp hq he he2 H0 H1 H2 H3 H4 H5
      · by_cases H3 : s1 = 4
        · by_cases H4 : s4 = 4
          · exact w_alt1_10 hL hx hy en en2 hr hp hq he he2 H0 H1 H2 H3 H4
          · exact w_alt1_11 hL hx hy en en2 hr hp hq he he2 H0 H1 H2 H3 H4
        · by_cases H4 : s4 = 4
          · exact w_alt1_12 hL hx hy en en2 hr hp hq he he2 H0 H1 H2 H3 H4
          · exact w_alt1_13 hL hx hy en en2 hr hp hq he he2 H0 H1 H2 H3 H4
theorem j_alt0 {p p2 : Option Addr} {n c n2 c2 : Nat} {s1 s2 s4 s5 : Int} {xs ys : List Int} {W : World} (hL : Laid W) (hx : Ints W (.slice p n c) xs) (hy : Ints W (.slice p2 n2 c2) ys) (en : n = xs.length) (en2 : n2 = ys.length) (hr : n < n2) (hp : decide (xs <+: ys) = false) (hq : decide (ys <+: xs) = false) (he : decide (xs = ys) = false) (he2 : decide (ys = xs) = false) : Calls Tryz.prog 4 #[.agg #[.slice p n c, .int .i64 s1, .int .i64 s2], .agg #[.slice p2 n2 c2, .int .i64 s4, .int .i64 s5]] W (Yes W) := by
  by_cases H0 : 5000 < (n : Int)
  · exact w_alt0_0 hL hx hy en en2 hr hp hq he he2 H0
  · by_cases H1 : 5000 < (n2 : Int)
    · exact w_alt0_1 hL hx hy en en2 hr hp hq he he2 H0 H1
    · by_cases H2 : s1 = s4
      · by_cases H3 : s2 = s5
        · by_cases H4 : s1 = 4
          · by_cases H5 : s4 = 4
            · exact w_alt0_2 hL hx hy en en2 hr hp hq he he2 H0 H1 H2 H3 H4 H5
            · exact w_alt0_3 hL hx hy en en2 hr hp hq he he2 H0 H1 H2 H3 H4 H5
          · by_cases H5 : s4 = 4
            · exact w_alt0_4 hL hx hy en en2 hr hp hq he he2 H0 H1 H2 H3 H4 H5
            · exact w_alt0_5 hL hx hy en en2 hr hp hq he he2 H0 H1 H2 H3 H4 H5
        · by_cases H4 : s1 = 4
          · by_cases H5 : s4 = 4
            · exact w_alt0_6 hL hx hy en en2 hr hp hq he he2 H0 H1 H2 H3 H4 H5
            · exact w_alt0_7 hL hx hy en en2 hr hp hq he he2 H0 H1 H2 H3 H4 H5
          · by_cases H5 : s4 = 4
            · exact w_alt0_8 hL hx hy en en2 hr hp hq he he2 H0 H1 H2 H3 H4 H5
            · exact w_alt0_9 hL hx hy en en2 hr hp hq he he2 H0 H1 H2 H3 H4 H5
      · by_cases H3 : s1 = 4
        · by_cases H4 : s4 = 4
          · exfalso; omega
          · exact w_alt0_10 hL hx hy en en2 hr hp hq he he2 H0 H1 H2 H3 H4
        · by_cases H4 : s4 = 4
          · exact w_alt0_11 hL hx hy en en2 hr hp hq he he2 H0 H1 H2 H3 H4
          · exact w_alt0_12 hL hx hy en en2 hr hp hq he he2 H0 H1 H2 H3 H4
theorem j_aeq1 {p p2 : Option Addr} {n c n2 c2 : Nat} {s1 s2 s4 s5 : Int} {xs ys : List Int} {W : World} (hL : Laid W) (hx : Ints W (.slice p n c) xs) (hy : Ints W (.slice p2 n2 c2) ys) (en : n = xs.length) (en2 : n2 = ys.length) (hr : n = n2) (hp : decide (xs <+: ys) = true) (hq : decide (ys <+: xs) = true) (he : decide (xs = ys) = true) (he2 : decide (ys = xs) = true) : Calls Tryz.prog 4 #[.agg #[.slice p n c, .int .i64 s1, .int .i64 s2], .agg #[.slice p2 n2 c2, .int .i64 s4, .int .i64 s5]] W (Yes W) := by
  by_cases H0 : 5000 < (n : Int)
  · exact w_aeq1_0 hL hx hy en en2 hr hp hq he he2 H0
  · by_cases H1 : 5000 < (n2 : Int)
    · exact w_aeq1_1 hL hx hy en en2 hr hp hq he he2 H0 H1
    · by_cases H2 : s1 = s4
      · by_cases H3 : s2 = s5
        · exact w_aeq1_2 hL hx hy en en2 hr hp hq he he2 H0 H1 H2 H3
        · by_cases H4 : s1 = 4
          · by_cases H5 : s4 = 4
            · exact w_aeq1_3 hL hx hy en en2 hr hp hq he he2 H0 H1 H2 H3 H4 H5
            · exact w_aeq1_4 hL hx hy en en2 hr hp hq he he2 H0 H1 H2 H3 H4 H5
          · by_cases H5 : s4 = 4
            · exact w_aeq1_5 hL hx hy en en2 hr hp hq he he2 H0 H1 H2 H3 H4 H5
            · exact w_aeq1_6 hL hx hy en en2 hr hp hq he he2 H0 H1 H2 H3 H4 H5
      · by_cases H3 : s1 = 4
        · by_cases H4 : s4 = 4
          · exact w_aeq1_7 hL hx hy en en2 hr hp hq he he2 H0 H1 H2 H3 H4
          · exact w_aeq1_8 hL hx hy en en2 hr hp hq he he2 H0 H1 H2 H3 H4
        · by_cases H4 : s4 = 4
          · exact w_aeq1_9 hL hx hy en en2 hr hp hq he he2 H0 H1 H2 H3 H4
          · exact w_aeq1_10 hL hx hy en en2 hr hp hq he he2 H0 H1 H2 H3 H4
theorem j_aeq0 {p p2 : Option Addr} {n c n2 c2 : Nat} {s1 s2 s4 s5 : Int} {xs ys : List Int} {W : World} (hL : Laid W) (hx : Ints W (.slice p n c) xs) (hy : Ints W (.slice p2 n2 c2) ys) (en : n = xs.length) (en2 : n2 = ys.length) (hr : n = n2) (hp : decide (xs <+: ys) = false) (hq : decide (ys <+: xs) = false) (he : decide (xs = ys) = false) (he2 : decide (ys = xs) = false) : Calls Tryz.prog 4 #[.agg #[.slice p n c, .int .i64 s1, .int .i64 s2], .agg #[.slice p2 n2 c2, .int .i64 s4, .int .i64 s5]] W (Yes W) := by
  by_cases H0 : 5000 < (n : Int)
  · exact w_aeq0_0 hL hx hy en en2 hr hp hq he he2 H0
  · by_cases H1 : 5000 < (n2 : Int)
    · exact w_aeq0_1 hL hx hy en en2 hr hp hq he he2 H0 H1
    · by_cases H2 : s1 = s4
      · by_cases H3 : s2 = s5
        · by_cases H4 : s1 = 4
          · by_cases H5 : s4 = 4
            · exact w_aeq0_2 hL hx hy en en2 hr hp hq he he2 H0 H1 H2 H3 H4 H5
            · exact w_aeq0_3 hL hx hy en en2 hr hp hq he he2 H0 H1 H2 H3 H4 H5
          · by_cases H5 : s4 = 4
            · exact w_aeq0_4 hL hx hy en en2 hr hp hq he he2 H0 H1 H2 H3 H4 H5
            · exact w_aeq0_5 hL hx hy en en2 hr hp hq he he2 H0 H1 H2 H3 H4 H5
        · by_cases H4 : s1 = 4
          · by_cases H5 : s4 = 4
            · exact w_aeq0_6 hL hx hy en en2 hr hp hq he he2 H0 H1 H2 H3 H4 H5
            · exact w_aeq0_7 hL hx hy en en2 hr hp hq he he2 H0 H1 H2 H3 H4 H5
          · by_cases H5 : s4 = 4
            · exact w_aeq0_8 hL hx hy en en2 hr hp hq he he2 H0 H1 H2 H3 H4 H5
            · exact w_aeq0_9 hL hx hy en en2 hr hp hq he he2 H0 H1 H2 H3 H4 H5
      · by_cases H3 : s1 = 4
        · by_cases H4 : s4 = 4
          · exfalso; omega
          · exact w_aeq0_10 hL hx hy en en2 hr hp hq he he2 H0 H1 H2 H3 H4
        · by_cases H4 : s4 = 4
          · exact w_aeq0_11 hL hx hy en en2 hr hp hq he he2 H0 H1 H2 H3 H4
          · exact w_aeq0_12 hL hx hy en en2 hr hp hq he he2 H0 H1 H2 H3 H4
theorem j_agt1 {p p2 : Option Addr} {n c n2 c2 : Nat} {s1 s2 s4 s5 : Int} {xs ys : List Int} {W : World} (hL : Laid W) (hx : Ints W (.slice p n c) xs) (hy : Ints W (.slice p2 n2 c2) ys) (en : n = xs.length) (en2 : n2 = ys.length) (hr : n2 < n) (hp : decide (xs <+: ys) = false) (hq : decide (ys <+: xs) = true) (he : decide (xs = ys) = false) (he2 : decide (ys = xs) = false) : Calls Tryz.prog 4 #[.agg #[.slice p n c, .int .i64 s1, .int .i64 s2], .agg #[.slice p2 n2 c2, .int .i64 s4, .int .i64 s5]] W (Yes W) := by
  by_cases H0 : 5000 < (n : Int)
  · exact w_agt1_0 hL hx hy en en2 hr hp hq he he2 H0
  · by_cases H1 : 5000 < (n2 : Int)
    · exact w_agt1_1 hL hx hy en en2 hr hp hq he he2 H0 H1
    · by_cases H2 : s1 = s4
      · by_cases H3 : s2 = s5
        · by_cases H4 : s1 = 4
          · by_cases H5 : s4 = 4
            · exact w_agt1_2 hL hx hy en en2 hr hp hq he he2 H0 H1 H2 H3 H4 H5
            · exact w_agt1_3 hL hx hy en en2 hr hp hq he he2 H0 H1 H2 H3 H4 H5
          · by_cases H5 : s4 = 4
            · exact w_agt1_4 hL hx hy en en2 hr hp hq he he2 H0 H1 H2 H3 H4 H5
            · exact w_agt1_5 hL hx hy en en2 hr hp hq he he2 H0 H1 H2 H3 H4 H5
        · by_cases H4 : s1 = 4
          · by_cases H5 : s4 = 4
            · exact w_agt1_6 hL hx hy en en2 hr hp hq he he2 H0 H1 H2 H3 H4 H5
            · exact w_agt1_7 hL hx hy en en2 hr hp hq he he2 H0 H1 H2 H3 H4 H5
          · by_cases H5 : s4 = 4
            · exact w_agt1_8 hL hx hy en en2 hr hp hq he he2 H0 H1 H2 H3 H4 H5
            · exact w_agt1_9 hL hx hy en en2 hr hp hq he he2 H0 H1 H2 H3 H4 H5
      · by_cases H3 : s1 = 4
        · by_cases H4 : s4 = 4
          · exfalso; omega
          · exact w_agt1_10 hL hx hy en en2 hr hp hq he he2 H0 H1 H2 H3 H4
        · by_cases H4 : s4 = 4
          · exact w_agt1_11 hL hx hy en en2 hr hp hq he he2 H0 H1 H2 H3 H4
          · exact w_agt1_12 hL hx hy en en2 hr hp hq he he2 H0 H1 H2 H3 H4
theorem j_agt0 {p p2 : Option Addr} {n c n2 c2 : Nat} {s1 s2 s4 s5 : Int} {xs ys : List Int} {W : World} (hL : Laid W) (hx : Ints W (.slice p n c) xs) (hy : Ints W (.slice p2 n2 c2) ys) (en : n = xs.length) (en2 : n2 = ys.length) (hr : n2 < n) (hp : decide (xs <+: ys) = false) (hq : decide (ys <+: xs) = false) (he : decide (xs = ys) = false) (he2 : decide (ys = xs) = false) : Calls Tryz.prog 4 #[.agg #[.slice p n c, .int .i64 s1, .int .i64 s2], .agg #[.slice p2 n2 c2, .int .i64 s4, .int .i64 s5]] W (Yes W) := by
  by_cases H0 : 5000 < (n : Int)
  · exact w_agt0_0 hL hx hy en en2 hr hp hq he he2 H0
  · by_cases H1 : 5000 < (n2 : Int)
    · exact w_agt0_1 hL hx hy en en2 hr hp hq he he2 H0 H1
    · by_cases H2 : s1 = s4
      · by_cases H3 : s2 = s5
        · by_cases H4 : s1 = 4
          · by_cases H5 : s4 = 4
            · exact w_agt0_2 hL hx hy en en2 hr hp hq he he2 H0 H1 H2 H3 H4 H5
            · exact w_agt0_3 hL hx hy en en2 hr hp hq he he2 H0 H1 H2 H3 H4 H5
          · by_cases H5 : s4 = 4
            · exact w_agt0_4 hL hx hy en en2 hr hp hq he he2 H0 H1 H2 H3 H4 H5
            · exact w_agt0_5 hL hx hy en en2 hr hp hq he he2 H0 H1 H2 H3 H4 H5
        · by_cases H4 : s1 = 4
          · by_cases H5 : s4 = 4
            · exact w_agt0_6 hL hx hy en en2 hr hp hq he he2 H0 H1 H2 H3 H4 H5
            · exact w_agt0_7 hL hx hy en en2 hr hp hq he he2 H0 H1 H2 H3 H4 H5
          · by_cases H5 : s4 = 4
            · exact w_agt0_8 hL hx hy en en2 hr hp hq he he2 H0 H1 H2 H3 H4 H5
            · exact w_agt0_9 hL hx hy en en2 hr hp hq he he2 H0 H1 H2 H3 H4 H5
      · by_cases H3 : s1 = 4
        · by_cases H4 : s4 = 4
          · exfalso; omega
          · exact w_agt0_10 hL hx hy en en2 hr hp hq he he2 H0 H1 H2 H3 H4
        · by_cases H4 : s4 = 4
          · exact w_agt0_11 hL hx hy en en2 hr hp hq he he2 H0 H1 H2 H3 H4
          · exact w_agt0_12 hL hx hy en en2 hr hp hq he he2 H0 H1 H2 H3 H4
end Go.Proofs.YtcfneeeieofkeaaGreatDoor
end
section
set_option linter.unusedVariables false
namespace Go.Proofs.YtcfneeeieofkeaaGreatDoor
open Go Go.Ev Go.RowKit
theorem ints_shape {W : World} {x : Value} {xs : List Int} (h : Ints W x xs) : ∃ p c, x = .slice p xs.length c := by
  obtain ⟨_, ⟨rfl, rfl⟩ | ⟨B, c, rfl, _⟩⟩ := h
  · exact ⟨none, 0, rfl⟩
  · exact ⟨_, _, rfl⟩
theorem no_pre {xs ys : List Int} (h : ys.length < xs.length) : decide (xs <+: ys) = false := by
  rw [decide_eq_false_iff_not]; intro hp; have := hp.length_le; omega
theorem no_eq {xs ys : List Int} (h : ¬ xs.length = ys.length) : decide (xs = ys) = false := by
  rw [decide_eq_false_iff_not]; intro hp; exact h (by rw [hp])
theorem agrees_ok {W : World} (hL : Laid W) {x y : Value} {xs ys : List Int} (hx : Ints W x xs) (hy : Ints W y ys) (s1 s2 s4 s5 : Int) :
    Calls Tryz.prog 4 #[.agg #[x, .int .i64 s1, .int .i64 s2], .agg #[y, .int .i64 s4, .int .i64 s5]] W (Yes W) := by
  obtain ⟨p, c, rfl⟩ := ints_shape hx
  obtain ⟨p2, c2, rfl⟩ := ints_shape hy
  rcases Nat.lt_trichotomy xs.length ys.length with h | h | h
  · have hq := no_pre h
    have he := no_eq (xs := xs) (ys := ys) (by omega)
    have he2 := no_eq (xs := ys) (ys := xs) (by omega)
    cases hp : decide (xs <+: ys)
    · exact j_alt0 hL hx hy rfl rfl h hp hq he he2
    · exact j_alt1 hL hx hy rfl rfl h hp hq he he2
  · by_cases e : xs = ys
    · have e2 := e.symm
      exact j_aeq1 hL hx hy rfl rfl h (decide_eq_true (by rw [e]; exact List.prefix_refl _)) (decide_eq_true (by rw [e]; exact List.prefix_refl _)) (decide_eq_true e) (decide_eq_true e2)
    · exact j_aeq0 hL hx hy rfl rfl h (decide_eq_false (fun hp => e (hp.eq_of_length h))) (decide_eq_false (fun hp => e (hp.eq_of_length h.symm).symm)) (decide_eq_false e) (decide_eq_false (fun h => e h.symm))
  · have hp := no_pre h
    have he := no_eq (xs := xs) (ys := ys) (by omega)
    have he2 := no_eq (xs := ys) (ys := xs) (by omega)
    cases hq : decide (ys <+: xs)
    · exact j_agt0 hL hx hy rfl rfl h hp hq he he2
    · exact j_agt1 hL hx hy rfl rfl h hp hq he he2
end Go.Proofs.YtcfneeeieofkeaaGreatDoor
end
