/- A part of the proof of TacG. -/
import Derived.Test.YtbkojaiecgdodaaDoorTvA
section
set_option linter.unusedVariables false
set_option maxRecDepth 100000
namespace Go.Proofs.YtbkojaiecgdodaaDoor
open Go Go.Ev Go.RowKit
theorem j_v1 {s0 s1 s2 s3 s4 : Int} {W : World} (hL : Laid W) (l3 : -9223372036854775808 ≤ s3) (u3 : s3 ≤ 9223372036854775807) : Calls Tryd.prog 9 #[.agg #[.int .i64 1, .int .i64 s0, .int .i64 s1, .int .i64 s2, .int .i64 s3]] W (Bo W (decide ((0 ≤ s0 ∧ s0 ≤ 9) ∧ (0 ≤ s1 ∧ s1 ≤ 9) ∧ s2 = 0 ∧ s3 = 0))) := by
  by_cases H0 : 0 ≤ s0
  · by_cases H1 : s0 ≤ 9
    · by_cases H2 : 0 ≤ s1
      · by_cases H3 : s1 ≤ 9
        · by_cases H4 : 0 ≤ s2
          · by_cases H5 : s2 ≤ 0
            · by_cases H6 : 0 ≤ s3
              · by_cases H7 : s3 ≤ 0
                · exact bo_t (run5 (s4 := s4) hL (all_cons (a8 (z 0) (o 0) H0) (all_cons (a8 (o 0) (z 9) H1) (all_cons (a8 (z 0) (o 1) H2) (all_cons (a8 (o 1) (z 9) H3) (all_cons (a8 (z 0) (o 2) H4) (all_cons (a8 (o 2) (z 0) H5) (all_cons (a8 (z 0) (o 3) H6) (all_cons (a8 (o 3) (z 0) H7) all_nil)))))))) known_nil (a := ag (z 1)) (b := true) (by kernel_rfl)) (by omega)
                · exact bo_f (run5 (s4 := s4) hL (all_cons (a8 (z 0) (o 0) H0) (all_cons (a8 (o 0) (z 9) H1) (all_cons (a8 (z 0) (o 1) H2) (all_cons (a8 (o 1) (z 9) H3) (all_cons (a8 (z 0) (o 2) H4) (all_cons (a8 (o 2) (z 0) H5) (all_cons (a8 (z 0) (o 3) H6) (all_cons (b8 (o 3) (z 0) H7) all_nil)))))))) known_nil (a := ag (z 1)) (b := false) (by kernel_rfl)) (by omega)
              · exact bo_f (run5 (s4 := s4) hL (all_cons (a8 (z 0) (o 0) H0) (all_cons (a8 (o 0) (z 9) H1) (all_cons (a8 (z 0) (o 1) H2) (all_cons (a8 (o 1) (z 9) H3) (all_cons (a8 (z 0) (o 2) H4) (all_cons (a8 (o 2) (z 0) H5) (all_cons (b8 (z 0) (o 3) H6) all_nil))))))) known_nil (a := ag (z 1)) (b := false) (by kernel_rfl)) (by omega)
            · exact bo_f (run5 (s4 := s4) hL (all_cons (a8 (z 0) (o 0) H0) (all_cons (a8 (o 0) (z 9) H1) (all_cons (a8 (z 0) (o 1) H2) (all_cons (a8 (o 1) (z 9) H3) (all_cons (a8 (z 0) (o 2) H4) (all_cons (b8 (o 2) (z 0) H5) all_nil)))))) known_nil (a := ag (z 1)) (b := false) (by kernel_rfl)) (by omega)
          · exact bo_f (run5 (s4 := s4) hL (all_cons (a8 (z 0) (o 0) H0) (all_cons (a8 (o 0) (z 9) H1) (all_cons (a8 (z 0) (o 1) H2) (all_cons (a8 (o 1) (z 9) H3) (all_cons (b8 (z 0) (o 2) H4) all_nil))))) known_nil (a := ag (z 1)) (b := false) (by kernel_rfl)) (by omega)
        · exact bo_f (run5 (s4 := s4) hL (all_cons (a8 (z 0) (o 0) H0) (all_cons (a8 (o 0) (z 9) H1) (all_cons (a8 (z 0) (o 1) H2) (all_cons (b8 (o 1) (z 9) H3) all_nil)))) known_nil (a := ag (z 1)) (b := false) (by kernel_rfl)) (by omega)
      · exact bo_f (run5 (s4 := s4) hL (all_cons (a8 (z 0) (o 0) H0) (all_cons (a8 (o 0) (z 9) H1) (all_cons (b8 (z 0) (o 1) H2) all_nil))) known_nil (a := ag (z 1)) (b := false) (by kernel_rfl)) (by omega)
    · exact bo_f (run5 (s4 := s4) hL (all_cons (a8 (z 0) (o 0) H0) (all_cons (b8 (o 0) (z 9) H1) all_nil)) known_nil (a := ag (z 1)) (b := false) (by kernel_rfl)) (by omega)
  · exact bo_f (run5 (s4 := s4) hL (all_cons (b8 (z 0) (o 0) H0) all_nil) known_nil (a := ag (z 1)) (b := false) (by kernel_rfl)) (by omega)
theorem j_v5 {s0 s1 s2 s3 s4 : Int} {W : World} (hL : Laid W) (l3 : -9223372036854775808 ≤ s3) (u3 : s3 ≤ 9223372036854775807) : Calls Tryd.prog 9 #[.agg #[.int .i64 5, .int .i64 s0, .int .i64 s1, .int .i64 s2, .int .i64 s3]] W (Bo W (decide (s0 = 0 ∧ (0 ≤ s1 ∧ s1 ≤ 9) ∧ (0 ≤ s2 ∧ s2 ≤ 9) ∧ (-2147483648 ≤ s3 ∧ s3 ≤ 2147483647)))) := by
  by_cases H0 : 0 ≤ s0
  · by_cases H1 : s0 ≤ 0
    · by_cases H2 : 0 ≤ s1
      · by_cases H3 : s1 ≤ 9
        · by_cases H4 : 0 ≤ s2
          · by_cases H5 : s2 ≤ 9
            · by_cases H6 : -2147483648 ≤ s3
              · by_cases H7 : s3 ≤ 2147483647
                · exact bo_t (run5 (s4 := s4) hL (all_cons (a8 (z 0) (o 0) H0) (all_cons (a8 (o 0) (z 0) H1) (all_cons (a8 (z 0) (o 1) H2) (all_cons (a8 (o 1) (z 9) H3) (all_cons (a8 (z 0) (o 2) H4) (all_cons (a8 (o 2) (z 9) H5) (all_cons (a8 (z (-2147483648)) (o 3) H6) (all_cons (a8 (o 3) (z 2147483647) H7) all_nil)))))))) known_nil (a := ag (z 5)) (b := true) (by kernel_rfl)) (by omega)
                · exact bo_f (run5 (s4 := s4) hL (all_cons (a8 (z 0) (o 0) H0) (all_cons (a8 (o 0) (z 0) H1) (all_cons (a8 (z 0) (o 1) H2) (all_cons (a8 (o 1) (z 9) H3) (all_cons (a8 (z 0) (o 2) H4) (all_cons (a8 (o 2) (z 9) H5) (all_cons (a8 (z (-2147483648)) (o 3) H6) (all_cons (b8 (o 3) (z 2147483647) H7) all_nil)))))))) known_nil (a := ag (z 5)) (b := false) (by kernel_rfl)) (by omega)
              · exact bo_f (run5 (s4 := s4) hL (all_cons (a8 (z 0) (o 0) H0) (all_cons (a8 (o 0) (z 0) H1) (all_cons (a8 (z 0) (o 1) H2) (all_cons (a8 (o 1) (z 9) H3) (all_cons (a8 (z 0) (o 2) H4) (all_cons (a8 (o 2) (z 9) H5) (all_cons (b8 (z (-2147483648)) (o 3) H6) all_nil))))))) known_nil (a := ag (z 5)) (b := false) (by kernel_rfl)) (by omega)
            · exact bo_f (run5 (s4 := s4) hL (all_cons (a8 (z 0) (o 0) H0) (all_cons (a8 (o 0) (z 0) H1) (all_cons (a8 (z 0) (o 1) H2) (all_cons (a8 (o 1) (z 9) H3) (all_cons (a8 (z 0) (o 2) H4) (all_cons (b8 (o 2) (z 9) H5) all_nil)))))) known_nil (a := ag (z 5)) (b := false) (by kernel_rfl)) (by omega)
          · exact bo_f (run5 (s4 := s4) hL (all_cons (a8 (z 0) (o 0) H0) (all_cons (a8 (o 0) (z 0) H1) (all_cons (a8 (z 0) (o 1) H2) (all_cons (a8 (o 1) (z 9) H3) (all_cons (b8 (z 0) (o 2) H4) all_nil))))) known_nil (a := ag (z 5)) (b := false) (by kernel_rfl)) (by omega)
        · exact bo_f (run5 (s4 := s4) hL (all_cons (a8 (z 0) (o 0) H0) (all_cons (a8 (o 0) (z 0) H1) (all_cons (a8 (z 0) (o 1) H2) (all_cons (b8 (o 1) (z 9) H3) all_nil)))) known_nil (a := ag (z 5)) (b := false) (by kernel_rfl)) (by omega)
      · exact bo_f (run5 (s4 := s4) hL (all_cons (a8 (z 0) (o 0) H0) (all_cons (a8 (o 0) (z 0) H1) (all_cons (b8 (z 0) (o 1) H2) all_nil))) known_nil (a := ag (z 5)) (b := false) (by kernel_rfl)) (by omega)
    · exact bo_f (run5 (s4 := s4) hL (all_cons (a8 (z 0) (o 0) H0) (all_cons (b8 (o 0) (z 0) H1) all_nil)) known_nil (a := ag (z 5)) (b := false) (by kernel_rfl)) (by omega)
  · exact bo_f (run5 (s4 := s4) hL (all_cons (b8 (z 0) (o 0) H0) all_nil) known_nil (a := ag (z 5)) (b := false) (by kernel_rfl)) (by omega)
theorem j_v9 {s0 s1 s2 s3 s4 : Int} {W : World} (hL : Laid W) (l3 : -9223372036854775808 ≤ s3) (u3 : s3 ≤ 9223372036854775807) : Calls Tryd.prog 9 #[.agg #[.int .i64 9, .int .i64 s0, .int .i64 s1, .int .i64 s2, .int .i64 s3]] W (Bo W (decide (s0 = 0 ∧ (0 ≤ s1 ∧ s1 ≤ 9) ∧ s2 = 0 ∧ (-2147483648 ≤ s3 ∧ s3 ≤ 2147483647)))) := by
  by_cases H0 : 0 ≤ s0
  · by_cases H1 : s0 ≤ 0
    · by_cases H2 : 0 ≤ s1
      · by_cases H3 : s1 ≤ 9
        · by_cases H4 : 0 ≤ s2
          · by_cases H5 : s2 ≤ 0
            · by_cases H6 : -2147483648 ≤ s3
              · by_cases H7 : s3 ≤ 2147483647
                · exact bo_t (run5 (s4 := s4) hL (all_cons (a8 (z 0) (o 0) H0) (all_cons (a8 (o 0) (z 0) H1) (all_cons (a8 (z 0) (o 1) H2) (all_cons (a8 (o 1) (z 9) H3) (all_cons (a8 (z 0) (o 2) H4) (all_cons (a8 (o 2) (z 0) H5) (all_cons (a8 (z (-2147483648)) (o 3) H6) (all_cons (a8 (o 3) (z 2147483647) H7) all_nil)))))))) known_nil (a := ag (z 9)) (b := true) (by kernel_rfl)) (by omega)
                · exact bo_f (run5 (s4 := s4) hL (all_cons (a8 (z 0) (o 0) H0) (all_cons (a8 (o 0) (z 0) H1) (all_cons (a8 (z 0) (o 1) H2) (all_cons (a8 (o 1) (z 9) H3) (all_cons (a8 (z 0) (o 2) H4) (all_cons (a8 (o 2) (z 0) H5) (all_cons (a8 (z (-2147483648)) (o 3) H6) (all_cons (b8 (o 3) (z 2147483647) H7) all_nil)))))))) known_nil (a := ag (z 9)) (b := false) (by kernel_rfl)) (by omega)
              · exact bo_f (run5 (s4 := s4) hL (all_cons (a8 (z 0) (o 0) H0) (all_cons (a8 (o 0) (z 0) H1) (all_cons (a8 (z 0) (o 1) H2) (all_cons (a8 (o 1) (z 9) H3) (all_cons (a8 (z 0) (o 2) H4) (all_cons (a8 (o 2) (z 0) H5) (all_cons (b8 (z (-2147483648)) (o 3) H6) all_nil))))))) known_nil (a := ag (z 9)) (b := false) (by kernel_rfl)) (by omega)
            · exact bo_f (run5 (s4 := s4) hL (all_cons (a8 (z 0) (o 0) H0) (all_cons (a8 (o 0) (z 0) H1) (all_cons (a8 (z 0) (o 1) H2) (all_cons (a8 (o 1) (z 9) H3) (all_cons (a8 (z 0) (o 2) H4) (all_cons (b8 (o 2) (z 0) H5) all_nil)))))) known_nil (a := ag (z 9)) (b := false) (by kernel_rfl)) (by omega)
          · exact bo_f (run5 (s4 := s4) hL (all_cons (a8 (z 0) (o 0) H0) (all_cons (a8 (o 0) (z 0) H1) (all_cons (a8 (z 0) (o 1) H2) (all_cons (a8 (o 1) (z 9) H3) (all_cons (b8 (z 0) (o 2) H4) all_nil))))) known_nil (a := ag (z 9)) (b := false) (by kernel_rfl)) (by omega)
        · exact bo_f (run5 (s4 := s4) hL (all_cons (a8 (z 0) (o 0) H0) (all_cons (a8 (o 0) (z 0) H1) (all_cons (a8 (z 0) (o 1) H2) (all_cons (b8 (o 1) (z 9) H3) all_nil)))) known_nil (a := ag (z 9)) (b := false) (by kernel_rfl)) (by omega)
      · exact bo_f (run5 (s4 := s4) hL (all_cons (a8 (z 0) (o 0) H0) (all_cons (a8 (o 0) (z 0) H1) (all_cons (b8 (z 0) (o 1) H2) all_nil))) known_nil (a := ag (z 9)) (b := false) (by kernel_rfl)) (by omega)
    · exact bo_f (run5 (s4 := s4) hL (all_cons (a8 (z 0) (o 0) H0) (all_cons (b8 (o 0) (z 0) H1) all_nil)) known_nil (a := ag (z 9)) (b := false) (by kernel_rfl)) (by omega)
  · exact bo_f (run5 (s4 := s4) hL (all_cons (b8 (z 0) (o 0) H0) all_nil) known_nil (a := ag (z 9)) (b := false) (by kernel_rfl)) (by omega)
theorem j_v13 {s0 s1 s2 s3 s4 : Int} {W : World} (hL : Laid W) (l3 : -9223372036854775808 ≤ s3) (u3 : s3 ≤ 9223372036854775807) : Calls Tryd.prog 9 #[.agg #[.int .i64 13, .int .i64 s0, .int .i64 s1, .int .i64 s2, .int .i64 s3]] W (Bo W (decide (s0 = 0 ∧ s1 = 0 ∧ s2 = 0 ∧ s3 = 0))) := by
  by_cases H0 : 0 ≤ s0
  · by_cases H1 : s0 ≤ 0
    · by_cases H2 : 0 ≤ s1
      · by_cases H3 : s1 ≤ 0
        · by_cases H4 : 0 ≤ s2
          · by_cases H5 : s2 ≤ 0
            · by_cases H6 : 0 ≤ s3
              · by_cases H7 : s3 ≤ 0
                · exact bo_t (run5 (s4 := s4) hL (all_cons (a8 (z 0) (o 0) H0) (all_cons (a8 (o 0) (z 0) H1) (all_cons (a8 (z 0) (o 1) H2) (all_cons (a8 (o 1) (z 0) H3) (all_cons (a8 (z 0) (o 2) H4) (all_cons (a8 (o 2) (z 0) H5) (all_cons (a8 (z 0) (o 3) H6) (all_cons (a8 (o 3) (z 0) H7) all_nil)))))))) known_nil (a := ag (z 13)) (b := true) (by kernel_rfl)) (by omega)
                · exact bo_f (run5 (s4 := s4) hL (all_cons (a8 (z 0) (o 0) H0) (all_cons (a8 (o 0) (z 0) H1) (all_cons (a8 (z 0) (o 1) H2) (all_cons (a8 (o 1) (z 0) H3) (all_cons (a8 (z 0) (o 2) H4) (all_cons (a8 (o 2) (z 0) H5) (all_cons (a8 (z 0) (o 3) H6) (all_cons (b8 (o 3) (z 0) H7) all_nil)))))))) known_nil (a := ag (z 13)) (b := false) (by kernel_rfl)) (by omega)
              · exact bo_f (run5 (s4 := s4) hL (all_cons (a8 (z 0) (o 0) H0) (all_cons (a8 (o 0) (z 0) H1) (all_cons (a8 (z 0) (o 1) H2) (all_cons (a8 (o 1) (z 0) H3) (all_cons (a8 (z 0) (o 2) H4) (all_cons (a8 (o 2) (z 0) H5) (all_cons (b8 (z 0) (o 3) H6) all_nil))))))) known_nil (a := ag (z 13)) (b := false) (by kernel_rfl)) (by omega)
            · exact bo_f (run5 (s4 := s4) hL (all_cons (a8 (z 0) (o 0) H0) (all_cons (a8 (o 0) (z 0) H1) (all_cons (a8 (z 0) (o 1) H2) (all_cons (a8 (o 1) (z 0) H3) (all_cons (a8 (z 0) (o 2) H4) (all_cons (b8 (o 2) (z 0) H5) all_nil)))))) known_nil (a := ag (z 13)) (b := false) (by kernel_rfl)) (by omega)
          · exact bo_f (run5 (s4 := s4) hL (all_cons (a8 (z 0) (o 0) H0) (all_cons (a8 (o 0) (z 0) H1) (all_cons (a8 (z 0) (o 1) H2) (all_cons (a8 (o 1) (z 0) H3) (all_cons (b8 (z 0) (o 2) H4) all_nil))))) known_nil (a := ag (z 13)) (b := false) (by kernel_rfl)) (by omega)
        · exact bo_f (run5 (s4 := s4) hL (all_cons (a8 (z 0) (o 0) H0) (all_cons (a8 (o 0) (z 0) H1) (all_cons (a8 (z 0) (o 1) H2) (all_cons (b8 (o 1) (z 0) H3) all_nil)))) known_nil (a := ag (z 13)) (b := false) (by kernel_rfl)) (by omega)
      · exact bo_f (run5 (s4 := s4) hL (all_cons (a8 (z 0) (o 0) H0) (all_cons (a8 (o 0) (z 0) H1) (all_cons (b8 (z 0) (o 1) H2) all_nil))) known_nil (a := ag (z 13)) (b := false) (by kernel_rfl)) (by omega)
    · exact bo_f (run5 (s4 := s4) hL (all_cons (a8 (z 0) (o 0) H0) (all_cons (b8 (o 0) (z 0) H1) all_nil)) known_nil (a := ag (z 13)) (b := false) (by kernel_rfl)) (by omega)
  · exact bo_f (run5 (s4 := s4) hL (all_cons (b8 (z 0) (o 0) H0) all_nil) known_nil (a := ag (z 13)) (b := false) (by kernel_rfl)) (by omega)
theorem j_vmid {s0 s1 s2 s3 s4 : Int} {W : World} (hL : Laid W) (l3 : -9223372036854775808 ≤ s3) (u3 : s3 ≤ 9223372036854775807) (l4 : -9223372036854775808 ≤ s4) (u4 : s4 ≤ 9223372036854775807) (hk : 30 ≤ s4 ∧ s4 ≤ 35) : Calls Tryd.prog 9 #[.agg #[.int .i64 s4, .int .i64 s0, .int .i64 s1, .int .i64 s2, .int .i64 s3]] W (Bo W (decide (False))) := by
  exact bo_f (run5 (s4 := s4) hL (all_cons (a10 (o 4) (z 1) (show 1 ≤ s4 by omega)) (all_cons (b8 (o 4) (z 14) (show ¬ s4 ≤ 14 by omega)) (all_cons (m15) (all_cons (a10 (o 6) (z 1) (show 1 ≤ (IntKind.i64.wrap (s4 - 15)) by simp only [IntKind.wrap_i64] at *; omega)) (all_cons (b8 (o 6) (z 14) (show ¬ (IntKind.i64.wrap (s4 - 15)) ≤ 14 by simp only [IntKind.wrap_i64] at *; omega)) (all_cons (m35) (all_cons (b10 (o 7) (z 1) (show ¬ 1 ≤ (IntKind.i64.wrap (s4 - 35)) by simp only [IntKind.wrap_i64] at *; omega)) all_nil))))))) known_nil (a := ag (o 4)) (b := false) (by kernel_rfl)) not_false
theorem j_r1 {s0 s1 s2 s3 s4 : Int} {W : World} (hL : Laid W) (l3 : -9223372036854775808 ≤ s3) (u3 : s3 ≤ 9223372036854775807) : Calls Tryd.prog 10 #[.agg #[.int .i64 1, .int .i64 s0, .int .i64 s1, .int .i64 s2, .int .i64 s3]] W (Bo W (decide ((0 ≤ s0 ∧ s0 ≤ 9) ∧ (0 ≤ s1 ∧ s1 ≤ 9) ∧ s2 = 0 ∧ s3 = 0))) := by
  by_cases H0 : 0 ≤ s0
  · by_cases H1 : s0 < 10
    · by_cases H2 : 0 ≤ s1
      · by_cases H3 : s1 < 10
        · by_cases H4 : s2 = 0
          · by_cases H5 : s3 = 0
            · exact bo_t (run5 (s4 := s4) hL (all_cons (a10 (o 0) (z 0) H0) (all_cons (a7 (o 0) (z 10) H1) (all_cons (a10 (o 1) (z 0) H2) (all_cons (a7 (o 1) (z 10) H3) (all_cons (a5 (o 2) (z 0) H4) (all_cons (a5 (o 3) (z 0) H5) all_nil)))))) known_nil (a := ag (z 1)) (b := true) (by kernel_rfl)) (by omega)
            · exact bo_f (run5 (s4 := s4) hL (all_cons (a10 (o 0) (z 0) H0) (all_cons (a7 (o 0) (z 10) H1) (all_cons (a10 (o 1) (z 0) H2) (all_cons (a7 (o 1) (z 10) H3) (all_cons (a5 (o 2) (z 0) H4) (all_cons (b5 (o 3) (z 0) H5) all_nil)))))) known_nil (a := ag (z 1)) (b := false) (by kernel_rfl)) (by omega)
          · exact bo_f (run5 (s4 := s4) hL (all_cons (a10 (o 0) (z 0) H0) (all_cons (a7 (o 0) (z 10) H1) (all_cons (a10 (o 1) (z 0) H2) (all_cons (a7 (o 1) (z 10) H3) (all_cons (b5 (o 2) (z 0) H4) all_nil))))) known_nil (a := ag (z 1)) (b := false) (by kernel_rfl)) (by omega)
        · exact bo_f (run5 (s4 := s4) hL (all_cons (a10 (o 0) (z 0) H0) (all_cons (a7 (o 0) (z 10) H1) (all_cons (a10 (o 1) (z 0) H2) (all_cons (b7 (o 1) (z 10) H3) all_nil)))) known_nil (a := ag (z 1)) (b := false) (by kernel_rfl)) (by omega)
      · exact bo_f (run5 (s4 := s4) hL (all_cons (a10 (o 0) (z 0) H0) (all_cons (a7 (o 0) (z 10) H1) (all_cons (b10 (o 1) (z 0) H2) all_nil))) known_nil (a := ag (z 1)) (b := false) (by kernel_rfl)) (by omega)
    · exact bo_f (run5 (s4 := s4) hL (all_cons (a10 (o 0) (z 0) H0) (all_cons (b7 (o 0) (z 10) H1) all_nil)) known_nil (a := ag (z 1)) (b := false) (by kernel_rfl)) (by omega)
  · exact bo_f (run5 (s4 := s4) hL (all_cons (b10 (o 0) (z 0) H0) all_nil) known_nil (a := ag (z 1)) (b := false) (by kernel_rfl)) (by omega)
theorem j_r5 {s0 s1 s2 s3 s4 : Int} {W : World} (hL : Laid W) (l3 : -9223372036854775808 ≤ s3) (u3 : s3 ≤ 9223372036854775807) : Calls Tryd.prog 10 #[.agg #[.int .i64 5, .int .i64 s0, .int .i64 s1, .int .i64 s2, .int .i64 s3]] W (Bo W (decide (s0 = 0 ∧ (0 ≤ s1 ∧ s1 ≤ 9) ∧ (0 ≤ s2 ∧ s2 ≤ 9) ∧ (-2147483648 ≤ s3 ∧ s3 ≤ 2147483647)))) := by
  by_cases H0 : s0 = 0
  · by_cases H1 : 0 ≤ s1
    · by_cases H2 : s1 < 10
      · by_cases H3 : 0 ≤ s2
        · by_cases H4 : s2 < 10
          · by_cases H5 : -2147483648 ≤ s3
            · by_cases H6 : s3 < 2147483648
              · exact bo_t (run5 (s4 := s4) hL (all_cons (a5 (o 0) (z 0) H0) (all_cons (a10 (o 1) (z 0) H1) (all_cons (a7 (o 1) (z 10) H2) (all_cons (a10 (o 2) (z 0) H3) (all_cons (a7 (o 2) (z 10) H4) (all_cons (a10 (o 3) (z (-2147483648)) H5) (all_cons (a7 (o 3) (z 2147483648) H6) all_nil))))))) known_nil (a := ag (z 5)) (b := true) (by kernel_rfl)) (by omega)
              · exact bo_f (run5 (s4 := s4) hL (all_cons (a5 (o 0) (z 0) H0) (all_cons (a10 (o 1) (z 0) H1) (all_cons (a7 (o 1) (z 10) H2) (all_cons (a10 (o 2) (z 0) H3) (all_cons (a7 (o 2) (z 10) H4) (all_cons (a10 (o 3) (z (-2147483648)) H5) (all_cons (b7 (o 3) (z 2147483648) H6) all_nil))))))) known_nil (a := ag (z 5)) (b := false) (by kernel_rfl)) (by omega)
            · exact bo_f (run5 (s4 := s4) hL (all_cons (a5 (o 0) (z 0) H0) (all_cons (a10 (o 1) (z 0) H1) (all_cons (a7 (o 1) (z 10) H2) (all_cons (a10 (o 2) (z 0) H3) (all_cons (a7 (o 2) (z 10) H4) (all_cons (b10 (o 3) (z (-2147483648)) H5) all_nil)))))) known_nil (a := ag (z 5)) (b := false) (by kernel_rfl)) (by omega)
          · exact bo_f (run5 (s4 := s4) hL (all_cons (a5 (o 0) (z 0) H0) (all_cons (a10 (o 1) (z 0) H1) (all_cons (a7 (o 1) (z 10) H2) (all_cons (a10 (o 2) (z 0) H3) (all_cons (b7 (o 2) (z 10) H4) all_nil))))) known_nil (a := ag (z 5)) (b := false) (by kernel_rfl)) (by omega)
        · exact bo_f (run5 (s4 := s4) hL (all_cons (a5 (o 0) (z 0) H0) (all_cons (a10 (o 1) (z 0) H1) (all_cons (a7 (o 1) (z 10) H2) (all_cons (b10 (o 2) (z 0) H3) all_nil)))) known_nil (a := ag (z 5)) (b := false) (by kernel_rfl)) (by omega)
      · exact bo_f (run5 (s4 := s4) hL (all_cons (a5 (o 0) (z 0) H0) (all_cons (a10 (o 1) (z 0) H1) (all_cons (b7 (o 1) (z 10) H2) all_nil))) known_nil (a := ag (z 5)) (b := false) (by kernel_rfl)) (by omega)
    · exact bo_f (run5 (s4 := s4) hL (all_cons (a5 (o 0) (z 0) H0) (all_cons (b10 (o 1) (z 0) H1) all_nil)) known_nil (a := ag (z 5)) (b := false) (by kernel_rfl)) (by omega)
  · exact bo_f (run5 (s4 := s4) hL (all_cons (b5 (o 0) (z 0) H0) all_nil) known_nil (a := ag (z 5)) (b := false) (by kernel_rfl)) (by omega)
theorem j_r9 {s0 s1 s2 s3 s4 : Int} {W : World} (hL : Laid W) (l3 : -9223372036854775808 ≤ s3) (u3 : s3 ≤ 9223372036854775807) : Calls Tryd.prog 10 #[.agg #[.int .i64 9, .int .i64 s0, .int .i64 s1, .int .i64 s2, .int .i64 s3]] W (Bo W (decide (s0 = 0 ∧ (0 ≤ s1 ∧ s1 ≤ 9) ∧ s2 = 0 ∧ (-2147483648 ≤ s3 ∧ s3 ≤ 2147483647)))) := by
  by_cases H0 : s0 = 0
  · by_cases H1 : 0 ≤ s1
    · by_cases H2 : s1 < 10
      · by_cases H3 : s2 = 0
        · by_cases H4 : -2147483648 ≤ s3
          · by_cases H5 : s3 < 2147483648
            · exact bo_t (run5 (s4 := s4) hL (all_cons (a5 (o 0) (z 0) H0) (all_cons (a10 (o 1) (z 0) H1) (all_cons (a7 (o 1) (z 10) H2) (all_cons (a5 (o 2) (z 0) H3) (all_cons (a10 (o 3) (z (-2147483648)) H4) (all_cons (a7 (o 3) (z 2147483648) H5) all_nil)))))) known_nil (a := ag (z 9)) (b := true) (by kernel_rfl)) (by omega)
            · exact bo_f (run5 (s4 := s4) hL (all_cons (a5 (o 0) (z 0) H0) (all_cons (a10 (o 1) (z 0) H1) (all_cons (a7 (o 1) (z 10) H2) (all_cons (a5 (o 2) (z 0) H3) (all_cons (a10 (o 3) (z (-2147483648)) H4) (all_cons (b7 (o 3) (z 2147483648) H5) all_nil)))))) known_nil (a := ag (z 9)) (b := false) (by kernel_rfl)) (by omega)
          · exact bo_f (run5 (s4 := s4) hL (all_cons (a5 (o 0) (z 0) H0) (all_cons (a10 (o 1) (z 0) H1) (all_cons (a7 (o 1) (z 10) H2) (all_cons (a5 (o 2) (z 0) H3) (all_cons (b10 (o 3) (z (-2147483648)) H4) all_nil))))) known_nil (a := ag (z 9)) (b := false) (by kernel_rfl)) (by omega)
        · exact bo_f (run5 (s4 := s4) hL (all_cons (a5 (o 0) (z 0) H0) (all_cons (a10 (o 1) (z 0) H1) (all_cons (a7 (o 1) (z 10) H2) (all_cons (b5 (o 2) (z 0) H3) all_nil)))) known_nil (a := ag (z 9)) (b := false) (by kernel_rfl)) (by omega)
      · exact bo_f (run5 (s4 := s4) hL (all_cons (a5 (o 0) (z 0) H0) (all_cons (a10 (o 1) (z 0) H1) (all_cons (b7 (o 1) (z 10) H2) all_nil))) known_nil (a := ag (z 9)) (b := false) (by kernel_rfl)) (by omega)
    · exact bo_f (run5 (s4 := s4) hL (all_cons (a5 (o 0) (z 0) H0) (all_cons (b10 (o 1) (z 0) H1) all_nil)) known_nil (a := ag (z 9)) (b := false) (by kernel_rfl)) (by omega)
  · exact bo_f (run5 (s4 := s4) hL (all_cons (b5 (o 0) (z 0) H0) all_nil) known_nil (a := ag (z 9)) (b := false) (by kernel_rfl)) (by omega)
theorem j_r13 {s0 s1 s2 s3 s4 : Int} {W : World} (hL : Laid W) (l3 : -9223372036854775808 ≤ s3) (u3 : s3 ≤ 9223372036854775807) : Calls Tryd.prog 10 #[.agg #[.int .i64 13, .int .i64 s0, .int .i64 s1, .int .i64 s2, .int .i64 s3]] W (Bo W (decide (s0 = 0 ∧ s1 = 0 ∧ s2 = 0 ∧ s3 = 0))) := by
  by_cases H0 : s0 = 0
  · by_cases H1 : s1 = 0
    · by_cases H2 : s2 = 0
      · by_cases H3 : s3 = 0
        · exact bo_t (run5 (s4 := s4) hL (all_cons (a5 (o 0) (z 0) H0) (all_cons (a5 (o 1) (z 0) H1) (all_cons (a5 (o 2) (z 0) H2) (all_cons (a5 (o 3) (z 0) H3) all_nil)))) known_nil (a := ag (z 13)) (b := true) (by kernel_rfl)) (by omega)
        · exact bo_f (run5 (s4 := s4) hL (all_cons (a5 (o 0) (z 0) H0) (all_cons (a5 (o 1) (z 0) H1) (all_cons (a5 (o 2) (z 0) H2) (all_cons (b5 (o 3) (z 0) H3) all_nil)))) known_nil (a := ag (z 13)) (b := false) (by kernel_rfl)) (by omega)
      · exact bo_f (run5 (s4 := s4) hL (all_cons (a5 (o 0) (z 0) H0) (all_cons (a5 (o 1) (z 0) H1) (all_cons (b5 (o 2) (z 0) H2) all_nil))) known_nil (a := ag (z 13)) (b := false) (by kernel_rfl)) (by omega)
    · exact bo_f (run5 (s4 := s4) hL (all_cons (a5 (o 0) (z 0) H0) (all_cons (b5 (o 1) (z 0) H1) all_nil)) known_nil (a := ag (z 13)) (b := false) (by kernel_rfl)) (by omega)
  · exact bo_f (run5 (s4 := s4) hL (all_cons (b5 (o 0) (z 0) H0) all_nil) known_nil (a := ag (z 13)) (b := false) (by kernel_rfl)) (by omega)
theorem j_r17 {s0 s1 s2 s3 s4 : Int} {W : World} (hL : Laid W) (l3 : -9223372036854775808 ≤ s3) (u3 : s3 ≤ 9223372036854775807) : Calls Tryd.prog 10 #[.agg #[.int .i64 17, .int .i64 s0, .int .i64 s1, .int .i64 s2, .int .i64 s3]] W (Bo W (decide ((0 ≤ s0 ∧ s0 ≤ 9) ∧ (0 ≤ s1 ∧ s1 ≤ 9) ∧ (0 ≤ s2 ∧ s2 ≤ 9) ∧ s3 = 0))) := by
  by_cases H0 : 0 ≤ s0
  · by_cases H1 : s0 < 10
    · by_cases H2 : 0 ≤ s1
      · by_cases H3 : s1 < 10
        · by_cases H4 : 0 ≤ s2
          · by_cases H5 : s2 < 10
            · by_cases H6 : s3 = 0
              · exact bo_t (run5 (s4 := s4) hL (all_cons (a10 (o 0) (z 0) H0) (all_cons (a7 (o 0) (z 10) H1) (all_cons (a10 (o 1) (z 0) H2) (all_cons (a7 (o 1) (z 10) H3) (all_cons (a10 (o 2) (z 0) H4) (all_cons (a7 (o 2) (z 10) H5) (all_cons (a5 (o 3) (z 0) H6) all_nil))))))) known_nil (a := ag (z 17)) (b := true) (by kernel_rfl)) (by omega)
              · exact bo_f (run5 (s4 := s4) hL (all_cons (a10 (o 0) (z 0) H0) (all_cons (a7 (o 0) (z 10) H1) (all_cons (a10 (o 1) (z 0) H2) (all_cons (a7 (o 1) (z 10) H3) (all_cons (a10 (o 2) (z 0) H4) (all_cons (a7 (o 2) (z 10) H5) (all_cons (b5 (o 3) (z 0) H6) all_nil))))))) known_nil (a := ag (z 17)) (b := false) (by kernel_rfl)) (by omega)
            · exact bo_f (run5 (s4 := s4) hL (all_cons (a10 (o 0) (z 0) H0) (all_cons (a7 (o 0) (z 10) H1) (all_cons (a10 (o 1) (z 0) H2) (all_cons (a7 (o 1) (z 10) H3) (all_cons (a10 (o 2) (z 0) H4) (all_cons (b7 (o 2) (z 10) H5) all_nil)))))) known_nil (a := ag (z 17)) (b := false) (by kernel_rfl)) (by omega)
          · exact bo_f (run5 (s4 := s4) hL (all_cons (a10 (o 0) (z 0) H0) (all_cons (a7 (o 0) (z 10) H1) (all_cons (a10 (o 1) (z 0) H2) (all_cons (a7 (o 1) (z 10) H3) (all_cons (b10 (o 2) (z 0) H4) all_nil))))) known_nil (a := ag (z 17)) (b := false) (by kernel_rfl)) (by omega)
        · exact bo_f (run5 (s4 := s4) hL (all_cons (a10 (o 0) (z 0) H0) (all_cons (a7 (o 0) (z 10) H1) (all_cons (a10 (o 1) (z 0) H2) (all_cons (b7 (o 1) (z 10) H3) all_nil)))) known_nil (a := ag (z 17)) (b := false) (by kernel_rfl)) (by omega)
      · exact bo_f (run5 (s4 := s4) hL (all_cons (a10 (o 0) (z 0) H0) (all_cons (a7 (o 0) (z 10) H1) (all_cons (b10 (o 1) (z 0) H2) all_nil))) known_nil (a := ag (z 17)) (b := false) (by kernel_rfl)) (by omega)
    · exact bo_f (run5 (s4 := s4) hL (all_cons (a10 (o 0) (z 0) H0) (all_cons (b7 (o 0) (z 10) H1) all_nil)) known_nil (a := ag (z 17)) (b := false) (by kernel_rfl)) (by omega)
  · exact bo_f (run5 (s4 := s4) hL (all_cons (b10 (o 0) (z 0) H0) all_nil) known_nil (a := ag (z 17)) (b := false) (by kernel_rfl)) (by omega)
theorem j_r21 {s0 s1 s2 s3 s4 : Int} {W : World} (hL : Laid W) (l3 : -9223372036854775808 ≤ s3) (u3 : s3 ≤ 9223372036854775807) : Calls Tryd.prog 10 #[.agg #[.int .i64 21, .int .i64 s0, .int .i64 s1, .int .i64 s2, .int .i64 s3]] W (Bo W (decide ((0 ≤ s0 ∧ s0 ≤ 9) ∧ (0 ≤ s1 ∧ s1 ≤ 9) ∧ (0 ≤ s2 ∧ s2 ≤ 9) ∧ s3 = 0))) := by
  by_cases H0 : 0 ≤ s0
  · by_cases H1 : s0 < 10
    · by_cases H2 : 0 ≤ s1
      · by_cases H3 : s1 < 10
        · by_cases H4 : 0 ≤ s2
          · by_cases H5 : s2 < 10
            · by_cases H6 : s3 = 0
              · exact bo_t (run5 (s4 := s4) hL (all_cons (a10 (o 0) (z 0) H0) (all_cons (a7 (o 0) (z 10) H1) (all_cons (a10 (o 1) (z 0) H2) (all_cons (a7 (o 1) (z 10) H3) (all_cons (a10 (o 2) (z 0) H4) (all_cons (a7 (o 2) (z 10) H5) (all_cons (a5 (o 3) (z 0) H6) all_nil))))))) known_nil (a := ag (z 21)) (b := true) (by kernel_rfl)) (by omega)
              · exact bo_f (run5 (s4 := s4) hL (all_cons (a10 (o 0) (z 0) H0) (all_cons (a7 (o 0) (z 10) H1) (all_cons (a10 (o 1) (z 0) H2) (all_cons (a7 (o 1) (z 10) H3) (all_cons (a10 (o 2) (z 0) H4) (all_cons (a7 (o 2) (z 10) H5) (all_cons (b5 (o 3) (z 0) H6) all_nil))))))) known_nil (a := ag (z 21)) (b := false) (by kernel_rfl)) (by omega)
            · exact bo_f (run5 (s4 := s4) hL (all_cons (a10 (o 0) (z 0) H0) (all_cons (a7 (o 0) (z 10) H1) (all_cons (a10 (o 1) (z 0) H2) (all_cons (a7 (o 1) (z 10) H3) (all_cons (a10 (o 2) (z 0) H4) (all_cons (b7 (o 2) (z 10) H5) all_nil)))))) known_nil (a := ag (z 21)) (b := false) (by kernel_rfl)) (by omega)
          · exact bo_f (run5 (s4 := s4) hL (all_cons (a10 (o 0) (z 0) H0) (all_cons (a7 (o 0) (z 10) H1) (all_cons (a10 (o 1) (z 0) H2) (all_cons (a7 (o 1) (z 10) H3) (all_cons (b10 (o 2) (z 0) H4) all_nil))))) known_nil (a := ag (z 21)) (b := false) (by kernel_rfl)) (by omega)
        · exact bo_f (run5 (s4 := s4) hL (all_cons (a10 (o 0) (z 0) H0) (all_cons (a7 (o 0) (z 10) H1) (all_cons (a10 (o 1) (z 0) H2) (all_cons (b7 (o 1) (z 10) H3) all_nil)))) known_nil (a := ag (z 21)) (b := false) (by kernel_rfl)) (by omega)
      · exact bo_f (run5 (s4 := s4) hL (all_cons (a10 (o 0) (z 0) H0) (all_cons (a7 (o 0) (z 10) H1) (all_cons (b10 (o 1) (z 0) H2) all_nil))) known_nil (a := ag (z 21)) (b := false) (by kernel_rfl)) (by omega)
    · exact bo_f (run5 (s4 := s4) hL (all_cons (a10 (o 0) (z 0) H0) (all_cons (b7 (o 0) (z 10) H1) all_nil)) known_nil (a := ag (z 21)) (b := false) (by kernel_rfl)) (by omega)
  · exact bo_f (run5 (s4 := s4) hL (all_cons (b10 (o 0) (z 0) H0) all_nil) known_nil (a := ag (z 21)) (b := false) (by kernel_rfl)) (by omega)
theorem j_r25 {s0 s1 s2 s3 s4 : Int} {W : World} (hL : Laid W) (l3 : -9223372036854775808 ≤ s3) (u3 : s3 ≤ 9223372036854775807) : Calls Tryd.prog 10 #[.agg #[.int .i64 25, .int .i64 s0, .int .i64 s1, .int .i64 s2, .int .i64 s3]] W (Bo W (decide ((0 ≤ s0 ∧ s0 ≤ 9) ∧ (0 ≤ s1 ∧ s1 ≤ 9) ∧ (0 ≤ s2 ∧ s2 ≤ 9) ∧ s3 = 0))) := by
  by_cases H0 : 0 ≤ s0
  · by_cases H1 : s0 < 10
    · by_cases H2 : 0 ≤ s1
      · by_cases H3 : s1 < 10
        · by_cases H4 : 0 ≤ s2
          · by_cases H5 : s2 < 10
            · by_cases H6 : s3 = 0
              · exact bo_t (run5 (s4 := s4) hL (all_cons (a10 (o 0) (z 0) H0) (all_cons (a7 (o 0) (z 10) H1) (all_cons (a10 (o 1) (z 0) H2) (all_cons (a7 (o 1) (z 10) H3) (all_cons (a10 (o 2) (z 0) H4) (all_cons (a7 (o 2) (z 10) H5) (all_cons (a5 (o 3) (z 0) H6) all_nil))))))) known_nil (a := ag (z 25)) (b := true) (by kernel_rfl)) (by omega)
              · exact bo_f (run5 (s4 := s4) hL (all_cons (a10 (o 0) (z 0) H0) (all_cons (a7 (o 0) (z 10) H1) (all_cons (a10 (o 1) (z 0) H2) (all_cons (a7 (o 1) (z 10) H3) (all_cons (a10 (o 2) (z 0) H4) (all_cons (a7 (o 2) (z 10) H5) (all_cons (b5 (o 3) (z 0) H6) all_nil))))))) known_nil (a := ag (z 25)) (b := false) (by kernel_rfl)) (by omega)
            · exact bo_f (run5 (s4 := s4) hL (all_cons (a10 (o 0) (z 0) H0) (all_cons (a7 (o 0) (z 10) H1) (all_cons (a10 (o 1) (z 0) H2) (all_cons (a7 (o 1) (z 10) H3) (all_cons (a10 (o 2) (z 0) H4) (all_cons (b7 (o 2) (z 10) H5) all_nil)))))) known_nil (a := ag (z 25)) (b := false) (by kernel_rfl)) (by omega)
          · exact bo_f (run5 (s4 := s4) hL (all_cons (a10 (o 0) (z 0) H0) (all_cons (a7 (o 0) (z 10) H1) (all_cons (a10 (o 1) (z 0) H2) (all_cons (a7 (o 1) (z 10) H3) (all_cons (b10 (o 2) (z 0) H4) all_nil))))) known_nil (a := ag (z 25)) (b := false) (by kernel_rfl)) (by omega)
        · exact bo_f (run5 (s4 := s4) hL (all_cons (a10 (o 0) (z 0) H0) (all_cons (a7 (o 0) (z 10) H1) (all_cons (a10 (o 1) (z 0) H2) (all_cons (b7 (o 1) (z 10) H3) all_nil)))) known_nil (a := ag (z 25)) (b := false) (by kernel_rfl)) (by omega)
      · exact bo_f (run5 (s4 := s4) hL (all_cons (a10 (o 0) (z 0) H0) (all_cons (a7 (o 0) (z 10) H1) (all_cons (b10 (o 1) (z 0) H2) all_nil))) known_nil (a := ag (z 25)) (b := false) (by kernel_rfl)) (by omega)
    · exact bo_f (run5 (s4 := s4) hL (all_cons (a10 (o 0) (z 0) H0) (all_cons (b7 (o 0) (z 10) H1) all_nil)) known_nil (a := ag (z 25)) (b := false) (by kernel_rfl)) (by omega)
  · exact bo_f (run5 (s4 := s4) hL (all_cons (b10 (o 0) (z 0) H0) all_nil) known_nil (a := ag (z 25)) (b := false) (by kernel_rfl)) (by omega)
theorem j_r29 {s0 s1 s2 s3 s4 : Int} {W : World} (hL : Laid W) (l3 : -9223372036854775808 ≤ s3) (u3 : s3 ≤ 9223372036854775807) : Calls Tryd.prog 10 #[.agg #[.int .i64 29, .int .i64 s0, .int .i64 s1, .int .i64 s2, .int .i64 s3]] W (Bo W (decide ((0 ≤ s0 ∧ s0 ≤ 9) ∧ (0 ≤ s1 ∧ s1 ≤ 9) ∧ (0 ≤ s2 ∧ s2 ≤ 9) ∧ s3 = 0))) := by
  by_cases H0 : 0 ≤ s0
  · by_cases H1 : s0 < 10
    · by_cases H2 : 0 ≤ s1
      · by_cases H3 : s1 < 10
        · by_cases H4 : 0 ≤ s2
          · by_cases H5 : s2 < 10
            · by_cases H6 : s3 = 0
              · exact bo_t (run5 (s4 := s4) hL (all_cons (a10 (o 0) (z 0) H0) (all_cons (a7 (o 0) (z 10) H1) (all_cons (a10 (o 1) (z 0) H2) (all_cons (a7 (o 1) (z 10) H3) (all_cons (a10 (o 2) (z 0) H4) (all_cons (a7 (o 2) (z 10) H5) (all_cons (a5 (o 3) (z 0) H6) all_nil))))))) known_nil (a := ag (z 29)) (b := true) (by kernel_rfl)) (by omega)
              · exact bo_f (run5 (s4 := s4) hL (all_cons (a10 (o 0) (z 0) H0) (all_cons (a7 (o 0) (z 10) H1) (all_cons (a10 (o 1) (z 0) H2) (all_cons (a7 (o 1) (z 10) H3) (all_cons (a10 (o 2) (z 0) H4) (all_cons (a7 (o 2) (z 10) H5) (all_cons (b5 (o 3) (z 0) H6) all_nil))))))) known_nil (a := ag (z 29)) (b := false) (by kernel_rfl)) (by omega)
            · exact bo_f (run5 (s4 := s4) hL (all_cons (a10 (o 0) (z 0) H0) (all_cons (a7 (o 0) (z 10) H1) (all_cons (a10 (o 1) (z 0) H2) (all_cons (a7 (o 1) (z 10) H3) (all_cons (a10 (o 2) (z 0) H4) (all_cons (b7 (o 2) (z 10) H5) all_nil)))))) known_nil (a := ag (z 29)) (b := false) (by kernel_rfl)) (by omega)
          · exact bo_f (run5 (s4 := s4) hL (all_cons (a10 (o 0) (z 0) H0) (all_cons (a7 (o 0) (z 10) H1) (all_cons (a10 (o 1) (z 0) H2) (all_cons (a7 (o 1) (z 10) H3) (all_cons (b10 (o 2) (z 0) H4) all_nil))))) known_nil (a := ag (z 29)) (b := false) (by kernel_rfl)) (by omega)
        · exact bo_f (run5 (s4 := s4) hL (all_cons (a10 (o 0) (z 0) H0) (all_cons (a7 (o 0) (z 10) H1) (all_cons (a10 (o 1) (z 0) H2) (all_cons (b7 (o 1) (z 10) H3) all_nil)))) known_nil (a := ag (z 29)) (b := false) (by kernel_rfl)) (by omega)
      · exact bo_f (run5 (s4 := s4) hL (all_cons (a10 (o 0) (z 0) H0) (all_cons (a7 (o 0) (z 10) H1) (all_cons (b10 (o 1) (z 0) H2) all_nil))) known_nil (a := ag (z 29)) (b := false) (by kernel_rfl)) (by omega)
    · exact bo_f (run5 (s4 := s4) hL (all_cons (a10 (o 0) (z 0) H0) (all_cons (b7 (o 0) (z 10) H1) all_nil)) known_nil (a := ag (z 29)) (b := false) (by kernel_rfl)) (by omega)
  · exact bo_f (run5 (s4 := s4) hL (all_cons (b10 (o 0) (z 0) H0) all_nil) known_nil (a := ag (z 29)) (b := false) (by kernel_rfl)) (by omega)
theorem j_r39 {s0 s1 s2 s3 s4 : Int} {W : World} (hL : Laid W) (l3 : -9223372036854775808 ≤ s3) (u3 : s3 ≤ 9223372036854775807) : Calls Tryd.prog 10 #[.agg #[.int .i64 39, .int .i64 s0, .int .i64 s1, .int .i64 s2, .int .i64 s3]] W (Bo W (decide ((0 ≤ s0 ∧ s0 ≤ 9) ∧ (0 ≤ s1 ∧ s1 ≤ 9) ∧ s2 = 0 ∧ (-2147483648 ≤ s3 ∧ s3 ≤ 2147483647)))) := by
  by_cases H0 : 0 ≤ s0
  · by_cases H1 : s0 < 10
    · by_cases H2 : 0 ≤ s1
      · by_cases H3 : s1 < 10
        · by_cases H4 : s2 = 0
          · by_cases H5 : -2147483648 ≤ s3
            · by_cases H6 : s3 < 2147483648
              · exact bo_t (run5 (s4 := s4) hL (all_cons (a10 (o 0) (z 0) H0) (all_cons (a7 (o 0) (z 10) H1) (all_cons (a10 (o 1) (z 0) H2) (all_cons (a7 (o 1) (z 10) H3) (all_cons (a5 (o 2) (z 0) H4) (all_cons (a10 (o 3) (z (-2147483648)) H5) (all_cons (a7 (o 3) (z 2147483648) H6) all_nil))))))) known_nil (a := ag (z 39)) (b := true) (by kernel_rfl)) (by omega)
              · exact bo_f (run5 (s4 := s4) hL (all_cons (a10 (o 0) (z 0) H0) (all_cons (a7 (o 0) (z 10) H1) (all_cons (a10 (o 1) (z 0) H2) (all_cons (a7 (o 1) (z 10) H3) (all_cons (a5 (o 2) (z 0) H4) (all_cons (a10 (o 3) (z (-2147483648)) H5) (all_cons (b7 (o 3) (z 2147483648) H6) all_nil))))))) known_nil (a := ag (z 39)) (b := false) (by kernel_rfl)) (by omega)
            · exact bo_f (run5 (s4 := s4) hL (all_cons (a10 (o 0) (z 0) H0) (all_cons (a7 (o 0) (z 10) H1) (all_cons (a10 (o 1) (z 0) H2) (all_cons (a7 (o 1) (z 10) H3) (all_cons (a5 (o 2) (z 0) H4) (all_cons (b10 (o 3) (z (-2147483648)) H5) all_nil)))))) known_nil (a := ag (z 39)) (b := false) (by kernel_rfl)) (by omega)
          · exact bo_f (run5 (s4 := s4) hL (all_cons (a10 (o 0) (z 0) H0) (all_cons (a7 (o 0) (z 10) H1) (all_cons (a10 (o 1) (z 0) H2) (all_cons (a7 (o 1) (z 10) H3) (all_cons (b5 (o 2) (z 0) H4) all_nil))))) known_nil (a := ag (z 39)) (b := false) (by kernel_rfl)) (by omega)
        · exact bo_f (run5 (s4 := s4) hL (all_cons (a10 (o 0) (z 0) H0) (all_cons (a7 (o 0) (z 10) H1) (all_cons (a10 (o 1) (z 0) H2) (all_cons (b7 (o 1) (z 10) H3) all_nil)))) known_nil (a := ag (z 39)) (b := false) (by kernel_rfl)) (by omega)
      · exact bo_f (run5 (s4 := s4) hL (all_cons (a10 (o 0) (z 0) H0) (all_cons (a7 (o 0) (z 10) H1) (all_cons (b10 (o 1) (z 0) H2) all_nil))) known_nil (a := ag (z 39)) (b := false) (by kernel_rfl)) (by omega)
    · exact bo_f (run5 (s4 := s4) hL (all_cons (a10 (o 0) (z 0) H0) (all_cons (b7 (o 0) (z 10) H1) all_nil)) known_nil (a := ag (z 39)) (b := false) (by kernel_rfl)) (by omega)
  · exact bo_f (run5 (s4 := s4) hL (all_cons (b10 (o 0) (z 0) H0) all_nil) known_nil (a := ag (z 39)) (b := false) (by kernel_rfl)) (by omega)
theorem j_r43 {s0 s1 s2 s3 s4 : Int} {W : World} (hL : Laid W) (l3 : -9223372036854775808 ≤ s3) (u3 : s3 ≤ 9223372036854775807) : Calls Tryd.prog 10 #[.agg #[.int .i64 43, .int .i64 s0, .int .i64 s1, .int .i64 s2, .int .i64 s3]] W (Bo W (decide ((0 ≤ s0 ∧ s0 ≤ 9) ∧ (0 ≤ s1 ∧ s1 ≤ 9) ∧ s2 = 0 ∧ (-2147483648 ≤ s3 ∧ s3 ≤ 2147483647)))) := by
  by_cases H0 : 0 ≤ s0
  · by_cases H1 : s0 < 10
    · by_cases H2 : 0 ≤ s1
      · by_cases H3 : s1 < 10
        · by_cases H4 : s2 = 0
          · by_cases H5 : -2147483648 ≤ s3
            · by_cases H6 : s3 < 2147483648
              · exact bo_t (run5 (s4 := s4) hL (all_cons (a10 (o 0) (z 0) H0) (all_cons (a7 (o 0) (z 10) H1) (all_cons (a10 (o 1) (z 0) H2) (all_cons (a7 (o 1) (z 10) H3) (all_cons (a5 (o 2) (z 0) H4) (all_cons (a10 (o 3) (z (-2147483648)) H5) (all_cons (a7 (o 3) (z 2147483648) H6) all_nil))))))) known_nil (a := ag (z 43)) (b := true) (by kernel_rfl)) (by omega)
              · exact bo_f (run5 (s4 := s4) hL (all_cons (a10 (o 0) (z 0) H0) (all_cons (a7 (o 0) (z 10) H1) (all_cons (a10 (o 1) (z 0) H2) (all_cons (a7 (o 1) (z 10) H3) (all_cons (a5 (o 2) (z 0) H4) (all_cons (a10 (o 3) (z (-2147483648)) H5) (all_cons (b7 (o 3) (z 2147483648) H6) all_nil))))))) known_nil (a := ag (z 43)) (b := false) (by kernel_rfl)) (by omega)
            · exact bo_f (run5 (s4 := s4) hL (all_cons (a10 (o 0) (z 0) H0) (all_cons (a7 (o 0) (z 10) H1) (all_cons (a10 (o 1) (z 0) H2) (all_cons (a7 (o 1) (z 10) H3) (all_cons (a5 (o 2) (z 0) H4) (all_cons (b10 (o 3) (z (-2147483648)) H5) all_nil)))))) known_nil (a := ag (z 43)) (b := false) (by kernel_rfl)) (by omega)
          · exact bo_f (run5 (s4 := s4) hL (all_cons (a10 (o 0) (z 0) H0) (all_cons (a7 (o 0) (z 10) H1) (all_cons (a10 (o 1) (z 0) H2) (all_cons (a7 (o 1) (z 10) H3) (all_cons (b5 (o 2) (z 0) H4) all_nil))))) known_nil (a := ag (z 43)) (b := false) (by kernel_rfl)) (by omega)
        · exact bo_f (run5 (s4 := s4) hL (all_cons (a10 (o 0) (z 0) H0) (all_cons (a7 (o 0) (z 10) H1) (all_cons (a10 (o 1) (z 0) H2) (all_cons (b7 (o 1) (z 10) H3) all_nil)))) known_nil (a := ag (z 43)) (b := false) (by kernel_rfl)) (by omega)
      · exact bo_f (run5 (s4 := s4) hL (all_cons (a10 (o 0) (z 0) H0) (all_cons (a7 (o 0) (z 10) H1) (all_cons (b10 (o 1) (z 0) H2) all_nil))) known_nil (a := ag (z 43)) (b := false) (by kernel_rfl)) (by omega)
    · exact bo_f (run5 (s4 := s4) hL (all_cons (a10 (o 0) (z 0) H0) (all_cons (b7 (o 0) (z 10) H1) all_nil)) known_nil (a := ag (z 43)) (b := false) (by kernel_rfl)) (by omega)
  · exact bo_f (run5 (s4 := s4) hL (all_cons (b10 (o 0) (z 0) H0) all_nil) known_nil (a := ag (z 43)) (b := false) (by kernel_rfl)) (by omega)
theorem j_r47 {s0 s1 s2 s3 s4 : Int} {W : World} (hL : Laid W) (l3 : -9223372036854775808 ≤ s3) (u3 : s3 ≤ 9223372036854775807) : Calls Tryd.prog 10 #[.agg #[.int .i64 47, .int .i64 s0, .int .i64 s1, .int .i64 s2, .int .i64 s3]] W (Bo W (decide ((0 ≤ s0 ∧ s0 ≤ 9) ∧ (0 ≤ s1 ∧ s1 ≤ 9) ∧ s2 = 0 ∧ (-2147483648 ≤ s3 ∧ s3 ≤ 2147483647)))) := by
  by_cases H0 : 0 ≤ s0
  · by_cases H1 : s0 < 10
    · by_cases H2 : 0 ≤ s1
      · by_cases H3 : s1 < 10
        · by_cases H4 : s2 = 0
          · by_cases H5 : -2147483648 ≤ s3
            · by_cases H6 : s3 < 2147483648
              · exact bo_t (run5 (s4 := s4) hL (all_cons (a10 (o 0) (z 0) H0) (all_cons (a7 (o 0) (z 10) H1) (all_cons (a10 (o 1) (z 0) H2) (all_cons (a7 (o 1) (z 10) H3) (all_cons (a5 (o 2) (z 0) H4) (all_cons (a10 (o 3) (z (-2147483648)) H5) (all_cons (a7 (o 3) (z 2147483648) H6) all_nil))))))) known_nil (a := ag (z 47)) (b := true) (by kernel_rfl)) (by omega)
              · exact bo_f (run5 (s4 := s4) hL (all_cons (a10 (o 0) (z 0) H0) (all_cons (a7 (o 0) (z 10) H1) (all_cons (a10 (o 1) (z 0) H2) (all_cons (a7 (o 1) (z 10) H3) (all_cons (a5 (o 2) (z 0) H4) (all_cons (a10 (o 3) (z (-2147483648)) H5) (all_cons (b7 (o 3) (z 2147483648) H6) all_nil))))))) known_nil (a := ag (z 47)) (b := false) (by kernel_rfl)) (by omega)
            · exact bo_f (run5 (s4 := s4) hL (all_cons (a10 (o 0) (z 0) H0) (all_cons (a7 (o 0) (z 10) H1) (all_cons (a10 (o 1) (z 0) H2) (all_cons (a7 (o 1) (z 10) H3) (all_cons (a5 (o 2) (z 0) H4) (all_cons (b10 (o 3) (z (-2147483648)) H5) all_nil)))))) known_nil (a := ag (z 47)) (b := false) (by kernel_rfl)) (by omega)
          · exact bo_f (run5 (s4 := s4) hL (all_cons (a10 (o 0) (z 0) H0) (all_cons (a7 (o 0) (z 10) H1) (all_cons (a10 (o 1) (z 0) H2) (all_cons (a7 (o 1) (z 10) H3) (all_cons (b5 (o 2) (z 0) H4) all_nil))))) known_nil (a := ag (z 47)) (b := false) (by kernel_rfl)) (by omega)
        · exact bo_f (run5 (s4 := s4) hL (all_cons (a10 (o 0) (z 0) H0) (all_cons (a7 (o 0) (z 10) H1) (all_cons (a10 (o 1) (z 0) H2) (all_cons (b7 (o 1) (z 10) H3) all_nil)))) known_nil (a := ag (z 47)) (b := false) (by kernel_rfl)) (by omega)
      · exact bo_f (run5 (s4 := s4) hL (all_cons (a10 (o 0) (z 0) H0) (all_cons (a7 (o 0) (z 10) H1) (all_cons (b10 (o 1) (z 0) H2) all_nil))) known_nil (a := ag (z 47)) (b := false) (by kernel_rfl)) (by omega)
    · exact bo_f (run5 (s4 := s4) hL (all_cons (a10 (o 0) (z 0) H0) (all_cons (b7 (o 0) (z 10) H1) all_nil)) known_nil (a := ag (z 47)) (b := false) (by kernel_rfl)) (by omega)
  · exact bo_f (run5 (s4 := s4) hL (all_cons (b10 (o 0) (z 0) H0) all_nil) known_nil (a := ag (z 47)) (b := false) (by kernel_rfl)) (by omega)
theorem j_rmid {s0 s1 s2 s3 s4 : Int} {W : World} (hL : Laid W) (l3 : -9223372036854775808 ≤ s3) (u3 : s3 ≤ 9223372036854775807) (l4 : -9223372036854775808 ≤ s4) (u4 : s4 ≤ 9223372036854775807) (hk : 30 ≤ s4 ∧ s4 ≤ 35) : Calls Tryd.prog 10 #[.agg #[.int .i64 s4, .int .i64 s0, .int .i64 s1, .int .i64 s2, .int .i64 s3]] W (Bo W (decide (False))) := by
  exact bo_f (run5 (s4 := s4) hL (all_cons (a9 (o 4) (z 15) (show 15 < s4 by omega)) (all_cons (b8 (o 4) (z 29) (show ¬ s4 ≤ 29 by omega)) (all_cons (b9 (o 4) (z 35) (show ¬ 35 < s4 by omega)) (all_cons (b5 (z 1) (o 4) (show ¬ 1 = s4 by omega)) (all_cons (b5 (z 2) (o 4) (show ¬ 2 = s4 by omega)) (all_cons (b5 (z 3) (o 4) (show ¬ 3 = s4 by omega)) (all_cons (b5 (z 4) (o 4) (show ¬ 4 = s4 by omega)) (all_cons (b5 (z 5) (o 4) (show ¬ 5 = s4 by omega)) (all_cons (b5 (z 6) (o 4) (show ¬ 6 = s4 by omega)) (all_cons (b5 (z 11) (o 4) (show ¬ 11 = s4 by omega)) (all_cons (b5 (z 7) (o 4) (show ¬ 7 = s4 by omega)) (all_cons (b5 (z 8) (o 4) (show ¬ 8 = s4 by omega)) (all_cons (b5 (z 9) (o 4) (show ¬ 9 = s4 by omega)) (all_cons (b5 (z 10) (o 4) (show ¬ 10 = s4 by omega)) (all_cons (b5 (z 12) (o 4) (show ¬ 12 = s4 by omega)) (all_cons (b5 (z 13) (o 4) (show ¬ 13 = s4 by omega)) (all_cons (b5 (z 14) (o 4) (show ¬ 14 = s4 by omega)) all_nil))))))))))))))))) known_nil (a := ag (o 4)) (b := false) (by kernel_rfl)) not_false
end Go.Proofs.YtbkojaiecgdodaaDoor
end
section
set_option linter.unusedVariables false
set_option maxRecDepth 100000
namespace Go.Proofs.YtbkojaiecgdodaaDoor
open Go Go.Ev Go.RowKit
theorem j_v2 {s0 s1 s2 s3 s4 : Int} {W : World} (hL : Laid W) (l3 : -9223372036854775808 ≤ s3) (u3 : s3 ≤ 9223372036854775807) : Calls Tryd.prog 9 #[.agg #[.int .i64 2, .int .i64 s0, .int .i64 s1, .int .i64 s2, .int .i64 s3]] W (Bo W (decide ((0 ≤ s0 ∧ s0 ≤ 9) ∧ s1 = 0 ∧ s2 = 0 ∧ (-2147483648 ≤ s3 ∧ s3 ≤ 2147483647)))) := by
  by_cases H0 : 0 ≤ s0
  · by_cases H1 : s0 ≤ 9
    · by_cases H2 : 0 ≤ s1
      · by_cases H3 : s1 ≤ 0
        · by_cases H4 : 0 ≤ s2
          · by_cases H5 : s2 ≤ 0
            · by_cases H6 : -2147483648 ≤ s3
              · by_cases H7 : s3 ≤ 2147483647
                · exact bo_t (run5 (s4 := s4) hL (all_cons (a8 (z 0) (o 0) H0) (all_cons (a8 (o 0) (z 9) H1) (all_cons (a8 (z 0) (o 1) H2) (all_cons (a8 (o 1) (z 0) H3) (all_cons (a8 (z 0) (o 2) H4) (all_cons (a8 (o 2) (z 0) H5) (all_cons (a8 (z (-2147483648)) (o 3) H6) (all_cons (a8 (o 3) (z 2147483647) H7) all_nil)))))))) known_nil (a := ag (z 2)) (b := true) (by kernel_rfl)) (by omega)
                · exact bo_f (run5 (s4 := s4) hL (all_cons (a8 (z 0) (o 0) H0) (all_cons (a8 (o 0) (z 9) H1) (all_cons (a8 (z 0) (o 1) H2) (all_cons (a8 (o 1) (z 0) H3) (all_cons (a8 (z 0) (o 2) H4) (all_cons (a8 (o 2) (z 0) H5) (all_cons (a8 (z (-2147483648)) (o 3) H6) (all_cons (b8 (o 3) (z 2147483647) H7) all_nil)))))))) known_nil (a := ag (z 2)) (b := false) (by kernel_rfl)) (by omega)
              · exact bo_f (run5 (s4 := s4) hL (all_cons (a8 (z 0) (o 0) H0) (all_cons (a8 (o 0) (z 9) H1) (all_cons (a8 (z 0) (o 1) H2) (all_cons (a8 (o 1) (z 0) H3) (all_cons (a8 (z 0) (o 2) H4) (all_cons (a8 (o 2) (z 0) H5) (all_cons (b8 (z (-2147483648)) (o 3) H6) all_nil))))))) known_nil (a := ag (z 2)) (b := false) (by kernel_rfl)) (by omega)
            · exact bo_f (run5 (s4 := s4) hL (all_cons (a8 (z 0) (o 0) H0) (all_cons (a8 (o 0) (z 9) H1) (all_cons (a8 (z 0) (o 1) H2) (all_cons (a8 (o 1) (z 0) H3) (all_cons (a8 (z 0) (o 2) H4) (all_cons (b8 (o 2) (z 0) H5) all_nil)))))) known_nil (a := ag (z 2)) (b := false) (by kernel_rfl)) (by omega)
          · exact bo_f (run5 (s4 := s4) hL (all_cons (a8 (z 0) (o 0) H0) (all_cons (a8 (o 0) (z 9) H1) (all_cons (a8 (z 0) (o 1) H2) (all_cons (a8 (o 1) (z 0) H3) (all_cons (b8 (z 0) (o 2) H4) all_nil))))) known_nil (a := ag (z 2)) (b := false) (by kernel_rfl)) (by omega)
        · exact bo_f (run5 (s4 := s4) hL (all_cons (a8 (z 0) (o 0) H0) (all_cons (a8 (o 0) (z 9) H1) (all_cons (a8 (z 0) (o 1) H2) (all_cons (b8 (o 1) (z 0) H3) all_nil)))) known_nil (a := ag (z 2)) (b := false) (by kernel_rfl)) (by omega)
      · exact bo_f (run5 (s4 := s4) hL (all_cons (a8 (z 0) (o 0) H0) (all_cons (a8 (o 0) (z 9) H1) (all_cons (b8 (z 0) (o 1) H2) all_nil))) known_nil (a := ag (z 2)) (b := false) (by kernel_rfl)) (by omega)
    · exact bo_f (run5 (s4 := s4) hL (all_cons (a8 (z 0) (o 0) H0) (all_cons (b8 (o 0) (z 9) H1) all_nil)) known_nil (a := ag (z 2)) (b := false) (by kernel_rfl)) (by omega)
  · exact bo_f (run5 (s4 := s4) hL (all_cons (b8 (z 0) (o 0) H0) all_nil) known_nil (a := ag (z 2)) (b := false) (by kernel_rfl)) (by omega)
theorem j_v6 {s0 s1 s2 s3 s4 : Int} {W : World} (hL : Laid W) (l3 : -9223372036854775808 ≤ s3) (u3 : s3 ≤ 9223372036854775807) : Calls Tryd.prog 9 #[.agg #[.int .i64 6, .int .i64 s0, .int .i64 s1, .int .i64 s2, .int .i64 s3]] W (Bo W (decide (s0 = 0 ∧ s1 = 0 ∧ s2 = 0 ∧ (0 ≤ s3 ∧ s3 ≤ 20000)))) := by
  by_cases H0 : 0 ≤ s0
  · by_cases H1 : s0 ≤ 0
    · by_cases H2 : 0 ≤ s1
      · by_cases H3 : s1 ≤ 0
        · by_cases H4 : 0 ≤ s2
          · by_cases H5 : s2 ≤ 0
            · by_cases H6 : 0 ≤ s3
              · by_cases H7 : s3 ≤ 20000
                · exact bo_t (run5 (s4 := s4) hL (all_cons (a8 (z 0) (o 0) H0) (all_cons (a8 (o 0) (z 0) H1) (all_cons (a8 (z 0) (o 1) H2) (all_cons (a8 (o 1) (z 0) H3) (all_cons (a8 (z 0) (o 2) H4) (all_cons (a8 (o 2) (z 0) H5) (all_cons (a8 (z 0) (o 3) H6) (all_cons (a8 (o 3) (z 20000) H7) all_nil)))))))) known_nil (a := ag (z 6)) (b := true) (by kernel_rfl)) (by omega)
                · exact bo_f (run5 (s4 := s4) hL (all_cons (a8 (z 0) (o 0) H0) (all_cons (a8 (o 0) (z 0) H1) (all_cons (a8 (z 0) (o 1) H2) (all_cons (a8 (o 1) (z 0) H3) (all_cons (a8 (z 0) (o 2) H4) (all_cons (a8 (o 2) (z 0) H5) (all_cons (a8 (z 0) (o 3) H6) (all_cons (b8 (o 3) (z 20000) H7) all_nil)))))))) known_nil (a := ag (z 6)) (b := false) (by kernel_rfl)) (by omega)
              · exact bo_f (run5 (s4 := s4) hL (all_cons (a8 (z 0) (o 0) H0) (all_cons (a8 (o 0) (z 0) H1) (all_cons (a8 (z 0) (o 1) H2) (all_cons (a8 (o 1) (z 0) H3) (all_cons (a8 (z 0) (o 2) H4) (all_cons (a8 (o 2) (z 0) H5) (all_cons (b8 (z 0) (o 3) H6) all_nil))))))) known_nil (a := ag (z 6)) (b := false) (by kernel_rfl)) (by omega)
            · exact bo_f (run5 (s4 := s4) hL (all_cons (a8 (z 0) (o 0) H0) (all_cons (a8 (o 0) (z 0) H1) (all_cons (a8 (z 0) (o 1) H2) (all_cons (a8 (o 1) (z 0) H3) (all_cons (a8 (z 0) (o 2) H4) (all_cons (b8 (o 2) (z 0) H5) all_nil)))))) known_nil (a := ag (z 6)) (b := false) (by kernel_rfl)) (by omega)
          · exact bo_f (run5 (s4 := s4) hL (all_cons (a8 (z 0) (o 0) H0) (all_cons (a8 (o 0) (z 0) H1) (all_cons (a8 (z 0) (o 1) H2) (all_cons (a8 (o 1) (z 0) H3) (all_cons (b8 (z 0) (o 2) H4) all_nil))))) known_nil (a := ag (z 6)) (b := false) (by kernel_rfl)) (by omega)
        · exact bo_f (run5 (s4 := s4) hL (all_cons (a8 (z 0) (o 0) H0) (all_cons (a8 (o 0) (z 0) H1) (all_cons (a8 (z 0) (o 1) H2) (all_cons (b8 (o 1) (z 0) H3) all_nil)))) known_nil (a := ag (z 6)) (b := false) (by kernel_rfl)) (by omega)
      · exact bo_f (run5 (s4 := s4) hL (all_cons (a8 (z 0) (o 0) H0) (all_cons (a8 (o 0) (z 0) H1) (all_cons (b8 (z 0) (o 1) H2) all_nil))) known_nil (a := ag (z 6)) (b := false) (by kernel_rfl)) (by omega)
    · exact bo_f (run5 (s4 := s4) hL (all_cons (a8 (z 0) (o 0) H0) (all_cons (b8 (o 0) (z 0) H1) all_nil)) known_nil (a := ag (z 6)) (b := false) (by kernel_rfl)) (by omega)
  · exact bo_f (run5 (s4 := s4) hL (all_cons (b8 (z 0) (o 0) H0) all_nil) known_nil (a := ag (z 6)) (b := false) (by kernel_rfl)) (by omega)
theorem j_v10 {s0 s1 s2 s3 s4 : Int} {W : World} (hL : Laid W) (l3 : -9223372036854775808 ≤ s3) (u3 : s3 ≤ 9223372036854775807) : Calls Tryd.prog 9 #[.agg #[.int .i64 10, .int .i64 s0, .int .i64 s1, .int .i64 s2, .int .i64 s3]] W (Bo W (decide (s0 = 0 ∧ (0 ≤ s1 ∧ s1 ≤ 9) ∧ s2 = 0 ∧ s3 = 0))) := by
  by_cases H0 : 0 ≤ s0
  · by_cases H1 : s0 ≤ 0
    · by_cases H2 : 0 ≤ s1
      · by_cases H3 : s1 ≤ 9
        · by_cases H4 : 0 ≤ s2
          · by_cases H5 : s2 ≤ 0
            · by_cases H6 : 0 ≤ s3
              · by_cases H7 : s3 ≤ 0
                · exact bo_t (run5 (s4 := s4) hL (all_cons (a8 (z 0) (o 0) H0) (all_cons (a8 (o 0) (z 0) H1) (all_cons (a8 (z 0) (o 1) H2) (all_cons (a8 (o 1) (z 9) H3) (all_cons (a8 (z 0) (o 2) H4) (all_cons (a8 (o 2) (z 0) H5) (all_cons (a8 (z 0) (o 3) H6) (all_cons (a8 (o 3) (z 0) H7) all_nil)))))))) known_nil (a := ag (z 10)) (b := true) (by kernel_rfl)) (by omega)
                · exact bo_f (run5 (s4 := s4) hL (all_cons (a8 (z 0) (o 0) H0) (all_cons (a8 (o 0) (z 0) H1) (all_cons (a8 (z 0) (o 1) H2) (all_cons (a8 (o 1) (z 9) H3) (all_cons (a8 (z 0) (o 2) H4) (all_cons (a8 (o 2) (z 0) H5) (all_cons (a8 (z 0) (o 3) H6) (all_cons (b8 (o 3) (z 0) H7) all_nil)))))))) known_nil (a := ag (z 10)) (b := false) (by kernel_rfl)) (by omega)
              · exact bo_f (run5 (s4 := s4) hL (all_cons (a8 (z 0) (o 0) H0) (all_cons (a8 (o 0) (z 0) H1) (all_cons (a8 (z 0) (o 1) H2) (all_cons (a8 (o 1) (z 9) H3) (all_cons (a8 (z 0) (o 2) H4) (all_cons (a8 (o 2) (z 0) H5) (all_cons (b8 (z 0) (o 3) H6) all_nil))))))) known_nil (a := ag (z 10)) (b := false) (by kernel_rfl)) (by omega)
            · exact bo_f (run5 (s4 := s4) hL (all_cons (a8 (z 0) (o 0) H0) (all_cons (a8 (o 0) (z 0) H1) (all_cons (a8 (z 0) (o 1) H2) (all_cons (a8 (o 1) (z 9) H3) (all_cons (a8 (z 0) (o 2) H4) (all_cons (b8 (o 2) (z 0) H5) all_nil)))))) known_nil (a := ag (z 10)) (b := false) (by kernel_rfl)) (by omega)
          · exact bo_f (run5 (s4 := s4) hL (all_cons (a8 (z 0) (o 0) H0) (all_cons (a8 (o 0) (z 0) H1) (all_cons (a8 (z 0) (o 1) H2) (all_cons (a8 (o 1) (z 9) H3) (all_cons (b8 (z 0) (o 2) H4) all_nil))))) known_nil (a := ag (z 10)) (b := false) (by kernel_rfl)) (by omega)
        · exact bo_f (run5 (s4 := s4) hL (all_cons (a8 (z 0) (o 0) H0) (all_cons (a8 (o 0) (z 0) H1) (all_cons (a8 (z 0) (o 1) H2) (all_cons (b8 (o 1) (z 9) H3) all_nil)))) known_nil (a := ag (z 10)) (b := false) (by kernel_rfl)) (by omega)
      · exact bo_f (run5 (s4 := s4) hL (all_cons (a8 (z 0) (o 0) H0) (all_cons (a8 (o 0) (z 0) H1) (all_cons (b8 (z 0) (o 1) H2) all_nil))) known_nil (a := ag (z 10)) (b := false) (by kernel_rfl)) (by omega)
    · exact bo_f (run5 (s4 := s4) hL (all_cons (a8 (z 0) (o 0) H0) (all_cons (b8 (o 0) (z 0) H1) all_nil)) known_nil (a := ag (z 10)) (b := false) (by kernel_rfl)) (by omega)
  · exact bo_f (run5 (s4 := s4) hL (all_cons (b8 (z 0) (o 0) H0) all_nil) known_nil (a := ag (z 10)) (b := false) (by kernel_rfl)) (by omega)
theorem j_v14 {s0 s1 s2 s3 s4 : Int} {W : World} (hL : Laid W) (l3 : -9223372036854775808 ≤ s3) (u3 : s3 ≤ 9223372036854775807) : Calls Tryd.prog 9 #[.agg #[.int .i64 14, .int .i64 s0, .int .i64 s1, .int .i64 s2, .int .i64 s3]] W (Bo W (decide (s0 = 0 ∧ s1 = 0 ∧ s2 = 0 ∧ s3 = 0))) := by
  by_cases H0 : 0 ≤ s0
  · by_cases H1 : s0 ≤ 0
    · by_cases H2 : 0 ≤ s1
      · by_cases H3 : s1 ≤ 0
        · by_cases H4 : 0 ≤ s2
          · by_cases H5 : s2 ≤ 0
            · by_cases H6 : 0 ≤ s3
              · by_cases H7 : s3 ≤ 0
                · exact bo_t (run5 (s4 := s4) hL (all_cons (a8 (z 0) (o 0) H0) (all_cons (a8 (o 0) (z 0) H1) (all_cons (a8 (z 0) (o 1) H2) (all_cons (a8 (o 1) (z 0) H3) (all_cons (a8 (z 0) (o 2) H4) (all_cons (a8 (o 2) (z 0) H5) (all_cons (a8 (z 0) (o 3) H6) (all_cons (a8 (o 3) (z 0) H7) all_nil)))))))) known_nil (a := ag (z 14)) (b := true) (by kernel_rfl)) (by omega)
                · exact bo_f (run5 (s4 := s4) hL (all_cons (a8 (z 0) (o 0) H0) (all_cons (a8 (o 0) (z 0) H1) (all_cons (a8 (z 0) (o 1) H2) (all_cons (a8 (o 1) (z 0) H3) (all_cons (a8 (z 0) (o 2) H4) (all_cons (a8 (o 2) (z 0) H5) (all_cons (a8 (z 0) (o 3) H6) (all_cons (b8 (o 3) (z 0) H7) all_nil)))))))) known_nil (a := ag (z 14)) (b := false) (by kernel_rfl)) (by omega)
              · exact bo_f (run5 (s4 := s4) hL (all_cons (a8 (z 0) (o 0) H0) (all_cons (a8 (o 0) (z 0) H1) (all_cons (a8 (z 0) (o 1) H2) (all_cons (a8 (o 1) (z 0) H3) (all_cons (a8 (z 0) (o 2) H4) (all_cons (a8 (o 2) (z 0) H5) (all_cons (b8 (z 0) (o 3) H6) all_nil))))))) known_nil (a := ag (z 14)) (b := false) (by kernel_rfl)) (by omega)
            · exact bo_f (run5 (s4 := s4) hL (all_cons (a8 (z 0) (o 0) H0) (all_cons (a8 (o 0) (z 0) H1) (all_cons (a8 (z 0) (o 1) H2) (all_cons (a8 (o 1) (z 0) H3) (all_cons (a8 (z 0) (o 2) H4) (all_cons (b8 (o 2) (z 0) H5) all_nil)))))) known_nil (a := ag (z 14)) (b := false) (by kernel_rfl)) (by omega)
          · exact bo_f (run5 (s4 := s4) hL (all_cons (a8 (z 0) (o 0) H0) (all_cons (a8 (o 0) (z 0) H1) (all_cons (a8 (z 0) (o 1) H2) (all_cons (a8 (o 1) (z 0) H3) (all_cons (b8 (z 0) (o 2) H4) all_nil))))) known_nil (a := ag (z 14)) (b := false) (by kernel_rfl)) (by omega)
        · exact bo_f (run5 (s4 := s4) hL (all_cons (a8 (z 0) (o 0) H0) (all_cons (a8 (o 0) (z 0) H1) (all_cons (a8 (z 0) (o 1) H2) (all_cons (b8 (o 1) (z 0) H3) all_nil)))) known_nil (a := ag (z 14)) (b := false) (by kernel_rfl)) (by omega)
      · exact bo_f (run5 (s4 := s4) hL (all_cons (a8 (z 0) (o 0) H0) (all_cons (a8 (o 0) (z 0) H1) (all_cons (b8 (z 0) (o 1) H2) all_nil))) known_nil (a := ag (z 14)) (b := false) (by kernel_rfl)) (by omega)
    · exact bo_f (run5 (s4 := s4) hL (all_cons (a8 (z 0) (o 0) H0) (all_cons (b8 (o 0) (z 0) H1) all_nil)) known_nil (a := ag (z 14)) (b := false) (by kernel_rfl)) (by omega)
  · exact bo_f (run5 (s4 := s4) hL (all_cons (b8 (z 0) (o 0) H0) all_nil) known_nil (a := ag (z 14)) (b := false) (by kernel_rfl)) (by omega)
theorem j_vhi {s0 s1 s2 s3 s4 : Int} {W : World} (hL : Laid W) (l3 : -9223372036854775808 ≤ s3) (u3 : s3 ≤ 9223372036854775807) (l4 : -9223372036854775808 ≤ s4) (u4 : s4 ≤ 9223372036854775807) (hk : 50 ≤ s4) : Calls Tryd.prog 9 #[.agg #[.int .i64 s4, .int .i64 s0, .int .i64 s1, .int .i64 s2, .int .i64 s3]] W (Bo W (decide (False))) := by
  exact bo_f (run5 (s4 := s4) hL (all_cons (a10 (o 4) (z 1) (show 1 ≤ s4 by omega)) (all_cons (b8 (o 4) (z 14) (show ¬ s4 ≤ 14 by omega)) (all_cons (m15) (all_cons (a10 (o 6) (z 1) (show 1 ≤ (IntKind.i64.wrap (s4 - 15)) by simp only [IntKind.wrap_i64] at *; omega)) (all_cons (b8 (o 6) (z 14) (show ¬ (IntKind.i64.wrap (s4 - 15)) ≤ 14 by simp only [IntKind.wrap_i64] at *; omega)) (all_cons (m35) (all_cons (a10 (o 7) (z 1) (show 1 ≤ (IntKind.i64.wrap (s4 - 35)) by simp only [IntKind.wrap_i64] at *; omega)) (all_cons (b8 (o 7) (z 14) (show ¬ (IntKind.i64.wrap (s4 - 35)) ≤ 14 by simp only [IntKind.wrap_i64] at *; omega)) all_nil)))))))) known_nil (a := ag (o 4)) (b := false) (by kernel_rfl)) not_false
theorem j_r2 {s0 s1 s2 s3 s4 : Int} {W : World} (hL : Laid W) (l3 : -9223372036854775808 ≤ s3) (u3 : s3 ≤ 9223372036854775807) : Calls Tryd.prog 10 #[.agg #[.int .i64 2, .int .i64 s0, .int .i64 s1, .int .i64 s2, .int .i64 s3]] W (Bo W (decide ((0 ≤ s0 ∧ s0 ≤ 9) ∧ s1 = 0 ∧ s2 = 0 ∧ (-2147483648 ≤ s3 ∧ s3 ≤ 2147483647)))) := by
  by_cases H0 : 0 ≤ s0
  · by_cases H1 : s0 < 10
    · by_cases H2 : s1 = 0
      · by_cases H3 : s2 = 0
        · by_cases H4 : -2147483648 ≤ s3
          · by_cases H5 : s3 < 2147483648
            · exact bo_t (run5 (s4 := s4) hL (all_cons (a10 (o 0) (z 0) H0) (all_cons (a7 (o 0) (z 10) H1) (all_cons (a5 (o 1) (z 0) H2) (all_cons (a5 (o 2) (z 0) H3) (all_cons (a10 (o 3) (z (-2147483648)) H4) (all_cons (a7 (o 3) (z 2147483648) H5) all_nil)))))) known_nil (a := ag (z 2)) (b := true) (by kernel_rfl)) (by omega)
            · exact bo_f (run5 (s4 := s4) hL (all_cons (a10 (o 0) (z 0) H0) (all_cons (a7 (o 0) (z 10) H1) (all_cons (a5 (o 1) (z 0) H2) (all_cons (a5 (o 2) (z 0) H3) (all_cons (a10 (o 3) (z (-2147483648)) H4) (all_cons (b7 (o 3) (z 2147483648) H5) all_nil)))))) known_nil (a := ag (z 2)) (b := false) (by kernel_rfl)) (by omega)
          · exact bo_f (run5 (s4 := s4) hL (all_cons (a10 (o 0) (z 0) H0) (all_cons (a7 (o 0) (z 10) H1) (all_cons (a5 (o 1) (z 0) H2) (all_cons (a5 (o 2) (z 0) H3) (all_cons (b10 (o 3) (z (-2147483648)) H4) all_nil))))) known_nil (a := ag (z 2)) (b := false) (by kernel_rfl)) (by omega)
        · exact bo_f (run5 (s4 := s4) hL (all_cons (a10 (o 0) (z 0) H0) (all_cons (a7 (o 0) (z 10) H1) (all_cons (a5 (o 1) (z 0) H2) (all_cons (b5 (o 2) (z 0) H3) all_nil)))) known_nil (a := ag (z 2)) (b := false) (by kernel_rfl)) (by omega)
      · exact bo_f (run5 (s4 := s4) hL (all_cons (a10 (o 0) (z 0) H0) (all_cons (a7 (o 0) (z 10) H1) (all_cons (b5 (o 1) (z 0) H2) all_nil))) known_nil (a := ag (z 2)) (b := false) (by kernel_rfl)) (by omega)
    · exact bo_f (run5 (s4 := s4) hL (all_cons (a10 (o 0) (z 0) H0) (all_cons (b7 (o 0) (z 10) H1) all_nil)) known_nil (a := ag (z 2)) (b := false) (by kernel_rfl)) (by omega)
  · exact bo_f (run5 (s4 := s4) hL (all_cons (b10 (o 0) (z 0) H0) all_nil) known_nil (a := ag (z 2)) (b := false) (by kernel_rfl)) (by omega)
theorem j_r6 {s0 s1 s2 s3 s4 : Int} {W : World} (hL : Laid W) (l3 : -9223372036854775808 ≤ s3) (u3 : s3 ≤ 9223372036854775807) : Calls Tryd.prog 10 #[.agg #[.int .i64 6, .int .i64 s0, .int .i64 s1, .int .i64 s2, .int .i64 s3]] W (Bo W (decide (s0 = 0 ∧ s1 = 0 ∧ s2 = 0 ∧ (0 ≤ s3 ∧ s3 ≤ 20000)))) := by
  by_cases H0 : s0 = 0
  · by_cases H1 : s1 = 0
    · by_cases H2 : s2 = 0
      · by_cases H3 : 0 ≤ s3
        · by_cases H4 : s3 ≤ 20000
          · exact bo_t (run5 (s4 := s4) hL (all_cons (a5 (o 0) (z 0) H0) (all_cons (a5 (o 1) (z 0) H1) (all_cons (a5 (o 2) (z 0) H2) (all_cons (a10 (o 3) (z 0) H3) (all_cons (a8 (o 3) (z 20000) H4) all_nil))))) known_nil (a := ag (z 6)) (b := true) (by kernel_rfl)) (by omega)
          · exact bo_f (run5 (s4 := s4) hL (all_cons (a5 (o 0) (z 0) H0) (all_cons (a5 (o 1) (z 0) H1) (all_cons (a5 (o 2) (z 0) H2) (all_cons (a10 (o 3) (z 0) H3) (all_cons (b8 (o 3) (z 20000) H4) all_nil))))) known_nil (a := ag (z 6)) (b := false) (by kernel_rfl)) (by omega)
        · exact bo_f (run5 (s4 := s4) hL (all_cons (a5 (o 0) (z 0) H0) (all_cons (a5 (o 1) (z 0) H1) (all_cons (a5 (o 2) (z 0) H2) (all_cons (b10 (o 3) (z 0) H3) all_nil)))) known_nil (a := ag (z 6)) (b := false) (by kernel_rfl)) (by omega)
      · exact bo_f (run5 (s4 := s4) hL (all_cons (a5 (o 0) (z 0) H0) (all_cons (a5 (o 1) (z 0) H1) (all_cons (b5 (o 2) (z 0) H2) all_nil))) known_nil (a := ag (z 6)) (b := false) (by kernel_rfl)) (by omega)
    · exact bo_f (run5 (s4 := s4) hL (all_cons (a5 (o 0) (z 0) H0) (all_cons (b5 (o 1) (z 0) H1) all_nil)) known_nil (a := ag (z 6)) (b := false) (by kernel_rfl)) (by omega)
  · exact bo_f (run5 (s4 := s4) hL (all_cons (b5 (o 0) (z 0) H0) all_nil) known_nil (a := ag (z 6)) (b := false) (by kernel_rfl)) (by omega)
theorem j_r10 {s0 s1 s2 s3 s4 : Int} {W : World} (hL : Laid W) (l3 : -9223372036854775808 ≤ s3) (u3 : s3 ≤ 9223372036854775807) : Calls Tryd.prog 10 #[.agg #[.int .i64 10, .int .i64 s0, .int .i64 s1, .int .i64 s2, .int .i64 s3]] W (Bo W (decide (s0 = 0 ∧ (0 ≤ s1 ∧ s1 ≤ 9) ∧ s2 = 0 ∧ s3 = 0))) := by
  by_cases H0 : s0 = 0
  · by_cases H1 : 0 ≤ s1
    · by_cases H2 : s1 < 10
      · by_cases H3 : s2 = 0
        · by_cases H4 : s3 = 0
          · exact bo_t (run5 (s4 := s4) hL (all_cons (a5 (o 0) (z 0) H0) (all_cons (a10 (o 1) (z 0) H1) (all_cons (a7 (o 1) (z 10) H2) (all_cons (a5 (o 2) (z 0) H3) (all_cons (a5 (o 3) (z 0) H4) all_nil))))) known_nil (a := ag (z 10)) (b := true) (by kernel_rfl)) (by omega)
          · exact bo_f (run5 (s4 := s4) hL (all_cons (a5 (o 0) (z 0) H0) (all_cons (a10 (o 1) (z 0) H1) (all_cons (a7 (o 1) (z 10) H2) (all_cons (a5 (o 2) (z 0) H3) (all_cons (b5 (o 3) (z 0) H4) all_nil))))) known_nil (a := ag (z 10)) (b := false) (by kernel_rfl)) (by omega)
        · exact bo_f (run5 (s4 := s4) hL (all_cons (a5 (o 0) (z 0) H0) (all_cons (a10 (o 1) (z 0) H1) (all_cons (a7 (o 1) (z 10) H2) (all_cons (b5 (o 2) (z 0) H3) all_nil)))) known_nil (a := ag (z 10)) (b := false) (by kernel_rfl)) (by omega)
      · exact bo_f (run5 (s4 := s4) hL (all_cons (a5 (o 0) (z 0) H0) (all_cons (a10 (o 1) (z 0) H1) (all_cons (b7 (o 1) (z 10) H2) all_nil))) known_nil (a := ag (z 10)) (b := false) (by kernel_rfl)) (by omega)
    · exact bo_f (run5 (s4 := s4) hL (all_cons (a5 (o 0) (z 0) H0) (all_cons (b10 (o 1) (z 0) H1) all_nil)) known_nil (a := ag (z 10)) (b := false) (by kernel_rfl)) (by omega)
  · exact bo_f (run5 (s4 := s4) hL (all_cons (b5 (o 0) (z 0) H0) all_nil) known_nil (a := ag (z 10)) (b := false) (by kernel_rfl)) (by omega)
theorem j_r14 {s0 s1 s2 s3 s4 : Int} {W : World} (hL : Laid W) (l3 : -9223372036854775808 ≤ s3) (u3 : s3 ≤ 9223372036854775807) : Calls Tryd.prog 10 #[.agg #[.int .i64 14, .int .i64 s0, .int .i64 s1, .int .i64 s2, .int .i64 s3]] W (Bo W (decide (s0 = 0 ∧ s1 = 0 ∧ s2 = 0 ∧ s3 = 0))) := by
  by_cases H0 : s0 = 0
  · by_cases H1 : s1 = 0
    · by_cases H2 : s2 = 0
      · by_cases H3 : s3 = 0
        · exact bo_t (run5 (s4 := s4) hL (all_cons (a5 (o 0) (z 0) H0) (all_cons (a5 (o 1) (z 0) H1) (all_cons (a5 (o 2) (z 0) H2) (all_cons (a5 (o 3) (z 0) H3) all_nil)))) known_nil (a := ag (z 14)) (b := true) (by kernel_rfl)) (by omega)
        · exact bo_f (run5 (s4 := s4) hL (all_cons (a5 (o 0) (z 0) H0) (all_cons (a5 (o 1) (z 0) H1) (all_cons (a5 (o 2) (z 0) H2) (all_cons (b5 (o 3) (z 0) H3) all_nil)))) known_nil (a := ag (z 14)) (b := false) (by kernel_rfl)) (by omega)
      · exact bo_f (run5 (s4 := s4) hL (all_cons (a5 (o 0) (z 0) H0) (all_cons (a5 (o 1) (z 0) H1) (all_cons (b5 (o 2) (z 0) H2) all_nil))) known_nil (a := ag (z 14)) (b := false) (by kernel_rfl)) (by omega)
    · exact bo_f (run5 (s4 := s4) hL (all_cons (a5 (o 0) (z 0) H0) (all_cons (b5 (o 1) (z 0) H1) all_nil)) known_nil (a := ag (z 14)) (b := false) (by kernel_rfl)) (by omega)
  · exact bo_f (run5 (s4 := s4) hL (all_cons (b5 (o 0) (z 0) H0) all_nil) known_nil (a := ag (z 14)) (b := false) (by kernel_rfl)) (by omega)
theorem j_r18 {s0 s1 s2 s3 s4 : Int} {W : World} (hL : Laid W) (l3 : -9223372036854775808 ≤ s3) (u3 : s3 ≤ 9223372036854775807) : Calls Tryd.prog 10 #[.agg #[.int .i64 18, .int .i64 s0, .int .i64 s1, .int .i64 s2, .int .i64 s3]] W (Bo W (decide ((0 ≤ s0 ∧ s0 ≤ 9) ∧ (0 ≤ s1 ∧ s1 ≤ 9) ∧ (0 ≤ s2 ∧ s2 ≤ 9) ∧ s3 = 0))) := by
  by_cases H0 : 0 ≤ s0
  · by_cases H1 : s0 < 10
    · by_cases H2 : 0 ≤ s1
      · by_cases H3 : s1 < 10
        · by_cases H4 : 0 ≤ s2
          · by_cases H5 : s2 < 10
            · by_cases H6 : s3 = 0
              · exact bo_t (run5 (s4 := s4) hL (all_cons (a10 (o 0) (z 0) H0) (all_cons (a7 (o 0) (z 10) H1) (all_cons (a10 (o 1) (z 0) H2) (all_cons (a7 (o 1) (z 10) H3) (all_cons (a10 (o 2) (z 0) H4) (all_cons (a7 (o 2) (z 10) H5) (all_cons (a5 (o 3) (z 0) H6) all_nil))))))) known_nil (a := ag (z 18)) (b := true) (by kernel_rfl)) (by omega)
              · exact bo_f (run5 (s4 := s4) hL (all_cons (a10 (o 0) (z 0) H0) (all_cons (a7 (o 0) (z 10) H1) (all_cons (a10 (o 1) (z 0) H2) (all_cons (a7 (o 1) (z 10) H3) (all_cons (a10 (o 2) (z 0) H4) (all_cons (a7 (o 2) (z 10) H5) (all_cons (b5 (o 3) (z 0) H6) all_nil))))))) known_nil (a := ag (z 18)) (b := false) (by kernel_rfl)) (by omega)
            · exact bo_f (run5 (s4 := s4) hL (all_cons (a10 (o 0) (z 0) H0) (all_cons (a7 (o 0) (z 10) H1) (all_cons (a10 (o 1) (z 0) H2) (all_cons (a7 (o 1) (z 10) H3) (all_cons (a10 (o 2) (z 0) H4) (all_cons (b7 (o 2) (z 10) H5) all_nil)))))) known_nil (a := ag (z 18)) (b := false) (by kernel_rfl)) (by omega)
          · exact bo_f (run5 (s4 := s4) hL (all_cons (a10 (o 0) (z 0) H0) (all_cons (a7 (o 0) (z 10) H1) (all_cons (a10 (o 1) (z 0) H2) (all_cons (a7 (o 1) (z 10) H3) (all_cons (b10 (o 2) (z 0) H4) all_nil))))) known_nil (a := ag (z 18)) (b := false) (by kernel_rfl)) (by omega)
        · exact bo_f (run5 (s4 := s4) hL (all_cons (a10 (o 0) (z 0) H0) (all_cons (a7 (o 0) (z 10) H1) (all_cons (a10 (o 1) (z 0) H2) (all_cons (b7 (o 1) (z 10) H3) all_nil)))) known_nil (a := ag (z 18)) (b := false) (by kernel_rfl)) (by omega)
      · exact bo_f (run5 (s4 := s4) hL (all_cons (a10 (o 0) (z 0) H0) (all_cons (a7 (o 0) (z 10) H1) (all_cons (b10 (o 1) (z 0) H2) all_nil))) known_nil (a := ag (z 18)) (b := false) (by kernel_rfl)) (by omega)
    · exact bo_f (run5 (s4 := s4) hL (all_cons (a10 (o 0) (z 0) H0) (all_cons (b7 (o 0) (z 10) H1) all_nil)) known_nil (a := ag (z 18)) (b := false) (by kernel_rfl)) (by omega)
  · exact bo_f (run5 (s4 := s4) hL (all_cons (b10 (o 0) (z 0) H0) all_nil) known_nil (a := ag (z 18)) (b := false) (by kernel_rfl)) (by omega)
theorem j_r22 {s0 s1 s2 s3 s4 : Int} {W : World} (hL : Laid W) (l3 : -9223372036854775808 ≤ s3) (u3 : s3 ≤ 9223372036854775807) : Calls Tryd.prog 10 #[.agg #[.int .i64 22, .int .i64 s0, .int .i64 s1, .int .i64 s2, .int .i64 s3]] W (Bo W (decide ((0 ≤ s0 ∧ s0 ≤ 9) ∧ (0 ≤ s1 ∧ s1 ≤ 9) ∧ (0 ≤ s2 ∧ s2 ≤ 9) ∧ s3 = 0))) := by
  by_cases H0 : 0 ≤ s0
  · by_cases H1 : s0 < 10
    · by_cases H2 : 0 ≤ s1
      · by_cases H3 : s1 < 10
        · by_cases H4 : 0 ≤ s2
          · by_cases H5 : s2 < 10
            · by_cases H6 : s3 = 0
              · exact bo_t (run5 (s4 := s4) hL (all_cons (a10 (o 0) (z 0) H0) (all_cons (a7 (o 0) (z 10) H1) (all_cons (a10 (o 1) (z 0) H2) (all_cons (a7 (o 1) (z 10) H3) (all_cons (a10 (o 2) (z 0) H4) (all_cons (a7 (o 2) (z 10) H5) (all_cons (a5 (o 3) (z 0) H6) all_nil))))))) known_nil (a := ag (z 22)) (b := true) (by kernel_rfl)) (by omega)
              · exact bo_f (run5 (s4 := s4) hL (all_cons (a10 (o 0) (z 0) H0) (all_cons (a7 (o 0) (z 10) H1) (all_cons (a10 (o 1) (z 0) H2) (all_cons (a7 (o 1) (z 10) H3) (all_cons (a10 (o 2) (z 0) H4) (all_cons (a7 (o 2) (z 10) H5) (all_cons (b5 (o 3) (z 0) H6) all_nil))))))) known_nil (a := ag (z 22)) (b := false) (by kernel_rfl)) (by omega)
            · exact bo_f (run5 (s4 := s4) hL (all_cons (a10 (o 0) (z 0) H0) (all_cons (a7 (o 0) (z 10) H1) (all_cons (a10 (o 1) (z 0) H2) (all_cons (a7 (o 1) (z 10) H3) (all_cons (a10 (o 2) (z 0) H4) (all_cons (b7 (o 2) (z 10) H5) all_nil)))))) known_nil (a := ag (z 22)) (b := false) (by kernel_rfl)) (by omega)
          · exact bo_f (run5 (s4 := s4) hL (all_cons (a10 (o 0) (z 0) H0) (all_cons (a7 (o 0) (z 10) H1) (all_cons (a10 (o 1) (z 0) H2) (all_cons (a7 (o 1) (z 10) H3) (all_cons (b10 (o 2) (z 0) H4) all_nil))))) known_nil (a := ag (z 22)) (b := false) (by kernel_rfl)) (by omega)
        · exact bo_f (run5 (s4 := s4) hL (all_cons (a10 (o 0) (z 0) H0) (all_cons (a7 (o 0) (z 10) H1) (all_cons (a10 (o 1) (z 0) H2) (all_cons (b7 (o 1) (z 10) H3) all_nil)))) known_nil (a := ag (z 22)) (b := false) (by kernel_rfl)) (by omega)
      · exact bo_f (run5 (s4 := s4) hL (all_cons (a10 (o 0) (z 0) H0) (all_cons (a7 (o 0) (z 10) H1) (all_cons (b10 (o 1) (z 0) H2) all_nil))) known_nil (a := ag (z 22)) (b := false) (by kernel_rfl)) (by omega)
    · exact bo_f (run5 (s4 := s4) hL (all_cons (a10 (o 0) (z 0) H0) (all_cons (b7 (o 0) (z 10) H1) all_nil)) known_nil (a := ag (z 22)) (b := false) (by kernel_rfl)) (by omega)
  · exact bo_f (run5 (s4 := s4) hL (all_cons (b10 (o 0) (z 0) H0) all_nil) known_nil (a := ag (z 22)) (b := false) (by kernel_rfl)) (by omega)
theorem j_r26 {s0 s1 s2 s3 s4 : Int} {W : World} (hL : Laid W) (l3 : -9223372036854775808 ≤ s3) (u3 : s3 ≤ 9223372036854775807) : Calls Tryd.prog 10 #[.agg #[.int .i64 26, .int .i64 s0, .int .i64 s1, .int .i64 s2, .int .i64 s3]] W (Bo W (decide ((0 ≤ s0 ∧ s0 ≤ 9) ∧ (0 ≤ s1 ∧ s1 ≤ 9) ∧ (0 ≤ s2 ∧ s2 ≤ 9) ∧ s3 = 0))) := by
  by_cases H0 : 0 ≤ s0
  · by_cases H1 : s0 < 10
    · by_cases H2 : 0 ≤ s1
      · by_cases H3 : s1 < 10
        · by_cases H4 : 0 ≤ s2
          · by_cases H5 : s2 < 10
            · by_cases H6 : s3 = 0
              · exact bo_t (run5 (s4 := s4) hL (all_cons (a10 (o 0) (z 0) H0) (all_cons (a7 (o 0) (z 10) H1) (all_cons (a10 (o 1) (z 0) H2) (all_cons (a7 (o 1) (z 10) H3) (all_cons (a10 (o 2) (z 0) H4) (all_cons (a7 (o 2) (z 10) H5) (all_cons (a5 (o 3) (z 0) H6) all_nil))))))) known_nil (a := ag (z 26)) (b := true) (by kernel_rfl)) (by omega)
              · exact bo_f (run5 (s4 := s4) hL (all_cons (a10 (o 0) (z 0) H0) (all_cons (a7 (o 0) (z 10) H1) (all_cons (a10 (o 1) (z 0) H2) (all_cons (a7 (o 1) (z 10) H3) (all_cons (a10 (o 2) (z 0) H4) (all_cons (a7 (o 2) (z 10) H5) (all_cons (b5 (o 3) (z 0) H6) all_nil))))))) known_nil (a := ag (z 26)) (b := false) (by kernel_rfl)) (by omega)
            · exact bo_f (run5 (s4 := s4) hL (all_cons (a10 (o 0) (z 0) H0) (all_cons (a7 (o 0) (z 10) H1) (all_cons (a10 (o 1) (z 0) H2) (all_cons (a7 (o 1) (z 10) H3) (all_cons (a10 (o 2) (z 0) H4) (all_cons (b7 (o 2) (z 10) H5) all_nil)))))) known_nil (a := ag (z 26)) (b := false) (by kernel_rfl)) (by omega)
          · exact bo_f (run5 (s4 := s4) hL (all_cons (a10 (o 0) (z 0) H0) (all_cons (a7 (o 0) (z 10) H1) (all_cons (a10 (o 1) (z 0) H2) (all_cons (a7 (o 1) (z 10) H3) (all_cons (b10 (o 2) (z 0) H4) all_nil))))) known_nil (a := ag (z 26)) (b := false) (by kernel_rfl)) (by omega)
        · exact bo_f (run5 (s4 := s4) hL (all_cons (a10 (o 0) (z 0) H0) (all_cons (a7 (o 0) (z 10) H1) (all_cons (a10 (o 1) (z 0) H2) (all_cons (b7 (o 1) (z 10) H3) all_nil)))) known_nil (a := ag (z 26)) (b := false) (by kernel_rfl)) (by omega)
      · exact bo_f (run5 (s4 := s4) hL (all_cons (a10 (o 0) (z 0) H0) (all_cons (a7 (o 0) (z 10) H1) (all_cons (b10 (o 1) (z 0) H2) all_nil))) known_nil (a := ag (z 26)) (b := false) (by kernel_rfl)) (by omega)
    · exact bo_f (run5 (s4 := s4) hL (all_cons (a10 (o 0) (z 0) H0) (all_cons (b7 (o 0) (z 10) H1) all_nil)) known_nil (a := ag (z 26)) (b := false) (by kernel_rfl)) (by omega)
  · exact bo_f (run5 (s4 := s4) hL (all_cons (b10 (o 0) (z 0) H0) all_nil) known_nil (a := ag (z 26)) (b := false) (by kernel_rfl)) (by omega)
theorem j_r36 {s0 s1 s2 s3 s4 : Int} {W : World} (hL : Laid W) (l3 : -9223372036854775808 ≤ s3) (u3 : s3 ≤ 9223372036854775807) : Calls Tryd.prog 10 #[.agg #[.int .i64 36, .int .i64 s0, .int .i64 s1, .int .i64 s2, .int .i64 s3]] W (Bo W (decide ((0 ≤ s0 ∧ s0 ≤ 9) ∧ (0 ≤ s1 ∧ s1 ≤ 9) ∧ s2 = 0 ∧ (-2147483648 ≤ s3 ∧ s3 ≤ 2147483647)))) := by
  by_cases H0 : 0 ≤ s0
  · by_cases H1 : s0 < 10
    · by_cases H2 : 0 ≤ s1
      · by_cases H3 : s1 < 10
        · by_cases H4 : s2 = 0
          · by_cases H5 : -2147483648 ≤ s3
            · by_cases H6 : s3 < 2147483648
              · exact bo_t (run5 (s4 := s4) hL (all_cons (a10 (o 0) (z 0) H0) (all_cons (a7 (o 0) (z 10) H1) (all_cons (a10 (o 1) (z 0) H2) (all_cons (a7 (o 1) (z 10) H3) (all_cons (a5 (o 2) (z 0) H4) (all_cons (a10 (o 3) (z (-2147483648)) H5) (all_cons (a7 (o 3) (z 2147483648) H6) all_nil))))))) known_nil (a := ag (z 36)) (b := true) (by kernel_rfl)) (by omega)
              · exact bo_f (run5 (s4 := s4) hL (all_cons (a10 (o 0) (z 0) H0) (all_cons (a7 (o 0) (z 10) H1) (all_cons (a10 (o 1) (z 0) H2) (all_cons (a7 (o 1) (z 10) H3) (all_cons (a5 (o 2) (z 0) H4) (all_cons (a10 (o 3) (z (-2147483648)) H5) (all_cons (b7 (o 3) (z 2147483648) H6) all_nil))))))) known_nil (a := ag (z 36)) (b := false) (by kernel_rfl)) (by omega)
            · exact bo_f (run5 (s4 := s4) hL (all_cons (a10 (o 0) (z 0) H0) (all_cons (a7 (o 0) (z 10) H1) (all_cons (a10 (o 1) (z 0) H2) (all_cons (a7 (o 1) (z 10) H3) (all_cons (a5 (o 2) (z 0) H4) (all_cons (b10 (o 3) (z (-2147483648)) H5) all_nil)))))) known_nil (a := ag (z 36)) (b := false) (by kernel_rfl)) (by omega)
          · exact bo_f (run5 (s4 := s4) hL (all_cons (a10 (o 0) (z 0) H0) (all_cons (a7 (o 0) (z 10) H1) (all_cons (a10 (o 1) (z 0) H2) (all_cons (a7 (o 1) (z 10) H3) (all_cons (b5 (o 2) (z 0) H4) all_nil))))) known_nil (a := ag (z 36)) (b := false) (by kernel_rfl)) (by omega)
        · exact bo_f (run5 (s4 := s4) hL (all_cons (a10 (o 0) (z 0) H0) (all_cons (a7 (o 0) (z 10) H1) (all_cons (a10 (o 1) (z 0) H2) (all_cons (b7 (o 1) (z 10) H3) all_nil)))) known_nil (a := ag (z 36)) (b := false) (by kernel_rfl)) (by omega)
      · exact bo_f (run5 (s4 := s4) hL (all_cons (a10 (o 0) (z 0) H0) (all_cons (a7 (o 0) (z 10) H1) (all_cons (b10 (o 1) (z 0) H2) all_nil))) known_nil (a := ag (z 36)) (b := false) (by kernel_rfl)) (by omega)
    · exact bo_f (run5 (s4 := s4) hL (all_cons (a10 (o 0) (z 0) H0) (all_cons (b7 (o 0) (z 10) H1) all_nil)) known_nil (a := ag (z 36)) (b := false) (by kernel_rfl)) (by omega)
  · exact bo_f (run5 (s4 := s4) hL (all_cons (b10 (o 0) (z 0) H0) all_nil) known_nil (a := ag (z 36)) (b := false) (by kernel_rfl)) (by omega)
theorem j_r40 {s0 s1 s2 s3 s4 : Int} {W : World} (hL : Laid W) (l3 : -9223372036854775808 ≤ s3) (u3 : s3 ≤ 9223372036854775807) : Calls Tryd.prog 10 #[.agg #[.int .i64 40, .int .i64 s0, .int .i64 s1, .int .i64 s2, .int .i64 s3]] W (Bo W (decide ((0 ≤ s0 ∧ s0 ≤ 9) ∧ (0 ≤ s1 ∧ s1 ≤ 9) ∧ s2 = 0 ∧ (-2147483648 ≤ s3 ∧ s3 ≤ 2147483647)))) := by
  by_cases H0 : 0 ≤ s0
  · by_cases H1 : s0 < 10
    · by_cases H2 : 0 ≤ s1
      · by_cases H3 : s1 < 10
        · by_cases H4 : s2 = 0
          · by_cases H5 : -2147483648 ≤ s3
            · by_cases H6 : s3 < 2147483648
              · exact bo_t (run5 (s4 := s4) hL (all_cons (a10 (o 0) (z 0) H0) (all_cons (a7 (o 0) (z 10) H1) (all_cons (a10 (o 1) (z 0) H2) (all_cons (a7 (o 1) (z 10) H3) (all_cons (a5 (o 2) (z 0) H4) (all_cons (a10 (o 3) (z (-2147483648)) H5) (all_cons (a7 (o 3) (z 2147483648) H6) all_nil))))))) known_nil (a := ag (z 40)) (b := true) (by kernel_rfl)) (by omega)
              · exact bo_f (run5 (s4 := s4) hL (all_cons (a10 (o 0) (z 0) H0) (all_cons (a7 (o 0) (z 10) H1) (all_cons (a10 (o 1) (z 0) H2) (all_cons (a7 (o 1) (z 10) H3) (all_cons (a5 (o 2) (z 0) H4) (all_cons (a10 (o 3) (z (-2147483648)) H5) (all_cons (b7 (o 3) (z 2147483648) H6) all_nil))))))) known_nil (a := ag (z 40)) (b := false) (by kernel_rfl)) (by omega)
            · exact bo_f (run5 (s4 := s4) hL (all_cons (a10 (o 0) (z 0) H0) (all_cons (a7 (o 0) (z 10) H1) (all_cons (a10 (o 1) (z 0) H2) (all_cons (a7 (o 1) (z 10) H3) (all_cons (a5 (o 2) (z 0) H4) (all_cons (b10 (o 3) (z (-2147483648)) H5) all_nil)))))) known_nil (a := ag (z 40)) (b := false) (by kernel_rfl)) (by omega)
          · exact bo_f (run5 (s4 := s4) hL (all_cons (a10 (o 0) (z 0) H0) (all_cons (a7 (o 0) (z 10) H1) (all_cons (a10 (o 1) (z 0) H2) (all_cons (a7 (o 1) (z 10) H3) (all_cons (b5 (o 2) (z 0) H4) all_nil))))) known_nil (a := ag (z 40)) (b := false) (by kernel_rfl)) (by omega)
        · exact bo_f (run5 (s4 := s4) hL (all_cons (a10 (o 0) (z 0) H0) (all_cons (a7 (o 0) (z 10) H1) (all_cons (a10 (o 1) (z 0) H2) (all_cons (b7 (o 1) (z 10) H3) all_nil)))) known_nil (a := ag (z 40)) (b := false) (by kernel_rfl)) (by omega)
      · exact bo_f (run5 (s4 := s4) hL (all_cons (a10 (o 0) (z 0) H0) (all_cons (a7 (o 0) (z 10) H1) (all_cons (b10 (o 1) (z 0) H2) all_nil))) known_nil (a := ag (z 40)) (b := false) (by kernel_rfl)) (by omega)
    · exact bo_f (run5 (s4 := s4) hL (all_cons (a10 (o 0) (z 0) H0) (all_cons (b7 (o 0) (z 10) H1) all_nil)) known_nil (a := ag (z 40)) (b := false) (by kernel_rfl)) (by omega)
  · exact bo_f (run5 (s4 := s4) hL (all_cons (b10 (o 0) (z 0) H0) all_nil) known_nil (a := ag (z 40)) (b := false) (by kernel_rfl)) (by omega)
theorem j_r44 {s0 s1 s2 s3 s4 : Int} {W : World} (hL : Laid W) (l3 : -9223372036854775808 ≤ s3) (u3 : s3 ≤ 9223372036854775807) : Calls Tryd.prog 10 #[.agg #[.int .i64 44, .int .i64 s0, .int .i64 s1, .int .i64 s2, .int .i64 s3]] W (Bo W (decide ((0 ≤ s0 ∧ s0 ≤ 9) ∧ (0 ≤ s1 ∧ s1 ≤ 9) ∧ s2 = 0 ∧ (-2147483648 ≤ s3 ∧ s3 ≤ 2147483647)))) := by
  by_cases H0 : 0 ≤ s0
  · by_cases H1 : s0 < 10
    · by_cases H2 : 0 ≤ s1
      · by_cases H3 : s1 < 10
        · by_cases H4 : s2 = 0
          · by_cases H5 : -2147483648 ≤ s3
            · by_cases H6 : s3 < 2147483648
              · exact bo_t (run5 (s4 := s4) hL (all_cons (a10 (o 0) (z 0) H0) (all_cons (a7 (o 0) (z 10) H1) (all_cons (a10 (o 1) (z 0) H2) (all_cons (a7 (o 1) (z 10) H3) (all_cons (a5 (o 2) (z 0) H4) (all_cons (a10 (o 3) (z (-2147483648)) H5) (all_cons (a7 (o 3) (z 2147483648) H6) all_nil))))))) known_nil (a := ag (z 44)) (b := true) (by kernel_rfl)) (by omega)
              · exact bo_f (run5 (s4 := s4) hL (all_cons (a10 (o 0) (z 0) H0) (all_cons (a7 (o 0) (z 10) H1) (all_cons (a10 (o 1) (z 0) H2) (all_cons (a7 (o 1) (z 10) H3) (all_cons (a5 (o 2) (z 0) H4) (all_cons (a10 (o 3) (z (-2147483648)) H5) (all_cons (b7 (o 3) (z 2147483648) H6) all_nil))))))) known_nil (a := ag (z 44)) (b := false) (by kernel_rfl)) (by omega)
            · exact bo_f (run5 (s4 := s4) hL (all_cons (a10 (o 0) (z 0) H0) (all_cons (a7 (o 0) (z 10) H1) (all_cons (a10 (o 1) (z 0) H2) (all_cons (a7 (o 1) (z 10) H3) (all_cons (a5 (o 2) (z 0) H4) (all_cons (b10 (o 3) (z (-2147483648)) H5) all_nil)))))) known_nil (a := ag (z 44)) (b := false) (by kernel_rfl)) (by omega)
          · exact bo_f (run5 (s4 := s4) hL (all_cons (a10 (o 0) (z 0) H0) (all_cons (a7 (o 0) (z 10) H1) (all_cons (a10 (o 1) (z 0) H2) (all_cons (a7 (o 1) (z 10) H3) (all_cons (b5 (o 2) (z 0) H4) all_nil))))) known_nil (a := ag (z 44)) (b := false) (by kernel_rfl)) (by omega)
        · exact bo_f (run5 (s4 := s4) hL (all_cons (a10 (o 0) (z 0) H0) (all_cons (a7 (o 0) (z 10) H1) (all_cons (a10 (o 1) (z 0) H2) (all_cons (b7 (o 1) (z 10) H3) all_nil)))) known_nil (a := ag (z 44)) (b := false) (by kernel_rfl)) (by omega)
      · exact bo_f (run5 (s4 := s4) hL (all_cons (a10 (o 0) (z 0) H0) (all_cons (a7 (o 0) (z 10) H1) (all_cons (b10 (o 1) (z 0) H2) all_nil))) known_nil (a := ag (z 44)) (b := false) (by kernel_rfl)) (by omega)
    · exact bo_f (run5 (s4 := s4) hL (all_cons (a10 (o 0) (z 0) H0) (all_cons (b7 (o 0) (z 10) H1) all_nil)) known_nil (a := ag (z 44)) (b := false) (by kernel_rfl)) (by omega)
  · exact bo_f (run5 (s4 := s4) hL (all_cons (b10 (o 0) (z 0) H0) all_nil) known_nil (a := ag (z 44)) (b := false) (by kernel_rfl)) (by omega)
theorem j_r48 {s0 s1 s2 s3 s4 : Int} {W : World} (hL : Laid W) (l3 : -9223372036854775808 ≤ s3) (u3 : s3 ≤ 9223372036854775807) : Calls Tryd.prog 10 #[.agg #[.int .i64 48, .int .i64 s0, .int .i64 s1, .int .i64 s2, .int .i64 s3]] W (Bo W (decide ((0 ≤ s0 ∧ s0 ≤ 9) ∧ (0 ≤ s1 ∧ s1 ≤ 9) ∧ s2 = 0 ∧ (-2147483648 ≤ s3 ∧ s3 ≤ 2147483647)))) := by
  by_cases H0 : 0 ≤ s0
  · by_cases H1 : s0 < 10
    · by_cases H2 : 0 ≤ s1
      · by_cases H3 : s1 < 10
        · by_cases H4 : s2 = 0
          · by_cases H5 : -2147483648 ≤ s3
            · by_cases H6 : s3 < 2147483648
              · exact bo_t (run5 (s4 := s4) hL (all_cons (a10 (o 0) (z 0) H0) (all_cons (a7 (o 0) (z 10) H1) (all_cons (a10 (o 1) (z 0) H2) (all_cons (a7 (o 1) (z 10) H3) (all_cons (a5 (o 2) (z 0) H4) (all_cons (a10 (o 3) (z (-2147483648)) H5) (all_cons (a7 (o 3) (z 2147483648) H6) all_nil))))))) known_nil (a := ag (z 48)) (b := true) (by kernel_rfl)) (by omega)
              · exact bo_f (run5 (s4 := s4) hL (all_cons (a10 (o 0) (z 0) H0) (all_cons (a7 (o 0) (z 10) H1) (all_cons (a10 (o 1) (z 0) H2) (all_cons (a7 (o 1) (z 10) H3) (all_cons (a5 (o 2) (z 0) H4) (all_cons (a10 (o 3) (z (-2147483648)) H5) (all_cons (b7 (o 3) (z 2147483648) H6) all_nil))))))) known_nil (a := ag (z 48)) (b := false) (by kernel_rfl)) (by omega)
            · exact bo_f (run5 (s4 := s4) hL (all_cons (a10 (o 0) (z 0) H0) (all_cons (a7 (o 0) (z 10) H1) (all_cons (a10 (o 1) (z 0) H2) (all_cons (a7 (o 1) (z 10) H3) (all_cons (a5 (o 2) (z 0) H4) (all_cons (b10 (o 3) (z (-2147483648)) H5) all_nil)))))) known_nil (a := ag (z 48)) (b := false) (by kernel_rfl)) (by omega)
          · exact bo_f (run5 (s4 := s4) hL (all_cons (a10 (o 0) (z 0) H0) (all_cons (a7 (o 0) (z 10) H1) (all_cons (a10 (o 1) (z 0) H2) (all_cons (a7 (o 1) (z 10) H3) (all_cons (b5 (o 2) (z 0) H4) all_nil))))) known_nil (a := ag (z 48)) (b := false) (by kernel_rfl)) (by omega)
        · exact bo_f (run5 (s4 := s4) hL (all_cons (a10 (o 0) (z 0) H0) (all_cons (a7 (o 0) (z 10) H1) (all_cons (a10 (o 1) (z 0) H2) (all_cons (b7 (o 1) (z 10) H3) all_nil)))) known_nil (a := ag (z 48)) (b := false) (by kernel_rfl)) (by omega)
      · exact bo_f (run5 (s4 := s4) hL (all_cons (a10 (o 0) (z 0) H0) (all_cons (a7 (o 0) (z 10) H1) (all_cons (b10 (o 1) (z 0) H2) all_nil))) known_nil (a := ag (z 48)) (b := false) (by kernel_rfl)) (by omega)
    · exact bo_f (run5 (s4 := s4) hL (all_cons (a10 (o 0) (z 0) H0) (all_cons (b7 (o 0) (z 10) H1) all_nil)) known_nil (a := ag (z 48)) (b := false) (by kernel_rfl)) (by omega)
  · exact bo_f (run5 (s4 := s4) hL (all_cons (b10 (o 0) (z 0) H0) all_nil) known_nil (a := ag (z 48)) (b := false) (by kernel_rfl)) (by omega)
theorem j_rhi {s0 s1 s2 s3 s4 : Int} {W : World} (hL : Laid W) (l3 : -9223372036854775808 ≤ s3) (u3 : s3 ≤ 9223372036854775807) (l4 : -9223372036854775808 ≤ s4) (u4 : s4 ≤ 9223372036854775807) (hk : 50 ≤ s4) : Calls Tryd.prog 10 #[.agg #[.int .i64 s4, .int .i64 s0, .int .i64 s1, .int .i64 s2, .int .i64 s3]] W (Bo W (decide (False))) := by
  exact bo_f (run5 (s4 := s4) hL (all_cons (a9 (o 4) (z 15) (show 15 < s4 by omega)) (all_cons (b8 (o 4) (z 29) (show ¬ s4 ≤ 29 by omega)) (all_cons (a9 (o 4) (z 35) (show 35 < s4 by omega)) (all_cons (b8 (o 4) (z 49) (show ¬ s4 ≤ 49 by omega)) (all_cons (b5 (z 1) (o 4) (show ¬ 1 = s4 by omega)) (all_cons (b5 (z 2) (o 4) (show ¬ 2 = s4 by omega)) (all_cons (b5 (z 3) (o 4) (show ¬ 3 = s4 by omega)) (all_cons (b5 (z 4) (o 4) (show ¬ 4 = s4 by omega)) (all_cons (b5 (z 5) (o 4) (show ¬ 5 = s4 by omega)) (all_cons (b5 (z 6) (o 4) (show ¬ 6 = s4 by omega)) (all_cons (b5 (z 11) (o 4) (show ¬ 11 = s4 by omega)) (all_cons (b5 (z 7) (o 4) (show ¬ 7 = s4 by omega)) (all_cons (b5 (z 8) (o 4) (show ¬ 8 = s4 by omega)) (all_cons (b5 (z 9) (o 4) (show ¬ 9 = s4 by omega)) (all_cons (b5 (z 10) (o 4) (show ¬ 10 = s4 by omega)) (all_cons (b5 (z 12) (o 4) (show ¬ 12 = s4 by omega)) (all_cons (b5 (z 13) (o 4) (show ¬ 13 = s4 by omega)) (all_cons (b5 (z 14) (o 4) (show ¬ 14 = s4 by omega)) all_nil)))))))))))))))))) known_nil (a := ag (o 4)) (b := false) (by kernel_rfl)) not_false
end Go.Proofs.YtbkojaiecgdodaaDoor
end
section
set_option linter.unusedVariables false
set_option maxRecDepth 100000
namespace Go.Proofs.YtbkojaiecgdodaaDoor
open Go Go.Ev Go.RowKit
theorem j_v3 {s0 s1 s2 s3 s4 : Int} {W : World} (hL : Laid W) (l3 : -9223372036854775808 ≤ s3) (u3 : s3 ≤ 9223372036854775807) : Calls Tryd.prog 9 #[.agg #[.int .i64 3, .int .i64 s0, .int .i64 s1, .int .i64 s2, .int .i64 s3]] W (Bo W (decide ((0 ≤ s0 ∧ s0 ≤ 9) ∧ s1 = 0 ∧ s2 = 0))) := by
  by_cases H0 : 0 ≤ s0
  · by_cases H1 : s0 ≤ 9
    · by_cases H2 : 0 ≤ s1
      · by_cases H3 : s1 ≤ 0
        · by_cases H4 : 0 ≤ s2
          · by_cases H5 : s2 ≤ 0
            · by_cases H6 : -9223372036854775808 ≤ s3
              · by_cases H7 : s3 ≤ 9223372036854775807
                · exact bo_t (run5 (s4 := s4) hL (all_cons (a8 (z 0) (o 0) H0) (all_cons (a8 (o 0) (z 9) H1) (all_cons (a8 (z 0) (o 1) H2) (all_cons (a8 (o 1) (z 0) H3) (all_cons (a8 (z 0) (o 2) H4) (all_cons (a8 (o 2) (z 0) H5) (all_cons (a8 (z (-9223372036854775808)) (o 3) H6) (all_cons (a8 (o 3) (z 9223372036854775807) H7) all_nil)))))))) known_nil (a := ag (z 3)) (b := true) (by kernel_rfl)) (by omega)
                · exact bo_f (run5 (s4 := s4) hL (all_cons (a8 (z 0) (o 0) H0) (all_cons (a8 (o 0) (z 9) H1) (all_cons (a8 (z 0) (o 1) H2) (all_cons (a8 (o 1) (z 0) H3) (all_cons (a8 (z 0) (o 2) H4) (all_cons (a8 (o 2) (z 0) H5) (all_cons (a8 (z (-9223372036854775808)) (o 3) H6) (all_cons (b8 (o 3) (z 9223372036854775807) H7) all_nil)))))))) known_nil (a := ag (z 3)) (b := false) (by kernel_rfl)) (by omega)
              · exact bo_f (run5 (s4 := s4) hL (all_cons (a8 (z 0) (o 0) H0) (all_cons (a8 (o 0) (z 9) H1) (all_cons (a8 (z 0) (o 1) H2) (all_cons (a8 (o 1) (z 0) H3) (all_cons (a8 (z 0) (o 2) H4) (all_cons (a8 (o 2) (z 0) H5) (all_cons (b8 (z (-9223372036854775808)) (o 3) H6) all_nil))))))) known_nil (a := ag (z 3)) (b := false) (by kernel_rfl)) (by omega)
            · exact bo_f (run5 (s4 := s4) hL (all_cons (a8 (z 0) (o 0) H0) (all_cons (a8 (o 0) (z 9) H1) (all_cons (a8 (z 0) (o 1) H2) (all_cons (a8 (o 1) (z 0) H3) (all_cons (a8 (z 0) (o 2) H4) (all_cons (b8 (o 2) (z 0) H5) all_nil)))))) known_nil (a := ag (z 3)) (b := false) (by kernel_rfl)) (by omega)
          · exact bo_f (run5 (s4 := s4) hL (all_cons (a8 (z 0) (o 0) H0) (all_cons (a8 (o 0) (z 9) H1) (all_cons (a8 (z 0) (o 1) H2) (all_cons (a8 (o 1) (z 0) H3) (all_cons (b8 (z 0) (o 2) H4) all_nil))))) known_nil (a := ag (z 3)) (b := false) (by kernel_rfl)) (by omega)
        · exact bo_f (run5 (s4 := s4) hL (all_cons (a8 (z 0) (o 0) H0) (all_cons (a8 (o 0) (z 9) H1) (all_cons (a8 (z 0) (o 1) H2) (all_cons (b8 (o 1) (z 0) H3) all_nil)))) known_nil (a := ag (z 3)) (b := false) (by kernel_rfl)) (by omega)
      · exact bo_f (run5 (s4 := s4) hL (all_cons (a8 (z 0) (o 0) H0) (all_cons (a8 (o 0) (z 9) H1) (all_cons (b8 (z 0) (o 1) H2) all_nil))) known_nil (a := ag (z 3)) (b := false) (by kernel_rfl)) (by omega)
    · exact bo_f (run5 (s4 := s4) hL (all_cons (a8 (z 0) (o 0) H0) (all_cons (b8 (o 0) (z 9) H1) all_nil)) known_nil (a := ag (z 3)) (b := false) (by kernel_rfl)) (by omega)
  · exact bo_f (run5 (s4 := s4) hL (all_cons (b8 (z 0) (o 0) H0) all_nil) known_nil (a := ag (z 3)) (b := false) (by kernel_rfl)) (by omega)
theorem j_v7 {s0 s1 s2 s3 s4 : Int} {W : World} (hL : Laid W) (l3 : -9223372036854775808 ≤ s3) (u3 : s3 ≤ 9223372036854775807) : Calls Tryd.prog 9 #[.agg #[.int .i64 7, .int .i64 s0, .int .i64 s1, .int .i64 s2, .int .i64 s3]] W (Bo W (decide (s0 = 0 ∧ (0 ≤ s1 ∧ s1 ≤ 9) ∧ s2 = 0 ∧ (0 ≤ s3 ∧ s3 ≤ 20000)))) := by
  by_cases H0 : 0 ≤ s0
  · by_cases H1 : s0 ≤ 0
    · by_cases H2 : 0 ≤ s1
      · by_cases H3 : s1 ≤ 9
        · by_cases H4 : 0 ≤ s2
          · by_cases H5 : s2 ≤ 0
            · by_cases H6 : 0 ≤ s3
              · by_cases H7 : s3 ≤ 20000
                · exact bo_t (run5 (s4 := s4) hL (all_cons (a8 (z 0) (o 0) H0) (all_cons (a8 (o 0) (z 0) H1) (all_cons (a8 (z 0) (o 1) H2) (all_cons (a8 (o 1) (z 9) H3) (all_cons (a8 (z 0) (o 2) H4) (all_cons (a8 (o 2) (z 0) H5) (all_cons (a8 (z 0) (o 3) H6) (all_cons (a8 (o 3) (z 20000) H7) all_nil)))))))) known_nil (a := ag (z 7)) (b := true) (by kernel_rfl)) (by omega)
                · exact bo_f (run5 (s4 := s4) hL (all_cons (a8 (z 0) (o 0) H0) (all_cons (a8 (o 0) (z 0) H1) (all_cons (a8 (z 0) (o 1) H2) (all_cons (a8 (o 1) (z 9) H3) (all_cons (a8 (z 0) (o 2) H4) (all_cons (a8 (o 2) (z 0) H5) (all_cons (a8 (z 0) (o 3) H6) (all_cons (b8 (o 3) (z 20000) H7) all_nil)))))))) known_nil (a := ag (z 7)) (b := false) (by kernel_rfl)) (by omega)
              · exact bo_f (run5 (s4 := s4) hL (all_cons (a8 (z 0) (o 0) H0) (all_cons (a8 (o 0) (z 0) H1) (all_cons (a8 (z 0) (o 1) H2) (all_cons (a8 (o 1) (z 9) H3) (all_cons (a8 (z 0) (o 2) H4) (all_cons (a8 (o 2) (z 0) H5) (all_cons (b8 (z 0) (o 3) H6) all_nil))))))) known_nil (a := ag (z 7)) (b := false) (by kernel_rfl)) (by omega)
            · exact bo_f (run5 (s4 := s4) hL (all_cons (a8 (z 0) (o 0) H0) (all_cons (a8 (o 0) (z 0) H1) (all_cons (a8 (z 0) (o 1) H2) (all_cons (a8 (o 1) (z 9) H3) (all_cons (a8 (z 0) (o 2) H4) (all_cons (b8 (o 2) (z 0) H5) all_nil)))))) known_nil (a := ag (z 7)) (b := false) (by kernel_rfl)) (by omega)
          · exact bo_f (run5 (s4 := s4) hL (all_cons (a8 (z 0) (o 0) H0) (all_cons (a8 (o 0) (z 0) H1) (all_cons (a8 (z 0) (o 1) H2) (all_cons (a8 (o 1) (z 9) H3) (all_cons (b8 (z 0) (o 2) H4) all_nil))))) known_nil (a := ag (z 7)) (b := false) (by kernel_rfl)) (by omega)
        · exact bo_f (run5 (s4 := s4) hL (all_cons (a8 (z 0) (o 0) H0) (all_cons (a8 (o 0) (z 0) H1) (all_cons (a8 (z 0) (o 1) H2) (all_cons (b8 (o 1) (z 9) H3) all_nil)))) known_nil (a := ag (z 7)) (b := false) (by kernel_rfl)) (by omega)
      · exact bo_f (run5 (s4 := s4) hL (all_cons (a8 (z 0) (o 0) H0) (all_cons (a8 (o 0) (z 0) H1) (all_cons (b8 (z 0) (o 1) H2) all_nil))) known_nil (a := ag (z 7)) (b := false) (by kernel_rfl)) (by omega)
    · exact bo_f (run5 (s4 := s4) hL (all_cons (a8 (z 0) (o 0) H0) (all_cons (b8 (o 0) (z 0) H1) all_nil)) known_nil (a := ag (z 7)) (b := false) (by kernel_rfl)) (by omega)
  · exact bo_f (run5 (s4 := s4) hL (all_cons (b8 (z 0) (o 0) H0) all_nil) known_nil (a := ag (z 7)) (b := false) (by kernel_rfl)) (by omega)
theorem j_v11 {s0 s1 s2 s3 s4 : Int} {W : World} (hL : Laid W) (l3 : -9223372036854775808 ≤ s3) (u3 : s3 ≤ 9223372036854775807) : Calls Tryd.prog 9 #[.agg #[.int .i64 11, .int .i64 s0, .int .i64 s1, .int .i64 s2, .int .i64 s3]] W (Bo W (decide (s0 = 0 ∧ s1 = 0 ∧ s2 = 0 ∧ (0 ≤ s3 ∧ s3 ≤ 20000)))) := by
  by_cases H0 : 0 ≤ s0
  · by_cases H1 : s0 ≤ 0
    · by_cases H2 : 0 ≤ s1
      · by_cases H3 : s1 ≤ 0
        · by_cases H4 : 0 ≤ s2
          · by_cases H5 : s2 ≤ 0
            · by_cases H6 : 0 ≤ s3
              · by_cases H7 : s3 ≤ 20000
                · exact bo_t (run5 (s4 := s4) hL (all_cons (a8 (z 0) (o 0) H0) (all_cons (a8 (o 0) (z 0) H1) (all_cons (a8 (z 0) (o 1) H2) (all_cons (a8 (o 1) (z 0) H3) (all_cons (a8 (z 0) (o 2) H4) (all_cons (a8 (o 2) (z 0) H5) (all_cons (a8 (z 0) (o 3) H6) (all_cons (a8 (o 3) (z 20000) H7) all_nil)))))))) known_nil (a := ag (z 11)) (b := true) (by kernel_rfl)) (by omega)
                · exact bo_f (run5 (s4 := s4) hL (all_cons (a8 (z 0) (o 0) H0) (all_cons (a8 (o 0) (z 0) H1) (all_cons (a8 (z 0) (o 1) H2) (all_cons (a8 (o 1) (z 0) H3) (all_cons (a8 (z 0) (o 2) H4) (all_cons (a8 (o 2) (z 0) H5) (all_cons (a8 (z 0) (o 3) H6) (all_cons (b8 (o 3) (z 20000) H7) all_nil)))))))) known_nil (a := ag (z 11)) (b := false) (by kernel_rfl)) (by omega)
              · exact bo_f (run5 (s4 := s4) hL (all_cons (a8 (z 0) (o 0) H0) (all_cons (a8 (o 0) (z 0) H1) (all_cons (a8 (z 0) (o 1) H2) (all_cons (a8 (o 1) (z 0) H3) (all_cons (a8 (z 0) (o 2) H4) (all_cons (a8 (o 2) (z 0) H5) (all_cons (b8 (z 0) (o 3) H6) all_nil))))))) known_nil (a := ag (z 11)) (b := false) (by kernel_rfl)) (by omega)
            · exact bo_f (run5 (s4 := s4) hL (all_cons (a8 (z 0) (o 0) H0) (all_cons (a8 (o 0) (z 0) H1) (all_cons (a8 (z 0) (o 1) H2) (all_cons (a8 (o 1) (z 0) H3) (all_cons (a8 (z 0) (o 2) H4) (all_cons (b8 (o 2) (z 0) H5) all_nil)))))) known_nil (a := ag (z 11)) (b := false) (by kernel_rfl)) (by omega)
          · exact bo_f (run5 (s4 := s4) hL (all_cons (a8 (z 0) (o 0) H0) (all_cons (a8 (o 0) (z 0) H1) (all_cons (a8 (z 0) (o 1) H2) (all_cons (a8 (o 1) (z 0) H3) (all_cons (b8 (z 0) (o 2) H4) all_nil))))) known_nil (a := ag (z 11)) (b := false) (by kernel_rfl)) (by omega)
        · exact bo_f (run5 (s4 := s4) hL (all_cons (a8 (z 0) (o 0) H0) (all_cons (a8 (o 0) (z 0) H1) (all_cons (a8 (z 0) (o 1) H2) (all_cons (b8 (o 1) (z 0) H3) all_nil)))) known_nil (a := ag (z 11)) (b := false) (by kernel_rfl)) (by omega)
      · exact bo_f (run5 (s4 := s4) hL (all_cons (a8 (z 0) (o 0) H0) (all_cons (a8 (o 0) (z 0) H1) (all_cons (b8 (z 0) (o 1) H2) all_nil))) known_nil (a := ag (z 11)) (b := false) (by kernel_rfl)) (by omega)
    · exact bo_f (run5 (s4 := s4) hL (all_cons (a8 (z 0) (o 0) H0) (all_cons (b8 (o 0) (z 0) H1) all_nil)) known_nil (a := ag (z 11)) (b := false) (by kernel_rfl)) (by omega)
  · exact bo_f (run5 (s4 := s4) hL (all_cons (b8 (z 0) (o 0) H0) all_nil) known_nil (a := ag (z 11)) (b := false) (by kernel_rfl)) (by omega)
theorem j_v15 {s0 s1 s2 s3 s4 : Int} {W : World} (hL : Laid W) (l3 : -9223372036854775808 ≤ s3) (u3 : s3 ≤ 9223372036854775807) : Calls Tryd.prog 9 #[.agg #[.int .i64 15, .int .i64 s0, .int .i64 s1, .int .i64 s2, .int .i64 s3]] W (Bo W (decide (False))) := by
  exact bo_f (run5 (s4 := s4) hL all_nil known_nil (a := ag (z 15)) (b := false) (by kernel_rfl)) not_false
theorem j_vbin {s0 s1 s2 s3 s4 : Int} {W : World} (hL : Laid W) (l3 : -9223372036854775808 ≤ s3) (u3 : s3 ≤ 9223372036854775807) (l4 : -9223372036854775808 ≤ s4) (u4 : s4 ≤ 9223372036854775807) (hk : 16 ≤ s4 ∧ s4 ≤ 29) : Calls Tryd.prog 9 #[.agg #[.int .i64 s4, .int .i64 s0, .int .i64 s1, .int .i64 s2, .int .i64 s3]] W (Bo W (decide ((0 ≤ s0 ∧ s0 ≤ 9) ∧ (0 ≤ s1 ∧ s1 ≤ 9) ∧ (0 ≤ s2 ∧ s2 ≤ 9) ∧ s3 = 0))) := by
  by_cases H0 : 0 ≤ s0
  · by_cases H1 : s0 ≤ 9
    · by_cases H2 : 0 ≤ s1
      · by_cases H3 : s1 ≤ 9
        · by_cases H4 : 0 ≤ s2
          · by_cases H5 : s2 ≤ 9
            · by_cases H6 : 0 ≤ s3
              · by_cases H7 : s3 ≤ 0
                · exact bo_t (run5 (s4 := s4) hL (all_cons (a10 (o 4) (z 1) (show 1 ≤ s4 by omega)) (all_cons (b8 (o 4) (z 14) (show ¬ s4 ≤ 14 by omega)) (all_cons (m15) (all_cons (a10 (o 6) (z 1) (show 1 ≤ (IntKind.i64.wrap (s4 - 15)) by simp only [IntKind.wrap_i64] at *; omega)) (all_cons (a8 (o 6) (z 14) (show (IntKind.i64.wrap (s4 - 15)) ≤ 14 by simp only [IntKind.wrap_i64] at *; omega)) (all_cons (a8 (z 0) (o 0) H0) (all_cons (a8 (o 0) (z 9) H1) (all_cons (a8 (z 0) (o 1) H2) (all_cons (a8 (o 1) (z 9) H3) (all_cons (a8 (z 0) (o 2) H4) (all_cons (a8 (o 2) (z 9) H5) (all_cons (a8 (z 0) (o 3) H6) (all_cons (a8 (o 3) (z 0) H7) all_nil))))))))))))) known_nil (a := ag (o 4)) (b := true) (by kernel_rfl)) (by omega)
                · exact bo_f (run5 (s4 := s4) hL (all_cons (a10 (o 4) (z 1) (show 1 ≤ s4 by omega)) (all_cons (b8 (o 4) (z 14) (show ¬ s4 ≤ 14 by omega)) (all_cons (m15) (all_cons (a10 (o 6) (z 1) (show 1 ≤ (IntKind.i64.wrap (s4 - 15)) by simp only [IntKind.wrap_i64] at *; omega)) (all_cons (a8 (o 6) (z 14) (show (IntKind.i64.wrap (s4 - 15)) ≤ 14 by simp only [IntKind.wrap_i64] at *; omega)) (all_cons (a8 (z 0) (o 0) H0) (all_cons (a8 (o 0) (z 9) H1) (all_cons (a8 (z 0) (o 1) H2) (all_cons (a8 (o 1) (z 9) H3) (all_cons (a8 (z 0) (o 2) H4) (all_cons (a8 (o 2) (z 9) H5) (all_cons (a8 (z 0) (o 3) H6) (all_cons (b8 (o 3) (z 0) H7) all_nil))))))))))))) known_nil (a := ag (o 4)) (b := false) (by kernel_rfl)) (by omega)
              · exact bo_f (run5 (s4 := s4) hL (all_cons (a10 (o 4) (z 1) (show 1 ≤ s4 by omega)) (all_cons (b8 (o 4) (z 14) (show ¬ s4 ≤ 14 by omega)) (all_cons (m15) (all_cons (a10 (o 6) (z 1) (show 1 ≤ (IntKind.i64.wrap (s4 - 15)) by simp only [IntKind.wrap_i64] at *; omega)) (all_cons (a8 (o 6) (z 14) (show (IntKind.i64.wrap (s4 - 15)) ≤ 14 by simp only [IntKind.wrap_i64] at *; omega)) (all_cons (a8 (z 0) (o 0) H0) (all_cons (a8 (o 0) (z 9) H1) (all_cons (a8 (z 0) (o 1) H2) (all_cons (a8 (o 1) (z 9) H3) (all_cons (a8 (z 0) (o 2) H4) (all_cons (a8 (o 2) (z 9) H5) (all_cons (b8 (z 0) (o 3) H6) all_nil)))))))))))) known_nil (a := ag (o 4)) (b := false) (by kernel_rfl)) (by omega)
            · exact bo_f (run5 (s4 := s4) hL (all_cons (a10 (o 4) (z 1) (show 1 ≤ s4 by omega)) (all_cons (b8 (o 4) (z 14) (show ¬ s4 ≤ 14 by omega)) (all_cons (m15) (all_cons (a10 (o 6) (z 1) (show 1 ≤ (IntKind.i64.wrap (s4 - 15)) by simp only [IntKind.wrap_i64] at *; omega)) (all_cons (a8 (o 6) (z 14) (show (IntKind.i64.wrap (s4 - 15)) ≤ 14 by simp only [IntKind.wrap_i64] at *; omega)) (all_cons (a8 (z 0) (o 0) H0) (all_cons (a8 (o 0) (z 9) H1) (all_cons (a8 (z 0) (o 1) H2) (all_cons (a8 (o 1) (z 9) H3) (all_cons (a8 (z 0) (o 2) H4) (all_cons (b8 (o 2) (z 9) H5) all_nil))))))))))) known_nil (a := ag (o 4)) (b := false) (by kernel_rfl)) (by omega)
          · exact bo_f (run5 (s4 := s4) hL (all_cons (a10 (o 4) (z 1) (show 1 ≤ s4 by omega)) (all_cons (b8 (o 4) (z 14) (show ¬ s4 ≤ 14 by omega)) (all_cons (m15) (all_cons (a10 (o 6) (z 1) (show 1 ≤ (IntKind.i64.wrap (s4 - 15)) by simp only [IntKind.wrap_i64] at *; omega)) (all_cons (a8 (o 6) (z 14) (show (IntKind.i64.wrap (s4 - 15)) ≤ 14 by simp only [IntKind.wrap_i64] at *; omega)) (all_cons (a8 (z 0) (o 0) H0) (all_cons (a8 (o 0) (z 9) H1) (all_cons (a8 (z 0) (o 1) H2) (all_cons (a8 (o 1) (z 9) H3) (all_cons (b8 (z 0) (o 2) H4) all_nil)))))))))) known_nil (a := ag (o 4)) (b := false) (by kernel_rfl)) (by omega)
        · exact bo_f (run5 (s4 := s4) hL (all_cons (a10 (o 4) (z 1) (show 1 ≤ s4 by omega)) (all_cons (b8 (o 4) (z 14) (show ¬ s4 ≤ 14 by omega)) (all_cons (m15) (all_cons (a10 (o 6) (z 1) (show 1 ≤ (IntKind.i64.wrap (s4 - 15)) by simp only [IntKind.wrap_i64] at *; omega)) (all_cons (a8 (o 6) (z 14) (show (IntKind.i64.wrap (s4 - 15)) ≤ 14 by simp only [IntKind.wrap_i64] at *; omega)) (all_cons (a8 (z 0) (o 0) H0) (all_cons (a8 (o 0) (z 9) H1) (all_cons (a8 (z 0) (o 1) H2) (all_cons (b8 (o 1) (z 9) H3) all_nil))))))))) known_nil (a := ag (o 4)) (b := false) (by kernel_rfl)) (by omega)
      · exact bo_f (run5 (s4 := s4) hL (all_cons (a10 (o 4) (z 1) (show 1 ≤ s4 by omega)) (all_cons (b8 (o 4) (z 14) (show ¬ s4 ≤ 14 by omega)) (all_cons (m15) (all_cons (a10 (o 6) (z 1) (show 1 ≤ (IntKind.i64.wrap (s4 - 15)) by simp only [IntKind.wrap_i64] at *; omega)) (all_cons (a8 (o 6) (z 14) (show (IntKind.i64.wrap (s4 - 15)) ≤ 14 by simp only [IntKind.wrap_i64] at *; omega)) (all_cons (a8 (z 0) (o 0) H0) (all_cons (a8 (o 0) (z 9) H1) (all_cons (b8 (z 0) (o 1) H2) all_nil)))))))) known_nil (a := ag (o 4)) (b := false) (by kernel_rfl)) (by omega)
    · exact bo_f (run5 (s4 := s4) hL (all_cons (a10 (o 4) (z 1) (show 1 ≤ s4 by omega)) (all_cons (b8 (o 4) (z 14) (show ¬ s4 ≤ 14 by omega)) (all_cons (m15) (all_cons (a10 (o 6) (z 1) (show 1 ≤ (IntKind.i64.wrap (s4 - 15)) by simp only [IntKind.wrap_i64] at *; omega)) (all_cons (a8 (o 6) (z 14) (show (IntKind.i64.wrap (s4 - 15)) ≤ 14 by simp only [IntKind.wrap_i64] at *; omega)) (all_cons (a8 (z 0) (o 0) H0) (all_cons (b8 (o 0) (z 9) H1) all_nil))))))) known_nil (a := ag (o 4)) (b := false) (by kernel_rfl)) (by omega)
  · exact bo_f (run5 (s4 := s4) hL (all_cons (a10 (o 4) (z 1) (show 1 ≤ s4 by omega)) (all_cons (b8 (o 4) (z 14) (show ¬ s4 ≤ 14 by omega)) (all_cons (m15) (all_cons (a10 (o 6) (z 1) (show 1 ≤ (IntKind.i64.wrap (s4 - 15)) by simp only [IntKind.wrap_i64] at *; omega)) (all_cons (a8 (o 6) (z 14) (show (IntKind.i64.wrap (s4 - 15)) ≤ 14 by simp only [IntKind.wrap_i64] at *; omega)) (all_cons (b8 (z 0) (o 0) H0) all_nil)))))) known_nil (a := ag (o 4)) (b := false) (by kernel_rfl)) (by omega)
theorem j_r3 {s0 s1 s2 s3 s4 : Int} {W : World} (hL : Laid W) (l3 : -9223372036854775808 ≤ s3) (u3 : s3 ≤ 9223372036854775807) : Calls Tryd.prog 10 #[.agg #[.int .i64 3, .int .i64 s0, .int .i64 s1, .int .i64 s2, .int .i64 s3]] W (Bo W (decide ((0 ≤ s0 ∧ s0 ≤ 9) ∧ s1 = 0 ∧ s2 = 0))) := by
  by_cases H0 : 0 ≤ s0
  · by_cases H1 : s0 < 10
    · by_cases H2 : s1 = 0
      · by_cases H3 : s2 = 0
        · exact bo_t (run5 (s4 := s4) hL (all_cons (a10 (o 0) (z 0) H0) (all_cons (a7 (o 0) (z 10) H1) (all_cons (a5 (o 1) (z 0) H2) (all_cons (a5 (o 2) (z 0) H3) all_nil)))) known_nil (a := ag (z 3)) (b := true) (by kernel_rfl)) (by omega)
        · exact bo_f (run5 (s4 := s4) hL (all_cons (a10 (o 0) (z 0) H0) (all_cons (a7 (o 0) (z 10) H1) (all_cons (a5 (o 1) (z 0) H2) (all_cons (b5 (o 2) (z 0) H3) all_nil)))) known_nil (a := ag (z 3)) (b := false) (by kernel_rfl)) (by omega)
      · exact bo_f (run5 (s4 := s4) hL (all_cons (a10 (o 0) (z 0) H0) (all_cons (a7 (o 0) (z 10) H1) (all_cons (b5 (o 1) (z 0) H2) all_nil))) known_nil (a := ag (z 3)) (b := false) (by kernel_rfl)) (by omega)
    · exact bo_f (run5 (s4 := s4) hL (all_cons (a10 (o 0) (z 0) H0) (all_cons (b7 (o 0) (z 10) H1) all_nil)) known_nil (a := ag (z 3)) (b := false) (by kernel_rfl)) (by omega)
  · exact bo_f (run5 (s4 := s4) hL (all_cons (b10 (o 0) (z 0) H0) all_nil) known_nil (a := ag (z 3)) (b := false) (by kernel_rfl)) (by omega)
theorem j_r7 {s0 s1 s2 s3 s4 : Int} {W : World} (hL : Laid W) (l3 : -9223372036854775808 ≤ s3) (u3 : s3 ≤ 9223372036854775807) : Calls Tryd.prog 10 #[.agg #[.int .i64 7, .int .i64 s0, .int .i64 s1, .int .i64 s2, .int .i64 s3]] W (Bo W (decide (s0 = 0 ∧ (0 ≤ s1 ∧ s1 ≤ 9) ∧ s2 = 0 ∧ (0 ≤ s3 ∧ s3 ≤ 20000)))) := by
  by_cases H0 : s0 = 0
  · by_cases H1 : 0 ≤ s1
    · by_cases H2 : s1 < 10
      · by_cases H3 : s2 = 0
        · by_cases H4 : 0 ≤ s3
          · by_cases H5 : s3 ≤ 20000
            · exact bo_t (run5 (s4 := s4) hL (all_cons (a5 (o 0) (z 0) H0) (all_cons (a10 (o 1) (z 0) H1) (all_cons (a7 (o 1) (z 10) H2) (all_cons (a5 (o 2) (z 0) H3) (all_cons (a10 (o 3) (z 0) H4) (all_cons (a8 (o 3) (z 20000) H5) all_nil)))))) known_nil (a := ag (z 7)) (b := true) (by kernel_rfl)) (by omega)
            · exact bo_f (run5 (s4 := s4) hL (all_cons (a5 (o 0) (z 0) H0) (all_cons (a10 (o 1) (z 0) H1) (all_cons (a7 (o 1) (z 10) H2) (all_cons (a5 (o 2) (z 0) H3) (all_cons (a10 (o 3) (z 0) H4) (all_cons (b8 (o 3) (z 20000) H5) all_nil)))))) known_nil (a := ag (z 7)) (b := false) (by kernel_rfl)) (by omega)
          · exact bo_f (run5 (s4 := s4) hL (all_cons (a5 (o 0) (z 0) H0) (all_cons (a10 (o 1) (z 0) H1) (all_cons (a7 (o 1) (z 10) H2) (all_cons (a5 (o 2) (z 0) H3) (all_cons (b10 (o 3) (z 0) H4) all_nil))))) known_nil (a := ag (z 7)) (b := false) (by kernel_rfl)) (by omega)
        · exact bo_f (run5 (s4 := s4) hL (all_cons (a5 (o 0) (z 0) H0) (all_cons (a10 (o 1) (z 0) H1) (all_cons (a7 (o 1) (z 10) H2) (all_cons (b5 (o 2) (z 0) H3) all_nil)))) known_nil (a := ag (z 7)) (b := false) (by kernel_rfl)) (by omega)
      · exact bo_f (run5 (s4 := s4) hL (all_cons (a5 (o 0) (z 0) H0) (all_cons (a10 (o 1) (z 0) H1) (all_cons (b7 (o 1) (z 10) H2) all_nil))) known_nil (a := ag (z 7)) (b := false) (by kernel_rfl)) (by omega)
    · exact bo_f (run5 (s4 := s4) hL (all_cons (a5 (o 0) (z 0) H0) (all_cons (b10 (o 1) (z 0) H1) all_nil)) known_nil (a := ag (z 7)) (b := false) (by kernel_rfl)) (by omega)
  · exact bo_f (run5 (s4 := s4) hL (all_cons (b5 (o 0) (z 0) H0) all_nil) known_nil (a := ag (z 7)) (b := false) (by kernel_rfl)) (by omega)
theorem j_r11 {s0 s1 s2 s3 s4 : Int} {W : World} (hL : Laid W) (l3 : -9223372036854775808 ≤ s3) (u3 : s3 ≤ 9223372036854775807) : Calls Tryd.prog 10 #[.agg #[.int .i64 11, .int .i64 s0, .int .i64 s1, .int .i64 s2, .int .i64 s3]] W (Bo W (decide (s0 = 0 ∧ s1 = 0 ∧ s2 = 0 ∧ (0 ≤ s3 ∧ s3 ≤ 20000)))) := by
  by_cases H0 : s0 = 0
  · by_cases H1 : s1 = 0
    · by_cases H2 : s2 = 0
      · by_cases H3 : 0 ≤ s3
        · by_cases H4 : s3 ≤ 20000
          · exact bo_t (run5 (s4 := s4) hL (all_cons (a5 (o 0) (z 0) H0) (all_cons (a5 (o 1) (z 0) H1) (all_cons (a5 (o 2) (z 0) H2) (all_cons (a10 (o 3) (z 0) H3) (all_cons (a8 (o 3) (z 20000) H4) all_nil))))) known_nil (a := ag (z 11)) (b := true) (by kernel_rfl)) (by omega)
          · exact bo_f (run5 (s4 := s4) hL (all_cons (a5 (o 0) (z 0) H0) (all_cons (a5 (o 1) (z 0) H1) (all_cons (a5 (o 2) (z 0) H2) (all_cons (a10 (o 3) (z 0) H3) (all_cons (b8 (o 3) (z 20000) H4) all_nil))))) known_nil (a := ag (z 11)) (b := false) (by kernel_rfl)) (by omega)
        · exact bo_f (run5 (s4 := s4) hL (all_cons (a5 (o 0) (z 0) H0) (all_cons (a5 (o 1) (z 0) H1) (all_cons (a5 (o 2) (z 0) H2) (all_cons (b10 (o 3) (z 0) H3) all_nil)))) known_nil (a := ag (z 11)) (b := false) (by kernel_rfl)) (by omega)
      · exact bo_f (run5 (s4 := s4) hL (all_cons (a5 (o 0) (z 0) H0) (all_cons (a5 (o 1) (z 0) H1) (all_cons (b5 (o 2) (z 0) H2) all_nil))) known_nil (a := ag (z 11)) (b := false) (by kernel_rfl)) (by omega)
    · exact bo_f (run5 (s4 := s4) hL (all_cons (a5 (o 0) (z 0) H0) (all_cons (b5 (o 1) (z 0) H1) all_nil)) known_nil (a := ag (z 11)) (b := false) (by kernel_rfl)) (by omega)
  · exact bo_f (run5 (s4 := s4) hL (all_cons (b5 (o 0) (z 0) H0) all_nil) known_nil (a := ag (z 11)) (b := false) (by kernel_rfl)) (by omega)
theorem j_r15 {s0 s1 s2 s3 s4 : Int} {W : World} (hL : Laid W) (l3 : -9223372036854775808 ≤ s3) (u3 : s3 ≤ 9223372036854775807) : Calls Tryd.prog 10 #[.agg #[.int .i64 15, .int .i64 s0, .int .i64 s1, .int .i64 s2, .int .i64 s3]] W (Bo W (decide (False))) := by
  exact bo_f (run5 (s4 := s4) hL all_nil known_nil (a := ag (z 15)) (b := false) (by kernel_rfl)) not_false
theorem j_r19 {s0 s1 s2 s3 s4 : Int} {W : World} (hL : Laid W) (l3 : -9223372036854775808 ≤ s3) (u3 : s3 ≤ 9223372036854775807) : Calls Tryd.prog 10 #[.agg #[.int .i64 19, .int .i64 s0, .int .i64 s1, .int .i64 s2, .int .i64 s3]] W (Bo W (decide ((0 ≤ s0 ∧ s0 ≤ 9) ∧ (0 ≤ s1 ∧ s1 ≤ 9) ∧ (0 ≤ s2 ∧ s2 ≤ 9) ∧ s3 = 0))) := by
  by_cases H0 : 0 ≤ s0
  · by_cases H1 : s0 < 10
    · by_cases H2 : 0 ≤ s1
      · by_cases H3 : s1 < 10
        · by_cases H4 : 0 ≤ s2
          · by_cases H5 : s2 < 10
            · by_cases H6 : s3 = 0
              · exact bo_t (run5 (s4 := s4) hL (all_cons (a10 (o 0) (z 0) H0) (all_cons (a7 (o 0) (z 10) H1) (all_cons (a10 (o 1) (z 0) H2) (all_cons (a7 (o 1) (z 10) H3) (all_cons (a10 (o 2) (z 0) H4) (all_cons (a7 (o 2) (z 10) H5) (all_cons (a5 (o 3) (z 0) H6) all_nil))))))) known_nil (a := ag (z 19)) (b := true) (by kernel_rfl)) (by omega)
              · exact bo_f (run5 (s4 := s4) hL (all_cons (a10 (o 0) (z 0) H0) (all_cons (a7 (o 0) (z 10) H1) (all_cons (a10 (o 1) (z 0) H2) (all_cons (a7 (o 1) (z 10) H3) (all_cons (a10 (o 2) (z 0) H4) (all_cons (a7 (o 2) (z 10) H5) (all_cons (b5 (o 3) (z 0) H6) all_nil))))))) known_nil (a := ag (z 19)) (b := false) (by kernel_rfl)) (by omega)
            · exact bo_f (run5 (s4 := s4) hL (all_cons (a10 (o 0) (z 0) H0) (all_cons (a7 (o 0) (z 10) H1) (all_cons (a10 (o 1) (z 0) H2) (all_cons (a7 (o 1) (z 10) H3) (all_cons (a10 (o 2) (z 0) H4) (all_cons (b7 (o 2) (z 10) H5) all_nil)))))) known_nil (a := ag (z 19)) (b := false) (by kernel_rfl)) (by omega)
          · exact bo_f (run5 (s4 := s4) hL (all_cons (a10 (o 0) (z 0) H0) (all_cons (a7 (o 0) (z 10) H1) (all_cons (a10 (o 1) (z 0) H2) (all_cons (a7 (o 1) (z 10) H3) (all_cons (b10 (o 2) (z 0) H4) all_nil))))) known_nil (a := ag (z 19)) (b := false) (by kernel_rfl)) (by omega)
        · exact bo_f (run5 (s4 := s4) hL (all_cons (a10 (o 0) (z 0) H0) (all_cons (a7 (o 0) (z 10) H1) (all_cons (a10 (o 1) (z 0) H2) (all_cons (b7 (o 1) (z 10) H3) all_nil)))) known_nil (a := ag (z 19)) (b := false) (by kernel_rfl)) (by omega)
      · exact bo_f (run5 (s4 := s4) hL (all_cons (a10 (o 0) (z 0) H0) (all_cons (a7 (o 0) (z 10) H1) (all_cons (b10 (o 1) (z 0) H2) all_nil))) known_nil (a := ag (z 19)) (b := false) (by kernel_rfl)) (by omega)
    · exact bo_f (run5 (s4 := s4) hL (all_cons (a10 (o 0) (z 0) H0) (all_cons (b7 (o 0) (z 10) H1) all_nil)) known_nil (a := ag (z 19)) (b := false) (by kernel_rfl)) (by omega)
  · exact bo_f (run5 (s4 := s4) hL (all_cons (b10 (o 0) (z 0) H0) all_nil) known_nil (a := ag (z 19)) (b := false) (by kernel_rfl)) (by omega)
theorem j_r23 {s0 s1 s2 s3 s4 : Int} {W : World} (hL : Laid W) (l3 : -9223372036854775808 ≤ s3) (u3 : s3 ≤ 9223372036854775807) : Calls Tryd.prog 10 #[.agg #[.int .i64 23, .int .i64 s0, .int .i64 s1, .int .i64 s2, .int .i64 s3]] W (Bo W (decide ((0 ≤ s0 ∧ s0 ≤ 9) ∧ (0 ≤ s1 ∧ s1 ≤ 9) ∧ (0 ≤ s2 ∧ s2 ≤ 9) ∧ s3 = 0))) := by
  by_cases H0 : 0 ≤ s0
  · by_cases H1 : s0 < 10
    · by_cases H2 : 0 ≤ s1
      · by_cases H3 : s1 < 10
        · by_cases H4 : 0 ≤ s2
          · by_cases H5 : s2 < 10
            · by_cases H6 : s3 = 0
              · exact bo_t (run5 (s4 := s4) hL (all_cons (a10 (o 0) (z 0) H0) (all_cons (a7 (o 0) (z 10) H1) (all_cons (a10 (o 1) (z 0) H2) (all_cons (a7 (o 1) (z 10) H3) (all_cons (a10 (o 2) (z 0) H4) (all_cons (a7 (o 2) (z 10) H5) (all_cons (a5 (o 3) (z 0) H6) all_nil))))))) known_nil (a := ag (z 23)) (b := true) (by kernel_rfl)) (by omega)
              · exact bo_f (run5 (s4 := s4) hL (all_cons (a10 (o 0) (z 0) H0) (all_cons (a7 (o 0) (z 10) H1) (all_cons (a10 (o 1) (z 0) H2) (all_cons (a7 (o 1) (z 10) H3) (all_cons (a10 (o 2) (z 0) H4) (all_cons (a7 (o 2) (z 10) H5) (all_cons (b5 (o 3) (z 0) H6) all_nil))))))) known_nil (a := ag (z 23)) (b := false) (by kernel_rfl)) (by omega)
            · exact bo_f (run5 (s4 := s4) hL (all_cons (a10 (o 0) (z 0) H0) (all_cons (a7 (o 0) (z 10) H1) (all_cons (a10 (o 1) (z 0) H2) (all_cons (a7 (o 1) (z 10) H3) (all_cons (a10 (o 2) (z 0) H4) (all_cons (b7 (o 2) (z 10) H5) all_nil)))))) known_nil (a := ag (z 23)) (b := false) (by kernel_rfl)) (by omega)
          · exact bo_f (run5 (s4 := s4) hL (all_cons (a10 (o 0) (z 0) H0) (all_cons (a7 (o 0) (z 10) H1) (all_cons (a10 (o 1) (z 0) H2) (all_cons (a7 (o 1) (z 10) H3) (all_cons (b10 (o 2) (z 0) H4) all_nil))))) known_nil (a := ag (z 23)) (b := false) (by kernel_rfl)) (by omega)
        · exact bo_f (run5 (s4 := s4) hL (all_cons (a10 (o 0) (z 0) H0) (all_cons (a7 (o 0) (z 10) H1) (all_cons (a10 (o 1) (z 0) H2) (all_cons (b7 (o 1) (z 10) H3) all_nil)))) known_nil (a := ag (z 23)) (b := false) (by kernel_rfl)) (by omega)
      · exact bo_f (run5 (s4 := s4) hL (all_cons (a10 (o 0) (z 0) H0) (all_cons (a7 (o 0) (z 10) H1) (all_cons (b10 (o 1) (z 0) H2) all_nil))) known_nil (a := ag (z 23)) (b := false) (by kernel_rfl)) (by omega)
    · exact bo_f (run5 (s4 := s4) hL (all_cons (a10 (o 0) (z 0) H0) (all_cons (b7 (o 0) (z 10) H1) all_nil)) known_nil (a := ag (z 23)) (b := false) (by kernel_rfl)) (by omega)
  · exact bo_f (run5 (s4 := s4) hL (all_cons (b10 (o 0) (z 0) H0) all_nil) known_nil (a := ag (z 23)) (b := false) (by kernel_rfl)) (by omega)
theorem j_r27 {s0 s1 s2 s3 s4 : Int} {W : World} (hL : Laid W) (l3 : -9223372036854775808 ≤ s3) (u3 : s3 ≤ 9223372036854775807) : Calls Tryd.prog 10 #[.agg #[.int .i64 27, .int .i64 s0, .int .i64 s1, .int .i64 s2, .int .i64 s3]] W (Bo W (decide ((0 ≤ s0 ∧ s0 ≤ 9) ∧ (0 ≤ s1 ∧ s1 ≤ 9) ∧ (0 ≤ s2 ∧ s2 ≤ 9) ∧ s3 = 0))) := by
  by_cases H0 : 0 ≤ s0
  · by_cases H1 : s0 < 10
    · by_cases H2 : 0 ≤ s1
      · by_cases H3 : s1 < 10
        · by_cases H4 : 0 ≤ s2
          · by_cases H5 : s2 < 10
            · by_cases H6 : s3 = 0
              · exact bo_t (run5 (s4 := s4) hL (all_cons (a10 (o 0) (z 0) H0) (all_cons (a7 (o 0) (z 10) H1) (all_cons (a10 (o 1) (z 0) H2) (all_cons (a7 (o 1) (z 10) H3) (all_cons (a10 (o 2) (z 0) H4) (all_cons (a7 (o 2) (z 10) H5) (all_cons (a5 (o 3) (z 0) H6) all_nil))))))) known_nil (a := ag (z 27)) (b := true) (by kernel_rfl)) (by omega)
              · exact bo_f (run5 (s4 := s4) hL (all_cons (a10 (o 0) (z 0) H0) (all_cons (a7 (o 0) (z 10) H1) (all_cons (a10 (o 1) (z 0) H2) (all_cons (a7 (o 1) (z 10) H3) (all_cons (a10 (o 2) (z 0) H4) (all_cons (a7 (o 2) (z 10) H5) (all_cons (b5 (o 3) (z 0) H6) all_nil))))))) known_nil (a := ag (z 27)) (b := false) (by kernel_rfl)) (by omega)
            · exact bo_f (run5 (s4 := s4) hL (all_cons (a10 (o 0) (z 0) H0) (all_cons (a7 (o 0) (z 10) H1) (all_cons (a10 (o 1) (z 0) H2) (all_cons (a7 (o 1) (z 10) H3) (all_cons (a10 (o 2) (z 0) H4) (all_cons (b7 (o 2) (z 10) H5) all_nil)))))) known_nil (a := ag (z 27)) (b := false) (by kernel_rfl)) (by omega)
          · exact bo_f (run5 (s4 := s4) hL (all_cons (a10 (o 0) (z 0) H0) (all_cons (a7 (o 0) (z 10) H1) (all_cons (a10 (o 1) (z 0) H2) (all_cons (a7 (o 1) (z 10) H3) (all_cons (b10 (o 2) (z 0) H4) all_nil))))) known_nil (a := ag (z 27)) (b := false) (by kernel_rfl)) (by omega)
        · exact bo_f (run5 (s4 := s4) hL (all_cons (a10 (o 0) (z 0) H0) (all_cons (a7 (o 0) (z 10) H1) (all_cons (a10 (o 1) (z 0) H2) (all_cons (b7 (o 1) (z 10) H3) all_nil)))) known_nil (a := ag (z 27)) (b := false) (by kernel_rfl)) (by omega)
      · exact bo_f (run5 (s4 := s4) hL (all_cons (a10 (o 0) (z 0) H0) (all_cons (a7 (o 0) (z 10) H1) (all_cons (b10 (o 1) (z 0) H2) all_nil))) known_nil (a := ag (z 27)) (b := false) (by kernel_rfl)) (by omega)
    · exact bo_f (run5 (s4 := s4) hL (all_cons (a10 (o 0) (z 0) H0) (all_cons (b7 (o 0) (z 10) H1) all_nil)) known_nil (a := ag (z 27)) (b := false) (by kernel_rfl)) (by omega)
  · exact bo_f (run5 (s4 := s4) hL (all_cons (b10 (o 0) (z 0) H0) all_nil) known_nil (a := ag (z 27)) (b := false) (by kernel_rfl)) (by omega)
theorem j_r37 {s0 s1 s2 s3 s4 : Int} {W : World} (hL : Laid W) (l3 : -9223372036854775808 ≤ s3) (u3 : s3 ≤ 9223372036854775807) : Calls Tryd.prog 10 #[.agg #[.int .i64 37, .int .i64 s0, .int .i64 s1, .int .i64 s2, .int .i64 s3]] W (Bo W (decide ((0 ≤ s0 ∧ s0 ≤ 9) ∧ (0 ≤ s1 ∧ s1 ≤ 9) ∧ s2 = 0 ∧ (-2147483648 ≤ s3 ∧ s3 ≤ 2147483647)))) := by
  by_cases H0 : 0 ≤ s0
  · by_cases H1 : s0 < 10
    · by_cases H2 : 0 ≤ s1
      · by_cases H3 : s1 < 10
        · by_cases H4 : s2 = 0
          · by_cases H5 : -2147483648 ≤ s3
            · by_cases H6 : s3 < 2147483648
              · exact bo_t (run5 (s4 := s4) hL (all_cons (a10 (o 0) (z 0) H0) (all_cons (a7 (o 0) (z 10) H1) (all_cons (a10 (o 1) (z 0) H2) (all_cons (a7 (o 1) (z 10) H3) (all_cons (a5 (o 2) (z 0) H4) (all_cons (a10 (o 3) (z (-2147483648)) H5) (all_cons (a7 (o 3) (z 2147483648) H6) all_nil))))))) known_nil (a := ag (z 37)) (b := true) (by kernel_rfl)) (by omega)
              · exact bo_f (run5 (s4 := s4) hL (all_cons (a10 (o 0) (z 0) H0) (all_cons (a7 (o 0) (z 10) H1) (all_cons (a10 (o 1) (z 0) H2) (all_cons (a7 (o 1) (z 10) H3) (all_cons (a5 (o 2) (z 0) H4) (all_cons (a10 (o 3) (z (-2147483648)) H5) (all_cons (b7 (o 3) (z 2147483648) H6) all_nil))))))) known_nil (a := ag (z 37)) (b := false) (by kernel_rfl)) (by omega)
            · exact bo_f (run5 (s4 := s4) hL (all_cons (a10 (o 0) (z 0) H0) (all_cons (a7 (o 0) (z 10) H1) (all_cons (a10 (o 1) (z 0) H2) (all_cons (a7 (o 1) (z 10) H3) (all_cons (a5 (o 2) (z 0) H4) (all_cons (b10 (o 3) (z (-2147483648)) H5) all_nil)))))) known_nil (a := ag (z 37)) (b := false) (by kernel_rfl)) (by omega)
          · exact bo_f (run5 (s4 := s4) hL (all_cons (a10 (o 0) (z 0) H0) (all_cons (a7 (o 0) (z 10) H1) (all_cons (a10 (o 1) (z 0) H2) (all_cons (a7 (o 1) (z 10) H3) (all_cons (b5 (o 2) (z 0) H4) all_nil))))) known_nil (a := ag (z 37)) (b := false) (by kernel_rfl)) (by omega)
        · exact bo_f (run5 (s4 := s4) hL (all_cons (a10 (o 0) (z 0) H0) (all_cons (a7 (o 0) (z 10) H1) (all_cons (a10 (o 1) (z 0) H2) (all_cons (b7 (o 1) (z 10) H3) all_nil)))) known_nil (a := ag (z 37)) (b := false) (by kernel_rfl)) (by omega)
      · exact bo_f (run5 (s4 := s4) hL (all_cons (a10 (o 0) (z 0) H0) (all_cons (a7 (o 0) (z 10) H1) (all_cons (b10 (o 1) (z 0) H2) all_nil))) known_nil (a := ag (z 37)) (b := false) (by kernel_rfl)) (by omega)
    · exact bo_f (run5 (s4 := s4) hL (all_cons (a10 (o 0) (z 0) H0) (all_cons (b7 (o 0) (z 10) H1) all_nil)) known_nil (a := ag (z 37)) (b := false) (by kernel_rfl)) (by omega)
  · exact bo_f (run5 (s4 := s4) hL (all_cons (b10 (o 0) (z 0) H0) all_nil) known_nil (a := ag (z 37)) (b := false) (by kernel_rfl)) (by omega)
theorem j_r41 {s0 s1 s2 s3 s4 : Int} {W : World} (hL : Laid W) (l3 : -9223372036854775808 ≤ s3) (u3 : s3 ≤ 9223372036854775807) : Calls Tryd.prog 10 #[.agg #[.int .i64 41, .int .i64 s0, .int .i64 s1, .int .i64 s2, .int .i64 s3]] W (Bo W (decide ((0 ≤ s0 ∧ s0 ≤ 9) ∧ (0 ≤ s1 ∧ s1 ≤ 9) ∧ s2 = 0 ∧ (-2147483648 ≤ s3 ∧ s3 ≤ 2147483647)))) := by
  by_cases H0 : 0 ≤ s0
  · by_cases H1 : s0 < 10
    · by_cases H2 : 0 ≤ s1
      · by_cases H3 : s1 < 10
        · by_cases H4 : s2 = 0
          · by_cases H5 : -2147483648 ≤ s3
            · by_cases H6 : s3 < 2147483648
              · exact bo_t (run5 (s4 := s4) hL (all_cons (a10 (o 0) (z 0) H0) (all_cons (a7 (o 0) (z 10) H1) (all_cons (a10 (o 1) (z 0) H2) (all_cons (a7 (o 1) (z 10) H3) (all_cons (a5 (o 2) (z 0) H4) (all_cons (a10 (o 3) (z (-2147483648)) H5) (all_cons (a7 (o 3) (z 2147483648) H6) all_nil))))))) known_nil (a := ag (z 41)) (b := true) (by kernel_rfl)) (by omega)
              · exact bo_f (run5 (s4 := s4) hL (all_cons (a10 (o 0) (z 0) H0) (all_cons (a7 (o 0) (z 10) H1) (all_cons (a10 (o 1) (z 0) H2) (all_cons (a7 (o 1) (z 10) H3) (all_cons (a5 (o 2) (z 0) H4) (all_cons (a10 (o 3) (z (-2147483648)) H5) (all_cons (b7 (o 3) (z 2147483648) H6) all_nil))))))) known_nil (a := ag (z 41)) (b := false) (by kernel_rfl)) (by omega)
            · exact bo_f (run5 (s4 := s4) hL (all_cons (a10 (o 0) (z 0) H0) (all_cons (a7 (o 0) (z 10) H1) (all_cons (a10 (o 1) (z 0) H2) (all_cons (a7 (o 1) (z 10) H3) (all_cons (a5 (o 2) (z 0) H4) (all_cons (b10 (o 3) (z (-2147483648)) H5) all_nil)))))) known_nil (a := ag (z 41)) (b := false) (by kernel_rfl)) (by omega)
          · exact bo_f (run5 (s4 := s4) hL (all_cons (a10 (o 0) (z 0) H0) (all_cons (a7 (o 0) (z 10) H1) (all_cons (a10 (o 1) (z 0) H2) (all_cons (a7 (o 1) (z 10) H3) (all_cons (b5 (o 2) (z 0) H4) all_nil))))) known_nil (a := ag (z 41)) (b := false) (by kernel_rfl)) (by omega)
        · exact bo_f (run5 (s4 := s4) hL (all_cons (a10 (o 0) (z 0) H0) (all_cons (a7 (o 0) (z 10) H1) (all_cons (a10 (o 1) (z 0) H2) (all_cons (b7 (o 1) (z 10) H3) all_nil)))) known_nil (a := ag (z 41)) (b := false) (by kernel_rfl)) (by omega)
      · exact bo_f (run5 (s4 := s4) hL (all_cons (a10 (o 0) (z 0) H0) (all_cons (a7 (o 0) (z 10) H1) (all_cons (b10 (o 1) (z 0) H2) all_nil))) known_nil (a := ag (z 41)) (b := false) (by kernel_rfl)) (by omega)
    · exact bo_f (run5 (s4 := s4) hL (all_cons (a10 (o 0) (z 0) H0) (all_cons (b7 (o 0) (z 10) H1) all_nil)) known_nil (a := ag (z 41)) (b := false) (by kernel_rfl)) (by omega)
  · exact bo_f (run5 (s4 := s4) hL (all_cons (b10 (o 0) (z 0) H0) all_nil) known_nil (a := ag (z 41)) (b := false) (by kernel_rfl)) (by omega)
theorem j_r45 {s0 s1 s2 s3 s4 : Int} {W : World} (hL : Laid W) (l3 : -9223372036854775808 ≤ s3) (u3 : s3 ≤ 9223372036854775807) : Calls Tryd.prog 10 #[.agg #[.int .i64 45, .int .i64 s0, .int .i64 s1, .int .i64 s2, .int .i64 s3]] W (Bo W (decide ((0 ≤ s0 ∧ s0 ≤ 9) ∧ (0 ≤ s1 ∧ s1 ≤ 9) ∧ s2 = 0 ∧ (-2147483648 ≤ s3 ∧ s3 ≤ 2147483647)))) := by
  by_cases H0 : 0 ≤ s0
  · by_cases H1 : s0 < 10
    · by_cases H2 : 0 ≤ s1
      · by_cases H3 : s1 < 10
        · by_cases H4 : s2 = 0
          · by_cases H5 : -2147483648 ≤ s3
            · by_cases H6 : s3 < 2147483648
              · exact bo_t (run5 (s4 := s4) hL (all_cons (a10 (o 0) (z 0) H0) (all_cons (a7 (o 0) (z 10) H1) (all_cons (a10 (o 1) (z 0) H2) (all_cons (a7 (o 1) (z 10) H3) (all_cons (a5 (o 2) (z 0) H4) (all_cons (a10 (o 3) (z (-2147483648)) H5) (all_cons (a7 (o 3) (z 2147483648) H6) all_nil))))))) known_nil (a := ag (z 45)) (b := true) (by kernel_rfl)) (by omega)
              · exact bo_f (run5 (s4 := s4) hL (all_cons (a10 (o 0) (z 0) H0) (all_cons (a7 (o 0) (z 10) H1) (all_cons (a10 (o 1) (z 0) H2) (all_cons (a7 (o 1) (z 10) H3) (all_cons (a5 (o 2) (z 0) H4) (all_cons (a10 (o 3) (z (-2147483648)) H5) (all_cons (b7 (o 3) (z 2147483648) H6) all_nil))))))) known_nil (a := ag (z 45)) (b := false) (by kernel_rfl)) (by omega)
            · exact bo_f (run5 (s4 := s4) hL (all_cons (a10 (o 0) (z 0) H0) (all_cons (a7 (o 0) (z 10) H1) (all_cons (a10 (o 1) (z 0) H2) (all_cons (a7 (o 1) (z 10) H3) (all_cons (a5 (o 2) (z 0) H4) (all_cons (b10 (o 3) (z (-2147483648)) H5) all_nil)))))) known_nil (a := ag (z 45)) (b := false) (by kernel_rfl)) (by omega)
          · exact bo_f (run5 (s4 := s4) hL (all_cons (a10 (o 0) (z 0) H0) (all_cons (a7 (o 0) (z 10) H1) (all_cons (a10 (o 1) (z 0) H2) (all_cons (a7 (o 1) (z 10) H3) (all_cons (b5 (o 2) (z 0) H4) all_nil))))) known_nil (a := ag (z 45)) (b := false) (by kernel_rfl)) (by omega)
        · exact bo_f (run5 (s4 := s4) hL (all_cons (a10 (o 0) (z 0) H0) (all_cons (a7 (o 0) (z 10) H1) (all_cons (a10 (o 1) (z 0) H2) (all_cons (b7 (o 1) (z 10) H3) all_nil)))) known_nil (a := ag (z 45)) (b := false) (by kernel_rfl)) (by omega)
      · exact bo_f (run5 (s4 := s4) hL (all_cons (a10 (o 0) (z 0) H0) (all_cons (a7 (o 0) (z 10) H1) (all_cons (b10 (o 1) (z 0) H2) all_nil))) known_nil (a := ag (z 45)) (b := false) (by kernel_rfl)) (by omega)
    · exact bo_f (run5 (s4 := s4) hL (all_cons (a10 (o 0) (z 0) H0) (all_cons (b7 (o 0) (z 10) H1) all_nil)) known_nil (a := ag (z 45)) (b := false) (by kernel_rfl)) (by omega)
  · exact bo_f (run5 (s4 := s4) hL (all_cons (b10 (o 0) (z 0) H0) all_nil) known_nil (a := ag (z 45)) (b := false) (by kernel_rfl)) (by omega)
theorem j_r49 {s0 s1 s2 s3 s4 : Int} {W : World} (hL : Laid W) (l3 : -9223372036854775808 ≤ s3) (u3 : s3 ≤ 9223372036854775807) : Calls Tryd.prog 10 #[.agg #[.int .i64 49, .int .i64 s0, .int .i64 s1, .int .i64 s2, .int .i64 s3]] W (Bo W (decide ((0 ≤ s0 ∧ s0 ≤ 9) ∧ (0 ≤ s1 ∧ s1 ≤ 9) ∧ s2 = 0 ∧ (-2147483648 ≤ s3 ∧ s3 ≤ 2147483647)))) := by
  by_cases H0 : 0 ≤ s0
  · by_cases H1 : s0 < 10
    · by_cases H2 : 0 ≤ s1
      · by_cases H3 : s1 < 10
        · by_cases H4 : s2 = 0
          · by_cases H5 : -2147483648 ≤ s3
            · by_cases H6 : s3 < 2147483648
              · exact bo_t (run5 (s4 := s4) hL (all_cons (a10 (o 0) (z 0) H0) (all_cons (a7 (o 0) (z 10) H1) (all_cons (a10 (o 1) (z 0) H2) (all_cons (a7 (o 1) (z 10) H3) (all_cons (a5 (o 2) (z 0) H4) (all_cons (a10 (o 3) (z (-2147483648)) H5) (all_cons (a7 (o 3) (z 2147483648) H6) all_nil))))))) known_nil (a := ag (z 49)) (b := true) (by kernel_rfl)) (by omega)
              · exact bo_f (run5 (s4 := s4) hL (all_cons (a10 (o 0) (z 0) H0) (all_cons (a7 (o 0) (z 10) H1) (all_cons (a10 (o 1) (z 0) H2) (all_cons (a7 (o 1) (z 10) H3) (all_cons (a5 (o 2) (z 0) H4) (all_cons (a10 (o 3) (z (-2147483648)) H5) (all_cons (b7 (o 3) (z 2147483648) H6) all_nil))))))) known_nil (a := ag (z 49)) (b := false) (by kernel_rfl)) (by omega)
            · exact bo_f (run5 (s4 := s4) hL (all_cons (a10 (o 0) (z 0) H0) (all_cons (a7 (o 0) (z 10) H1) (all_cons (a10 (o 1) (z 0) H2) (all_cons (a7 (o 1) (z 10) H3) (all_cons (a5 (o 2) (z 0) H4) (all_cons (b10 (o 3) (z (-2147483648)) H5) all_nil)))))) known_nil (a := ag (z 49)) (b := false) (by kernel_rfl)) (by omega)
          · exact bo_f (run5 (s4 := s4) hL (all_cons (a10 (o 0) (z 0) H0) (all_cons (a7 (o 0) (z 10) H1) (all_cons (a10 (o 1) (z 0) H2) (all_cons (a7 (o 1) (z 10) H3) (all_cons (b5 (o 2) (z 0) H4) all_nil))))) known_nil (a := ag (z 49)) (b := false) (by kernel_rfl)) (by omega)
        · exact bo_f (run5 (s4 := s4) hL (all_cons (a10 (o 0) (z 0) H0) (all_cons (a7 (o 0) (z 10) H1) (all_cons (a10 (o 1) (z 0) H2) (all_cons (b7 (o 1) (z 10) H3) all_nil)))) known_nil (a := ag (z 49)) (b := false) (by kernel_rfl)) (by omega)
      · exact bo_f (run5 (s4 := s4) hL (all_cons (a10 (o 0) (z 0) H0) (all_cons (a7 (o 0) (z 10) H1) (all_cons (b10 (o 1) (z 0) H2) all_nil))) known_nil (a := ag (z 49)) (b := false) (by kernel_rfl)) (by omega)
    · exact bo_f (run5 (s4 := s4) hL (all_cons (a10 (o 0) (z 0) H0) (all_cons (b7 (o 0) (z 10) H1) all_nil)) known_nil (a := ag (z 49)) (b := false) (by kernel_rfl)) (by omega)
  · exact bo_f (run5 (s4 := s4) hL (all_cons (b10 (o 0) (z 0) H0) all_nil) known_nil (a := ag (z 49)) (b := false) (by kernel_rfl)) (by omega)
end Go.Proofs.YtbkojaiecgdodaaDoor
end
section
set_option linter.unusedVariables false
set_option maxRecDepth 100000
namespace Go.Proofs.YtbkojaiecgdodaaDoor
open Go Go.Ev Go.RowKit
theorem j_v4 {s0 s1 s2 s3 s4 : Int} {W : World} (hL : Laid W) (l3 : -9223372036854775808 ≤ s3) (u3 : s3 ≤ 9223372036854775807) : Calls Tryd.prog 9 #[.agg #[.int .i64 4, .int .i64 s0, .int .i64 s1, .int .i64 s2, .int .i64 s3]] W (Bo W (decide ((0 ≤ s0 ∧ s0 ≤ 9) ∧ (0 ≤ s1 ∧ s1 ≤ 9) ∧ s2 = 0 ∧ (-2147483648 ≤ s3 ∧ s3 ≤ 2147483647)))) := by
  by_cases H0 : 0 ≤ s0
  · by_cases H1 : s0 ≤ 9
    · by_cases H2 : 0 ≤ s1
      · by_cases H3 : s1 ≤ 9
        · by_cases H4 : 0 ≤ s2
          · by_cases H5 : s2 ≤ 0
            · by_cases H6 : -2147483648 ≤ s3
              · by_cases H7 : s3 ≤ 2147483647
                · exact bo_t (run5 (s4 := s4) hL (all_cons (a8 (z 0) (o 0) H0) (all_cons (a8 (o 0) (z 9) H1) (all_cons (a8 (z 0) (o 1) H2) (all_cons (a8 (o 1) (z 9) H3) (all_cons (a8 (z 0) (o 2) H4) (all_cons (a8 (o 2) (z 0) H5) (all_cons (a8 (z (-2147483648)) (o 3) H6) (all_cons (a8 (o 3) (z 2147483647) H7) all_nil)))))))) known_nil (a := ag (z 4)) (b := true) (by kernel_rfl)) (by omega)
                · exact bo_f (run5 (s4 := s4) hL (all_cons (a8 (z 0) (o 0) H0) (all_cons (a8 (o 0) (z 9) H1) (all_cons (a8 (z 0) (o 1) H2) (all_cons (a8 (o 1) (z 9) H3) (all_cons (a8 (z 0) (o 2) H4) (all_cons (a8 (o 2) (z 0) H5) (all_cons (a8 (z (-2147483648)) (o 3) H6) (all_cons (b8 (o 3) (z 2147483647) H7) all_nil)))))))) known_nil (a := ag (z 4)) (b := false) (by kernel_rfl)) (by omega)
              · exact bo_f (run5 (s4 := s4) hL (all_cons (a8 (z 0) (o 0) H0) (all_cons (a8 (o 0) (z 9) H1) (all_cons (a8 (z 0) (o 1) H2) (all_cons (a8 (o 1) (z 9) H3) (all_cons (a8 (z 0) (o 2) H4) (all_cons (a8 (o 2) (z 0) H5) (all_cons (b8 (z (-2147483648)) (o 3) H6) all_nil))))))) known_nil (a := ag (z 4)) (b := false) (by kernel_rfl)) (by omega)
            · exact bo_f (run5 (s4 := s4) hL (all_cons (a8 (z 0) (o 0) H0) (all_cons (a8 (o 0) (z 9) H1) (all_cons (a8 (z 0) (o 1) H2) (all_cons (a8 (o 1) (z 9) H3) (all_cons (a8 (z 0) (o 2) H4) (all_cons (b8 (o 2) (z 0) H5) all_nil)))))) known_nil (a := ag (z 4)) (b := false) (by kernel_rfl)) (by omega)
          · exact bo_f (run5 (s4 := s4) hL (all_cons (a8 (z 0) (o 0) H0) (all_cons (a8 (o 0) (z 9) H1) (all_cons (a8 (z 0) (o 1) H2) (all_cons (a8 (o 1) (z 9) H3) (all_cons (b8 (z 0) (o 2) H4) all_nil))))) known_nil (a := ag (z 4)) (b := false) (by kernel_rfl)) (by omega)
        · exact bo_f (run5 (s4 := s4) hL (all_cons (a8 (z 0) (o 0) H0) (all_cons (a8 (o 0) (z 9) H1) (all_cons (a8 (z 0) (o 1) H2) (all_cons (b8 (o 1) (z 9) H3) all_nil)))) known_nil (a := ag (z 4)) (b := false) (by kernel_rfl)) (by omega)
      · exact bo_f (run5 (s4 := s4) hL (all_cons (a8 (z 0) (o 0) H0) (all_cons (a8 (o 0) (z 9) H1) (all_cons (b8 (z 0) (o 1) H2) all_nil))) known_nil (a := ag (z 4)) (b := false) (by kernel_rfl)) (by omega)
    · exact bo_f (run5 (s4 := s4) hL (all_cons (a8 (z 0) (o 0) H0) (all_cons (b8 (o 0) (z 9) H1) all_nil)) known_nil (a := ag (z 4)) (b := false) (by kernel_rfl)) (by omega)
  · exact bo_f (run5 (s4 := s4) hL (all_cons (b8 (z 0) (o 0) H0) all_nil) known_nil (a := ag (z 4)) (b := false) (by kernel_rfl)) (by omega)
theorem j_v8 {s0 s1 s2 s3 s4 : Int} {W : World} (hL : Laid W) (l3 : -9223372036854775808 ≤ s3) (u3 : s3 ≤ 9223372036854775807) : Calls Tryd.prog 9 #[.agg #[.int .i64 8, .int .i64 s0, .int .i64 s1, .int .i64 s2, .int .i64 s3]] W (Bo W (decide (s0 = 0 ∧ (0 ≤ s1 ∧ s1 ≤ 9) ∧ (0 ≤ s2 ∧ s2 ≤ 9) ∧ s3 = 0))) := by
  by_cases H0 : 0 ≤ s0
  · by_cases H1 : s0 ≤ 0
    · by_cases H2 : 0 ≤ s1
      · by_cases H3 : s1 ≤ 9
        · by_cases H4 : 0 ≤ s2
          · by_cases H5 : s2 ≤ 9
            · by_cases H6 : 0 ≤ s3
              · by_cases H7 : s3 ≤ 0
                · exact bo_t (run5 (s4 := s4) hL (all_cons (a8 (z 0) (o 0) H0) (all_cons (a8 (o 0) (z 0) H1) (all_cons (a8 (z 0) (o 1) H2) (all_cons (a8 (o 1) (z 9) H3) (all_cons (a8 (z 0) (o 2) H4) (all_cons (a8 (o 2) (z 9) H5) (all_cons (a8 (z 0) (o 3) H6) (all_cons (a8 (o 3) (z 0) H7) all_nil)))))))) known_nil (a := ag (z 8)) (b := true) (by kernel_rfl)) (by omega)
                · exact bo_f (run5 (s4 := s4) hL (all_cons (a8 (z 0) (o 0) H0) (all_cons (a8 (o 0) (z 0) H1) (all_cons (a8 (z 0) (o 1) H2) (all_cons (a8 (o 1) (z 9) H3) (all_cons (a8 (z 0) (o 2) H4) (all_cons (a8 (o 2) (z 9) H5) (all_cons (a8 (z 0) (o 3) H6) (all_cons (b8 (o 3) (z 0) H7) all_nil)))))))) known_nil (a := ag (z 8)) (b := false) (by kernel_rfl)) (by omega)
              · exact bo_f (run5 (s4 := s4) hL (all_cons (a8 (z 0) (o 0) H0) (all_cons (a8 (o 0) (z 0) H1) (all_cons (a8 (z 0) (o 1) H2) (all_cons (a8 (o 1) (z 9) H3) (all_cons (a8 (z 0) (o 2) H4) (all_cons (a8 (o 2) (z 9) H5) (all_cons (b8 (z 0) (o 3) H6) all_nil))))))) known_nil (a := ag (z 8)) (b := false) (by kernel_rfl)) (by omega)
            · exact bo_f (run5 (s4 := s4) hL (all_cons (a8 (z 0) (o 0) H0) (all_cons (a8 (o 0) (z 0) H1) (all_cons (a8 (z 0) (o 1) H2) (all_cons (a8 (o 1) (z 9) H3) (all_cons (a8 (z 0) (o 2) H4) (all_cons (b8 (o 2) (z 9) H5) all_nil)))))) known_nil (a := ag (z 8)) (b := false) (by kernel_rfl)) (by omega)
          · exact bo_f (run5 (s4 := s4) hL (all_cons (a8 (z 0) (o 0) H0) (all_cons (a8 (o 0) (z 0) H1) (all_cons (a8 (z 0) (o 1) H2) (all_cons (a8 (o 1) (z 9) H3) (all_cons (b8 (z 0) (o 2) H4) all_nil))))) known_nil (a := ag (z 8)) (b := false) (by kernel_rfl)) (by omega)
        · exact bo_f (run5 (s4 := s4) hL (all_cons (a8 (z 0) (o 0) H0) (all_cons (a8 (o 0) (z 0) H1) (all_cons (a8 (z 0) (o 1) H2) (all_cons (b8 (o 1) (z 9) H3) all_nil)))) known_nil (a := ag (z 8)) (b := false) (by kernel_rfl)) (by omega)
      · exact bo_f (run5 (s4 := s4) hL (all_cons (a8 (z 0) (o 0) H0) (all_cons (a8 (o 0) (z 0) H1) (all_cons (b8 (z 0) (o 1) H2) all_nil))) known_nil (a := ag (z 8)) (b := false) (by kernel_rfl)) (by omega)
    · exact bo_f (run5 (s4 := s4) hL (all_cons (a8 (z 0) (o 0) H0) (all_cons (b8 (o 0) (z 0) H1) all_nil)) known_nil (a := ag (z 8)) (b := false) (by kernel_rfl)) (by omega)
  · exact bo_f (run5 (s4 := s4) hL (all_cons (b8 (z 0) (o 0) H0) all_nil) known_nil (a := ag (z 8)) (b := false) (by kernel_rfl)) (by omega)
theorem j_v12 {s0 s1 s2 s3 s4 : Int} {W : World} (hL : Laid W) (l3 : -9223372036854775808 ≤ s3) (u3 : s3 ≤ 9223372036854775807) : Calls Tryd.prog 9 #[.agg #[.int .i64 12, .int .i64 s0, .int .i64 s1, .int .i64 s2, .int .i64 s3]] W (Bo W (decide (s0 = 0 ∧ s1 = 0 ∧ s2 = 0 ∧ s3 = 0))) := by
  by_cases H0 : 0 ≤ s0
  · by_cases H1 : s0 ≤ 0
    · by_cases H2 : 0 ≤ s1
      · by_cases H3 : s1 ≤ 0
        · by_cases H4 : 0 ≤ s2
          · by_cases H5 : s2 ≤ 0
            · by_cases H6 : 0 ≤ s3
              · by_cases H7 : s3 ≤ 0
                · exact bo_t (run5 (s4 := s4) hL (all_cons (a8 (z 0) (o 0) H0) (all_cons (a8 (o 0) (z 0) H1) (all_cons (a8 (z 0) (o 1) H2) (all_cons (a8 (o 1) (z 0) H3) (all_cons (a8 (z 0) (o 2) H4) (all_cons (a8 (o 2) (z 0) H5) (all_cons (a8 (z 0) (o 3) H6) (all_cons (a8 (o 3) (z 0) H7) all_nil)))))))) known_nil (a := ag (z 12)) (b := true) (by kernel_rfl)) (by omega)
                · exact bo_f (run5 (s4 := s4) hL (all_cons (a8 (z 0) (o 0) H0) (all_cons (a8 (o 0) (z 0) H1) (all_cons (a8 (z 0) (o 1) H2) (all_cons (a8 (o 1) (z 0) H3) (all_cons (a8 (z 0) (o 2) H4) (all_cons (a8 (o 2) (z 0) H5) (all_cons (a8 (z 0) (o 3) H6) (all_cons (b8 (o 3) (z 0) H7) all_nil)))))))) known_nil (a := ag (z 12)) (b := false) (by kernel_rfl)) (by omega)
              · exact bo_f (run5 (s4 := s4) hL (all_cons (a8 (z 0) (o 0) H0) (all_cons (a8 (o 0) (z 0) H1) (all_cons (a8 (z 0) (o 1) H2) (all_cons (a8 (o 1) (z 0) H3) (all_cons (a8 (z 0) (o 2) H4) (all_cons (a8 (o 2) (z 0) H5) (all_cons (b8 (z 0) (o 3) H6) all_nil))))))) known_nil (a := ag (z 12)) (b := false) (by kernel_rfl)) (by omega)
            · exact bo_f (run5 (s4 := s4) hL (all_cons (a8 (z 0) (o 0) H0) (all_cons (a8 (o 0) (z 0) H1) (all_cons (a8 (z 0) (o 1) H2) (all_cons (a8 (o 1) (z 0) H3) (all_cons (a8 (z 0) (o 2) H4) (all_cons (b8 (o 2) (z 0) H5) all_nil)))))) known_nil (a := ag (z 12)) (b := false) (by kernel_rfl)) (by omega)
          · exact bo_f (run5 (s4 := s4) hL (all_cons (a8 (z 0) (o 0) H0) (all_cons (a8 (o 0) (z 0) H1) (all_cons (a8 (z 0) (o 1) H2) (all_cons (a8 (o 1) (z 0) H3) (all_cons (b8 (z 0) (o 2) H4) all_nil))))) known_nil (a := ag (z 12)) (b := false) (by kernel_rfl)) (by omega)
        · exact bo_f (run5 (s4 := s4) hL (all_cons (a8 (z 0) (o 0) H0) (all_cons (a8 (o 0) (z 0) H1) (all_cons (a8 (z 0) (o 1) H2) (all_cons (b8 (o 1) (z 0) H3) all_nil)))) known_nil (a := ag (z 12)) (b := false) (by kernel_rfl)) (by omega)
      · exact bo_f (run5 (s4 := s4) hL (all_cons (a8 (z 0) (o 0) H0) (all_cons (a8 (o 0) (z 0) H1) (all_cons (b8 (z 0) (o 1) H2) all_nil))) known_nil (a := ag (z 12)) (b := false) (by kernel_rfl)) (by omega)
    · exact bo_f (run5 (s4 := s4) hL (all_cons (a8 (z 0) (o 0) H0) (all_cons (b8 (o 0) (z 0) H1) all_nil)) known_nil (a := ag (z 12)) (b := false) (by kernel_rfl)) (by omega)
  · exact bo_f (run5 (s4 := s4) hL (all_cons (b8 (z 0) (o 0) H0) all_nil) known_nil (a := ag (z 12)) (b := false) (by kernel_rfl)) (by omega)
theorem j_vlo {s0 s1 s2 s3 s4 : Int} {W : World} (hL : Laid W) (l3 : -9223372036854775808 ≤ s3) (u3 : s3 ≤ 9223372036854775807) (l4 : -9223372036854775808 ≤ s4) (u4 : s4 ≤ 9223372036854775807) (hk : s4 ≤ 0) : Calls Tryd.prog 9 #[.agg #[.int .i64 s4, .int .i64 s0, .int .i64 s1, .int .i64 s2, .int .i64 s3]] W (Bo W (decide (False))) := by
  by_cases H0 : 1 ≤ (IntKind.i64.wrap (s4 - 15))
  · by_cases H1 : (IntKind.i64.wrap (s4 - 15)) ≤ 14
    · by_cases H2 : 0 ≤ s0
      · by_cases H3 : s0 ≤ 9
        · by_cases H4 : 0 ≤ s1
          · by_cases H5 : s1 ≤ 9
            · by_cases H6 : 0 ≤ s2
              · by_cases H7 : s2 ≤ 9
                · by_cases H8 : 0 ≤ s3
                  · by_cases H9 : s3 ≤ 0
                    · exact bo_t (run5 (s4 := s4) hL (all_cons (b10 (o 4) (z 1) (show ¬ 1 ≤ s4 by omega)) (all_cons (m15) (all_cons (a10 (o 6) (z 1) H0) (all_cons (a8 (o 6) (z 14) H1) (all_cons (a8 (z 0) (o 0) H2) (all_cons (a8 (o 0) (z 9) H3) (all_cons (a8 (z 0) (o 1) H4) (all_cons (a8 (o 1) (z 9) H5) (all_cons (a8 (z 0) (o 2) H6) (all_cons (a8 (o 2) (z 9) H7) (all_cons (a8 (z 0) (o 3) H8) (all_cons (a8 (o 3) (z 0) H9) all_nil)))))))))))) known_nil (a := ag (o 4)) (b := true) (by kernel_rfl)) (by simp only [IntKind.wrap_i64] at *; omega)
                    · exact bo_f (run5 (s4 := s4) hL (all_cons (b10 (o 4) (z 1) (show ¬ 1 ≤ s4 by omega)) (all_cons (m15) (all_cons (a10 (o 6) (z 1) H0) (all_cons (a8 (o 6) (z 14) H1) (all_cons (a8 (z 0) (o 0) H2) (all_cons (a8 (o 0) (z 9) H3) (all_cons (a8 (z 0) (o 1) H4) (all_cons (a8 (o 1) (z 9) H5) (all_cons (a8 (z 0) (o 2) H6) (all_cons (a8 (o 2) (z 9) H7) (all_cons (a8 (z 0) (o 3) H8) (all_cons (b8 (o 3) (z 0) H9) all_nil)))))))))))) known_nil (a := ag (o 4)) (b := false) (by kernel_rfl)) not_false
                  · exact bo_f (run5 (s4 := s4) hL (all_cons (b10 (o 4) (z 1) (show ¬ 1 ≤ s4 by omega)) (all_cons (m15) (all_cons (a10 (o 6) (z 1) H0) (all_cons (a8 (o 6) (z 14) H1) (all_cons (a8 (z 0) (o 0) H2) (all_cons (a8 (o 0) (z 9) H3) (all_cons (a8 (z 0) (o 1) H4) (all_cons (a8 (o 1) (z 9) H5) (all_cons (a8 (z 0) (o 2) H6) (all_cons (a8 (o 2) (z 9) H7) (all_cons (b8 (z 0) (o 3) H8) all_nil))))))))))) known_nil (a := ag (o 4)) (b := false) (by kernel_rfl)) not_false
                · exact bo_f (run5 (s4 := s4) hL (all_cons (b10 (o 4) (z 1) (show ¬ 1 ≤ s4 by omega)) (all_cons (m15) (all_cons (a10 (o 6) (z 1) H0) (all_cons (a8 (o 6) (z 14) H1) (all_cons (a8 (z 0) (o 0) H2) (all_cons (a8 (o 0) (z 9) H3) (all_cons (a8 (z 0) (o 1) H4) (all_cons (a8 (o 1) (z 9) H5) (all_cons (a8 (z 0) (o 2) H6) (all_cons (b8 (o 2) (z 9) H7) all_nil)))))))))) known_nil (a := ag (o 4)) (b := false) (by kernel_rfl)) not_false
              · exact bo_f (run5 (s4 := s4) hL (all_cons (b10 (o 4) (z 1) (show ¬ 1 ≤ s4 by omega)) (all_cons (m15) (all_cons (a10 (o 6) (z 1) H0) (all_cons (a8 (o 6) (z 14) H1) (all_cons (a8 (z 0) (o 0) H2) (all_cons (a8 (o 0) (z 9) H3) (all_cons (a8 (z 0) (o 1) H4) (all_cons (a8 (o 1) (z 9) H5) (all_cons (b8 (z 0) (o 2) H6) all_nil))))))))) known_nil (a := ag (o 4)) (b := false) (by kernel_rfl)) not_false
            · exact bo_f (run5 (s4 := s4) hL (all_cons (b10 (o 4) (z 1) (show ¬ 1 ≤ s4 by omega)) (all_cons (m15) (all_cons (a10 (o 6) (z 1) H0) (all_cons (a8 (o 6) (z 14) H1) (all_cons (a8 (z 0) (o 0) H2) (all_cons (a8 (o 0) (z 9) H3) (all_cons (a8 (z 0) (o 1) H4) (all_cons (b8 (o 1) (z 9) H5) all_nil)))))))) known_nil (a := ag (o 4)) (b := false) (by kernel_rfl)) not_false
          · exact bo_f (run5 (s4 := s4) hL (all_cons (b10 (o 4) (z 1) (show ¬ 1 ≤ s4 by omega)) (all_cons (m15) (all_cons (a10 (o 6) (z 1) H0) (all_cons (a8 (o 6) (z 14) H1) (all_cons (a8 (z 0) (o 0) H2) (all_cons (a8 (o 0) (z 9) H3) (all_cons (b8 (z 0) (o 1) H4) all_nil))))))) known_nil (a := ag (o 4)) (b := false) (by kernel_rfl)) not_false
        · exact bo_f (run5 (s4 := s4) hL (all_cons (b10 (o 4) (z 1) (show ¬ 1 ≤ s4 by omega)) (all_cons (m15) (all_cons (a10 (o 6) (z 1) H0) (all_cons (a8 (o 6) (z 14) H1) (all_cons (a8 (z 0) (o 0) H2) (all_cons (b8 (o 0) (z 9) H3) all_nil)))))) known_nil (a := ag (o 4)) (b := false) (by kernel_rfl)) not_false
      · exact bo_f (run5 (s4 := s4) hL (all_cons (b10 (o 4) (z 1) (show ¬ 1 ≤ s4 by omega)) (all_cons (m15) (all_cons (a10 (o 6) (z 1) H0) (all_cons (a8 (o 6) (z 14) H1) (all_cons (b8 (z 0) (o 0) H2) all_nil))))) known_nil (a := ag (o 4)) (b := false) (by kernel_rfl)) not_false
    · by_cases H2 : 1 ≤ (IntKind.i64.wrap (s4 - 35))
      · by_cases H3 : (IntKind.i64.wrap (s4 - 35)) ≤ 14
        · by_cases H4 : 0 ≤ s0
          · by_cases H5 : s0 ≤ 9
            · by_cases H6 : 0 ≤ s1
              · by_cases H7 : s1 ≤ 9
                · by_cases H8 : 0 ≤ s2
                  · by_cases H9 : s2 ≤ 0
                    · by_cases H10 : -2147483648 ≤ s3
                      · by_cases H11 : s3 ≤ 2147483647
                        · exact bo_t (run5 (s4 := s4) hL (all_cons (b10 (o 4) (z 1) (show ¬ 1 ≤ s4 by omega)) (all_cons (m15) (all_cons (a10 (o 6) (z 1) H0) (all_cons (b8 (o 6) (z 14) H1) (all_cons (m35) (all_cons (a10 (o 7) (z 1) H2) (all_cons (a8 (o 7) (z 14) H3) (all_cons (a8 (z 0) (o 0) H4) (all_cons (a8 (o 0) (z 9) H5) (all_cons (a8 (z 0) (o 1) H6) (all_cons (a8 (o 1) (z 9) H7) (all_cons (a8 (z 0) (o 2) H8) (all_cons (a8 (o 2) (z 0) H9) (all_cons (a8 (z (-2147483648)) (o 3) H10) (all_cons (a8 (o 3) (z 2147483647) H11) all_nil))))))))))))))) known_nil (a := ag (o 4)) (b := true) (by kernel_rfl)) (by simp only [IntKind.wrap_i64] at *; omega)
                        · exact bo_f (run5 (s4 := s4) hL (all_cons (b10 (o 4) (z 1) (show ¬ 1 ≤ s4 by omega)) (all_cons (m15) (all_cons (a10 (o 6) (z 1) H0) (all_cons (b8 (o 6) (z 14) H1) (all_cons (m35) (all_cons (a10 (o 7) (z 1) H2) (all_cons (a8 (o 7) (z 14) H3) (all_cons (a8 (z 0) (o 0) H4) (all_cons (a8 (o 0) (z 9) H5) (all_cons (a8 (z 0) (o 1) H6) (all_cons (a8 (o 1) (z 9) H7) (all_cons (a8 (z 0) (o 2) H8) (all_cons (a8 (o 2) (z 0) H9) (all_cons (a8 (z (-2147483648)) (o 3) H10) (all_cons (b8 (o 3) (z 2147483647) H11) all_nil))))))))))))))) known_nil (a := ag (o 4)) (b := false) (by kernel_rfl)) not_false
                      · exact bo_f (run5 (s4 := s4) hL (all_cons (b10 (o 4) (z 1) (show ¬ 1 ≤ s4 by omega)) (all_cons (m15) (all_cons (a10 (o 6) (z 1) H0) (all_cons (b8 (o 6) (z 14) H1) (all_cons (m35) (all_cons (a10 (o 7) (z 1) H2) (all_cons (a8 (o 7) (z 14) H3) (all_cons (a8 (z 0) (o 0) H4) (all_cons (a8 (o 0) (z 9) H5) (all_cons (a8 (z 0) (o 1) H6) (all_cons (a8 (o 1) (z 9) H7) (all_cons (a8 (z 0) (o 2) H8) (all_cons (a8 (o 2) (z 0) H9) (all_cons (b8 (z (-2147483648)) (o 3) H10) all_nil)))))))))))))) known_nil (a := ag (o 4)) (b := false) (by kernel_rfl)) not_false
                    · exact bo_f (run5 (s4 := s4) hL (all_cons (b10 (o 4) (z 1) (show ¬ 1 ≤ s4 by omega)) (all_cons (m15) (all_cons (a10 (o 6) (z 1) H0) (all_cons (b8 (o 6) (z 14) H1) (all_cons (m35) (all_cons (a10 (o 7) (z 1) H2) (all_cons (a8 (o 7) (z 14) H3) (all_cons (a8 (z 0) (o 0) H4) (all_cons (a8 (o 0) (z 9) H5) (all_cons (a8 (z 0) (o 1) H6) (all_cons (a8 (o 1) (z 9) H7) (all_cons (a8 (z 0) (o 2) H8) (all_cons (b8 (o 2) (z 0) H9) all_nil))))))))))))) known_nil (a := ag (o 4)) (b := false) (by kernel_rfl)) not_false
                  · exact bo_f (run5 (s4 := s4) hL (all_cons (b10 (o 4) (z 1) (show ¬ 1 ≤ s4 by omega)) (all_cons (m15) (all_cons (a10 (o 6) (z 1) H0) (all_cons (b8 (o 6) (z 14) H1) (all_cons (m35) (all_cons (a10 (o 7) (z 1) H2) (all_cons (a8 (o 7) (z 14) H3) (all_cons (a8 (z 0) (o 0) H4) (all_cons (a8 (o 0) (z 9) H5) (all_cons (a8 (z 0) (o 1) H6) (all_cons (a8 (o 1) (z 9) H7) (all_cons (b8 (z 0) (o 2) H8) all_nil)))))))))))) known_nil (a := ag (o 4)) (b := false) (by kernel_rfl)) not_false
                · exact bo_f (run5 (s4 := s4) hL (all_cons (b10 (o 4) (z 1) (show ¬ 1 ≤ s4 by omega)) (all_cons (m15) (all_cons (a10 (o 6) (z 1) H0) (all_cons (b8 (o 6) (z 14) H1) (all_cons (m35) (all_cons (a10 (o 7) (z 1) H2) (all_cons (a8 (o 7) (z 14) H3) (all_cons (a8 (z 0) (o 0) H4) (all_cons (a8 (o 0) (z 9) H5) (all_cons (a8 (z 0) (o 1) H6) (all_cons (b8 (o 1) (z 9) H7) all_nil))))))))))) known_nil (a := ag (o 4)) (b := false) (by kernel_rfl)) not_false
              · exact bo_f (run5 (s4 := s4) hL (all_cons (b10 (o 4) (z 1) (show ¬ 1 ≤ s4 by omega)) (all_cons (m15) (all_cons (a10 (o 6) (z 1) H0) (all_cons (b8 (o 6) (z 14) H1) (all_cons (m35) (all_cons (a10 (o 7) (z 1) H2) (all_cons (a8 (o 7) (z 14) H3) (all_cons (a8 (z 0) (o 0) H4) (all_cons (a8 (o 0) (z 9) H5) (all_cons (b8 (z 0) (o 1) H6) all_nil)))))))))) known_nil (a := ag (o 4)) (b := false) (by kernel_rfl)) not_false
            · exact bo_f (run5 (s4 := s4) hL (all_cons (b10 (o 4) (z 1) (show ¬ 1 ≤ s4 by omega)) (all_cons (m15) (all_cons (a10 (o 6) (z 1) H0) (all_cons (b8 (o 6) (z 14) H1) (all_cons (m35) (all_cons (a10 (o 7) (z 1) H2) (all_cons (a8 (o 7) (z 14) H3) (all_cons (a8 (z 0) (o 0) H4) (all_cons (b8 (o 0) (z 9) H5) all_nil))))))))) known_nil (a := ag (o 4)) (b := false) (by kernel_rfl)) not_false
          · exact bo_f (run5 (s4 := s4) hL (all_cons (b10 (o 4) (z 1) (show ¬ 1 ≤ s4 by omega)) (all_cons (m15) (all_cons (a10 (o 6) (z 1) H0) (all_cons (b8 (o 6) (z 14) H1) (all_cons (m35) (all_cons (a10 (o 7) (z 1) H2) (all_cons (a8 (o 7) (z 14) H3) (all_cons (b8 (z 0) (o 0) H4) all_nil)))))))) known_nil (a := ag (o 4)) (b := false) (by kernel_rfl)) not_false
        · exact bo_f (run5 (s4 := s4) hL (all_cons (b10 (o 4) (z 1) (show ¬ 1 ≤ s4 by omega)) (all_cons (m15) (all_cons (a10 (o 6) (z 1) H0) (all_cons (b8 (o 6) (z 14) H1) (all_cons (m35) (all_cons (a10 (o 7) (z 1) H2) (all_cons (b8 (o 7) (z 14) H3) all_nil))))))) known_nil (a := ag (o 4)) (b := false) (by kernel_rfl)) not_false
      · exact bo_f (run5 (s4 := s4) hL (all_cons (b10 (o 4) (z 1) (show ¬ 1 ≤ s4 by omega)) (all_cons (m15) (all_cons (a10 (o 6) (z 1) H0) (all_cons (b8 (o 6) (z 14) H1) (all_cons (m35) (all_cons (b10 (o 7) (z 1) H2) all_nil)))))) known_nil (a := ag (o 4)) (b := false) (by kernel_rfl)) not_false
  · by_cases H1 : 1 ≤ (IntKind.i64.wrap (s4 - 35))
    · by_cases H2 : (IntKind.i64.wrap (s4 - 35)) ≤ 14
      · by_cases H3 : 0 ≤ s0
        · by_cases H4 : s0 ≤ 9
          · by_cases H5 : 0 ≤ s1
            · by_cases H6 : s1 ≤ 9
              · by_cases H7 : 0 ≤ s2
                · by_cases H8 : s2 ≤ 0
                  · by_cases H9 : -2147483648 ≤ s3
                    · by_cases H10 : s3 ≤ 2147483647
                      · exact bo_t (run5 (s4 := s4) hL (all_cons (b10 (o 4) (z 1) (show ¬ 1 ≤ s4 by omega)) (all_cons (m15) (all_cons (b10 (o 6) (z 1) H0) (all_cons (m35) (all_cons (a10 (o 7) (z 1) H1) (all_cons (a8 (o 7) (z 14) H2) (all_cons (a8 (z 0) (o 0) H3) (all_cons (a8 (o 0) (z 9) H4) (all_cons (a8 (z 0) (o 1) H5) (all_cons (a8 (o 1) (z 9) H6) (all_cons (a8 (z 0) (o 2) H7) (all_cons (a8 (o 2) (z 0) H8) (all_cons (a8 (z (-2147483648)) (o 3) H9) (all_cons (a8 (o 3) (z 2147483647) H10) all_nil)))))))))))))) known_nil (a := ag (o 4)) (b := true) (by kernel_rfl)) (by simp only [IntKind.wrap_i64] at *; omega)
                      · exact bo_f (run5 (s4 := s4) hL (all_cons (b10 (o 4) (z 1) (show ¬ 1 ≤ s4 by omega)) (all_cons (m15) (all_cons (b10 (o 6) (z 1) H0) (all_cons (m35) (all_cons (a10 (o 7) (z 1) H1) (all_cons (a8 (o 7) (z 14) H2) (all_cons (a8 (z 0) (o 0) H3) (all_cons (a8 (o 0) (z 9) H4) (all_cons (a8 (z 0) (o 1) H5) (all_cons (a8 (o 1) (z 9) H6) (all_cons (a8 (z 0) (o 2) H7) (all_cons (a8 (o 2) (z 0) H8) (all_cons (a8 (z (-2147483648)) (o 3) H9) (all_cons (b8 (o 3) (z 2147483647) H10) all_nil)))))))))))))) known_nil (a := ag (o 4)) (b := false) (by kernel_rfl)) not_false
                    · exact bo_f (run5 (s4 := s4) hL (all_cons (b10 (o 4) (z 1) (show ¬ 1 ≤ s4 by omega)) (all_cons (m15) (all_cons (b10 (o 6) (z 1) H0) (all_cons (m35) (all_cons (a10 (o 7) (z 1) H1) (all_cons (a8 (o 7) (z 14) H2) (all_cons (a8 (z 0) (o 0) H3) (all_cons (a8 (o 0) (z 9) H4) (all_cons (a8 (z 0) (o 1) H5) (all_cons (a8 (o 1) (z 9) H6) (all_cons (a8 (z 0) (o 2) H7) (all_cons (a8 (o 2) (z 0) H8) (all_cons (b8 (z (-2147483648)) (o 3) H9) all_nil))))))))))))) known_nil (a := ag (o 4)) (b := false) (by kernel_rfl)) not_false
                  · exact bo_f (run5 (s4 := s4) hL (all_cons (b10 (o 4) (z 1) (show ¬ 1 ≤ s4 by omega)) (all_cons (m15) (all_cons (b10 (o 6) (z 1) H0) (all_cons (m35) (all_cons (a10 (o 7) (z 1) H1) (all_cons (a8 (o 7) (z 14) H2) (all_cons (a8 (z 0) (o 0) H3) (all_cons (a8 (o 0) (z 9) H4) (all_cons (a8 (z 0) (o 1) H5) (all_cons (a8 (o 1) (z 9) H6) (all_cons (a8 (z 0) (o 2) H7) (all_cons (b8 (o 2) (z 0) H8) all_nil)))))))))))) known_nil (a := ag (o 4)) (b := false) (by kernel_rfl)) not_false
                · exact bo_f (run5 (s4 := s4) hL (all_cons (b10 (o 4) (z 1) (show ¬ 1 ≤ s4 by omega)) (all_cons (m15) (all_cons (b10 (o 6) (z 1) H0) (all_cons (m35) (all_cons (a10 (o 7) (z 1) H1) (all_cons (a8 (o 7) (z 14) H2) (all_cons (a8 (z 0) (o 0) H3) (all_cons (a8 (o 0) (z 9) H4) (all_cons (a8 (z 0) (o 1) H5) (all_cons (a8 (o 1) (z 9) H6) (all_cons (b8 (z 0) (o 2) H7) all_nil))))))))))) known_nil (a := ag (o 4)) (b := false) (by kernel_rfl)) not_false
              · exact bo_f (run5 (s4 := s4) hL (all_cons (b10 (o 4) (z 1) (show ¬ 1 ≤ s4 by omega)) (all_cons (m15) (all_cons (b10 (o 6) (z 1) H0) (all_cons (m35) (all_cons (a10 (o 7) (z 1) H1) (all_cons (a8 (o 7) (z 14) H2) (all_cons (a8 (z 0) (o 0) H3) (all_cons (a8 (o 0) (z 9) H4) (all_cons (a8 (z 0) (o 1) H5) (all_cons (b8 (o 1) (z 9) H6) all_nil)))))))))) known_nil (a := ag (o 4)) (b := false) (by kernel_rfl)) not_false
            · exact bo_f (run5 (s4 := s4) hL (all_cons (b10 (o 4) (z 1) (show ¬ 1 ≤ s4 by omega)) (all_cons (m15) (all_cons (b10 (o 6) (z 1) H0) (all_cons (m35) (all_cons (a10 (o 7) (z 1) H1) (all_cons (a8 (o 7) (z 14) H2) (all_cons (a8 (z 0) (o 0) H3) (all_cons (a8 (o 0) (z 9) H4) (all_cons (b8 (z 0) (o 1) H5) all_nil))))))))) known_nil (a := ag (o 4)) (b := false) (by kernel_rfl)) not_false
          · exact bo_f (run5 (s4 := s4) hL (all_cons (b10 (o 4) (z 1) (show ¬ 1 ≤ s4 by omega)) (all_cons (m15) (all_cons (b10 (o 6) (z 1) H0) (all_cons (m35) (all_cons (a10 (o 7) (z 1) H1) (all_cons (a8 (o 7) (z 14) H2) (all_cons (a8 (z 0) (o 0) H3) (all_cons (b8 (o 0) (z 9) H4) all_nil)))))))) known_nil (a := ag (o 4)) (b := false) (by kernel_rfl)) not_false
        · exact bo_f (run5 (s4 := s4) hL (all_cons (b10 (o 4) (z 1) (show ¬ 1 ≤ s4 by omega)) (all_cons (m15) (all_cons (b10 (o 6) (z 1) H0) (all_cons (m35) (all_cons (a10 (o 7) (z 1) H1) (all_cons (a8 (o 7) (z 14) H2) (all_cons (b8 (z 0) (o 0) H3) all_nil))))))) known_nil (a := ag (o 4)) (b := false) (by kernel_rfl)) not_false
      · exact bo_f (run5 (s4 := s4) hL (all_cons (b10 (o 4) (z 1) (show ¬ 1 ≤ s4 by omega)) (all_cons (m15) (all_cons (b10 (o 6) (z 1) H0) (all_cons (m35) (all_cons (a10 (o 7) (z 1) H1) (all_cons (b8 (o 7) (z 14) H2) all_nil)))))) known_nil (a := ag (o 4)) (b := false) (by kernel_rfl)) not_false
    · exact bo_f (run5 (s4 := s4) hL (all_cons (b10 (o 4) (z 1) (show ¬ 1 ≤ s4 by omega)) (all_cons (m15) (all_cons (b10 (o 6) (z 1) H0) (all_cons (m35) (all_cons (b10 (o 7) (z 1) H1) all_nil))))) known_nil (a := ag (o 4)) (b := false) (by kernel_rfl)) not_false
theorem j_vbini {s0 s1 s2 s3 s4 : Int} {W : World} (hL : Laid W) (l3 : -9223372036854775808 ≤ s3) (u3 : s3 ≤ 9223372036854775807) (l4 : -9223372036854775808 ≤ s4) (u4 : s4 ≤ 9223372036854775807) (hk : 36 ≤ s4 ∧ s4 ≤ 49) : Calls Tryd.prog 9 #[.agg #[.int .i64 s4, .int .i64 s0, .int .i64 s1, .int .i64 s2, .int .i64 s3]] W (Bo W (decide ((0 ≤ s0 ∧ s0 ≤ 9) ∧ (0 ≤ s1 ∧ s1 ≤ 9) ∧ s2 = 0 ∧ (-2147483648 ≤ s3 ∧ s3 ≤ 2147483647)))) := by
  by_cases H0 : 0 ≤ s0
  · by_cases H1 : s0 ≤ 9
    · by_cases H2 : 0 ≤ s1
      · by_cases H3 : s1 ≤ 9
        · by_cases H4 : 0 ≤ s2
          · by_cases H5 : s2 ≤ 0
            · by_cases H6 : -2147483648 ≤ s3
              · by_cases H7 : s3 ≤ 2147483647
                · exact bo_t (run5 (s4 := s4) hL (all_cons (a10 (o 4) (z 1) (show 1 ≤ s4 by omega)) (all_cons (b8 (o 4) (z 14) (show ¬ s4 ≤ 14 by omega)) (all_cons (m15) (all_cons (a10 (o 6) (z 1) (show 1 ≤ (IntKind.i64.wrap (s4 - 15)) by simp only [IntKind.wrap_i64] at *; omega)) (all_cons (b8 (o 6) (z 14) (show ¬ (IntKind.i64.wrap (s4 - 15)) ≤ 14 by simp only [IntKind.wrap_i64] at *; omega)) (all_cons (m35) (all_cons (a10 (o 7) (z 1) (show 1 ≤ (IntKind.i64.wrap (s4 - 35)) by simp only [IntKind.wrap_i64] at *; omega)) (all_cons (a8 (o 7) (z 14) (show (IntKind.i64.wrap (s4 - 35)) ≤ 14 by simp only [IntKind.wrap_i64] at *; omega)) (all_cons (a8 (z 0) (o 0) H0) (all_cons (a8 (o 0) (z 9) H1) (all_cons (a8 (z 0) (o 1) H2) (all_cons (a8 (o 1) (z 9) H3) (all_cons (a8 (z 0) (o 2) H4) (all_cons (a8 (o 2) (z 0) H5) (all_cons (a8 (z (-2147483648)) (o 3) H6) (all_cons (a8 (o 3) (z 2147483647) H7) all_nil)))))))))))))))) known_nil (a := ag (o 4)) (b := true) (by kernel_rfl)) (by omega)
                · exact bo_f (run5 (s4 := s4) hL (all_cons (a10 (o 4) (z 1) (show 1 ≤ s4 by omega)) (all_cons (b8 (o 4) (z 14) (show ¬ s4 ≤ 14 by omega)) (all_cons (m15) (all_cons (a10 (o 6) (z 1) (show 1 ≤ (IntKind.i64.wrap (s4 - 15)) by simp only [IntKind.wrap_i64] at *; omega)) (all_cons (b8 (o 6) (z 14) (show ¬ (IntKind.i64.wrap (s4 - 15)) ≤ 14 by simp only [IntKind.wrap_i64] at *; omega)) (all_cons (m35) (all_cons (a10 (o 7) (z 1) (show 1 ≤ (IntKind.i64.wrap (s4 - 35)) by simp only [IntKind.wrap_i64] at *; omega)) (all_cons (a8 (o 7) (z 14) (show (IntKind.i64.wrap (s4 - 35)) ≤ 14 by simp only [IntKind.wrap_i64] at *; omega)) (all_cons (a8 (z 0) (o 0) H0) (all_cons (a8 (o 0) (z 9) H1) (all_cons (a8 (z 0) (o 1) H2) (all_cons (a8 (o 1) (z 9) H3) (all_cons (a8 (z 0) (o 2) H4) (all_cons (a8 (o 2) (z 0) H5) (all_cons (a8 (z (-2147483648)) (o 3) H6) (all_cons (b8 (o 3) (z 2147483647) H7) all_nil)))))))))))))))) known_nil (a := ag (o 4)) (b := false) (by kernel_rfl)) (by omega)
              · exact bo_f (run5 (s4 := s4) hL (all_cons (a10 (o 4) (z 1) (show 1 ≤ s4 by omega)) (all_cons (b8 (o 4) (z 14) (show ¬ s4 ≤ 14 by omega)) (all_cons (m15) (all_cons (a10 (o 6) (z 1) (show 1 ≤ (IntKind.i64.wrap (s4 - 15)) by simp only [IntKind.wrap_i64] at *; omega)) (all_cons (b8 (o 6) (z 14) (show ¬ (IntKind.i64.wrap (s4 - 15)) ≤ 14 by simp only [IntKind.wrap_i64] at *; omega)) (all_cons (m35) (all_cons (a10 (o 7) (z 1) (show 1 ≤ (IntKind.i64.wrap (s4 - 35)) by simp only [IntKind.wrap_i64] at *; omega)) (all_cons (a8 (o 7) (z 14) (show (IntKind.i64.wrap (s4 - 35)) ≤ 14 by simp only [IntKind.wrap_i64] at *; omega)) (all_cons (a8 (z 0) (o 0) H0) (all_cons (a8 (o 0) (z 9) H1) (all_cons (a8 (z 0) (o 1) H2) (all_cons (a8 (o 1) (z 9) H3) (all_cons (a8 (z 0) (o 2) H4) (all_cons (a8 (o 2) (z 0) H5) (all_cons (b8 (z (-2147483648)) (o 3) H6) all_nil))))))))))))))) known_nil (a := ag (o 4)) (b := false) (by kernel_rfl)) (by omega)
            · exact bo_f (run5 (s4 := s4) hL (all_cons (a10 (o 4) (z 1) (show 1 ≤ s4 by omega)) (all_cons (b8 (o 4) (z 14) (show ¬ s4 ≤ 14 by omega)) (all_cons (m15) (all_cons (a10 (o 6) (z 1) (show 1 ≤ (IntKind.i64.wrap (s4 - 15)) by simp only [IntKind.wrap_i64] at *; omega)) (all_cons (b8 (o 6) (z 14) (show ¬ (IntKind.i64.wrap (s4 - 15)) ≤ 14 by simp only [IntKind.wrap_i64] at *; omega)) (all_cons (m35) (all_cons (a10 (o 7) (z 1) (show 1 ≤ (IntKind.i64.wrap (s4 - 35)) by simp only [IntKind.wrap_i64] at *; omega)) (all_cons (a8 (o 7) (z 14) (show (IntKind.i64.wrap (s4 - 35)) ≤ 14 by simp only [IntKind.wrap_i64] at *; omega)) (all_cons (a8 (z 0) (o 0) H0) (all_cons (a8 (o 0) (z 9) H1) (all_cons (a8 (z 0) (o 1) H2) (all_cons (a8 (o 1) (z 9) H3) (all_cons (a8 (z 0) (o 2) H4) (all_cons (b8 (o 2) (z 0) H5) all_nil)))))))))))))) known_nil (a := ag (o 4)) (b := false) (by kernel_rfl)) (by omega)
          · exact bo_f (run5 (s4 := s4) hL (all_cons (a10 (o 4) (z 1) (show 1 ≤ s4 by omega)) (all_cons (b8 (o 4) (z 14) (show ¬ s4 ≤ 14 by omega)) (all_cons (m15) (all_cons (a10 (o 6) (z 1) (show 1 ≤ (IntKind.i64.wrap (s4 - 15)) by simp only [IntKind.wrap_i64] at *; omega)) (all_cons (b8 (o 6) (z 14) (show ¬ (IntKind.i64.wrap (s4 - 15)) ≤ 14 by simp only [IntKind.wrap_i64] at *; omega)) (all_cons (m35) (all_cons (a10 (o 7) (z 1) (show 1 ≤ (IntKind.i64.wrap (s4 - 35)) by simp only [IntKind.wrap_i64] at *; omega)) (all_cons (a8 (o 7) (z 14) (show (IntKind.i64.wrap (s4 - 35)) ≤ 14 by simp only [IntKind.wrap_i64] at *; omega)) (all_cons (a8 (z 0) (o 0) H0) (all_cons (a8 (o 0) (z 9) H1) (all_cons (a8 (z 0) (o 1) H2) (all_cons (a8 (o 1) (z 9) H3) (all_cons (b8 (z 0) (o 2) H4) all_nil))))))))))))) known_nil (a := ag (o 4)) (b := false) (by kernel_rfl)) (by omega)
        · exact bo_f (run5 (s4 := s4) hL (all_cons (a10 (o 4) (z 1) (show 1 ≤ s4 by omega)) (all_cons (b8 (o 4) (z 14) (show ¬ s4 ≤ 14 by omega)) (all_cons (m15) (all_cons (a10 (o 6) (z 1) (show 1 ≤ (IntKind.i64.wrap (s4 - 15)) by simp only [IntKind.wrap_i64] at *; omega)) (all_cons (b8 (o 6) (z 14) (show ¬ (IntKind.i64.wrap (s4 - 15)) ≤ 14 by simp only [IntKind.wrap_i64] at *; omega)) (all_cons (m35) (all_cons (a10 (o 7) (z 1) (show 1 ≤ (IntKind.i64.wrap (s4 - 35)) by simp only [IntKind.wrap_i64] at *; omega)) (all_cons (a8 (o 7) (z 14) (show (IntKind.i64.wrap (s4 - 35)) ≤ 14 by simp only [IntKind.wrap_i64] at *; omega)) (all_cons (a8 (z 0) (o 0) H0) (all_cons (a8 (o 0) (z 9) H1) (all_cons (a8 (z 0) (o 1) H2) (all_cons (b8 (o 1) (z 9) H3) all_nil)))))))))))) known_nil (a := ag (o 4)) (b := false) (by kernel_rfl)) (by omega)
      · exact bo_f (run5 (s4 := s4) hL (all_cons (a10 (o 4) (z 1) (show 1 ≤ s4 by omega)) (all_cons (b8 (o 4) (z 14) (show ¬ s4 ≤ 14 by omega)) (all_cons (m15) (all_cons (a10 (o 6) (z 1) (show 1 ≤ (IntKind.i64.wrap (s4 - 15)) by simp only [IntKind.wrap_i64] at *; omega)) (all_cons (b8 (o 6) (z 14) (show ¬ (IntKind.i64.wrap (s4 - 15)) ≤ 14 by simp only [IntKind.wrap_i64] at *; omega)) (all_cons (m35) (all_cons (a10 (o 7) (z 1) (show 1 ≤ (IntKind.i64.wrap (s4 - 35)) by simp only [IntKind.wrap_i64] at *; omega)) (all_cons (a8 (o 7) (z 14) (show (IntKind.i64.wrap (s4 - 35)) ≤ 14 by simp only [IntKind.wrap_i64] at *; omega)) (all_cons (a8 (z 0) (o 0) H0) (all_cons (a8 (o 0) (z 9) H1) (all_cons (b8 (z 0) (o 1) H2) all_nil))))))))))) known_nil (a := ag (o 4)) (b := false) (by kernel_rfl)) (by omega)
    · exact bo_f (run5 (s4 := s4) hL (all_cons (a10 (o 4) (z 1) (show 1 ≤ s4 by omega)) (all_cons (b8 (o 4) (z 14) (show ¬ s4 ≤ 14 by omega)) (all_cons (m15) (all_cons (a10 (o 6) (z 1) (show 1 ≤ (IntKind.i64.wrap (s4 - 15)) by simp only [IntKind.wrap_i64] at *; omega)) (all_cons (b8 (o 6) (z 14) (show ¬ (IntKind.i64.wrap (s4 - 15)) ≤ 14 by simp only [IntKind.wrap_i64] at *; omega)) (all_cons (m35) (all_cons (a10 (o 7) (z 1) (show 1 ≤ (IntKind.i64.wrap (s4 - 35)) by simp only [IntKind.wrap_i64] at *; omega)) (all_cons (a8 (o 7) (z 14) (show (IntKind.i64.wrap (s4 - 35)) ≤ 14 by simp only [IntKind.wrap_i64] at *; omega)) (all_cons (a8 (z 0) (o 0) H0) (all_cons (b8 (o 0) (z 9) H1) all_nil)))))))))) known_nil (a := ag (o 4)) (b := false) (by kernel_rfl)) (by omega)
  · exact bo_f (run5 (s4 := s4) hL (all_cons (a10 (o 4) (z 1) (show 1 ≤ s4 by omega)) (all_cons (b8 (o 4) (z 14) (show ¬ s4 ≤ 14 by omega)) (all_cons (m15) (all_cons (a10 (o 6) (z 1) (show 1 ≤ (IntKind.i64.wrap (s4 - 15)) by simp only [IntKind.wrap_i64] at *; omega)) (all_cons (b8 (o 6) (z 14) (show ¬ (IntKind.i64.wrap (s4 - 15)) ≤ 14 by simp only [IntKind.wrap_i64] at *; omega)) (all_cons (m35) (all_cons (a10 (o 7) (z 1) (show 1 ≤ (IntKind.i64.wrap (s4 - 35)) by simp only [IntKind.wrap_i64] at *; omega)) (all_cons (a8 (o 7) (z 14) (show (IntKind.i64.wrap (s4 - 35)) ≤ 14 by simp only [IntKind.wrap_i64] at *; omega)) (all_cons (b8 (z 0) (o 0) H0) all_nil))))))))) known_nil (a := ag (o 4)) (b := false) (by kernel_rfl)) (by omega)
theorem j_r4 {s0 s1 s2 s3 s4 : Int} {W : World} (hL : Laid W) (l3 : -9223372036854775808 ≤ s3) (u3 : s3 ≤ 9223372036854775807) : Calls Tryd.prog 10 #[.agg #[.int .i64 4, .int .i64 s0, .int .i64 s1, .int .i64 s2, .int .i64 s3]] W (Bo W (decide ((0 ≤ s0 ∧ s0 ≤ 9) ∧ (0 ≤ s1 ∧ s1 ≤ 9) ∧ s2 = 0 ∧ (-2147483648 ≤ s3 ∧ s3 ≤ 2147483647)))) := by
  by_cases H0 : 0 ≤ s0
  · by_cases H1 : s0 < 10
    · by_cases H2 : 0 ≤ s1
      · by_cases H3 : s1 < 10
        · by_cases H4 : s2 = 0
          · by_cases H5 : -2147483648 ≤ s3
            · by_cases H6 : s3 < 2147483648
              · exact bo_t (run5 (s4 := s4) hL (all_cons (a10 (o 0) (z 0) H0) (all_cons (a7 (o 0) (z 10) H1) (all_cons (a10 (o 1) (z 0) H2) (all_cons (a7 (o 1) (z 10) H3) (all_cons (a5 (o 2) (z 0) H4) (all_cons (a10 (o 3) (z (-2147483648)) H5) (all_cons (a7 (o 3) (z 2147483648) H6) all_nil))))))) known_nil (a := ag (z 4)) (b := true) (by kernel_rfl)) (by omega)
              · exact bo_f (run5 (s4 := s4) hL (all_cons (a10 (o 0) (z 0) H0) (all_cons (a7 (o 0) (z 10) H1) (all_cons (a10 (o 1) (z 0) H2) (all_cons (a7 (o 1) (z 10) H3) (all_cons (a5 (o 2) (z 0) H4) (all_cons (a10 (o 3) (z (-2147483648)) H5) (all_cons (b7 (o 3) (z 2147483648) H6) all_nil))))))) known_nil (a := ag (z 4)) (b := false) (by kernel_rfl)) (by omega)
            · exact bo_f (run5 (s4 := s4) hL (all_cons (a10 (o 0) (z 0) H0) (all_cons (a7 (o 0) (z 10) H1) (all_cons (a10 (o 1) (z 0) H2) (all_cons (a7 (o 1) (z 10) H3) (all_cons (a5 (o 2) (z 0) H4) (all_cons (b10 (o 3) (z (-2147483648)) H5) all_nil)))))) known_nil (a := ag (z 4)) (b := false) (by kernel_rfl)) (by omega)
          · exact bo_f (run5 (s4 := s4) hL (all_cons (a10 (o 0) (z 0) H0) (all_cons (a7 (o 0) (z 10) H1) (all_cons (a10 (o 1) (z 0) H2) (all_cons (a7 (o 1) (z 10) H3) (all_cons (b5 (o 2) (z 0) H4) all_nil))))) known_nil (a := ag (z 4)) (b := false) (by kernel_rfl)) (by omega)
        · exact bo_f (run5 (s4 := s4) hL (all_cons (a10 (o 0) (z 0) H0) (all_cons (a7 (o 0) (z 10) H1) (all_cons (a10 (o 1) (z 0) H2) (all_cons (b7 (o 1) (z 10) H3) all_nil)))) known_nil (a := ag (z 4)) (b := false) (by kernel_rfl)) (by omega)
      · exact bo_f (run5 (s4 := s4) hL (all_cons (a10 (o 0) (z 0) H0) (all_cons (a7 (o 0) (z 10) H1) (all_cons (b10 (o 1) (z 0) H2) all_nil))) known_nil (a := ag (z 4)) (b := false) (by kernel_rfl)) (by omega)
    · exact bo_f (run5 (s4 := s4) hL (all_cons (a10 (o 0) (z 0) H0) (all_cons (b7 (o 0) (z 10) H1) all_nil)) known_nil (a := ag (z 4)) (b := false) (by kernel_rfl)) (by omega)
  · exact bo_f (run5 (s4 := s4) hL (all_cons (b10 (o 0) (z 0) H0) all_nil) known_nil (a := ag (z 4)) (b := false) (by kernel_rfl)) (by omega)
theorem j_r8 {s0 s1 s2 s3 s4 : Int} {W : World} (hL : Laid W) (l3 : -9223372036854775808 ≤ s3) (u3 : s3 ≤ 9223372036854775807) : Calls Tryd.prog 10 #[.agg #[.int .i64 8, .int .i64 s0, .int .i64 s1, .int .i64 s2, .int .i64 s3]] W (Bo W (decide (s0 = 0 ∧ (0 ≤ s1 ∧ s1 ≤ 9) ∧ (0 ≤ s2 ∧ s2 ≤ 9) ∧ s3 = 0))) := by
  by_cases H0 : s0 = 0
  · by_cases H1 : 0 ≤ s1
    · by_cases H2 : s1 < 10
      · by_cases H3 : 0 ≤ s2
        · by_cases H4 : s2 < 10
          · by_cases H5 : s3 = 0
            · exact bo_t (run5 (s4 := s4) hL (all_cons (a5 (o 0) (z 0) H0) (all_cons (a10 (o 1) (z 0) H1) (all_cons (a7 (o 1) (z 10) H2) (all_cons (a10 (o 2) (z 0) H3) (all_cons (a7 (o 2) (z 10) H4) (all_cons (a5 (o 3) (z 0) H5) all_nil)))))) known_nil (a := ag (z 8)) (b := true) (by kernel_rfl)) (by omega)
            · exact bo_f (run5 (s4 := s4) hL (all_cons (a5 (o 0) (z 0) H0) (all_cons (a10 (o 1) (z 0) H1) (all_cons (a7 (o 1) (z 10) H2) (all_cons (a10 (o 2) (z 0) H3) (all_cons (a7 (o 2) (z 10) H4) (all_cons (b5 (o 3) (z 0) H5) all_nil)))))) known_nil (a := ag (z 8)) (b := false) (by kernel_rfl)) (by omega)
          · exact bo_f (run5 (s4 := s4) hL (all_cons (a5 (o 0) (z 0) H0) (all_cons (a10 (o 1) (z 0) H1) (all_cons (a7 (o 1) (z 10) H2) (all_cons (a10 (o 2) (z 0) H3) (all_cons (b7 (o 2) (z 10) H4) all_nil))))) known_nil (a := ag (z 8)) (b := false) (by kernel_rfl)) (by omega)
        · exact bo_f (run5 (s4 := s4) hL (all_cons (a5 (o 0) (z 0) H0) (all_cons (a10 (o 1) (z 0) H1) (all_cons (a7 (o 1) (z 10) H2) (all_cons (b10 (o 2) (z 0) H3) all_nil)))) known_nil (a := ag (z 8)) (b := false) (by kernel_rfl)) (by omega)
      · exact bo_f (run5 (s4 := s4) hL (all_cons (a5 (o 0) (z 0) H0) (all_cons (a10 (o 1) (z 0) H1) (all_cons (b7 (o 1) (z 10) H2) all_nil))) known_nil (a := ag (z 8)) (b := false) (by kernel_rfl)) (by omega)
    · exact bo_f (run5 (s4 := s4) hL (all_cons (a5 (o 0) (z 0) H0) (all_cons (b10 (o 1) (z 0) H1) all_nil)) known_nil (a := ag (z 8)) (b := false) (by kernel_rfl)) (by omega)
  · exact bo_f (run5 (s4 := s4) hL (all_cons (b5 (o 0) (z 0) H0) all_nil) known_nil (a := ag (z 8)) (b := false) (by kernel_rfl)) (by omega)
theorem j_r12 {s0 s1 s2 s3 s4 : Int} {W : World} (hL : Laid W) (l3 : -9223372036854775808 ≤ s3) (u3 : s3 ≤ 9223372036854775807) : Calls Tryd.prog 10 #[.agg #[.int .i64 12, .int .i64 s0, .int .i64 s1, .int .i64 s2, .int .i64 s3]] W (Bo W (decide (s0 = 0 ∧ s1 = 0 ∧ s2 = 0 ∧ s3 = 0))) := by
  by_cases H0 : s0 = 0
  · by_cases H1 : s1 = 0
    · by_cases H2 : s2 = 0
      · by_cases H3 : s3 = 0
        · exact bo_t (run5 (s4 := s4) hL (all_cons (a5 (o 0) (z 0) H0) (all_cons (a5 (o 1) (z 0) H1) (all_cons (a5 (o 2) (z 0) H2) (all_cons (a5 (o 3) (z 0) H3) all_nil)))) known_nil (a := ag (z 12)) (b := true) (by kernel_rfl)) (by omega)
        · exact bo_f (run5 (s4 := s4) hL (all_cons (a5 (o 0) (z 0) H0) (all_cons (a5 (o 1) (z 0) H1) (all_cons (a5 (o 2) (z 0) H2) (all_cons (b5 (o 3) (z 0) H3) all_nil)))) known_nil (a := ag (z 12)) (b := false) (by kernel_rfl)) (by omega)
      · exact bo_f (run5 (s4 := s4) hL (all_cons (a5 (o 0) (z 0) H0) (all_cons (a5 (o 1) (z 0) H1) (all_cons (b5 (o 2) (z 0) H2) all_nil))) known_nil (a := ag (z 12)) (b := false) (by kernel_rfl)) (by omega)
    · exact bo_f (run5 (s4 := s4) hL (all_cons (a5 (o 0) (z 0) H0) (all_cons (b5 (o 1) (z 0) H1) all_nil)) known_nil (a := ag (z 12)) (b := false) (by kernel_rfl)) (by omega)
  · exact bo_f (run5 (s4 := s4) hL (all_cons (b5 (o 0) (z 0) H0) all_nil) known_nil (a := ag (z 12)) (b := false) (by kernel_rfl)) (by omega)
theorem j_r16 {s0 s1 s2 s3 s4 : Int} {W : World} (hL : Laid W) (l3 : -9223372036854775808 ≤ s3) (u3 : s3 ≤ 9223372036854775807) : Calls Tryd.prog 10 #[.agg #[.int .i64 16, .int .i64 s0, .int .i64 s1, .int .i64 s2, .int .i64 s3]] W (Bo W (decide ((0 ≤ s0 ∧ s0 ≤ 9) ∧ (0 ≤ s1 ∧ s1 ≤ 9) ∧ (0 ≤ s2 ∧ s2 ≤ 9) ∧ s3 = 0))) := by
  by_cases H0 : 0 ≤ s0
  · by_cases H1 : s0 < 10
    · by_cases H2 : 0 ≤ s1
      · by_cases H3 : s1 < 10
        · by_cases H4 : 0 ≤ s2
          · by_cases H5 : s2 < 10
            · by_cases H6 : s3 = 0
              · exact bo_t (run5 (s4 := s4) hL (all_cons (a10 (o 0) (z 0) H0) (all_cons (a7 (o 0) (z 10) H1) (all_cons (a10 (o 1) (z 0) H2) (all_cons (a7 (o 1) (z 10) H3) (all_cons (a10 (o 2) (z 0) H4) (all_cons (a7 (o 2) (z 10) H5) (all_cons (a5 (o 3) (z 0) H6) all_nil))))))) known_nil (a := ag (z 16)) (b := true) (by kernel_rfl)) (by omega)
              · exact bo_f (run5 (s4 := s4) hL (all_cons (a10 (o 0) (z 0) H0) (all_cons (a7 (o 0) (z 10) H1) (all_cons (a10 (o 1) (z 0) H2) (all_cons (a7 (o 1) (z 10) H3) (all_cons (a10 (o 2) (z 0) H4) (all_cons (a7 (o 2) (z 10) H5) (all_cons (b5 (o 3) (z 0) H6) all_nil))))))) known_nil (a := ag (z 16)) (b := false) (by kernel_rfl)) (by omega)
            · exact bo_f (run5 (s4 := s4) hL (all_cons (a10 (o 0) (z 0) H0) (all_cons (a7 (o 0) (z 10) H1) (all_cons (a10 (o 1) (z 0) H2) (all_cons (a7 (o 1) (z 10) H3) (all_cons (a10 (o 2) (z 0) H4) (all_cons (b7 (o 2) (z 10) H5) all_nil)))))) known_nil (a := ag (z 16)) (b := false) (by kernel_rfl)) (by omega)
          · exact bo_f (run5 (s4 := s4) hL (all_cons (a10 (o 0) (z 0) H0) (all_cons (a7 (o 0) (z 10) H1) (all_cons (a10 (o 1) (z 0) H2) (all_cons (a7 (o 1) (z 10) H3) (all_cons (b10 (o 2) (z 0) H4) all_nil))))) known_nil (a := ag (z 16)) (b := false) (by kernel_rfl)) (by omega)
        · exact bo_f (run5 (s4 := s4) hL (all_cons (a10 (o 0) (z 0) H0) (all_cons (a7 (o 0) (z 10) H1) (all_cons (a10 (o 1) (z 0) H2) (all_cons (b7 (o 1) (z 10) H3) all_nil)))) known_nil (a := ag (z 16)) (b := false) (by kernel_rfl)) (by omega)
      · exact bo_f (run5 (s4 := s4) hL (all_cons (a10 (o 0) (z 0) H0) (all_cons (a7 (o 0) (z 10) H1) (all_cons (b10 (o 1) (z 0) H2) all_nil))) known_nil (a := ag (z 16)) (b := false) (by kernel_rfl)) (by omega)
    · exact bo_f (run5 (s4 := s4) hL (all_cons (a10 (o 0) (z 0) H0) (all_cons (b7 (o 0) (z 10) H1) all_nil)) known_nil (a := ag (z 16)) (b := false) (by kernel_rfl)) (by omega)
  · exact bo_f (run5 (s4 := s4) hL (all_cons (b10 (o 0) (z 0) H0) all_nil) known_nil (a := ag (z 16)) (b := false) (by kernel_rfl)) (by omega)
theorem j_r20 {s0 s1 s2 s3 s4 : Int} {W : World} (hL : Laid W) (l3 : -9223372036854775808 ≤ s3) (u3 : s3 ≤ 9223372036854775807) : Calls Tryd.prog 10 #[.agg #[.int .i64 20, .int .i64 s0, .int .i64 s1, .int .i64 s2, .int .i64 s3]] W (Bo W (decide ((0 ≤ s0 ∧ s0 ≤ 9) ∧ (0 ≤ s1 ∧ s1 ≤ 9) ∧ (0 ≤ s2 ∧ s2 ≤ 9) ∧ s3 = 0))) := by
  by_cases H0 : 0 ≤ s0
  · by_cases H1 : s0 < 10
    · by_cases H2 : 0 ≤ s1
      · by_cases H3 : s1 < 10
        · by_cases H4 : 0 ≤ s2
          · by_cases H5 : s2 < 10
            · by_cases H6 : s3 = 0
              · exact bo_t (run5 (s4 := s4) hL (all_cons (a10 (o 0) (z 0) H0) (all_cons (a7 (o 0) (z 10) H1) (all_cons (a10 (o 1) (z 0) H2) (all_cons (a7 (o 1) (z 10) H3) (all_cons (a10 (o 2) (z 0) H4) (all_cons (a7 (o 2) (z 10) H5) (all_cons (a5 (o 3) (z 0) H6) all_nil))))))) known_nil (a := ag (z 20)) (b := true) (by kernel_rfl)) (by omega)
              · exact bo_f (run5 (s4 := s4) hL (all_cons (a10 (o 0) (z 0) H0) (all_cons (a7 (o 0) (z 10) H1) (all_cons (a10 (o 1) (z 0) H2) (all_cons (a7 (o 1) (z 10) H3) (all_cons (a10 (o 2) (z 0) H4) (all_cons (a7 (o 2) (z 10) H5) (all_cons (b5 (o 3) (z 0) H6) all_nil))))))) known_nil (a := ag (z 20)) (b := false) (by kernel_rfl)) (by omega)
            · exact bo_f (run5 (s4 := s4) hL (all_cons (a10 (o 0) (z 0) H0) (all_cons (a7 (o 0) (z 10) H1) (all_cons (a10 (o 1) (z 0) H2) (all_cons (a7 (o 1) (z 10) H3) (all_cons (a10 (o 2) (z 0) H4) (all_cons (b7 (o 2) (z 10) H5) all_nil)))))) known_nil (a := ag (z 20)) (b := false) (by kernel_rfl)) (by omega)
          · exact bo_f (run5 (s4 := s4) hL (all_cons (a10 (o 0) (z 0) H0) (all_cons (a7 (o 0) (z 10) H1) (all_cons (a10 (o 1) (z 0) H2) (all_cons (a7 (o 1) (z 10) H3) (all_cons (b10 (o 2) (z 0) H4) all_nil))))) known_nil (a := ag (z 20)) (b := false) (by kernel_rfl)) (by omega)
        · exact bo_f (run5 (s4 := s4) hL (all_cons (a10 (o 0) (z 0) H0) (all_cons (a7 (o 0) (z 10) H1) (all_cons (a10 (o 1) (z 0) H2) (all_cons (b7 (o 1) (z 10) H3) all_nil)))) known_nil (a := ag (z 20)) (b := false) (by kernel_rfl)) (by omega)
      · exact bo_f (run5 (s4 := s4) hL (all_cons (a10 (o 0) (z 0) H0) (all_cons (a7 (o 0) (z 10) H1) (all_cons (b10 (o 1) (z 0) H2) all_nil))) known_nil (a := ag (z 20)) (b := false) (by kernel_rfl)) (by omega)
    · exact bo_f (run5 (s4 := s4) hL (all_cons (a10 (o 0) (z 0) H0) (all_cons (b7 (o 0) (z 10) H1) all_nil)) known_nil (a := ag (z 20)) (b := false) (by kernel_rfl)) (by omega)
  · exact bo_f (run5 (s4 := s4) hL (all_cons (b10 (o 0) (z 0) H0) all_nil) known_nil (a := ag (z 20)) (b := false) (by kernel_rfl)) (by omega)
theorem j_r24 {s0 s1 s2 s3 s4 : Int} {W : World} (hL : Laid W) (l3 : -9223372036854775808 ≤ s3) (u3 : s3 ≤ 9223372036854775807) : Calls Tryd.prog 10 #[.agg #[.int .i64 24, .int .i64 s0, .int .i64 s1, .int .i64 s2, .int .i64 s3]] W (Bo W (decide ((0 ≤ s0 ∧ s0 ≤ 9) ∧ (0 ≤ s1 ∧ s1 ≤ 9) ∧ (0 ≤ s2 ∧ s2 ≤ 9) ∧ s3 = 0))) := by
  by_cases H0 : 0 ≤ s0
  · by_cases H1 : s0 < 10
    · by_cases H2 : 0 ≤ s1
      · by_cases H3 : s1 < 10
        · by_cases H4 : 0 ≤ s2
          · by_cases H5 : s2 < 10
            · by_cases H6 : s3 = 0
              · exact bo_t (run5 (s4 := s4) hL (all_cons (a10 (o 0) (z 0) H0) (all_cons (a7 (o 0) (z 10) H1) (all_cons (a10 (o 1) (z 0) H2) (all_cons (a7 (o 1) (z 10) H3) (all_cons (a10 (o 2) (z 0) H4) (all_cons (a7 (o 2) (z 10) H5) (all_cons (a5 (o 3) (z 0) H6) all_nil))))))) known_nil (a := ag (z 24)) (b := true) (by kernel_rfl)) (by omega)
              · exact bo_f (run5 (s4 := s4) hL (all_cons (a10 (o 0) (z 0) H0) (all_cons (a7 (o 0) (z 10) H1) (all_cons (a10 (o 1) (z 0) H2) (all_cons (a7 (o 1) (z 10) H3) (all_cons (a10 (o 2) (z 0) H4) (all_cons (a7 (o 2) (z 10) H5) (all_cons (b5 (o 3) (z 0) H6) all_nil))))))) known_nil (a := ag (z 24)) (b := false) (by kernel_rfl)) (by omega)
            · exact bo_f (run5 (s4 := s4) hL (all_cons (a10 (o 0) (z 0) H0) (all_cons (a7 (o 0) (z 10) H1) (all_cons (a10 (o 1) (z 0) H2) (all_cons (a7 (o 1) (z 10) H3) (all_cons (a10 (o 2) (z 0) H4) (all_cons (b7 (o 2) (z 10) H5) all_nil)))))) known_nil (a := ag (z 24)) (b := false) (by kernel_rfl)) (by omega)
          · exact bo_f (run5 (s4 := s4) hL (all_cons (a10 (o 0) (z 0) H0) (all_cons (a7 (o 0) (z 10) H1) (all_cons (a10 (o 1) (z 0) H2) (all_cons (a7 (o 1) (z 10) H3) (all_cons (b10 (o 2) (z 0) H4) all_nil))))) known_nil (a := ag (z 24)) (b := false) (by kernel_rfl)) (by omega)
        · exact bo_f (run5 (s4 := s4) hL (all_cons (a10 (o 0) (z 0) H0) (all_cons (a7 (o 0) (z 10) H1) (all_cons (a10 (o 1) (z 0) H2) (all_cons (b7 (o 1) (z 10) H3) all_nil)))) known_nil (a := ag (z 24)) (b := false) (by kernel_rfl)) (by omega)
      · exact bo_f (run5 (s4 := s4) hL (all_cons (a10 (o 0) (z 0) H0) (all_cons (a7 (o 0) (z 10) H1) (all_cons (b10 (o 1) (z 0) H2) all_nil))) known_nil (a := ag (z 24)) (b := false) (by kernel_rfl)) (by omega)
    · exact bo_f (run5 (s4 := s4) hL (all_cons (a10 (o 0) (z 0) H0) (all_cons (b7 (o 0) (z 10) H1) all_nil)) known_nil (a := ag (z 24)) (b := false) (by kernel_rfl)) (by omega)
  · exact bo_f (run5 (s4 := s4) hL (all_cons (b10 (o 0) (z 0) H0) all_nil) known_nil (a := ag (z 24)) (b := false) (by kernel_rfl)) (by omega)
theorem j_r28 {s0 s1 s2 s3 s4 : Int} {W : World} (hL : Laid W) (l3 : -9223372036854775808 ≤ s3) (u3 : s3 ≤ 9223372036854775807) : Calls Tryd.prog 10 #[.agg #[.int .i64 28, .int .i64 s0, .int .i64 s1, .int .i64 s2, .int .i64 s3]] W (Bo W (decide ((0 ≤ s0 ∧ s0 ≤ 9) ∧ (0 ≤ s1 ∧ s1 ≤ 9) ∧ (0 ≤ s2 ∧ s2 ≤ 9) ∧ s3 = 0))) := by
  by_cases H0 : 0 ≤ s0
  · by_cases H1 : s0 < 10
    · by_cases H2 : 0 ≤ s1
      · by_cases H3 : s1 < 10
        · by_cases H4 : 0 ≤ s2
          · by_cases H5 : s2 < 10
            · by_cases H6 : s3 = 0
              · exact bo_t (run5 (s4 := s4) hL (all_cons (a10 (o 0) (z 0) H0) (all_cons (a7 (o 0) (z 10) H1) (all_cons (a10 (o 1) (z 0) H2) (all_cons (a7 (o 1) (z 10) H3) (all_cons (a10 (o 2) (z 0) H4) (all_cons (a7 (o 2) (z 10) H5) (all_cons (a5 (o 3) (z 0) H6) all_nil))))))) known_nil (a := ag (z 28)) (b := true) (by kernel_rfl)) (by omega)
              · exact bo_f (run5 (s4 := s4) hL (all_cons (a10 (o 0) (z 0) H0) (all_cons (a7 (o 0) (z 10) H1) (all_cons (a10 (o 1) (z 0) H2) (all_cons (a7 (o 1) (z 10) H3) (all_cons (a10 (o 2) (z 0) H4) (all_cons (a7 (o 2) (z 10) H5) (all_cons (b5 (o 3) (z 0) H6) all_nil))))))) known_nil (a := ag (z 28)) (b := false) (by kernel_rfl)) (by omega)
            · exact bo_f (run5 (s4 := s4) hL (all_cons (a10 (o 0) (z 0) H0) (all_cons (a7 (o 0) (z 10) H1) (all_cons (a10 (o 1) (z 0) H2) (all_cons (a7 (o 1) (z 10) H3) (all_cons (a10 (o 2) (z 0) H4) (all_cons (b7 (o 2) (z 10) H5) all_nil)))))) known_nil (a := ag (z 28)) (b := false) (by kernel_rfl)) (by omega)
          · exact bo_f (run5 (s4 := s4) hL (all_cons (a10 (o 0) (z 0) H0) (all_cons (a7 (o 0) (z 10) H1) (all_cons (a10 (o 1) (z 0) H2) (all_cons (a7 (o 1) (z 10) H3) (all_cons (b10 (o 2) (z 0) H4) all_nil))))) known_nil (a := ag (z 28)) (b := false) (by kernel_rfl)) (by omega)
        · exact bo_f (run5 (s4 := s4) hL (all_cons (a10 (o 0) (z 0) H0) (all_cons (a7 (o 0) (z 10) H1) (all_cons (a10 (o 1) (z 0) H2) (all_cons (b7 (o 1) (z 10) H3) all_nil)))) known_nil (a := ag (z 28)) (b := false) (by kernel_rfl)) (by omega)
      · exact bo_f (run5 (s4 := s4) hL (all_cons (a10 (o 0) (z 0) H0) (all_cons (a7 (o 0) (z 10) H1) (all_cons (b10 (o 1) (z 0) H2) all_nil))) known_nil (a := ag (z 28)) (b := false) (by kernel_rfl)) (by omega)
    · exact bo_f (run5 (s4 := s4) hL (all_cons (a10 (o 0) (z 0) H0) (all_cons (b7 (o 0) (z 10) H1) all_nil)) known_nil (a := ag (z 28)) (b := false) (by kernel_rfl)) (by omega)
  · exact bo_f (run5 (s4 := s4) hL (all_cons (b10 (o 0) (z 0) H0) all_nil) known_nil (a := ag (z 28)) (b := false) (by kernel_rfl)) (by omega)
theorem j_r38 {s0 s1 s2 s3 s4 : Int} {W : World} (hL : Laid W) (l3 : -9223372036854775808 ≤ s3) (u3 : s3 ≤ 9223372036854775807) : Calls Tryd.prog 10 #[.agg #[.int .i64 38, .int .i64 s0, .int .i64 s1, .int .i64 s2, .int .i64 s3]] W (Bo W (decide ((0 ≤ s0 ∧ s0 ≤ 9) ∧ (0 ≤ s1 ∧ s1 ≤ 9) ∧ s2 = 0 ∧ (-2147483648 ≤ s3 ∧ s3 ≤ 2147483647)))) := by
  by_cases H0 : 0 ≤ s0
  · by_cases H1 : s0 < 10
    · by_cases H2 : 0 ≤ s1
      · by_cases H3 : s1 < 10
        · by_cases H4 : s2 = 0
          · by_cases H5 : -2147483648 ≤ s3
            · by_cases H6 : s3 < 2147483648
              · exact bo_t (run5 (s4 := s4) hL (all_cons (a10 (o 0) (z 0) H0) (all_cons (a7 (o 0) (z 10) H1) (all_cons (a10 (o 1) (z 0) H2) (all_cons (a7 (o 1) (z 10) H3) (all_cons (a5 (o 2) (z 0) H4) (all_cons (a10 (o 3) (z (-2147483648)) H5) (all_cons (a7 (o 3) (z 2147483648) H6) all_nil))))))) known_nil (a := ag (z 38)) (b := true) (by kernel_rfl)) (by omega)
              · exact bo_f (run5 (s4 := s4) hL (all_cons (a10 (o 0) (z 0) H0) (all_cons (a7 (o 0) (z 10) H1) (all_cons (a10 (o 1) (z 0) H2) (all_cons (a7 (o 1) (z 10) H3) (all_cons (a5 (o 2) (z 0) H4) (all_cons (a10 (o 3) (z (-2147483648)) H5) (all_cons (b7 (o 3) (z 2147483648) H6) all_nil))))))) known_nil (a := ag (z 38)) (b := false) (by kernel_rfl)) (by omega)
            · exact bo_f (run5 (s4 := s4) hL (all_cons (a10 (o 0) (z 0) H0) (all_cons (a7 (o 0) (z 10) H1) (all_cons (a10 (o 1) (z 0) H2) (all_cons (a7 (o 1) (z 10) H3) (all_cons (a5 (o 2) (z 0) H4) (all_cons (b10 (o 3) (z (-2147483648)) H5) all_nil)))))) known_nil (a := ag (z 38)) (b := false) (by kernel_rfl)) (by omega)
          · exact bo_f (run5 (s4 := s4) hL (all_cons (a10 (o 0) (z 0) H0) (all_cons (a7 (o 0) (z 10) H1) (all_cons (a10 (o 1) (z 0) H2) (all_cons (a7 (o 1) (z 10) H3) (all_cons (b5 (o 2) (z 0) H4) all_nil))))) known_nil (a := ag (z 38)) (b := false) (by kernel_rfl)) (by omega)
        · exact bo_f (run5 (s4 := s4) hL (all_cons (a10 (o 0) (z 0) H0) (all_cons (a7 (o 0) (z 10) H1) (all_cons (a10 (o 1) (z 0) H2) (all_cons (b7 (o 1) (z 10) H3) all_nil)))) known_nil (a := ag (z 38)) (b := false) (by kernel_rfl)) (by omega)
      · exact bo_f (run5 (s4 := s4) hL (all_cons (a10 (o 0) (z 0) H0) (all_cons (a7 (o 0) (z 10) H1) (all_cons (b10 (o 1) (z 0) H2) all_nil))) known_nil (a := ag (z 38)) (b := false) (by kernel_rfl)) (by omega)
    · exact bo_f (run5 (s4 := s4) hL (all_cons (a10 (o 0) (z 0) H0) (all_cons (b7 (o 0) (z 10) H1) all_nil)) known_nil (a := ag (z 38)) (b := false) (by kernel_rfl)) (by omega)
  · exact bo_f (run5 (s4 := s4) hL (all_cons (b10 (o 0) (z 0) H0) all_nil) known_nil (a := ag (z 38)) (b := false) (by kernel_rfl)) (by omega)
theorem j_r42 {s0 s1 s2 s3 s4 : Int} {W : World} (hL : Laid W) (l3 : -9223372036854775808 ≤ s3) (u3 : s3 ≤ 9223372036854775807) : Calls Tryd.prog 10 #[.agg #[.int .i64 42, .int .i64 s0, .int .i64 s1, .int .i64 s2, .int .i64 s3]] W (Bo W (decide ((0 ≤ s0 ∧ s0 ≤ 9) ∧ (0 ≤ s1 ∧ s1 ≤ 9) ∧ s2 = 0 ∧ (-2147483648 ≤ s3 ∧ s3 ≤ 2147483647)))) := by
  by_cases H0 : 0 ≤ s0
  · by_cases H1 : s0 < 10
    · by_cases H2 : 0 ≤ s1
      · by_cases H3 : s1 < 10
        · by_cases H4 : s2 = 0
          · by_cases H5 : -2147483648 ≤ s3
            · by_cases H6 : s3 < 2147483648
              · exact bo_t (run5 (s4 := s4) hL (all_cons (a10 (o 0) (z 0) H0) (all_cons (a7 (o 0) (z 10) H1) (all_cons (a10 (o 1) (z 0) H2) (all_cons (a7 (o 1) (z 10) H3) (all_cons (a5 (o 2) (z 0) H4) (all_cons (a10 (o 3) (z (-2147483648)) H5) (all_cons (a7 (o 3) (z 2147483648) H6) all_nil))))))) known_nil (a := ag (z 42)) (b := true) (by kernel_rfl)) (by omega)
              · exact bo_f (run5 (s4 := s4) hL (all_cons (a10 (o 0) (z 0) H0) (all_cons (a7 (o 0) (z 10) H1) (all_cons (a10 (o 1) (z 0) H2) (all_cons (a7 (o 1) (z 10) H3) (all_cons (a5 (o 2) (z 0) H4) (all_cons (a10 (o 3) (z (-2147483648)) H5) (all_cons (b7 (o 3) (z 2147483648) H6) all_nil))))))) known_nil (a := ag (z 42)) (b := false) (by kernel_rfl)) (by omega)
            · exact bo_f (run5 (s4 := s4) hL (all_cons (a10 (o 0) (z 0) H0) (all_cons (a7 (o 0) (z 10) H1) (all_cons (a10 (o 1) (z 0) H2) (all_cons (a7 (o 1) (z 10) H3) (all_cons (a5 (o 2) (z 0) H4) (all_cons (b10 (o 3) (z (-2147483648)) H5) all_nil)))))) known_nil (a := ag (z 42)) (b := false) (by kernel_rfl)) (by omega)
          · exact bo_f (run5 (s4 := s4) hL (all_cons (a10 (o 0) (z 0) H0) (all_cons (a7 (o 0) (z 10) H1) (all_cons (a10 (o 1) (z 0) H2) (all_cons (a7 (o 1) (z 10) H3) (all_cons (b5 (o 2) (z 0) H4) all_nil))))) known_nil (a := ag (z 42)) (b := false) (by kernel_rfl)) (by omega)
        · exact bo_f (run5 (s4 := s4) hL (all_cons (a10 (o 0) (z 0) H0) (all_cons (a7 (o 0) (z 10) H1) (all_cons (a10 (o 1) (z 0) H2) (all_cons (b7 (o 1) (z 10) H3) all_nil)))) known_nil (a := ag (z 42)) (b := false) (by kernel_rfl)) (by omega)
      · exact bo_f (run5 (s4 := s4) hL (all_cons (a10 (o 0) (z 0) H0) (all_cons (a7 (o 0) (z 10) H1) (all_cons (b10 (o 1) (z 0) H2) all_nil))) known_nil (a := ag (z 42)) (b := false) (by kernel_rfl)) (by omega)
    · exact bo_f (run5 (s4 := s4) hL (all_cons (a10 (o 0) (z 0) H0) (all_cons (b7 (o 0) (z 10) H1) all_nil)) known_nil (a := ag (z 42)) (b := false) (by kernel_rfl)) (by omega)
  · exact bo_f (run5 (s4 := s4) hL (all_cons (b10 (o 0) (z 0) H0) all_nil) known_nil (a := ag (z 42)) (b := false) (by kernel_rfl)) (by omega)
theorem j_r46 {s0 s1 s2 s3 s4 : Int} {W : World} (hL : Laid W) (l3 : -9223372036854775808 ≤ s3) (u3 : s3 ≤ 9223372036854775807) : Calls Tryd.prog 10 #[.agg #[.int .i64 46, .int .i64 s0, .int .i64 s1, .int .i64 s2, .int .i64 s3]] W (Bo W (decide ((0 ≤ s0 ∧ s0 ≤ 9) ∧ (0 ≤ s1 ∧ s1 ≤ 9) ∧ s2 = 0 ∧ (-2147483648 ≤ s3 ∧ s3 ≤ 2147483647)))) := by
  by_cases H0 : 0 ≤ s0
  · by_cases H1 : s0 < 10
    · by_cases H2 : 0 ≤ s1
      · by_cases H3 : s1 < 10
        · by_cases H4 : s2 = 0
          · by_cases H5 : -2147483648 ≤ s3
            · by_cases H6 : s3 < 2147483648
              · exact bo_t (run5 (s4 := s4) hL (all_cons (a10 (o 0) (z 0) H0) (all_cons (a7 (o 0) (z 10) H1) (all_cons (a10 (o 1) (z 0) H2) (all_cons (a7 (o 1) (z 10) H3) (all_cons (a5 (o 2) (z 0) H4) (all_cons (a10 (o 3) (z (-2147483648)) H5) (all_cons (a7 (o 3) (z 2147483648) H6) all_nil))))))) known_nil (a := ag (z 46)) (b := true) (by kernel_rfl)) (by omega)
              · exact bo_f (run5 (s4 := s4) hL (all_cons (a10 (o 0) (z 0) H0) (all_cons (a7 (o 0) (z 10) H1) (all_cons (a10 (o 1) (z 0) H2) (all_cons (a7 (o 1) (z 10) H3) (all_cons (a5 (o 2) (z 0) H4) (all_cons (a10 (o 3) (z (-2147483648)) H5) (all_cons (b7 (o 3) (z 2147483648) H6) all_nil))))))) known_nil (a := ag (z 46)) (b := false) (by kernel_rfl)) (by omega)
            · exact bo_f (run5 (s4 := s4) hL (all_cons (a10 (o 0) (z 0) H0) (all_cons (a7 (o 0) (z 10) H1) (all_cons (a10 (o 1) (z 0) H2) (all_cons (a7 (o 1) (z 10) H3) (all_cons (a5 (o 2) (z 0) H4) (all_cons (b10 (o 3) (z (-2147483648)) H5) all_nil)))))) known_nil (a := ag (z 46)) (b := false) (by kernel_rfl)) (by omega)
          · exact bo_f (run5 (s4 := s4) hL (all_cons (a10 (o 0) (z 0) H0) (all_cons (a7 (o 0) (z 10) H1) (all_cons (a10 (o 1) (z 0) H2) (all_cons (a7 (o 1) (z 10) H3) (all_cons (b5 (o 2) (z 0) H4) all_nil))))) known_nil (a := ag (z 46)) (b := false) (by kernel_rfl)) (by omega)
        · exact bo_f (run5 (s4 := s4) hL (all_cons (a10 (o 0) (z 0) H0) (all_cons (a7 (o 0) (z 10) H1) (all_cons (a10 (o 1) (z 0) H2) (all_cons (b7 (o 1) (z 10) H3) all_nil)))) known_nil (a := ag (z 46)) (b := false) (by kernel_rfl)) (by omega)
      · exact bo_f (run5 (s4 := s4) hL (all_cons (a10 (o 0) (z 0) H0) (all_cons (a7 (o 0) (z 10) H1) (all_cons (b10 (o 1) (z 0) H2) all_nil))) known_nil (a := ag (z 46)) (b := false) (by kernel_rfl)) (by omega)
    · exact bo_f (run5 (s4 := s4) hL (all_cons (a10 (o 0) (z 0) H0) (all_cons (b7 (o 0) (z 10) H1) all_nil)) known_nil (a := ag (z 46)) (b := false) (by kernel_rfl)) (by omega)
  · exact bo_f (run5 (s4 := s4) hL (all_cons (b10 (o 0) (z 0) H0) all_nil) known_nil (a := ag (z 46)) (b := false) (by kernel_rfl)) (by omega)
theorem j_rlo {s0 s1 s2 s3 s4 : Int} {W : World} (hL : Laid W) (l3 : -9223372036854775808 ≤ s3) (u3 : s3 ≤ 9223372036854775807) (l4 : -9223372036854775808 ≤ s4) (u4 : s4 ≤ 9223372036854775807) (hk : s4 ≤ 0) : Calls Tryd.prog 10 #[.agg #[.int .i64 s4, .int .i64 s0, .int .i64 s1, .int .i64 s2, .int .i64 s3]] W (Bo W (decide (False))) := by
  exact bo_f (run5 (s4 := s4) hL (all_cons (b9 (o 4) (z 15) (show ¬ 15 < s4 by omega)) (all_cons (b9 (o 4) (z 35) (show ¬ 35 < s4 by omega)) (all_cons (b5 (z 1) (o 4) (show ¬ 1 = s4 by omega)) (all_cons (b5 (z 2) (o 4) (show ¬ 2 = s4 by omega)) (all_cons (b5 (z 3) (o 4) (show ¬ 3 = s4 by omega)) (all_cons (b5 (z 4) (o 4) (show ¬ 4 = s4 by omega)) (all_cons (b5 (z 5) (o 4) (show ¬ 5 = s4 by omega)) (all_cons (b5 (z 6) (o 4) (show ¬ 6 = s4 by omega)) (all_cons (b5 (z 11) (o 4) (show ¬ 11 = s4 by omega)) (all_cons (b5 (z 7) (o 4) (show ¬ 7 = s4 by omega)) (all_cons (b5 (z 8) (o 4) (show ¬ 8 = s4 by omega)) (all_cons (b5 (z 9) (o 4) (show ¬ 9 = s4 by omega)) (all_cons (b5 (z 10) (o 4) (show ¬ 10 = s4 by omega)) (all_cons (b5 (z 12) (o 4) (show ¬ 12 = s4 by omega)) (all_cons (b5 (z 13) (o 4) (show ¬ 13 = s4 by omega)) (all_cons (b5 (z 14) (o 4) (show ¬ 14 = s4 by omega)) all_nil)))))))))))))))) known_nil (a := ag (o 4)) (b := false) (by kernel_rfl)) not_false
end Go.Proofs.YtbkojaiecgdodaaDoor
end
