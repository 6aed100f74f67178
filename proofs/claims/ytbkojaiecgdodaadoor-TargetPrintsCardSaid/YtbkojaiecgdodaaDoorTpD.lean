/- A part of the proof of TacG. -/
import Derived.Test.YtbkojaiecgdodaaDoorTpV4
import Derived.Test.YtbkojaiecgdodaaDoorTpC
import Derived.Test.YtbkojaiecgdodaaDoorDeL
section
set_option linter.unusedVariables false
set_option linter.unusedSimpArgs false
set_option maxRecDepth 100000
namespace Go.Proofs.YtbkojaiecgdodaaDoor
open Go Go.Ev Go.RowKit
section
variable {op : Int} {d a b m : Int} {x0 x1 x2 x3 : List UInt8}
theorem line_both (l0 : x0.length ≤ 24) (l1 : x1.length ≤ 24) (l2 : x2.length ≤ 24) (l3 : x3.length ≤ 24) (h : VP op d a b m) : ∃ l : List UInt8, l.length ≤ 120 ∧
    (∀ w, Laid w → KP w d a b m x0 x1 x2 x3 → Calls Tryd.prog 34 #[.agg #[.int .i64 op, .int .i64 d, .int .i64 a, .int .i64 b, .int .i64 m]] w (Sr w (l ++ [10]))) ∧
    (∀ w, Laid w → KR w d a b m x0 x1 x2 x3 → Calls Tryd.prog 36 #[.agg #[.int .i64 op, .int .i64 d, .int .i64 a, .int .i64 b, .int .i64 m]] w (Sr w l)) := by
  have hop : op = 1 ∨ op = 2 ∨ op = 3 ∨ op = 4 ∨ op = 5 ∨ op = 6 ∨ op = 7 ∨ op = 8 ∨ op = 9 ∨ op = 10 ∨ op = 11 ∨ op = 12 ∨ op = 13 ∨ op = 14 ∨ op = 16 ∨ op = 17 ∨ op = 18 ∨ op = 19 ∨ op = 20 ∨ op = 21 ∨ op = 22 ∨ op = 23 ∨ op = 24 ∨ op = 25 ∨ op = 26 ∨ op = 27 ∨ op = 28 ∨ op = 29 ∨ op = 36 ∨ op = 37 ∨ op = 38 ∨ op = 39 ∨ op = 40 ∨ op = 41 ∨ op = 42 ∨ op = 43 ∨ op = 44 ∨ op = 45 ∨ op = 46 ∨ op = 47 ∨ op = 48 ∨ op = 49 := by
    by_cases g : op ≤ 0 ∨ op = 15 ∨ (30 ≤ op ∧ op ≤ 35) ∨ 50 ≤ op
    · rw [vp_no g] at h; exact h.elim
    · omega
  clear h
  rcases hop with rfl | rfl | rfl | rfl | rfl | rfl | rfl | rfl | rfl | rfl | rfl | rfl | rfl | rfl | rfl | rfl | rfl | rfl | rfl | rfl | rfl | rfl | rfl | rfl | rfl | rfl | rfl | rfl | rfl | rfl | rfl | rfl | rfl | rfl | rfl | rfl | rfl | rfl | rfl | rfl | rfl | rfl
  · exact ⟨((((([109, 111, 118, 101, 32, 114] ++ x0) ++ [44, 32]) ++ [114]) ++ x1) ++ [59]), by simp only [List.length_append, List.length_cons, List.length_nil]; omega, fun w hw hk => q_1 ▸ t_p1 hw l0 l1 l2 l3 hk, fun w hw hk => t_l1 hw l0 l1 l2 l3 hk⟩
  · exact ⟨(((([115, 101, 116, 32, 114] ++ x0) ++ [44, 32]) ++ x3) ++ [59]), by simp only [List.length_append, List.length_cons, List.length_nil]; omega, fun w hw hk => q_2 ▸ t_p2 hw l0 l1 l2 l3 hk, fun w hw hk => t_l2 hw l0 l1 l2 l3 hk⟩
  · exact ⟨(((([119, 105, 100, 101, 32, 114] ++ x0) ++ [44, 32]) ++ x3) ++ [59]), by simp only [List.length_append, List.length_cons, List.length_nil]; omega, fun w hw hk => q_3 ▸ t_p3 hw l0 l1 l2 l3 hk, fun w hw hk => t_l3 hw l0 l1 l2 l3 hk⟩
  · exact ⟨(((([108, 111, 97, 100, 32, 114] ++ x0) ++ [44, 32]) ++ (((x3 ++ [40, 114]) ++ x1) ++ [41])) ++ [59]), by simp only [List.length_append, List.length_cons, List.length_nil]; omega, fun w hw hk => q_4 ▸ t_p4 hw l0 l1 l2 l3 hk, fun w hw hk => t_l4 hw l0 l1 l2 l3 hk⟩
  · exact ⟨(((([115, 116, 111, 114, 101, 32] ++ (((x3 ++ [40, 114]) ++ x1) ++ [41])) ++ [44, 32, 114]) ++ x2) ++ [59]), by simp only [List.length_append, List.length_cons, List.length_nil]; omega, fun w hw hk => q_5 ▸ t_p5 hw l0 l1 l2 l3 hk, fun w hw hk => t_l5 hw l0 l1 l2 l3 hk⟩
  · exact ⟨(([106, 117, 109, 112, 32] ++ x3) ++ [59]), by simp only [List.length_append, List.length_cons, List.length_nil]; omega, fun w hw hk => q_6 ▸ t_p6 hw l0 l1 l2 l3 hk, fun w hw hk => t_l6 hw l0 l1 l2 l3 hk⟩
  · exact ⟨(((([122, 101, 114, 111, 32, 114] ++ x1) ++ [44, 32]) ++ x3) ++ [59]), by simp only [List.length_append, List.length_cons, List.length_nil]; omega, fun w hw hk => q_7 ▸ t_p7 hw l0 l1 l2 l3 hk, fun w hw hk => t_l7 hw l0 l1 l2 l3 hk⟩
  · exact ⟨((((([99, 104, 101, 99, 107, 32, 114] ++ x1) ++ [44, 32]) ++ [114]) ++ x2) ++ [59]), by simp only [List.length_append, List.length_cons, List.length_nil]; omega, fun w hw hk => q_8 ▸ t_p8 hw l0 l1 l2 l3 hk, fun w hw hk => t_l8 hw l0 l1 l2 l3 hk⟩
  · exact ⟨(((([99, 104, 101, 99, 107, 105, 32, 114] ++ x1) ++ [44, 32]) ++ x3) ++ [59]), by simp only [List.length_append, List.length_cons, List.length_nil]; omega, fun w hw hk => q_9 ▸ t_p9 hw l0 l1 l2 l3 hk, fun w hw hk => t_l9 hw l0 l1 l2 l3 hk⟩
  · exact ⟨(([112, 114, 105, 110, 116, 32, 114] ++ x1) ++ [59]), by simp only [List.length_append, List.length_cons, List.length_nil]; omega, fun w hw hk => q_10 ▸ t_p10 hw l0 l1 l2 l3 hk, fun w hw hk => t_l10 hw l0 l1 l2 l3 hk⟩
  · exact ⟨(([99, 97, 108, 108, 32] ++ x3) ++ [59]), by simp only [List.length_append, List.length_cons, List.length_nil]; omega, fun w hw hk => q_11 ▸ t_p11 hw l0 l1 l2 l3 hk, fun w hw hk => t_l11 hw l0 l1 l2 l3 hk⟩
  · exact ⟨[114, 101, 116, 117, 114, 110, 59], by simp only [List.length_append, List.length_cons, List.length_nil]; omega, fun w hw hk => q_12 ▸ t_p12 hw l0 l1 l2 l3 hk, fun w hw hk => t_l12 hw l0 l1 l2 l3 hk⟩
  · exact ⟨[116, 114, 97, 112, 59], by simp only [List.length_append, List.length_cons, List.length_nil]; omega, fun w hw hk => q_13 ▸ t_p13 hw l0 l1 l2 l3 hk, fun w hw hk => t_l13 hw l0 l1 l2 l3 hk⟩
  · exact ⟨[104, 97, 108, 116, 59], by simp only [List.length_append, List.length_cons, List.length_nil]; omega, fun w hw hk => q_14 ▸ t_p14 hw l0 l1 l2 l3 hk, fun w hw hk => t_l14 hw l0 l1 l2 l3 hk⟩
  · exact ⟨(((((((([97, 100, 100, 32, 114] ++ x0) ++ [44, 32]) ++ [114]) ++ x1) ++ [44, 32]) ++ [114]) ++ x2) ++ [59]), by simp only [List.length_append, List.length_cons, List.length_nil]; omega, fun w hw hk => q_16 ▸ t_p16 hw l0 l1 l2 l3 hk, fun w hw hk => t_l16 hw l0 l1 l2 l3 hk⟩
  · exact ⟨(((((((([115, 117, 98, 32, 114] ++ x0) ++ [44, 32]) ++ [114]) ++ x1) ++ [44, 32]) ++ [114]) ++ x2) ++ [59]), by simp only [List.length_append, List.length_cons, List.length_nil]; omega, fun w hw hk => q_17 ▸ t_p17 hw l0 l1 l2 l3 hk, fun w hw hk => t_l17 hw l0 l1 l2 l3 hk⟩
  · exact ⟨(((((((([109, 117, 108, 32, 114] ++ x0) ++ [44, 32]) ++ [114]) ++ x1) ++ [44, 32]) ++ [114]) ++ x2) ++ [59]), by simp only [List.length_append, List.length_cons, List.length_nil]; omega, fun w hw hk => q_18 ▸ t_p18 hw l0 l1 l2 l3 hk, fun w hw hk => t_l18 hw l0 l1 l2 l3 hk⟩
  · exact ⟨(((((((([100, 105, 118, 32, 114] ++ x0) ++ [44, 32]) ++ [114]) ++ x1) ++ [44, 32]) ++ [114]) ++ x2) ++ [59]), by simp only [List.length_append, List.length_cons, List.length_nil]; omega, fun w hw hk => q_19 ▸ t_p19 hw l0 l1 l2 l3 hk, fun w hw hk => t_l19 hw l0 l1 l2 l3 hk⟩
  · exact ⟨(((((((([114, 101, 109, 32, 114] ++ x0) ++ [44, 32]) ++ [114]) ++ x1) ++ [44, 32]) ++ [114]) ++ x2) ++ [59]), by simp only [List.length_append, List.length_cons, List.length_nil]; omega, fun w hw hk => q_20 ▸ t_p20 hw l0 l1 l2 l3 hk, fun w hw hk => t_l20 hw l0 l1 l2 l3 hk⟩
  · exact ⟨(((((((([97, 110, 100, 32, 114] ++ x0) ++ [44, 32]) ++ [114]) ++ x1) ++ [44, 32]) ++ [114]) ++ x2) ++ [59]), by simp only [List.length_append, List.length_cons, List.length_nil]; omega, fun w hw hk => q_21 ▸ t_p21 hw l0 l1 l2 l3 hk, fun w hw hk => t_l21 hw l0 l1 l2 l3 hk⟩
  · exact ⟨(((((((([111, 114, 32, 114] ++ x0) ++ [44, 32]) ++ [114]) ++ x1) ++ [44, 32]) ++ [114]) ++ x2) ++ [59]), by simp only [List.length_append, List.length_cons, List.length_nil]; omega, fun w hw hk => q_22 ▸ t_p22 hw l0 l1 l2 l3 hk, fun w hw hk => t_l22 hw l0 l1 l2 l3 hk⟩
  · exact ⟨(((((((([120, 111, 114, 32, 114] ++ x0) ++ [44, 32]) ++ [114]) ++ x1) ++ [44, 32]) ++ [114]) ++ x2) ++ [59]), by simp only [List.length_append, List.length_cons, List.length_nil]; omega, fun w hw hk => q_23 ▸ t_p23 hw l0 l1 l2 l3 hk, fun w hw hk => t_l23 hw l0 l1 l2 l3 hk⟩
  · exact ⟨(((((((([115, 104, 108, 32, 114] ++ x0) ++ [44, 32]) ++ [114]) ++ x1) ++ [44, 32]) ++ [114]) ++ x2) ++ [59]), by simp only [List.length_append, List.length_cons, List.length_nil]; omega, fun w hw hk => q_24 ▸ t_p24 hw l0 l1 l2 l3 hk, fun w hw hk => t_l24 hw l0 l1 l2 l3 hk⟩
  · exact ⟨(((((((([115, 104, 114, 32, 114] ++ x0) ++ [44, 32]) ++ [114]) ++ x1) ++ [44, 32]) ++ [114]) ++ x2) ++ [59]), by simp only [List.length_append, List.length_cons, List.length_nil]; omega, fun w hw hk => q_25 ▸ t_p25 hw l0 l1 l2 l3 hk, fun w hw hk => t_l25 hw l0 l1 l2 l3 hk⟩
  · exact ⟨(((((((([101, 113, 32, 114] ++ x0) ++ [44, 32]) ++ [114]) ++ x1) ++ [44, 32]) ++ [114]) ++ x2) ++ [59]), by simp only [List.length_append, List.length_cons, List.length_nil]; omega, fun w hw hk => q_26 ▸ t_p26 hw l0 l1 l2 l3 hk, fun w hw hk => t_l26 hw l0 l1 l2 l3 hk⟩
  · exact ⟨(((((((([110, 101, 32, 114] ++ x0) ++ [44, 32]) ++ [114]) ++ x1) ++ [44, 32]) ++ [114]) ++ x2) ++ [59]), by simp only [List.length_append, List.length_cons, List.length_nil]; omega, fun w hw hk => q_27 ▸ t_p27 hw l0 l1 l2 l3 hk, fun w hw hk => t_l27 hw l0 l1 l2 l3 hk⟩
  · exact ⟨(((((((([108, 116, 32, 114] ++ x0) ++ [44, 32]) ++ [114]) ++ x1) ++ [44, 32]) ++ [114]) ++ x2) ++ [59]), by simp only [List.length_append, List.length_cons, List.length_nil]; omega, fun w hw hk => q_28 ▸ t_p28 hw l0 l1 l2 l3 hk, fun w hw hk => t_l28 hw l0 l1 l2 l3 hk⟩
  · exact ⟨(((((((([108, 101, 32, 114] ++ x0) ++ [44, 32]) ++ [114]) ++ x1) ++ [44, 32]) ++ [114]) ++ x2) ++ [59]), by simp only [List.length_append, List.length_cons, List.length_nil]; omega, fun w hw hk => q_29 ▸ t_p29 hw l0 l1 l2 l3 hk, fun w hw hk => t_l29 hw l0 l1 l2 l3 hk⟩
  · exact ⟨((((((([97, 100, 100, 105, 32, 114] ++ x0) ++ [44, 32]) ++ [114]) ++ x1) ++ [44, 32]) ++ x3) ++ [59]), by simp only [List.length_append, List.length_cons, List.length_nil]; omega, fun w hw hk => q_36 ▸ t_p36 hw l0 l1 l2 l3 hk, fun w hw hk => t_l36 hw l0 l1 l2 l3 hk⟩
  · exact ⟨((((((([115, 117, 98, 105, 32, 114] ++ x0) ++ [44, 32]) ++ [114]) ++ x1) ++ [44, 32]) ++ x3) ++ [59]), by simp only [List.length_append, List.length_cons, List.length_nil]; omega, fun w hw hk => q_37 ▸ t_p37 hw l0 l1 l2 l3 hk, fun w hw hk => t_l37 hw l0 l1 l2 l3 hk⟩
  · exact ⟨((((((([109, 117, 108, 105, 32, 114] ++ x0) ++ [44, 32]) ++ [114]) ++ x1) ++ [44, 32]) ++ x3) ++ [59]), by simp only [List.length_append, List.length_cons, List.length_nil]; omega, fun w hw hk => q_38 ▸ t_p38 hw l0 l1 l2 l3 hk, fun w hw hk => t_l38 hw l0 l1 l2 l3 hk⟩
  · exact ⟨((((((([100, 105, 118, 105, 32, 114] ++ x0) ++ [44, 32]) ++ [114]) ++ x1) ++ [44, 32]) ++ x3) ++ [59]), by simp only [List.length_append, List.length_cons, List.length_nil]; omega, fun w hw hk => q_39 ▸ t_p39 hw l0 l1 l2 l3 hk, fun w hw hk => t_l39 hw l0 l1 l2 l3 hk⟩
  · exact ⟨((((((([114, 101, 109, 105, 32, 114] ++ x0) ++ [44, 32]) ++ [114]) ++ x1) ++ [44, 32]) ++ x3) ++ [59]), by simp only [List.length_append, List.length_cons, List.length_nil]; omega, fun w hw hk => q_40 ▸ t_p40 hw l0 l1 l2 l3 hk, fun w hw hk => t_l40 hw l0 l1 l2 l3 hk⟩
  · exact ⟨((((((([97, 110, 100, 105, 32, 114] ++ x0) ++ [44, 32]) ++ [114]) ++ x1) ++ [44, 32]) ++ x3) ++ [59]), by simp only [List.length_append, List.length_cons, List.length_nil]; omega, fun w hw hk => q_41 ▸ t_p41 hw l0 l1 l2 l3 hk, fun w hw hk => t_l41 hw l0 l1 l2 l3 hk⟩
  · exact ⟨((((((([111, 114, 105, 32, 114] ++ x0) ++ [44, 32]) ++ [114]) ++ x1) ++ [44, 32]) ++ x3) ++ [59]), by simp only [List.length_append, List.length_cons, List.length_nil]; omega, fun w hw hk => q_42 ▸ t_p42 hw l0 l1 l2 l3 hk, fun w hw hk => t_l42 hw l0 l1 l2 l3 hk⟩
  · exact ⟨((((((([120, 111, 114, 105, 32, 114] ++ x0) ++ [44, 32]) ++ [114]) ++ x1) ++ [44, 32]) ++ x3) ++ [59]), by simp only [List.length_append, List.length_cons, List.length_nil]; omega, fun w hw hk => q_43 ▸ t_p43 hw l0 l1 l2 l3 hk, fun w hw hk => t_l43 hw l0 l1 l2 l3 hk⟩
  · exact ⟨((((((([115, 104, 108, 105, 32, 114] ++ x0) ++ [44, 32]) ++ [114]) ++ x1) ++ [44, 32]) ++ x3) ++ [59]), by simp only [List.length_append, List.length_cons, List.length_nil]; omega, fun w hw hk => q_44 ▸ t_p44 hw l0 l1 l2 l3 hk, fun w hw hk => t_l44 hw l0 l1 l2 l3 hk⟩
  · exact ⟨((((((([115, 104, 114, 105, 32, 114] ++ x0) ++ [44, 32]) ++ [114]) ++ x1) ++ [44, 32]) ++ x3) ++ [59]), by simp only [List.length_append, List.length_cons, List.length_nil]; omega, fun w hw hk => q_45 ▸ t_p45 hw l0 l1 l2 l3 hk, fun w hw hk => t_l45 hw l0 l1 l2 l3 hk⟩
  · exact ⟨((((((([101, 113, 105, 32, 114] ++ x0) ++ [44, 32]) ++ [114]) ++ x1) ++ [44, 32]) ++ x3) ++ [59]), by simp only [List.length_append, List.length_cons, List.length_nil]; omega, fun w hw hk => q_46 ▸ t_p46 hw l0 l1 l2 l3 hk, fun w hw hk => t_l46 hw l0 l1 l2 l3 hk⟩
  · exact ⟨((((((([110, 101, 105, 32, 114] ++ x0) ++ [44, 32]) ++ [114]) ++ x1) ++ [44, 32]) ++ x3) ++ [59]), by simp only [List.length_append, List.length_cons, List.length_nil]; omega, fun w hw hk => q_47 ▸ t_p47 hw l0 l1 l2 l3 hk, fun w hw hk => t_l47 hw l0 l1 l2 l3 hk⟩
  · exact ⟨((((((([108, 116, 105, 32, 114] ++ x0) ++ [44, 32]) ++ [114]) ++ x1) ++ [44, 32]) ++ x3) ++ [59]), by simp only [List.length_append, List.length_cons, List.length_nil]; omega, fun w hw hk => q_48 ▸ t_p48 hw l0 l1 l2 l3 hk, fun w hw hk => t_l48 hw l0 l1 l2 l3 hk⟩
  · exact ⟨((((((([108, 101, 105, 32, 114] ++ x0) ++ [44, 32]) ++ [114]) ++ x1) ++ [44, 32]) ++ x3) ++ [59]), by simp only [List.length_append, List.length_cons, List.length_nil]; omega, fun w hw hk => q_49 ▸ t_p49 hw l0 l1 l2 l3 hk, fun w hw hk => t_l49 hw l0 l1 l2 l3 hk⟩
end
end Go.Proofs.YtbkojaiecgdodaaDoor
end
section
set_option linter.unusedVariables false
set_option linter.unusedSimpArgs false
set_option maxRecDepth 100000
namespace Go.Proofs.YtbkojaiecgdodaaDoor
open Go Go.Ev Go.RowKit
theorem reg_rng {op d a b m : Int} (h : VP op d a b m) : (0 ≤ d ∧ d ≤ 9) ∧ (0 ≤ a ∧ a ≤ 9) ∧ (0 ≤ b ∧ b ≤ 9) := by
  have hop : op = 1 ∨ op = 2 ∨ op = 3 ∨ op = 4 ∨ op = 5 ∨ op = 6 ∨ op = 7 ∨ op = 8 ∨ op = 9 ∨ op = 10 ∨ op = 11 ∨ op = 12 ∨ op = 13 ∨ op = 14 ∨ (16 ≤ op ∧ op ≤ 29) ∨ (36 ≤ op ∧ op ≤ 49) := by
    by_cases g : op ≤ 0 ∨ op = 15 ∨ (30 ≤ op ∧ op ≤ 35) ∨ 50 ≤ op
    · rw [vp_no g] at h; exact h.elim
    · omega
  rcases hop with rfl | rfl | rfl | rfl | rfl | rfl | rfl | rfl | rfl | rfl | rfl | rfl | rfl | rfl | g | g
  · rw [vp_1] at h; omega
  · rw [vp_2] at h; omega
  · rw [vp_3] at h; omega
  · rw [vp_4] at h; omega
  · rw [vp_5] at h; omega
  · rw [vp_6] at h; omega
  · rw [vp_7] at h; omega
  · rw [vp_8] at h; omega
  · rw [vp_9] at h; omega
  · rw [vp_10] at h; omega
  · rw [vp_11] at h; omega
  · rw [vp_12] at h; omega
  · rw [vp_13] at h; omega
  · rw [vp_14] at h; omega
  · rw [vp_bin g] at h; omega
  · rw [vp_bini g] at h; omega
theorem itoa_len {n : Int} (h0 : -9223372036854775808 ≤ n) (h1 : n ≤ 9223372036854775807) : (Lib.itoa n).length ≤ 24 := by
  have := Lib.itoa_length_le n h0 h1
  omega
/-- the line of an instruction that is valid -/
theorem line_x (x : MI) (h : x.ok ∧ x.fits) : ∃ l : List UInt8, l.length ≤ 120 ∧ (∀ w, Laid w → Tab w → Calls Tryd.prog 34 #[vl x] w (Sr w (l ++ [10]))) ∧ (∀ w, Laid w → Calls Tryd.prog 36 #[vl x] w (Sr w l)) := by
  obtain ⟨⟨d0, d1⟩, ⟨a0, a1⟩, b0, b1⟩ := reg_rng h.1
  obtain ⟨_, _, m0, m1⟩ := h.2
  obtain ⟨l, h1, h2, h3⟩ := line_both (x0 := Lib.itoa x.d) (x1 := Lib.itoa x.a) (x2 := Lib.itoa x.b) (x3 := Lib.itoa x.m) (itoa_len (by omega) (by omega)) (itoa_len (by omega) (by omega)) (itoa_len (by omega) (by omega)) (itoa_len (by omega) (by omega)) h.1
  refine ⟨l, h1, fun w hw hT => h2 w hw ⟨fun w' g => itoa_calls (by omega) (by omega) (tab_grow hT g), fun w' g => itoa_calls (by omega) (by omega) (tab_grow hT g), fun w' g => itoa_calls (by omega) (by omega) (tab_grow hT g), fun w' g => fmt_calls m0 m1 (tab_grow hT g)⟩,
    fun w hw => h3 w hw ⟨fun w' g => num_calls (by omega) (by omega), fun w' g => num_calls (by omega) (by omega), fun w' g => num_calls (by omega) (by omega), fun w' g => num_calls m0 m1⟩⟩
noncomputable def lnOf (x : MI) : List UInt8 := by
  classical exact if h : x.ok ∧ x.fits then Classical.choose (line_x x h) else []
theorem lnOf_spec (x : MI) (h : x.ok ∧ x.fits) : (lnOf x).length ≤ 120 ∧ (∀ w, Laid w → Tab w → Calls Tryd.prog 34 #[vl x] w (Sr w (lnOf x ++ [10]))) ∧ (∀ w, Laid w → Calls Tryd.prog 36 #[vl x] w (Sr w (lnOf x))) := by
  unfold lnOf
  rw [dif_pos h]
  exact Classical.choose_spec (line_x x h)
/-- the text of code from an index on -/
noncomputable def codeT (ws : List Int) : Nat → Nat → List UInt8
  | 0, _ => []
  | f + 1, k => if ws.length ≤ k then [] else lnOf (gnx ws k).1 ++ [10] ++ codeT ws f (gnx ws k).2
def dat1 (d : Int) : List UInt8 := [100, 97, 116, 97, 32] ++ Lib.itoa d ++ [59, 10]
def dataT (ds : List Int) : List UInt8 := ds.flatMap dat1
def headT (en : Int) : List UInt8 := [101, 110, 116, 114, 121, 32] ++ Lib.itoa en ++ [59, 10]
theorem dataT_succ {ds : List Int} {k : Nat} (h : k < ds.length) : dataT (ds.take (k + 1)) = dataT (ds.take k) ++ dat1 (ds.getD k 0) := by
  unfold dataT
  rw [List.take_add_one, List.flatMap_append]
  simp [List.getD, h]
theorem codeT_end {ws : List Int} {f k : Nat} (h : ws.length ≤ k) : codeT ws (f + 1) k = [] := by unfold codeT; rw [if_pos h]
theorem codeT_step {ws : List Int} {f k : Nat} (h : k < ws.length) : codeT ws (f + 1) k = lnOf (gnx ws k).1 ++ [10] ++ codeT ws f (gnx ws k).2 := by
  show (if ws.length ≤ k then [] else lnOf (gnx ws k).1 ++ [10] ++ codeT ws f (gnx ws k).2) = _
  rw [if_neg (by omega)]
/-- a slice of numbers, nil or not -/
structure RowsI (w : World) (A : Option Addr) (n c : Nat) (ds : List Int) : Prop where
  len : ds.length = n
  fits : ∀ k, k < n → -9223372036854775808 ≤ ds.getD k 0 ∧ ds.getD k 0 ≤ 9223372036854775807
  get : ∀ k, k < n → ∃ B o, A = some ⟨B, o, none⟩ ∧ w.cell? ⟨B, o + k, none⟩ = some (.int .i64 (ds.getD k 0))
theorem RowsI.later {w w' : World} {A : Option Addr} {n c : Nat} {ds : List Int} (h : RowsI w A n c ds) (hb : Below w.heap.size w w') : RowsI w' A n c ds :=
  ⟨h.len, h.fits, fun k hk => by
    obtain ⟨B, o, e, h0⟩ := h.get k hk
    exact ⟨B, o, e, (hb.cell (World.block_lt_of_cell? w _ h0)).trans h0⟩⟩
end Go.Proofs.YtbkojaiecgdodaaDoor
end
