/- A part of the proof of TacG. -/
import Derived.Test.YtbkojaiecgdodaaDoorTvV4
set_option linter.unusedVariables false
set_option maxRecDepth 100000
namespace Go.Proofs.YtbkojaiecgdodaaDoor
open Go Go.Ev Go.RowKit
def VP (op d a b m : Int) : Prop :=
  if op = 1 then (0 ≤ d ∧ d ≤ 9) ∧ (0 ≤ a ∧ a ≤ 9) ∧ b = 0 ∧ m = 0 else
  if op = 2 then (0 ≤ d ∧ d ≤ 9) ∧ a = 0 ∧ b = 0 ∧ (-2147483648 ≤ m ∧ m ≤ 2147483647) else
  if op = 3 then (0 ≤ d ∧ d ≤ 9) ∧ a = 0 ∧ b = 0 else
  if op = 4 then (0 ≤ d ∧ d ≤ 9) ∧ (0 ≤ a ∧ a ≤ 9) ∧ b = 0 ∧ (-2147483648 ≤ m ∧ m ≤ 2147483647) else
  if op = 5 then d = 0 ∧ (0 ≤ a ∧ a ≤ 9) ∧ (0 ≤ b ∧ b ≤ 9) ∧ (-2147483648 ≤ m ∧ m ≤ 2147483647) else
  if op = 6 then d = 0 ∧ a = 0 ∧ b = 0 ∧ (0 ≤ m ∧ m ≤ 20000) else
  if op = 7 then d = 0 ∧ (0 ≤ a ∧ a ≤ 9) ∧ b = 0 ∧ (0 ≤ m ∧ m ≤ 20000) else
  if op = 8 then d = 0 ∧ (0 ≤ a ∧ a ≤ 9) ∧ (0 ≤ b ∧ b ≤ 9) ∧ m = 0 else
  if op = 9 then d = 0 ∧ (0 ≤ a ∧ a ≤ 9) ∧ b = 0 ∧ (-2147483648 ≤ m ∧ m ≤ 2147483647) else
  if op = 10 then d = 0 ∧ (0 ≤ a ∧ a ≤ 9) ∧ b = 0 ∧ m = 0 else
  if op = 11 then d = 0 ∧ a = 0 ∧ b = 0 ∧ (0 ≤ m ∧ m ≤ 20000) else
  if op = 12 then d = 0 ∧ a = 0 ∧ b = 0 ∧ m = 0 else
  if op = 13 then d = 0 ∧ a = 0 ∧ b = 0 ∧ m = 0 else
  if op = 14 then d = 0 ∧ a = 0 ∧ b = 0 ∧ m = 0 else
  if 16 ≤ op ∧ op ≤ 29 then (0 ≤ d ∧ d ≤ 9) ∧ (0 ≤ a ∧ a ≤ 9) ∧ (0 ≤ b ∧ b ≤ 9) ∧ m = 0 else
  if 36 ≤ op ∧ op ≤ 49 then (0 ≤ d ∧ d ≤ 9) ∧ (0 ≤ a ∧ a ≤ 9) ∧ b = 0 ∧ (-2147483648 ≤ m ∧ m ≤ 2147483647) else False
noncomputable instance (op d a b m : Int) : Decidable (VP op d a b m) := Classical.propDecidable _
theorem vp_cases {op : Int} (R : Int → Prop) (h : ∀ k : Int, 1 ≤ k ∧ k ≤ 15 ∨ 36 ≤ k ∧ k ≤ 49 ∨ 16 ≤ k ∧ k ≤ 29 → R k) (lo : op ≤ 0 → R op) (mid : 30 ≤ op ∧ op ≤ 35 → R op) (hi : 50 ≤ op → R op) : R op := by
  by_cases h1 : op ≤ 0
  · exact lo h1
  by_cases h2 : 50 ≤ op
  · exact hi h2
  by_cases h3 : 30 ≤ op ∧ op ≤ 35
  · exact mid h3
  exact h op (by omega)
theorem vp_1 {d a b m : Int} : VP 1 d a b m = ((0 ≤ d ∧ d ≤ 9) ∧ (0 ≤ a ∧ a ≤ 9) ∧ b = 0 ∧ m = 0) := by
  unfold VP;  rw [if_pos rfl]
theorem vp_2 {d a b m : Int} : VP 2 d a b m = ((0 ≤ d ∧ d ≤ 9) ∧ a = 0 ∧ b = 0 ∧ (-2147483648 ≤ m ∧ m ≤ 2147483647)) := by
  unfold VP; rw [if_neg (by decide)]; rw [if_pos rfl]
theorem vp_3 {d a b m : Int} : VP 3 d a b m = ((0 ≤ d ∧ d ≤ 9) ∧ a = 0 ∧ b = 0) := by
  unfold VP; rw [if_neg (by decide), if_neg (by decide)]; rw [if_pos rfl]
theorem vp_4 {d a b m : Int} : VP 4 d a b m = ((0 ≤ d ∧ d ≤ 9) ∧ (0 ≤ a ∧ a ≤ 9) ∧ b = 0 ∧ (-2147483648 ≤ m ∧ m ≤ 2147483647)) := by
  unfold VP; rw [if_neg (by decide), if_neg (by decide), if_neg (by decide)]; rw [if_pos rfl]
theorem vp_5 {d a b m : Int} : VP 5 d a b m = (d = 0 ∧ (0 ≤ a ∧ a ≤ 9) ∧ (0 ≤ b ∧ b ≤ 9) ∧ (-2147483648 ≤ m ∧ m ≤ 2147483647)) := by
  unfold VP; rw [if_neg (by decide), if_neg (by decide), if_neg (by decide), if_neg (by decide)]; rw [if_pos rfl]
theorem vp_6 {d a b m : Int} : VP 6 d a b m = (d = 0 ∧ a = 0 ∧ b = 0 ∧ (0 ≤ m ∧ m ≤ 20000)) := by
  unfold VP; rw [if_neg (by decide), if_neg (by decide), if_neg (by decide), if_neg (by decide), if_neg (by decide)]; rw [if_pos rfl]
theorem vp_7 {d a b m : Int} : VP 7 d a b m = (d = 0 ∧ (0 ≤ a ∧ a ≤ 9) ∧ b = 0 ∧ (0 ≤ m ∧ m ≤ 20000)) := by
  unfold VP; rw [if_neg (by decide), if_neg (by decide), if_neg (by decide), if_neg (by decide), if_neg (by decide), if_neg (by decide)]; rw [if_pos rfl]
theorem vp_8 {d a b m : Int} : VP 8 d a b m = (d = 0 ∧ (0 ≤ a ∧ a ≤ 9) ∧ (0 ≤ b ∧ b ≤ 9) ∧ m = 0) := by
  unfold VP; rw [if_neg (by decide), if_neg (by decide), if_neg (by decide), if_neg (by decide), if_neg (by decide), if_neg (by decide), if_neg (by decide)]; rw [if_pos rfl]
theorem vp_9 {d a b m : Int} : VP 9 d a b m = (d = 0 ∧ (0 ≤ a ∧ a ≤ 9) ∧ b = 0 ∧ (-2147483648 ≤ m ∧ m ≤ 2147483647)) := by
  unfold VP; rw [if_neg (by decide), if_neg (by decide), if_neg (by decide), if_neg (by decide), if_neg (by decide), if_neg (by decide), if_neg (by decide), if_neg (by decide)]; rw [if_pos rfl]
theorem vp_10 {d a b m : Int} : VP 10 d a b m = (d = 0 ∧ (0 ≤ a ∧ a ≤ 9) ∧ b = 0 ∧ m = 0) := by
  unfold VP; rw [if_neg (by decide), if_neg (by decide), if_neg (by decide), if_neg (by decide), if_neg (by decide), if_neg (by decide), if_neg (by decide), if_neg (by decide), if_neg (by decide)]; rw [if_pos rfl]
theorem vp_11 {d a b m : Int} : VP 11 d a b m = (d = 0 ∧ a = 0 ∧ b = 0 ∧ (0 ≤ m ∧ m ≤ 20000)) := by
  unfold VP; rw [if_neg (by decide), if_neg (by decide), if_neg (by decide), if_neg (by decide), if_neg (by decide), if_neg (by decide), if_neg (by decide), if_neg (by decide), if_neg (by decide), if_neg (by decide)]; rw [if_pos rfl]
theorem vp_12 {d a b m : Int} : VP 12 d a b m = (d = 0 ∧ a = 0 ∧ b = 0 ∧ m = 0) := by
  unfold VP; rw [if_neg (by decide), if_neg (by decide), if_neg (by decide), if_neg (by decide), if_neg (by decide), if_neg (by decide), if_neg (by decide), if_neg (by decide), if_neg (by decide), if_neg (by decide), if_neg (by decide)]; rw [if_pos rfl]
theorem vp_13 {d a b m : Int} : VP 13 d a b m = (d = 0 ∧ a = 0 ∧ b = 0 ∧ m = 0) := by
  unfold VP; rw [if_neg (by decide), if_neg (by decide), if_neg (by decide), if_neg (by decide), if_neg (by decide), if_neg (by decide), if_neg (by decide), if_neg (by decide), if_neg (by decide), if_neg (by decide), if_neg (by decide), if_neg (by decide)]; rw [if_pos rfl]
theorem vp_14 {d a b m : Int} : VP 14 d a b m = (d = 0 ∧ a = 0 ∧ b = 0 ∧ m = 0) := by
  unfold VP; rw [if_neg (by decide), if_neg (by decide), if_neg (by decide), if_neg (by decide), if_neg (by decide), if_neg (by decide), if_neg (by decide), if_neg (by decide), if_neg (by decide), if_neg (by decide), if_neg (by decide), if_neg (by decide), if_neg (by decide)]; rw [if_pos rfl]
theorem vp_bin {op d a b m : Int} (h : 16 ≤ op ∧ op ≤ 29) : VP op d a b m = ((0 ≤ d ∧ d ≤ 9) ∧ (0 ≤ a ∧ a ≤ 9) ∧ (0 ≤ b ∧ b ≤ 9) ∧ m = 0) := by
  unfold VP; rw [if_neg (by omega), if_neg (by omega), if_neg (by omega), if_neg (by omega), if_neg (by omega), if_neg (by omega), if_neg (by omega), if_neg (by omega), if_neg (by omega), if_neg (by omega), if_neg (by omega), if_neg (by omega), if_neg (by omega), if_neg (by omega)]; rw [if_pos h]
theorem vp_bini {op d a b m : Int} (h : 36 ≤ op ∧ op ≤ 49) : VP op d a b m = ((0 ≤ d ∧ d ≤ 9) ∧ (0 ≤ a ∧ a ≤ 9) ∧ b = 0 ∧ (-2147483648 ≤ m ∧ m ≤ 2147483647)) := by
  unfold VP; rw [if_neg (by omega), if_neg (by omega), if_neg (by omega), if_neg (by omega), if_neg (by omega), if_neg (by omega), if_neg (by omega), if_neg (by omega), if_neg (by omega), if_neg (by omega), if_neg (by omega), if_neg (by omega), if_neg (by omega), if_neg (by omega)]; rw [if_neg (by omega), if_pos h]
theorem vp_no {op d a b m : Int} (h : op ≤ 0 ∨ op = 15 ∨ (30 ≤ op ∧ op ≤ 35) ∨ 50 ≤ op) : VP op d a b m = False := by
  unfold VP; rw [if_neg (by omega), if_neg (by omega), if_neg (by omega), if_neg (by omega), if_neg (by omega), if_neg (by omega), if_neg (by omega), if_neg (by omega), if_neg (by omega), if_neg (by omega), if_neg (by omega), if_neg (by omega), if_neg (by omega), if_neg (by omega)]; rw [if_neg (by omega), if_neg (by omega)]
theorem bo_eq {f : Nat} {args : Array Value} {W : World} {p q : Prop} [Decidable p] [Decidable q] (h : Calls Tryd.prog f args W (Bo W (decide p))) (e : q = p) : Calls Tryd.prog f args W (Bo W (decide q)) := h.mono fun _ w k => ⟨k.1.trans (by have : decide p = decide q := decide_eq_decide.2 (by rw [e]); rw [this]), k.2⟩
theorem valid9 {op d a b m : Int} {W : World} (hL : Laid W) (l3 : -9223372036854775808 ≤ m) (u3 : m ≤ 9223372036854775807) (l4 : -9223372036854775808 ≤ op) (u4 : op ≤ 9223372036854775807) : Calls Tryd.prog 9 #[.agg #[.int .i64 op, .int .i64 d, .int .i64 a, .int .i64 b, .int .i64 m]] W (Bo W (decide (VP op d a b m))) := by
  by_cases h1 : op ≤ 0
  · exact bo_eq (j_vlo hL l3 u3 l4 u4 h1) (vp_no (Or.inl h1))
  by_cases h2 : 50 ≤ op
  · exact bo_eq (j_vhi hL l3 u3 l4 u4 h2) (vp_no (by omega))
  by_cases h3 : 30 ≤ op ∧ op ≤ 35
  · exact bo_eq (j_vmid hL l3 u3 l4 u4 h3) (vp_no (by omega))
  by_cases h4 : 16 ≤ op ∧ op ≤ 29
  · exact bo_eq (j_vbin hL l3 u3 l4 u4 h4) (vp_bin h4)
  by_cases h5 : 36 ≤ op ∧ op ≤ 49
  · exact bo_eq (j_vbini hL l3 u3 l4 u4 h5) (vp_bini h5)
  have h : op = 1 ∨ op = 2 ∨ op = 3 ∨ op = 4 ∨ op = 5 ∨ op = 6 ∨ op = 7 ∨ op = 8 ∨ op = 9 ∨ op = 10 ∨ op = 11 ∨ op = 12 ∨ op = 13 ∨ op = 14 ∨ op = 15 := by omega
  rcases h with rfl | rfl | rfl | rfl | rfl | rfl | rfl | rfl | rfl | rfl | rfl | rfl | rfl | rfl | rfl
  · exact bo_eq (j_v1 (s4 := 0) hL l3 u3) (vp_1)
  · exact bo_eq (j_v2 (s4 := 0) hL l3 u3) (vp_2)
  · exact bo_eq (j_v3 (s4 := 0) hL l3 u3) (vp_3)
  · exact bo_eq (j_v4 (s4 := 0) hL l3 u3) (vp_4)
  · exact bo_eq (j_v5 (s4 := 0) hL l3 u3) (vp_5)
  · exact bo_eq (j_v6 (s4 := 0) hL l3 u3) (vp_6)
  · exact bo_eq (j_v7 (s4 := 0) hL l3 u3) (vp_7)
  · exact bo_eq (j_v8 (s4 := 0) hL l3 u3) (vp_8)
  · exact bo_eq (j_v9 (s4 := 0) hL l3 u3) (vp_9)
  · exact bo_eq (j_v10 (s4 := 0) hL l3 u3) (vp_10)
  · exact bo_eq (j_v11 (s4 := 0) hL l3 u3) (vp_11)
  · exact bo_eq (j_v12 (s4 := 0) hL l3 u3) (vp_12)
  · exact bo_eq (j_v13 (s4 := 0) hL l3 u3) (vp_13)
  · exact bo_eq (j_v14 (s4 := 0) hL l3 u3) (vp_14)
  · exact bo_eq (j_v15 (s4 := 0) hL l3 u3) (vp_no (by omega))
theorem valid10 {op d a b m : Int} {W : World} (hL : Laid W) (l3 : -9223372036854775808 ≤ m) (u3 : m ≤ 9223372036854775807) (l4 : -9223372036854775808 ≤ op) (u4 : op ≤ 9223372036854775807) : Calls Tryd.prog 10 #[.agg #[.int .i64 op, .int .i64 d, .int .i64 a, .int .i64 b, .int .i64 m]] W (Bo W (decide (VP op d a b m))) := by
  by_cases h1 : op ≤ 0
  · exact bo_eq (j_rlo hL l3 u3 l4 u4 h1) (vp_no (Or.inl h1))
  by_cases h2 : 50 ≤ op
  · exact bo_eq (j_rhi hL l3 u3 l4 u4 h2) (vp_no (by omega))
  by_cases h3 : 30 ≤ op ∧ op ≤ 35
  · exact bo_eq (j_rmid hL l3 u3 l4 u4 h3) (vp_no (by omega))
  have h : op = 1 ∨ op = 2 ∨ op = 3 ∨ op = 4 ∨ op = 5 ∨ op = 6 ∨ op = 7 ∨ op = 8 ∨ op = 9 ∨ op = 10 ∨ op = 11 ∨ op = 12 ∨ op = 13 ∨ op = 14 ∨ op = 15 ∨ op = 16 ∨ op = 17 ∨ op = 18 ∨ op = 19 ∨ op = 20 ∨ op = 21 ∨ op = 22 ∨ op = 23 ∨ op = 24 ∨ op = 25 ∨ op = 26 ∨ op = 27 ∨ op = 28 ∨ op = 29 ∨ op = 36 ∨ op = 37 ∨ op = 38 ∨ op = 39 ∨ op = 40 ∨ op = 41 ∨ op = 42 ∨ op = 43 ∨ op = 44 ∨ op = 45 ∨ op = 46 ∨ op = 47 ∨ op = 48 ∨ op = 49 := by omega
  rcases h with rfl | rfl | rfl | rfl | rfl | rfl | rfl | rfl | rfl | rfl | rfl | rfl | rfl | rfl | rfl | rfl | rfl | rfl | rfl | rfl | rfl | rfl | rfl | rfl | rfl | rfl | rfl | rfl | rfl | rfl | rfl | rfl | rfl | rfl | rfl | rfl | rfl | rfl | rfl | rfl | rfl | rfl | rfl
  · exact bo_eq (j_r1 (s4 := 0) hL l3 u3) (vp_1)
  · exact bo_eq (j_r2 (s4 := 0) hL l3 u3) (vp_2)
  · exact bo_eq (j_r3 (s4 := 0) hL l3 u3) (vp_3)
  · exact bo_eq (j_r4 (s4 := 0) hL l3 u3) (vp_4)
  · exact bo_eq (j_r5 (s4 := 0) hL l3 u3) (vp_5)
  · exact bo_eq (j_r6 (s4 := 0) hL l3 u3) (vp_6)
  · exact bo_eq (j_r7 (s4 := 0) hL l3 u3) (vp_7)
  · exact bo_eq (j_r8 (s4 := 0) hL l3 u3) (vp_8)
  · exact bo_eq (j_r9 (s4 := 0) hL l3 u3) (vp_9)
  · exact bo_eq (j_r10 (s4 := 0) hL l3 u3) (vp_10)
  · exact bo_eq (j_r11 (s4 := 0) hL l3 u3) (vp_11)
  · exact bo_eq (j_r12 (s4 := 0) hL l3 u3) (vp_12)
  · exact bo_eq (j_r13 (s4 := 0) hL l3 u3) (vp_13)
  · exact bo_eq (j_r14 (s4 := 0) hL l3 u3) (vp_14)
  · exact bo_eq (j_r15 (s4 := 0) hL l3 u3) (vp_no (by omega))
  · exact bo_eq (j_r16 (s4 := 0) hL l3 u3) (vp_bin (by omega))
  · exact bo_eq (j_r17 (s4 := 0) hL l3 u3) (vp_bin (by omega))
  · exact bo_eq (j_r18 (s4 := 0) hL l3 u3) (vp_bin (by omega))
  · exact bo_eq (j_r19 (s4 := 0) hL l3 u3) (vp_bin (by omega))
  · exact bo_eq (j_r20 (s4 := 0) hL l3 u3) (vp_bin (by omega))
  · exact bo_eq (j_r21 (s4 := 0) hL l3 u3) (vp_bin (by omega))
  · exact bo_eq (j_r22 (s4 := 0) hL l3 u3) (vp_bin (by omega))
  · exact bo_eq (j_r23 (s4 := 0) hL l3 u3) (vp_bin (by omega))
  · exact bo_eq (j_r24 (s4 := 0) hL l3 u3) (vp_bin (by omega))
  · exact bo_eq (j_r25 (s4 := 0) hL l3 u3) (vp_bin (by omega))
  · exact bo_eq (j_r26 (s4 := 0) hL l3 u3) (vp_bin (by omega))
  · exact bo_eq (j_r27 (s4 := 0) hL l3 u3) (vp_bin (by omega))
  · exact bo_eq (j_r28 (s4 := 0) hL l3 u3) (vp_bin (by omega))
  · exact bo_eq (j_r29 (s4 := 0) hL l3 u3) (vp_bin (by omega))
  · exact bo_eq (j_r36 (s4 := 0) hL l3 u3) (vp_bini (by omega))
  · exact bo_eq (j_r37 (s4 := 0) hL l3 u3) (vp_bini (by omega))
  · exact bo_eq (j_r38 (s4 := 0) hL l3 u3) (vp_bini (by omega))
  · exact bo_eq (j_r39 (s4 := 0) hL l3 u3) (vp_bini (by omega))
  · exact bo_eq (j_r40 (s4 := 0) hL l3 u3) (vp_bini (by omega))
  · exact bo_eq (j_r41 (s4 := 0) hL l3 u3) (vp_bini (by omega))
  · exact bo_eq (j_r42 (s4 := 0) hL l3 u3) (vp_bini (by omega))
  · exact bo_eq (j_r43 (s4 := 0) hL l3 u3) (vp_bini (by omega))
  · exact bo_eq (j_r44 (s4 := 0) hL l3 u3) (vp_bini (by omega))
  · exact bo_eq (j_r45 (s4 := 0) hL l3 u3) (vp_bini (by omega))
  · exact bo_eq (j_r46 (s4 := 0) hL l3 u3) (vp_bini (by omega))
  · exact bo_eq (j_r47 (s4 := 0) hL l3 u3) (vp_bini (by omega))
  · exact bo_eq (j_r48 (s4 := 0) hL l3 u3) (vp_bini (by omega))
  · exact bo_eq (j_r49 (s4 := 0) hL l3 u3) (vp_bini (by omega))
end Go.Proofs.YtbkojaiecgdodaaDoor
