/- The walks of the reference function Binary of layer 4: bits, truths and comparisons. -/
import Derived.Test.YtgkhldbnljdeiaaQRefD3ToRefF1
import Derived.Test.YtgkhldbnljdeiaaQRefT3ToRefX
set_option maxRecDepth 100000
set_option maxHeartbeats 4000000
set_option linter.unusedSimpArgs false
set_option linter.unusedVariables false
namespace Go.Proofs.Ytgkhldbnljdeiaa
open Go.RowKit
attribute [local go_sem] World.setCell_self
theorem bin_bits (op k a b c d x y : Int) (w : World) (ho : op = 8 ∨ op = 9 ∨ op = 10) (hf : fits2 op k = true) (hc : checkErr k a b = 0) (hd : checkErr k c d = 0)
   (hE : ∀ w, Hid (Calls Try.prog 40 #[.int .i64 op, .int .i64 k, .agg #[.int .i64 a, .int .i64 b], .agg #[.int .i64 c, .int .i64 d]] w fun e w' => e = .returned (.agg #[.int .i64 x, .int .i64 y]) ∧ Below w.heap.size w w')) :
   Calls Try.prog 22 #[.int .i64 op, .int .i64 k, .agg #[.int .i64 a, .int .i64 b], .agg #[.int .i64 c, .int .i64 d]] w (BinR x y true false false 0 w) := by
 have F := fun w => Lib.hid (fits2_any op k w)
 rw [hf] at F
 have C1 := fun w => Lib.hid (check_any k a b w)
 rw [hc] at C1
 have C2 := fun w => Lib.hid (check_any k c d w)
 rw [hd] at C2
 rcases ho with rfl | rfl | rfl
 all_goals
   go_enter Try.func22, Try.ntmps22
   go_wp2_with fail
   refine (F _).out.mono ?_
   rintro e w1 ⟨rfl, rfl⟩
   go_wp2_with fail
   refine (C1 _).out.mono ?_
   rintro e w2 ⟨rfl, hB2⟩
   have I2 := (divPre w a b c d).later hB2
   have J2 := Lib.hid I2
   clear hB2
   obtain ⟨a0, a1, b0, b1, r0, r1, r2, r3, r4, fr0, fr1, fr2, fr3, fr4, s0, s1, s2, bl⟩ := I2
   go_wp2_with fail
   refine (C2 _).out.mono ?_
   clear a0 a1 b0 b1 r0 r1 r2 r3 r4 fr0 fr1 fr2 fr3 fr4 s0 s1 s2 bl
   rintro e w3 ⟨rfl, hB3⟩
   have I3 := J2.out.later hB3
   have J3 := Lib.hid I3
   clear hB3 J2
   obtain ⟨a0, a1, b0, b1, r0, r1, r2, r3, r4, fr0, fr1, fr2, fr3, fr4, s0, s1, s2, bl⟩ := I3
   go_wp2_with fail
   refine (hE _).out.mono ?_
   clear a0 a1 b0 b1 r0 r1 r2 r3 r4 fr0 fr1 fr2 fr3 fr4 s0 s1 s2 bl
   rintro e w4 ⟨rfl, hB4⟩
   obtain ⟨a0, a1, b0, b1, r0, r1, r2, r3, r4, fr0, fr1, fr2, fr3, fr4, s0, s1, s2, bl⟩ := J3.out.later hB4
   clear hB4 J3 F C1 C2 hE
   go_wp2
   refine bodyPost_ret (v := .tuple #[.agg #[.int .i64 x, .int .i64 y, .bool true, .bool false, .bool false], .int .i64 0]) (by simp [results, Try.results22, go_sem, *]) rfl ⟨rfl, (((bl.setCell (by simp; omega) _).setCell (by simp; omega) _).setCell (by simp; omega) _)⟩
theorem bin_comp (op k a b c d x y : Int) (w : World) (ho : op = 11 ∨ op = 12 ∨ op = 13 ∨ op = 14 ∨ op = 15 ∨ op = 16) (hf : fits2 op k = true) (hc : checkErr k a b = 0) (hd : checkErr k c d = 0)
   (hE : ∀ w, Hid (Calls Try.prog 41 #[.int .i64 op, .agg #[.int .i64 a, .int .i64 b], .agg #[.int .i64 c, .int .i64 d]] w fun e w' => e = .returned (.agg #[.int .i64 x, .int .i64 y]) ∧ Below w.heap.size w w')) :
   Calls Try.prog 22 #[.int .i64 op, .int .i64 k, .agg #[.int .i64 a, .int .i64 b], .agg #[.int .i64 c, .int .i64 d]] w (BinR x y true false false 0 w) := by
 have F := fun w => Lib.hid (fits2_any op k w)
 rw [hf] at F
 have C1 := fun w => Lib.hid (check_any k a b w)
 rw [hc] at C1
 have C2 := fun w => Lib.hid (check_any k c d w)
 rw [hd] at C2
 rcases ho with rfl | rfl | rfl | rfl | rfl | rfl
 all_goals
   go_enter Try.func22, Try.ntmps22
   go_wp2_with fail
   refine (F _).out.mono ?_
   rintro e w1 ⟨rfl, rfl⟩
   go_wp2_with fail
   refine (C1 _).out.mono ?_
   rintro e w2 ⟨rfl, hB2⟩
   have I2 := (divPre w a b c d).later hB2
   have J2 := Lib.hid I2
   clear hB2
   obtain ⟨a0, a1, b0, b1, r0, r1, r2, r3, r4, fr0, fr1, fr2, fr3, fr4, s0, s1, s2, bl⟩ := I2
   go_wp2_with fail
   refine (C2 _).out.mono ?_
   clear a0 a1 b0 b1 r0 r1 r2 r3 r4 fr0 fr1 fr2 fr3 fr4 s0 s1 s2 bl
   rintro e w3 ⟨rfl, hB3⟩
   have I3 := J2.out.later hB3
   have J3 := Lib.hid I3
   clear hB3 J2
   obtain ⟨a0, a1, b0, b1, r0, r1, r2, r3, r4, fr0, fr1, fr2, fr3, fr4, s0, s1, s2, bl⟩ := I3
   go_wp2_with fail
   refine (hE _).out.mono ?_
   clear a0 a1 b0 b1 r0 r1 r2 r3 r4 fr0 fr1 fr2 fr3 fr4 s0 s1 s2 bl
   rintro e w4 ⟨rfl, hB4⟩
   obtain ⟨a0, a1, b0, b1, r0, r1, r2, r3, r4, fr0, fr1, fr2, fr3, fr4, s0, s1, s2, bl⟩ := J3.out.later hB4
   clear hB4 J3 F C1 C2 hE
   go_wp2
   refine bodyPost_ret (v := .tuple #[.agg #[.int .i64 x, .int .i64 y, .bool true, .bool false, .bool false], .int .i64 0]) (by simp [results, Try.results22, go_sem, *]) rfl ⟨rfl, (((bl.setCell (by simp; omega) _).setCell (by simp; omega) _).setCell (by simp; omega) _)⟩
theorem rbin_land (k a b c d : Int) (w : World) (hf : fits2 17 k = true) (hc : checkErr k a b = 0) (hd : checkErr k c d = 0) (h1 : wrap64 (a * c) = a * c) (h2 : wrap64 (b * d) = b * d) :
   Calls Try.prog 22 #[.int .i64 17, .int .i64 k, .agg #[.int .i64 a, .int .i64 b], .agg #[.int .i64 c, .int .i64 d]] w (BinR (a * c) (b * d) true false false 0 w) := by
 have F := fun w => Lib.hid (fits2_any 17 k w)
 rw [hf] at F
 have C1 := fun w => Lib.hid (check_any k a b w)
 rw [hc] at C1
 have C2 := fun w => Lib.hid (check_any k c d w)
 rw [hd] at C2
 go_enter Try.func22, Try.ntmps22
 go_wp2_with fail
 refine (F _).out.mono ?_
 rintro e w1 ⟨rfl, rfl⟩
 go_wp2_with fail
 refine (C1 _).out.mono ?_
 rintro e w2 ⟨rfl, hB2⟩
 have I2 := (divPre w a b c d).later hB2
 have J2 := Lib.hid I2
 clear hB2
 obtain ⟨a0, a1, b0, b1, r0, r1, r2, r3, r4, fr0, fr1, fr2, fr3, fr4, s0, s1, s2, bl⟩ := I2
 go_wp2_with fail
 refine (C2 _).out.mono ?_
 clear a0 a1 b0 b1 r0 r1 r2 r3 r4 fr0 fr1 fr2 fr3 fr4 s0 s1 s2 bl
 rintro e w3 ⟨rfl, hB3⟩
 have I3 := J2.out.later hB3
 have J3 := Lib.hid I3
 clear hB3 J2
 obtain ⟨a0, a1, b0, b1, r0, r1, r2, r3, r4, fr0, fr1, fr2, fr3, fr4, s0, s1, s2, bl⟩ := I3
 clear J3 F C1 C2
 generalize hp : a * c = p at *
 generalize hq : b * d = q at *
 go_wp2
 refine bodyPost_ret (v := .tuple #[.agg #[.int .i64 p, .int .i64 q, .bool true, .bool false, .bool false], .int .i64 0]) (by simp [results, Try.results22, go_sem, *]) rfl ⟨rfl, (by first | exact (bl.setCell (by simp; omega) _) | exact (bl.setCell (by simp; omega) _).alloc (by simp [World.setCell]; omega) _ | exact ((bl.setCell (by simp; omega) _).setCell (by simp; omega) _) | exact ((bl.setCell (by simp; omega) _).setCell (by simp; omega) _).alloc (by simp [World.setCell]; omega) _ | exact (((bl.setCell (by simp; omega) _).setCell (by simp; omega) _).setCell (by simp; omega) _) | exact (((bl.setCell (by simp; omega) _).setCell (by simp; omega) _).setCell (by simp; omega) _).alloc (by simp [World.setCell]; omega) _ | exact (((((bl.setCell (by simp; omega) _).setCell (by simp; omega) _).setCell (by simp; omega) _).setCell (by simp; omega) _).setCell (by simp; omega) _) | exact (((((bl.setCell (by simp; omega) _).setCell (by simp; omega) _).setCell (by simp; omega) _).setCell (by simp; omega) _).setCell (by simp; omega) _).alloc (by simp [World.setCell]; omega) _)⟩
theorem rbin_lor (k a b c d x y : Int) (w : World) (hf : fits2 18 k = true) (hc : checkErr k a b = 0) (hd : checkErr k c d = 0) (hx : (a < c ∧ c = x) ∨ (c ≤ a ∧ a = x)) (hy : (b < d ∧ d = y) ∨ (d ≤ b ∧ b = y)) :
   Calls Try.prog 22 #[.int .i64 18, .int .i64 k, .agg #[.int .i64 a, .int .i64 b], .agg #[.int .i64 c, .int .i64 d]] w (BinR x y true false false 0 w) := by
 have F := fun w => Lib.hid (fits2_any 18 k w)
 rw [hf] at F
 have C1 := fun w => Lib.hid (check_any k a b w)
 rw [hc] at C1
 have C2 := fun w => Lib.hid (check_any k c d w)
 rw [hd] at C2
 rcases hx with ⟨hx, rfl⟩ | ⟨hx, rfl⟩ <;> rcases hy with ⟨hy, rfl⟩ | ⟨hy, rfl⟩
 all_goals
   go_enter Try.func22, Try.ntmps22
   go_wp2_with fail
   refine (F _).out.mono ?_
   rintro e w1 ⟨rfl, rfl⟩
   go_wp2_with fail
   refine (C1 _).out.mono ?_
   rintro e w2 ⟨rfl, hB2⟩
   have I2 := (divPre w a b c d).later hB2
   have J2 := Lib.hid I2
   clear hB2
   obtain ⟨a0, a1, b0, b1, r0, r1, r2, r3, r4, fr0, fr1, fr2, fr3, fr4, s0, s1, s2, bl⟩ := I2
   go_wp2_with fail
   refine (C2 _).out.mono ?_
   clear a0 a1 b0 b1 r0 r1 r2 r3 r4 fr0 fr1 fr2 fr3 fr4 s0 s1 s2 bl
   rintro e w3 ⟨rfl, hB3⟩
   have I3 := J2.out.later hB3
   have J3 := Lib.hid I3
   clear hB3 J2
   obtain ⟨a0, a1, b0, b1, r0, r1, r2, r3, r4, fr0, fr1, fr2, fr3, fr4, s0, s1, s2, bl⟩ := I3
   clear J3 F C1 C2
   go_wp2
   refine bodyPost_ret (v := .tuple #[.agg #[.int .i64 _, .int .i64 _, .bool true, .bool false, .bool false], .int .i64 0]) (by simp [results, Try.results22, go_sem, *]) rfl ⟨rfl, (by first | exact (bl.setCell (by simp; omega) _) | exact (bl.setCell (by simp; omega) _).alloc (by simp [World.setCell]; omega) _ | exact ((bl.setCell (by simp; omega) _).setCell (by simp; omega) _) | exact ((bl.setCell (by simp; omega) _).setCell (by simp; omega) _).alloc (by simp [World.setCell]; omega) _ | exact (((bl.setCell (by simp; omega) _).setCell (by simp; omega) _).setCell (by simp; omega) _) | exact (((bl.setCell (by simp; omega) _).setCell (by simp; omega) _).setCell (by simp; omega) _).alloc (by simp [World.setCell]; omega) _ | exact (((((bl.setCell (by simp; omega) _).setCell (by simp; omega) _).setCell (by simp; omega) _).setCell (by simp; omega) _).setCell (by simp; omega) _) | exact (((((bl.setCell (by simp; omega) _).setCell (by simp; omega) _).setCell (by simp; omega) _).setCell (by simp; omega) _).setCell (by simp; omega) _).alloc (by simp [World.setCell]; omega) _)⟩
end Go.Proofs.Ytgkhldbnljdeiaa
