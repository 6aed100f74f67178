/- The walks of the reference function Binary of layer 4: sums, differences, products, quotients, rests and shifts. -/
import Derived.Test.YtgkhldbnljdeiaaQRefD3ToRefF1
import Derived.Test.YtgkhldbnljdeiaaQRefT3ToRefX
set_option maxRecDepth 100000
set_option maxHeartbeats 4000000
set_option linter.unusedSimpArgs false
set_option linter.unusedVariables false
namespace Go.Proofs.Ytgkhldbnljdeiaa
open Go.RowKit
attribute [local go_sem] World.setCell_self
theorem bin_sum (op k a b c d l h x y : Int) (o : Bool) (w : World) (ho : op = 4 ∨ op = 5 ∨ op = 1) (hf : fits2 op k = true) (hc : checkErr k a b = 0) (hd : checkErr k c d = 0) (hS : SpanOut op a b c d l h o)
   (hB : ∀ w, Hid (Calls Try.prog 35 #[.agg #[.int .i64 l, .int .i64 h, .bool o], .int .i64 k] w fun e w' => e = .returned (.agg #[.int .i64 x, .int .i64 y]) ∧ Below w.heap.size w w')) :
   Calls Try.prog 22 #[.int .i64 op, .int .i64 k, .agg #[.int .i64 a, .int .i64 b], .agg #[.int .i64 c, .int .i64 d]] w (BinR x y true false false 0 w) := by
 have F := fun w => Lib.hid (fits2_any op k w)
 rw [hf] at F
 have C1 := fun w => Lib.hid (check_any k a b w)
 rw [hc] at C1
 have C2 := fun w => Lib.hid (check_any k c d w)
 rw [hd] at C2
 rcases ho with rfl | rfl | rfl
 all_goals
   go_enter Try.func22, Try.ntmps22
   go_wp2_with fail
   refine (F _).out.mono ?_
   rintro e w1 ⟨rfl, rfl⟩
   go_wp2_with fail
   refine (C1 _).out.mono ?_
   rintro e w2 ⟨rfl, hB2⟩
   have I2 := (divPre w a b c d).later hB2
   have J2 := Lib.hid I2
   clear hB2
   obtain ⟨a0, a1, b0, b1, r0, r1, r2, r3, r4, fr0, fr1, fr2, fr3, fr4, s0, s1, s2, bl⟩ := I2
   go_wp2_with fail
   refine (C2 _).out.mono ?_
   clear a0 a1 b0 b1 r0 r1 r2 r3 r4 fr0 fr1 fr2 fr3 fr4 s0 s1 s2 bl
   rintro e w3 ⟨rfl, hB3⟩
   have I3 := J2.out.later hB3
   have J3 := Lib.hid I3
   clear hB3 J2
   obtain ⟨a0, a1, b0, b1, r0, r1, r2, r3, r4, fr0, fr1, fr2, fr3, fr4, s0, s1, s2, bl⟩ := I3
   go_wp2_with fail
   refine (hS _).out.mono ?_
   clear a0 a1 b0 b1 r0 r1 r2 r3 r4 fr0 fr1 fr2 fr3 fr4 s0 s1 s2 bl
   rintro e w4 ⟨rfl, hB4⟩
   have I4 := J3.out.later hB4
   have J4 := Lib.hid I4
   clear hB4 J3
   obtain ⟨a0, a1, b0, b1, r0, r1, r2, r3, r4, fr0, fr1, fr2, fr3, fr4, s0, s1, s2, bl⟩ := I4
   go_wp2_with fail
   refine (hB _).out.mono ?_
   clear a0 a1 b0 b1 r0 r1 r2 r3 r4 fr0 fr1 fr2 fr3 fr4 s0 s1 s2 bl
   rintro e w5 ⟨rfl, hB5⟩
   obtain ⟨a0, a1, b0, b1, r0, r1, r2, r3, r4, fr0, fr1, fr2, fr3, fr4, s0, s1, s2, bl⟩ := J4.out.later hB5
   clear hB5 J4 F C1 C2 hB hS
   go_wp2
   refine bodyPost_ret (v := .tuple #[.agg #[.int .i64 x, .int .i64 y, .bool true, .bool false, .bool false], .int .i64 0]) (by simp [results, Try.results22, go_sem, *]) rfl ⟨rfl, (((bl.setCell (by simp; omega) _).setCell (by simp; omega) _).setCell (by simp; omega) _)⟩
theorem rbin_div (op k a b c d x y : Int) (s t u : Bool) (w : World) (ho : op = 2 ∨ op = 3) (hf : fits2 op k = true) (hc : checkErr k a b = 0) (hd : checkErr k c d = 0)
   (hE : ∀ w, Hid (Calls Try.prog 38 #[.int .i64 op, .int .i64 k, .agg #[.int .i64 a, .int .i64 b], .agg #[.int .i64 c, .int .i64 d]] w fun e w' => e = .returned (.agg #[.int .i64 x, .int .i64 y, .bool s, .bool t, .bool u]) ∧ Below w.heap.size w w')) :
   Calls Try.prog 22 #[.int .i64 op, .int .i64 k, .agg #[.int .i64 a, .int .i64 b], .agg #[.int .i64 c, .int .i64 d]] w (BinR x y s t u 0 w) := by
 have F := fun w => Lib.hid (fits2_any op k w)
 rw [hf] at F
 have C1 := fun w => Lib.hid (check_any k a b w)
 rw [hc] at C1
 have C2 := fun w => Lib.hid (check_any k c d w)
 rw [hd] at C2
 rcases ho with rfl | rfl
 all_goals
   go_enter Try.func22, Try.ntmps22
   go_wp2_with fail
   refine (F _).out.mono ?_
   rintro e w1 ⟨rfl, rfl⟩
   go_wp2_with fail
   refine (C1 _).out.mono ?_
   rintro e w2 ⟨rfl, hB2⟩
   have I2 := (divPre w a b c d).later hB2
   have J2 := Lib.hid I2
   clear hB2
   obtain ⟨a0, a1, b0, b1, r0, r1, r2, r3, r4, fr0, fr1, fr2, fr3, fr4, s0, s1, s2, bl⟩ := I2
   go_wp2_with fail
   refine (C2 _).out.mono ?_
   clear a0 a1 b0 b1 r0 r1 r2 r3 r4 fr0 fr1 fr2 fr3 fr4 s0 s1 s2 bl
   rintro e w3 ⟨rfl, hB3⟩
   have I3 := J2.out.later hB3
   have J3 := Lib.hid I3
   clear hB3 J2
   obtain ⟨a0, a1, b0, b1, r0, r1, r2, r3, r4, fr0, fr1, fr2, fr3, fr4, s0, s1, s2, bl⟩ := I3
   go_wp2_with fail
   refine (hE _).out.mono ?_
   clear a0 a1 b0 b1 r0 r1 r2 r3 r4 fr0 fr1 fr2 fr3 fr4 s0 s1 s2 bl
   rintro e w4 ⟨rfl, hB4⟩
   obtain ⟨a0, a1, b0, b1, r0, r1, r2, r3, r4, fr0, fr1, fr2, fr3, fr4, s0, s1, s2, bl⟩ := J3.out.later hB4
   clear hB4 J3 F C1 C2 hE
   go_wp2
   refine bodyPost_ret (v := .tuple #[.agg #[.int .i64 x, .int .i64 y, .bool s, .bool t, .bool u], .int .i64 0]) (by simp [results, Try.results22, go_sem, *]) rfl ⟨rfl, (((((bl.setCell (by simp; omega) _).setCell (by simp; omega) _).setCell (by simp; omega) _).setCell (by simp; omega) _).setCell (by simp; omega) _)⟩
theorem bin_shift (op k a b c d x y : Int) (s t u : Bool) (w : World) (ho : op = 6 ∨ op = 7) (hf : fits2 op k = true) (hc : checkErr k a b = 0) (hd : checkErr k c d = 0)
   (hE : ∀ w, Hid (Calls Try.prog 39 #[.int .i64 op, .int .i64 k, .agg #[.int .i64 a, .int .i64 b], .agg #[.int .i64 c, .int .i64 d]] w fun e w' => e = .returned (.agg #[.int .i64 x, .int .i64 y, .bool s, .bool t, .bool u]) ∧ Below w.heap.size w w')) :
   Calls Try.prog 22 #[.int .i64 op, .int .i64 k, .agg #[.int .i64 a, .int .i64 b], .agg #[.int .i64 c, .int .i64 d]] w (BinR x y s t u 0 w) := by
 have F := fun w => Lib.hid (fits2_any op k w)
 rw [hf] at F
 have C1 := fun w => Lib.hid (check_any k a b w)
 rw [hc] at C1
 have C2 := fun w => Lib.hid (check_any k c d w)
 rw [hd] at C2
 rcases ho with rfl | rfl
 all_goals
   go_enter Try.func22, Try.ntmps22
   go_wp2_with fail
   refine (F _).out.mono ?_
   rintro e w1 ⟨rfl, rfl⟩
   go_wp2_with fail
   refine (C1 _).out.mono ?_
   rintro e w2 ⟨rfl, hB2⟩
   have I2 := (divPre w a b c d).later hB2
   have J2 := Lib.hid I2
   clear hB2
   obtain ⟨a0, a1, b0, b1, r0, r1, r2, r3, r4, fr0, fr1, fr2, fr3, fr4, s0, s1, s2, bl⟩ := I2
   go_wp2_with fail
   refine (C2 _).out.mono ?_
   clear a0 a1 b0 b1 r0 r1 r2 r3 r4 fr0 fr1 fr2 fr3 fr4 s0 s1 s2 bl
   rintro e w3 ⟨rfl, hB3⟩
   have I3 := J2.out.later hB3
   have J3 := Lib.hid I3
   clear hB3 J2
   obtain ⟨a0, a1, b0, b1, r0, r1, r2, r3, r4, fr0, fr1, fr2, fr3, fr4, s0, s1, s2, bl⟩ := I3
   go_wp2_with fail
   refine (hE _).out.mono ?_
   clear a0 a1 b0 b1 r0 r1 r2 r3 r4 fr0 fr1 fr2 fr3 fr4 s0 s1 s2 bl
   rintro e w4 ⟨rfl, hB4⟩
   obtain ⟨a0, a1, b0, b1, r0, r1, r2, r3, r4, fr0, fr1, fr2, fr3, fr4, s0, s1, s2, bl⟩ := J3.out.later hB4
   clear hB4 J3 F C1 C2 hE
   go_wp2
   refine bodyPost_ret (v := .tuple #[.agg #[.int .i64 x, .int .i64 y, .bool s, .bool t, .bool u], .int .i64 0]) (by simp [results, Try.results22, go_sem, *]) rfl ⟨rfl, (((((bl.setCell (by simp; omega) _).setCell (by simp; omega) _).setCell (by simp; omega) _).setCell (by simp; omega) _).setCell (by simp; omega) _)⟩
end Go.Proofs.Ytgkhldbnljdeiaa
