/- RefJ, RefK. -/
import Derived.Test.YtgkhldbnljdeiaaQRefHToRefI
set_option maxRecDepth 100000
set_option maxHeartbeats 1000000
set_option linter.unusedSimpArgs false
set_option linter.unusedVariables false
namespace Go.Proofs.Ytgkhldbnljdeiaa
open Go.RowKit
attribute [local go_sem] World.setCell_self
theorem check_ok64 {k a b : Int} (h : checkErr k a b = 0) : Ok64 a b := by
 unfold checkErr at h
 split at h
 · rename_i g
   obtain ⟨g1, g2, g3, g4⟩ := g
   unfold fullErr at g1
   unfold fullLow at g3
   unfold fullHigh at g4
   refine ⟨g2, ?_, ?_⟩
   · split at g3 <;> omega
   · split at g4
     · omega
     · split at g4
       · omega
       · split at g4 <;> omega
 · omega
def assOK (op k a b c d : Int) : Bool := decide (11 ≤ op ∧ op ≤ 16) && fits2 op k && decide (checkErr k a b = 0) && decide (checkErr k c d = 0)
def assS (op a b c d : Int) (r : Bool) : Two := let t := leftS (if r then op else oppS op) a b c d; if t.p then t else ⟨0, 0, 0, 0, false⟩
def assV (t : Two) (e : Int) : Value := .tuple #[.agg #[.int .i64 t.x0, .int .i64 t.x1], .agg #[.int .i64 t.y0, .int .i64 t.y1], .bool t.p, .int .i64 e]
def assR (op k a b c d : Int) (r : Bool) : Value := if assOK op k a b c d then assV (assS op a b c d r) 0 else assV ⟨0, 0, 0, 0, false⟩ 2
/-- Assume says no: whatever test it was that failed. -/
def SaysNo (op k a b c d : Int) (r : Bool) (w : World) : Prop := Calls Try.prog 26 #[.int .i64 op, .int .i64 k, .agg #[.int .i64 a, .int .i64 b], .agg #[.int .i64 c, .int .i64 d], .bool r] w fun e w' => e = .returned (.tuple #[.agg #[.int .i64 0, .int .i64 0], .agg #[.int .i64 0, .int .i64 0], .bool false, .int .i64 2]) ∧ Below w.heap.size w w'
def Fresh4 (w : World) (a b c d : Int) : World := (((w.alloc (.cells #[.int .i64 a, .int .i64 b] 23)).alloc (.cells #[.int .i64 c, .int .i64 d] 23)).alloc (.cells #[.int .i64 0, .int .i64 0] 23)).alloc (.cells #[.int .i64 0, .int .i64 0] 23)
theorem fresh4 (w : World) (a b c d : Int) : In w (Fresh4 w a b c d) a b c d 0 0 0 0 := by
 unfold Fresh4
 exact ⟨by go_simp, by go_simp, by go_simp, by go_simp, by go_simp, by go_simp, by go_simp, by go_simp, by go_simp, by go_simp, by go_simp, by go_simp, by simp, (((Below.refl _ _).alloc (Nat.le_refl _) _).alloc (by simp) _).alloc (by simp; omega) _ |>.alloc (by simp; omega) _⟩
theorem assume_op (op k a b c d : Int) (r : Bool) (w : World) (h : op < 11 ∨ 16 < op) : SaysNo op k a b c d r w := by
 unfold SaysNo
 rcases h with h | h
 all_goals
   go_enter Try.func26, Try.ntmps26
   go_wp2_with fail
   refine bodyPost_ret (v := .tuple #[.agg #[.int .i64 0, .int .i64 0], .agg #[.int .i64 0, .int .i64 0], .bool false, .int .i64 2]) (by simp [results, Try.results26, go_sem]) rfl ⟨rfl, ?_⟩
   exact ((((Below.refl _ _).alloc (Nat.le_refl _) _).alloc (by simp) _).alloc (by simp; omega) _).alloc (by simp; omega) _
theorem assume_fits (op k a b c d : Int) (r : Bool) (w : World) (h1 : 11 ≤ op) (h2 : op ≤ 16) (hf : fits2 op k = false) : SaysNo op k a b c d r w := by
 unfold SaysNo
 have F := fun w => Lib.hid (fits2_any op k w)
 rw [hf] at F
 clear hf
 go_enter Try.func26, Try.ntmps26
 go_wp2_with fail
 refine (F _).out.mono ?_
 rintro e w1 ⟨rfl, rfl⟩
 go_wp2_with fail
 refine bodyPost_ret (v := .tuple #[.agg #[.int .i64 0, .int .i64 0], .agg #[.int .i64 0, .int .i64 0], .bool false, .int .i64 2]) (by simp [results, Try.results26, go_sem]) rfl ⟨rfl, ?_⟩
 exact ((((Below.refl _ _).alloc (Nat.le_refl _) _).alloc (by simp) _).alloc (by simp; omega) _).alloc (by simp; omega) _
theorem assume_check1 (op k a b c d : Int) (r : Bool) (w : World) (h1 : 11 ≤ op) (h2 : op ≤ 16) (hf : fits2 op k = true) (hc : (checkErr k a b != 0) = true) : SaysNo op k a b c d r w := by
 unfold SaysNo
 have F := fun w => Lib.hid (fits2_any op k w)
 rw [hf] at F
 clear hf
 have C1 := fun w => Lib.hid (check_any k a b w)
 generalize checkErr k a b = ce at *
 go_enter Try.func26, Try.ntmps26
 go_wp2_with fail
 refine (F _).out.mono ?_
 rintro e w1 ⟨rfl, rfl⟩
 go_wp2_with fail
 refine (C1 _).out.mono ?_
 rintro e w2 ⟨rfl, hB2⟩
 have I2 := (fresh4 w a b c d).later hB2
 clear hB2
 obtain ⟨a0, a1, b0, b1, c0, c1, d0, d1, f0, f1, g0, g1, sz, bl⟩ := I2
 go_wp2_with fail
 refine bodyPost_ret (v := .tuple #[.agg #[.int .i64 0, .int .i64 0], .agg #[.int .i64 0, .int .i64 0], .bool false, .int .i64 2]) (by simp [results, Try.results26, go_sem, *]) rfl ⟨rfl, bl⟩
theorem assume_check2 (op k a b c d : Int) (r : Bool) (w : World) (h1 : 11 ≤ op) (h2 : op ≤ 16) (hf : fits2 op k = true) (hc : checkErr k a b = 0) (hd : (checkErr k c d != 0) = true) : SaysNo op k a b c d r w := by
 unfold SaysNo
 have F := fun w => Lib.hid (fits2_any op k w)
 rw [hf] at F
 clear hf
 have C1 := fun w => Lib.hid (check_any k a b w)
 rw [hc] at C1
 have C2 := fun w => Lib.hid (check_any k c d w)
 clear hc
 generalize checkErr k c d = ce at *
 go_enter Try.func26, Try.ntmps26
 go_wp2_with fail
 refine (F _).out.mono ?_
 rintro e w1 ⟨rfl, rfl⟩
 go_wp2_with fail
 refine (C1 _).out.mono ?_
 rintro e w2 ⟨rfl, hB2⟩
 have I2 := (fresh4 w a b c d).later hB2
 clear hB2
 obtain ⟨a0, a1, b0, b1, c0, c1, d0, d1, f0, f1, g0, g1, sz, bl⟩ := id I2
 have J2 := Lib.hid I2
 clear I2 bl
 go_wp2_with fail
 refine (C2 _).out.mono ?_
 clear a0 a1 b0 b1 c0 c1 d0 d1 f0 f1 g0 g1 sz
 rintro e w3 ⟨rfl, hB3⟩
 have I3 := J2.out.later hB3
 clear hB3 J2
 obtain ⟨a0, a1, b0, b1, c0, c1, d0, d1, f0, f1, g0, g1, sz, bl⟩ := I3
 go_wp2_with fail
 refine bodyPost_ret (v := .tuple #[.agg #[.int .i64 0, .int .i64 0], .agg #[.int .i64 0, .int .i64 0], .bool false, .int .i64 2]) (by simp [results, Try.results26, go_sem, *]) rfl ⟨rfl, bl⟩
end Go.Proofs.Ytgkhldbnljdeiaa
namespace Go.Proofs.Ytgkhldbnljdeiaa
open Go.RowKit
attribute [local go_sem] World.setCell_self
def SaysYes (op k a b c d : Int) (r : Bool) (w : World) (t : Two) : Prop := Calls Try.prog 26 #[.int .i64 op, .int .i64 k, .agg #[.int .i64 a, .int .i64 b], .agg #[.int .i64 c, .int .i64 d], .bool r] w fun e w' => e = .returned (.tuple #[.agg #[.int .i64 t.x0, .int .i64 t.x1], .agg #[.int .i64 t.y0, .int .i64 t.y1], .bool t.p, .int .i64 0]) ∧ Below w.heap.size w w'
theorem opp_in (op : Int) (h1 : 11 ≤ op) (h2 : op ≤ 16) : 11 ≤ oppS op ∧ oppS op ≤ 16 := by
 unfold oppS
 repeat (first | omega | split)
theorem assume_walk_true (op op' k a b c d : Int) (w : World) (t : Two) (h1 : 11 ≤ op) (h2 : op ≤ 16) (F : ∀ w, Hid (Calls Try.prog 34 #[.int .i64 op, .int .i64 k, .bool true] w fun e w' => e = .returned (.bool true) ∧ w = w'))
   (C1 : ∀ w, Hid (Calls Try.prog 14 #[.int .i64 k, .agg #[.int .i64 a, .int .i64 b]] w fun e w' => e = .returned (.int .i64 0) ∧ Below w.heap.size w w'))
   (C2 : ∀ w, Hid (Calls Try.prog 14 #[.int .i64 k, .agg #[.int .i64 c, .int .i64 d]] w fun e w' => e = .returned (.int .i64 0) ∧ Below w.heap.size w w'))
   (O : ∀ w, Hid (Calls Try.prog 47 #[.int .i64 op] w fun e w' => e = .returned (.int .i64 op') ∧ Below w.heap.size w w'))
   (L : ∀ w, Hid (Calls Try.prog 48 #[.int .i64 op, .agg #[.int .i64 a, .int .i64 b], .agg #[.int .i64 c, .int .i64 d]] w fun e w' => e = .returned (TwoV t) ∧ Below w.heap.size w w')) :
   SaysYes op k a b c d true w (if t.p then t else ⟨0, 0, 0, 0, false⟩) := by
 unfold SaysYes
 unfold TwoV at L
 obtain ⟨t0, t1, t2, t3, tp⟩ := t
 cases tp
 · simp only [if_false, Bool.false_eq_true]
   go_enter Try.func26, Try.ntmps26
   go_wp2_with fail
   refine (F _).out.mono ?_
   rintro e w1 ⟨rfl, rfl⟩
   go_wp2_with fail
   refine (C1 _).out.mono ?_
   rintro e w2 ⟨rfl, hB2⟩
   have I2 := (fresh4 w a b c d).later hB2
   clear hB2
   obtain ⟨a0, a1, b0, b1, c0, c1, d0, d1, f0, f1, g0, g1, sz, bl⟩ := id I2
   have J2 := Lib.hid I2
   clear I2 bl
   go_wp2_with fail
   refine (C2 _).out.mono ?_
   clear a0 a1 b0 b1 c0 c1 d0 d1 f0 f1 g0 g1 sz
   rintro e w3 ⟨rfl, hB3⟩
   have I4 := J2.out.later hB3
   clear hB3 J2
   obtain ⟨a0, a1, b0, b1, c0, c1, d0, d1, f0, f1, g0, g1, sz, bl⟩ := id I4
   have J4 := Lib.hid I4
   clear I4 bl
   go_wp2_with fail
   refine (L _).out.mono ?_
   clear a0 a1 b0 b1 c0 c1 d0 d1 f0 f1 g0 g1 sz
   rintro e w5 ⟨rfl, hB5⟩
   have I5 := J4.out.later hB5
   clear hB5 J4 L F C1 C2
   obtain ⟨a0, a1, b0, b1, c0, c1, d0, d1, f0, f1, g0, g1, sz, bl⟩ := id I5
   have J5 := Lib.hid ((I5.setX t0 t1).setY t2 t3)
   clear I5 bl
   go_wp2
   clear a0 a1 b0 b1 c0 c1 d0 d1 f0 f1 g0 g1
   obtain ⟨a0, a1, b0, b1, c0, c1, d0, d1, f0, f1, g0, g1, sz', bl⟩ := (J5.out.setX 0 0).setY 0 0
   refine bodyPost_ret (v := .tuple #[.agg #[.int .i64 0, .int .i64 0], .agg #[.int .i64 0, .int .i64 0], .bool false, .int .i64 0]) (by simp [results, Try.results26, go_sem, c0, c1, d0, d1]) rfl ⟨rfl, bl⟩
 · simp only [if_true]
   go_enter Try.func26, Try.ntmps26
   go_wp2_with fail
   refine (F _).out.mono ?_
   rintro e w1 ⟨rfl, rfl⟩
   go_wp2_with fail
   refine (C1 _).out.mono ?_
   rintro e w2 ⟨rfl, hB2⟩
   have I2 := (fresh4 w a b c d).later hB2
   clear hB2
   obtain ⟨a0, a1, b0, b1, c0, c1, d0, d1, f0, f1, g0, g1, sz, bl⟩ := id I2
   have J2 := Lib.hid I2
   clear I2 bl
   go_wp2_with fail
   refine (C2 _).out.mono ?_
   clear a0 a1 b0 b1 c0 c1 d0 d1 f0 f1 g0 g1 sz
   rintro e w3 ⟨rfl, hB3⟩
   have I4 := J2.out.later hB3
   clear hB3 J2
   obtain ⟨a0, a1, b0, b1, c0, c1, d0, d1, f0, f1, g0, g1, sz, bl⟩ := id I4
   have J4 := Lib.hid I4
   clear I4 bl
   go_wp2_with fail
   refine (L _).out.mono ?_
   clear a0 a1 b0 b1 c0 c1 d0 d1 f0 f1 g0 g1 sz
   rintro e w5 ⟨rfl, hB5⟩
   have I5 := J4.out.later hB5
   clear hB5 J4 L F C1 C2
   obtain ⟨a0, a1, b0, b1, c0, c1, d0, d1, f0, f1, g0, g1, sz, bl⟩ := id I5
   have J5 := Lib.hid ((I5.setX t0 t1).setY t2 t3)
   clear I5 bl
   go_wp2_with fail
   generalize hW : ((((w5.setCell ⟨w.heap.size + 1 + 1, 0, none⟩ (.int .i64 t0)).setCell ⟨w.heap.size + 1 + 1, 1, none⟩ (.int .i64 t1)).setCell ⟨w.heap.size + 1 + 1 + 1, 0, none⟩ (.int .i64 t2)).setCell ⟨w.heap.size + 1 + 1 + 1, 1, none⟩ (.int .i64 t3)) = W at *
   clear hW a0 a1 b0 b1 c0 c1 d0 d1 f0 f1 g0 g1 sz
   obtain ⟨a0, a1, b0, b1, c0, c1, d0, d1, f0, f1, g0, g1, sz, bl⟩ := J5.out
   go_region
   go_wp2
   refine bodyPost_ret (v := .tuple #[.agg #[.int .i64 t0, .int .i64 t1], .agg #[.int .i64 t2, .int .i64 t3], .bool true, .int .i64 0]) (by simp [results, Try.results26, go_sem, *]) rfl ⟨rfl, bl.drew⟩
theorem assume_walk_false (op op' k a b c d : Int) (w : World) (t : Two) (h1 : 11 ≤ op) (h2 : op ≤ 16) (F : ∀ w, Hid (Calls Try.prog 34 #[.int .i64 op, .int .i64 k, .bool true] w fun e w' => e = .returned (.bool true) ∧ w = w'))
   (C1 : ∀ w, Hid (Calls Try.prog 14 #[.int .i64 k, .agg #[.int .i64 a, .int .i64 b]] w fun e w' => e = .returned (.int .i64 0) ∧ Below w.heap.size w w'))
   (C2 : ∀ w, Hid (Calls Try.prog 14 #[.int .i64 k, .agg #[.int .i64 c, .int .i64 d]] w fun e w' => e = .returned (.int .i64 0) ∧ Below w.heap.size w w'))
   (O : ∀ w, Hid (Calls Try.prog 47 #[.int .i64 op] w fun e w' => e = .returned (.int .i64 op') ∧ Below w.heap.size w w'))
   (L : ∀ w, Hid (Calls Try.prog 48 #[.int .i64 op', .agg #[.int .i64 a, .int .i64 b], .agg #[.int .i64 c, .int .i64 d]] w fun e w' => e = .returned (TwoV t) ∧ Below w.heap.size w w')) :
   SaysYes op k a b c d false w (if t.p then t else ⟨0, 0, 0, 0, false⟩) := by
 unfold SaysYes
 unfold TwoV at L
 obtain ⟨t0, t1, t2, t3, tp⟩ := t
 cases tp
 · simp only [if_false, Bool.false_eq_true]
   go_enter Try.func26, Try.ntmps26
   go_wp2_with fail
   refine (F _).out.mono ?_
   rintro e w1 ⟨rfl, rfl⟩
   go_wp2_with fail
   refine (C1 _).out.mono ?_
   rintro e w2 ⟨rfl, hB2⟩
   have I2 := (fresh4 w a b c d).later hB2
   clear hB2
   obtain ⟨a0, a1, b0, b1, c0, c1, d0, d1, f0, f1, g0, g1, sz, bl⟩ := id I2
   have J2 := Lib.hid I2
   clear I2 bl
   go_wp2_with fail
   refine (C2 _).out.mono ?_
   clear a0 a1 b0 b1 c0 c1 d0 d1 f0 f1 g0 g1 sz
   rintro e w3 ⟨rfl, hB3⟩
   have I4 := J2.out.later hB3
   clear hB3 J2
   obtain ⟨a0, a1, b0, b1, c0, c1, d0, d1, f0, f1, g0, g1, sz, bl⟩ := id I4
   have J4 := Lib.hid I4
   clear I4 bl
   go_wp2_with fail
   refine (O _).out.mono ?_
   clear a0 a1 b0 b1 c0 c1 d0 d1 f0 f1 g0 g1 sz
   rintro e w4 ⟨rfl, hB4⟩
   have I4 := J4.out.later hB4
   clear hB4 J4
   obtain ⟨a0, a1, b0, b1, c0, c1, d0, d1, f0, f1, g0, g1, sz, bl⟩ := id I4
   have J4 := Lib.hid I4
   clear I4 bl
   go_wp2_with fail
   refine (L _).out.mono ?_
   clear a0 a1 b0 b1 c0 c1 d0 d1 f0 f1 g0 g1 sz
   rintro e w5 ⟨rfl, hB5⟩
   have I5 := J4.out.later hB5
   clear hB5 J4 L F C1 C2
   obtain ⟨a0, a1, b0, b1, c0, c1, d0, d1, f0, f1, g0, g1, sz, bl⟩ := id I5
   have J5 := Lib.hid ((I5.setX t0 t1).setY t2 t3)
   clear I5 bl
   go_wp2
   clear a0 a1 b0 b1 c0 c1 d0 d1 f0 f1 g0 g1
   obtain ⟨a0, a1, b0, b1, c0, c1, d0, d1, f0, f1, g0, g1, sz', bl⟩ := (J5.out.setX 0 0).setY 0 0
   refine bodyPost_ret (v := .tuple #[.agg #[.int .i64 0, .int .i64 0], .agg #[.int .i64 0, .int .i64 0], .bool false, .int .i64 0]) (by simp [results, Try.results26, go_sem, c0, c1, d0, d1]) rfl ⟨rfl, bl⟩
 · simp only [if_true]
   go_enter Try.func26, Try.ntmps26
   go_wp2_with fail
   refine (F _).out.mono ?_
   rintro e w1 ⟨rfl, rfl⟩
   go_wp2_with fail
   refine (C1 _).out.mono ?_
   rintro e w2 ⟨rfl, hB2⟩
   have I2 := (fresh4 w a b c d).later hB2
   clear hB2
   obtain ⟨a0, a1, b0, b1, c0, c1, d0, d1, f0, f1, g0, g1, sz, bl⟩ := id I2
   have J2 := Lib.hid I2
   clear I2 bl
   go_wp2_with fail
   refine (C2 _).out.mono ?_
   clear a0 a1 b0 b1 c0 c1 d0 d1 f0 f1 g0 g1 sz
   rintro e w3 ⟨rfl, hB3⟩
   have I4 := J2.out.later hB3
   clear hB3 J2
   obtain ⟨a0, a1, b0, b1, c0, c1, d0, d1, f0, f1, g0, g1, sz, bl⟩ := id I4
   have J4 := Lib.hid I4
   clear I4 bl
   go_wp2_with fail
   refine (O _).out.mono ?_
   clear a0 a1 b0 b1 c0 c1 d0 d1 f0 f1 g0 g1 sz
   rintro e w4 ⟨rfl, hB4⟩
   have I4 := J4.out.later hB4
   clear hB4 J4
   obtain ⟨a0, a1, b0, b1, c0, c1, d0, d1, f0, f1, g0, g1, sz, bl⟩ := id I4
   have J4 := Lib.hid I4
   clear I4 bl
   go_wp2_with fail
   refine (L _).out.mono ?_
   clear a0 a1 b0 b1 c0 c1 d0 d1 f0 f1 g0 g1 sz
   rintro e w5 ⟨rfl, hB5⟩
   have I5 := J4.out.later hB5
   clear hB5 J4 L F C1 C2
   obtain ⟨a0, a1, b0, b1, c0, c1, d0, d1, f0, f1, g0, g1, sz, bl⟩ := id I5
   have J5 := Lib.hid ((I5.setX t0 t1).setY t2 t3)
   clear I5 bl
   go_wp2_with fail
   generalize hW : ((((w5.setCell ⟨w.heap.size + 1 + 1, 0, none⟩ (.int .i64 t0)).setCell ⟨w.heap.size + 1 + 1, 1, none⟩ (.int .i64 t1)).setCell ⟨w.heap.size + 1 + 1 + 1, 0, none⟩ (.int .i64 t2)).setCell ⟨w.heap.size + 1 + 1 + 1, 1, none⟩ (.int .i64 t3)) = W at *
   clear hW a0 a1 b0 b1 c0 c1 d0 d1 f0 f1 g0 g1 sz
   obtain ⟨a0, a1, b0, b1, c0, c1, d0, d1, f0, f1, g0, g1, sz, bl⟩ := J5.out
   go_region
   go_wp2
   refine bodyPost_ret (v := .tuple #[.agg #[.int .i64 t0, .int .i64 t1], .agg #[.int .i64 t2, .int .i64 t3], .bool true, .int .i64 0]) (by simp [results, Try.results26, go_sem, *]) rfl ⟨rfl, bl.drew⟩
theorem assume_yes (op k a b c d : Int) (r : Bool) (w : World) (h1 : 11 ≤ op) (h2 : op ≤ 16) (hf : fits2 op k = true) (hc : checkErr k a b = 0) (hd : checkErr k c d = 0) : SaysYes op k a b c d r w (assS op a b c d r) := by
 unfold assS
 have F := fun w => Lib.hid (fits2_any op k w)
 rw [hf] at F
 have C1 := fun w => Lib.hid (check_any k a b w)
 rw [hc] at C1
 have C2 := fun w => Lib.hid (check_any k c d w)
 rw [hd] at C2
 cases r
 · exact assume_walk_false op (oppS op) k a b c d w (leftS (oppS op) a b c d) h1 h2 F C1 C2 (fun w => Lib.hid (opposite_any op w h1 h2)) (fun w => Lib.hid (left_any (oppS op) a b c d w (check_ok64 hc) (check_ok64 hd) (opp_in op h1 h2).1 (opp_in op h1 h2).2))
 · exact assume_walk_true op (oppS op) k a b c d w (leftS op a b c d) h1 h2 F C1 C2 (fun w => Lib.hid (opposite_any op w h1 h2)) (fun w => Lib.hid (left_any op a b c d w (check_ok64 hc) (check_ok64 hd) h1 h2))
theorem assume_any (op k a b c d : Int) (r : Bool) (w : World) : Calls Try.prog 26 #[.int .i64 op, .int .i64 k, .agg #[.int .i64 a, .int .i64 b], .agg #[.int .i64 c, .int .i64 d], .bool r] w fun e w' => e = .returned (assR op k a b c d r) ∧ Below w.heap.size w w' := by
 unfold assR
 by_cases h : assOK op k a b c d = true
 · rw [if_pos h]
   simp only [assOK, Bool.and_eq_true, decide_eq_true_eq] at h
   obtain ⟨⟨⟨⟨h1, h2⟩, hf⟩, hc⟩, hd⟩ := h
   exact assume_yes op k a b c d r w h1 h2 hf hc hd
 · rw [if_neg h]
   by_cases h1 : op < 11 ∨ 16 < op
   · exact assume_op op k a b c d r w h1
   · cases hf : fits2 op k
     · exact assume_fits op k a b c d r w (by omega) (by omega) hf
     · by_cases hc : checkErr k a b = 0
       · by_cases hd : checkErr k c d = 0
         · exfalso; apply h; simp only [assOK, hf, hc, hd, Bool.and_eq_true, decide_eq_true_eq]; simp; omega
         · exact assume_check2 op k a b c d r w (by omega) (by omega) hf hc (by simpa using hd)
       · exact assume_check1 op k a b c d r w (by omega) (by omega) hf (by simpa using hc)
end Go.Proofs.Ytgkhldbnljdeiaa
