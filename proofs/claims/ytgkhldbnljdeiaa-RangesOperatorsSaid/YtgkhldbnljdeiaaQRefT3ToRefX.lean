/- RefT3, RefW, RefX. -/
import Derived.Test.YtgkhldbnljdeiaaQRefT1
import Derived.Test.YtgkhldbnljdeiaaQRefT2
import Derived.Test.YtgkhldbnljdeiaaQLawOpsToRangesE
import Derived.LoopTactic
set_option maxRecDepth 100000
set_option maxHeartbeats 4000000
set_option linter.unusedSimpArgs false
set_option linter.unusedVariables false
namespace Go.Proofs.Ytgkhldbnljdeiaa
open Go.RowKit RangesMath
theorem truthS_R (p q : Bool) : truthS p q = truthR p q := rfl
def CmpOut (op a b c d : Int) (w : World) (e : Ending) (w' : World) : Prop := e = .returned (.agg #[.int .i64 (compS op a b c d).1, .int .i64 (compS op a b c d).2]) ∧ Below w.heap.size w w'
theorem compared_11 (a b c d : Int) (w : World) (hab : a ≤ b) (hcd : c ≤ d) : Calls Try.prog 41 #[.int .i64 11, .agg #[.int .i64 a, .int .i64 b], .agg #[.int .i64 c, .int .i64 d]] w (CmpOut 11 a b c d w) := by
 cases hs : (a == b)
 · skip
   by_cases g1 : b < c
   · have hc : compS 11 a b c d = truthS false true := by simp [compS, truthR, truthS, hs, decide_eq_true g1]
     unfold CmpOut; rw [hc]
     exact cmp11_30 a b c d _ _ w hs g1 (fun w => Lib.hid (truth_S false true w))
   · by_cases g2 : d < a
     · have hc : compS 11 a b c d = truthS false true := by simp [compS, truthR, truthS, hs, decide_eq_false g1, decide_eq_true g2]
       unfold CmpOut; rw [hc]
       exact cmp11_31 a b c d _ _ w hs (decide_eq_false g1) g2 (fun w => Lib.hid (truth_S false true w))
     · have hc : compS 11 a b c d = truthS false false := by simp [compS, truthR, truthS, hs, decide_eq_false g1, decide_eq_false g2]
       unfold CmpOut; rw [hc]
       exact cmp11_32 a b c d _ _ w hs (decide_eq_false g1) (decide_eq_false g2) (fun w => Lib.hid (truth_S false false w))
 · cases h1 : (a == c)
   · skip
     by_cases g1 : b < c
     · have hc : compS 11 a b c d = truthS false true := by simp [compS, truthR, truthS, hs, h1, decide_eq_true g1]
       unfold CmpOut; rw [hc]
       exact cmp11_20 a b c d _ _ w hs h1 g1 (fun w => Lib.hid (truth_S false true w))
     · by_cases g2 : d < a
       · have hc : compS 11 a b c d = truthS false true := by simp [compS, truthR, truthS, hs, h1, decide_eq_false g1, decide_eq_true g2]
         unfold CmpOut; rw [hc]
         exact cmp11_21 a b c d _ _ w hs h1 (decide_eq_false g1) g2 (fun w => Lib.hid (truth_S false true w))
       · have hc : compS 11 a b c d = truthS false false := by simp [compS, truthR, truthS, hs, h1, decide_eq_false g1, decide_eq_false g2]
         unfold CmpOut; rw [hc]
         exact cmp11_22 a b c d _ _ w hs h1 (decide_eq_false g1) (decide_eq_false g2) (fun w => Lib.hid (truth_S false false w))
   · cases h2 : (b == d)
     · skip
       have g1 : ¬ b < c := by simp at *; omega
       have g2 : ¬ d < a := by simp at *; omega
       have hc : compS 11 a b c d = truthS false false := by simp [compS, truthR, truthS, hs, h1, h2, decide_eq_false g1, decide_eq_false g2]
       unfold CmpOut; rw [hc]
       exact cmp11_12 a b c d _ _ w hs h1 h2 (decide_eq_false g1) (decide_eq_false g2) (fun w => Lib.hid (truth_S false false w))
     · skip
       have g1 : ¬ b < c := by simp at *; omega
       have g2 : ¬ d < a := by simp at *; omega
       have hc : compS 11 a b c d = truthS true false := by simp [compS, truthR, truthS, hs, h1, h2, decide_eq_false g1, decide_eq_false g2]
       unfold CmpOut; rw [hc]
       exact cmp11_02 a b c d _ _ w hs h1 h2 (decide_eq_false g1) (decide_eq_false g2) (fun w => Lib.hid (truth_S true false w))
theorem compared_12 (a b c d : Int) (w : World) (hab : a ≤ b) (hcd : c ≤ d) : Calls Try.prog 41 #[.int .i64 12, .agg #[.int .i64 a, .int .i64 b], .agg #[.int .i64 c, .int .i64 d]] w (CmpOut 12 a b c d w) := by
 cases hs : (a == b)
 · skip
   by_cases g1 : b < c
   · have hc : compS 12 a b c d = truthS true false := by simp [compS, truthR, truthS, hs, decide_eq_true g1]
     unfold CmpOut; rw [hc]
     exact cmp12_30 a b c d _ _ w hs g1 (fun w => Lib.hid (truth_S true false w))
   · by_cases g2 : d < a
     · have hc : compS 12 a b c d = truthS true false := by simp [compS, truthR, truthS, hs, decide_eq_false g1, decide_eq_true g2]
       unfold CmpOut; rw [hc]
       exact cmp12_31 a b c d _ _ w hs (decide_eq_false g1) g2 (fun w => Lib.hid (truth_S true false w))
     · have hc : compS 12 a b c d = truthS false false := by simp [compS, truthR, truthS, hs, decide_eq_false g1, decide_eq_false g2]
       unfold CmpOut; rw [hc]
       exact cmp12_32 a b c d _ _ w hs (decide_eq_false g1) (decide_eq_false g2) (fun w => Lib.hid (truth_S false false w))
 · cases h1 : (a == c)
   · skip
     by_cases g1 : b < c
     · have hc : compS 12 a b c d = truthS true false := by simp [compS, truthR, truthS, hs, h1, decide_eq_true g1]
       unfold CmpOut; rw [hc]
       exact cmp12_20 a b c d _ _ w hs h1 g1 (fun w => Lib.hid (truth_S true false w))
     · by_cases g2 : d < a
       · have hc : compS 12 a b c d = truthS true false := by simp [compS, truthR, truthS, hs, h1, decide_eq_false g1, decide_eq_true g2]
         unfold CmpOut; rw [hc]
         exact cmp12_21 a b c d _ _ w hs h1 (decide_eq_false g1) g2 (fun w => Lib.hid (truth_S true false w))
       · have hc : compS 12 a b c d = truthS false false := by simp [compS, truthR, truthS, hs, h1, decide_eq_false g1, decide_eq_false g2]
         unfold CmpOut; rw [hc]
         exact cmp12_22 a b c d _ _ w hs h1 (decide_eq_false g1) (decide_eq_false g2) (fun w => Lib.hid (truth_S false false w))
   · cases h2 : (b == d)
     · skip
       have g1 : ¬ b < c := by simp at *; omega
       have g2 : ¬ d < a := by simp at *; omega
       have hc : compS 12 a b c d = truthS false false := by simp [compS, truthR, truthS, hs, h1, h2, decide_eq_false g1, decide_eq_false g2]
       unfold CmpOut; rw [hc]
       exact cmp12_12 a b c d _ _ w hs h1 h2 (decide_eq_false g1) (decide_eq_false g2) (fun w => Lib.hid (truth_S false false w))
     · skip
       have g1 : ¬ b < c := by simp at *; omega
       have g2 : ¬ d < a := by simp at *; omega
       have hc : compS 12 a b c d = truthS false true := by simp [compS, truthR, truthS, hs, h1, h2, decide_eq_false g1, decide_eq_false g2]
       unfold CmpOut; rw [hc]
       exact cmp12_02 a b c d _ _ w hs h1 h2 (decide_eq_false g1) (decide_eq_false g2) (fun w => Lib.hid (truth_S false true w))
theorem compared_any (op a b c d : Int) (w : World) (o1 : 11 ≤ op) (o2 : op ≤ 16) (hab : a ≤ b) (hcd : c ≤ d) : Calls Try.prog 41 #[.int .i64 op, .agg #[.int .i64 a, .int .i64 b], .agg #[.int .i64 c, .int .i64 d]] w (CmpOut op a b c d w) := by
 obtain rfl | rfl | rfl | rfl | rfl | rfl : op = 11 ∨ op = 12 ∨ op = 13 ∨ op = 14 ∨ op = 15 ∨ op = 16 := by omega
 · exact compared_11 a b c d w hab hcd
 · exact compared_12 a b c d w hab hcd
 · exact compared_13 a b c d w
 · exact compared_14 a b c d w
 · exact compared_15 a b c d w
 · exact compared_16 a b c d w
end Go.Proofs.Ytgkhldbnljdeiaa
namespace Go.Proofs.Ytgkhldbnljdeiaa
open Go.RowKit
theorem bits_one (op k a b c d n : Int) (w : World) (hab : (a == b) = true) (hcd : (c == d) = true) (ho : (op = 8 ∧ n = bits .and .i64 a c) ∨ (op = 9 ∧ n = bits .xor .i64 a c) ∨ (op = 10 ∧ n = bits .or .i64 a c)) :
   Calls Try.prog 40 #[.int .i64 op, .int .i64 k, .agg #[.int .i64 a, .int .i64 b], .agg #[.int .i64 c, .int .i64 d]] w fun e w' => e = .returned (.agg #[.int .i64 n, .int .i64 n]) ∧ Below w.heap.size w w' := by
 have G := fun w => Lib.hid (single_any a b w)
 have G2 := fun w => Lib.hid (single_any c d w)
 rw [hab] at G
 rw [hcd] at G2
 rcases ho with ⟨rfl, rfl⟩ | ⟨rfl, rfl⟩ | ⟨rfl, rfl⟩
 all_goals
   go_enter Try.func40, Try.ntmps40
   go_wp2_with fail
   refine (G _).out.mono ?_
   rintro e w1 ⟨rfl, hB⟩
   have I1 := (twoIn w a b c d).later hB
   have J1 := Lib.hid I1
   obtain ⟨a0, a1, b0, b1, r0, r1, f0, f1, s0, s1, s2, bl⟩ := I1
   clear hB
   go_wp2_with fail
   refine (G2 _).out.mono ?_
   clear a0 a1 b0 b1 r0 r1 f0 f1 s0 s1 s2 bl
   rintro e w2 ⟨rfl, hB2⟩
   obtain ⟨a0, a1, b0, b1, r0, r1, f0, f1, s0, s1, s2, bl⟩ := J1.out.later hB2
   clear hB2 J1
   go_wp2
   refine bodyPost_ret (v := .agg #[.int .i64 _, .int .i64 _]) (by simp [results, Try.results40, go_sem, *]) rfl ⟨rfl, (bl.setCell (by simp; omega) _).setCell (by simp; omega) _⟩
theorem rbits_and (k a b c d x y : Int) (w : World) (hs : (a == b) = false ∨ ((a == b) = true ∧ (c == d) = false))
   (hq : (0 ≤ a ∧ 0 ≤ c ∧ 0 = x ∧ min b d = y) ∨ (0 ≤ a ∧ decide (0 ≤ c) = false ∧ 0 = x ∧ b = y) ∨ (decide (0 ≤ a) = false ∧ 0 ≤ c ∧ 0 = x ∧ d = y) ∨ (decide (0 ≤ a) = false ∧ decide (0 ≤ c) = false ∧ fullLow k = x ∧ fullHigh k = y)) :
   Calls Try.prog 40 #[.int .i64 8, .int .i64 k, .agg #[.int .i64 a, .int .i64 b], .agg #[.int .i64 c, .int .i64 d]] w fun e w' => e = .returned (.agg #[.int .i64 x, .int .i64 y]) ∧ Below w.heap.size w w' := by
 have G := fun w => Lib.hid (single_any a b w)
 have G2 := fun w => Lib.hid (single_any c d w)
 have F := fun w => Lib.hid (full_any k w)
 generalize fullLow k = fl at *
 generalize fullHigh k = fh at *
 rcases hs with hab | ⟨hab, hcd⟩
 · rw [hab] at G
   clear G2
   rcases hq with ⟨h1, h2, rfl, rfl⟩ | ⟨h1, h2, rfl, rfl⟩ | ⟨h1, h2, rfl, rfl⟩ | ⟨h1, h2, rfl, rfl⟩
   all_goals
     go_enter Try.func40, Try.ntmps40
     go_wp2_with fail
     refine (G _).out.mono ?_
     rintro e w1 ⟨rfl, hB⟩
     have J1 := Lib.hid ((twoIn w a b c d).later hB)
     clear hB
     go_wp2_with fail
     refine (F _).out.mono ?_
     rintro e w2 ⟨rfl, hB2⟩
     obtain ⟨a0, a1, b0, b1, r0, r1, f0, f1, s0, s1, s2, bl⟩ := J1.out.later hB2
     clear hB2 J1 G F
     go_wp2
     all_goals refine bodyPost_ret (v := .agg #[.int .i64 _, .int .i64 _]) (by first | (simp [results, Try.results40, go_sem, *]; done) | (simp [results, Try.results40, go_sem, *]; omega)) rfl ⟨rfl, ((bl.setCell (by simp; omega) _).setCell (by simp; omega) _).alloc (by simp [World.setCell]; omega) _⟩
 · rw [hab] at G
   rw [hcd] at G2
   rcases hq with ⟨h1, h2, rfl, rfl⟩ | ⟨h1, h2, rfl, rfl⟩ | ⟨h1, h2, rfl, rfl⟩ | ⟨h1, h2, rfl, rfl⟩
   all_goals
     go_enter Try.func40, Try.ntmps40
     go_wp2_with fail
     refine (G _).out.mono ?_
     rintro e w1 ⟨rfl, hB⟩
     have I1 := (twoIn w a b c d).later hB
     have J1 := Lib.hid I1
     obtain ⟨a0, a1, b0, b1, r0, r1, f0, f1, s0, s1, s2, bl⟩ := I1
     clear hB
     go_wp2_with fail
     refine (G2 _).out.mono ?_
     clear a0 a1 b0 b1 r0 r1 f0 f1 s0 s1 s2 bl
     rintro e w2 ⟨rfl, hB2⟩
     have J2 := Lib.hid (J1.out.later hB2)
     clear hB2 J1
     go_wp2_with fail
     refine (F _).out.mono ?_
     rintro e w3 ⟨rfl, hB3⟩
     obtain ⟨a0, a1, b0, b1, r0, r1, f0, f1, s0, s1, s2, bl⟩ := J2.out.later hB3
     clear hB3 J2 G G2 F
     go_wp2
     all_goals refine bodyPost_ret (v := .agg #[.int .i64 _, .int .i64 _]) (by first | (simp [results, Try.results40, go_sem, *]; done) | (simp [results, Try.results40, go_sem, *]; omega)) rfl ⟨rfl, ((bl.setCell (by simp; omega) _).setCell (by simp; omega) _).alloc (by simp [World.setCell]; omega) _⟩
end Go.Proofs.Ytgkhldbnljdeiaa
namespace Go.Proofs.Ytgkhldbnljdeiaa
open Go.RowKit
/-- The numbers that the loop of bits goes through. -/
def OnesAt (T m : Int) : Prop := ∃ n : Nat, T = 2 ^ n - 1 ∧ n ≤ 63 ∧ (n = 0 ∨ (2 : Int) ^ (n - 1) - 1 < m)
theorem onesAt_start (m : Int) : OnesAt 0 m := ⟨0, by simp, by omega, Or.inl rfl⟩
theorem onesAt_step {T m : Int} (h : OnesAt T m) (hm : m ≤ 9223372036854775807) (ht : T < m) : 0 ≤ T ∧ T ≤ 4611686018427387903 ∧ OnesAt (2 * T + 1) m := by
 obtain ⟨n, rfl, hn, _⟩ := h
 have h1 : n ≤ 62 := by
   by_cases h0 : n = 63
   · subst h0; simp at ht; omega
   · omega
 have h2 := RangesMath.pow_mono n 62 h1
 have h3 := RangesMath.pow_mono 0 n (Nat.zero_le _)
 refine ⟨by simp at h3; omega, by simp at h2; omega, n + 1, by rw [Int.pow_succ]; omega, by omega, Or.inr ?_⟩
 simpa using ht
theorem onesAt_end {T m : Int} (h : OnesAt T m) (h0 : 0 ≤ m) (hm : m ≤ 9223372036854775807) (ht : m ≤ T) : RangesMath.ones m = T := by
 obtain ⟨n, rfl, hn, hl⟩ := h
 unfold RangesMath.ones
 rcases n with _ | n
 · have : m = 0 := by simp at ht; omega
   subst this
   simp
 · have hl : (2 : Int) ^ n - 1 < m := by simpa using hl
   have h3 := RangesMath.pow_mono 0 n (Nat.zero_le _)
   simp at h3
   obtain ⟨x, rfl⟩ := Int.eq_ofNat_of_zero_le h0
   have hx : ¬ x = 0 := by omega
   rw [if_neg (by omega), Int.toNat_natCast]
   have hlog : x.log2 = n := by
     rw [Nat.log2_eq_iff hx]
     constructor
     · have : ((2 ^ n : Nat) : Int) ≤ x := by rw [Int.natCast_pow]; simpa using by omega
       exact_mod_cast this
     · have : (x : Int) < ((2 ^ (n + 1) : Nat) : Int) := by rw [Int.natCast_pow]; simpa using by omega
       exact_mod_cast this
   rw [hlog]
theorem bits_low (op k a b c d x y : Int) (w : World) (ho : (op == 8) = false) (hs : (a == b) = false ∨ ((a == b) = true ∧ (c == d) = false)) (hx : fullLow k = x) (hy : fullHigh k = y)
   (hq : a < 0 ∨ (decide (a < 0) = false ∧ c < 0)) :
   Calls Try.prog 40 #[.int .i64 op, .int .i64 k, .agg #[.int .i64 a, .int .i64 b], .agg #[.int .i64 c, .int .i64 d]] w fun e w' => e = .returned (.agg #[.int .i64 x, .int .i64 y]) ∧ Below w.heap.size w w' := by
 have G := fun w => Lib.hid (single_any a b w)
 have G2 := fun w => Lib.hid (single_any c d w)
 have F := fun w => Lib.hid (full_any k w)
 generalize fullLow k = fl at *
 generalize fullHigh k = fh at *
 rcases hs with hab | ⟨hab, hcd⟩
 · rw [hab] at G
   clear G2
   subst hx hy
   rcases hq with h1 | ⟨h1, h2⟩
   all_goals
     go_enter Try.func40, Try.ntmps40
     go_wp2_with fail
     refine (G _).out.mono ?_
     rintro e w1 ⟨rfl, hB⟩
     have J1 := Lib.hid ((twoIn w a b c d).later hB)
     clear hB
     go_wp2_with fail
     refine (F _).out.mono ?_
     rintro e w2 ⟨rfl, hB2⟩
     have I3 := J1.out.later hB2
     have J3 := Lib.hid I3
     obtain ⟨a0, a1, b0, b1, r0, r1, f0, f1, s0, s1, s2, bl⟩ := I3
     clear hB2 J1 G F
     go_wp2
     all_goals refine bodyPost_ret (v := .agg #[.int .i64 _, .int .i64 _]) (by first | (simp [results, Try.results40, go_sem, *]; done) | (simp [results, Try.results40, go_sem, *]; omega)) rfl ⟨rfl, ((bl.setCell (by simp; omega) _).setCell (by simp; omega) _).alloc (by simp [World.setCell]; omega) _⟩
 · rw [hab] at G
   rw [hcd] at G2
   subst hx hy
   rcases hq with h1 | ⟨h1, h2⟩
   all_goals
     go_enter Try.func40, Try.ntmps40
     go_wp2_with fail
     refine (G _).out.mono ?_
     rintro e w1 ⟨rfl, hB⟩
     have I1 := (twoIn w a b c d).later hB
     have J1 := Lib.hid I1
     obtain ⟨a0, a1, b0, b1, r0, r1, f0, f1, s0, s1, s2, bl⟩ := I1
     clear hB
     go_wp2_with fail
     refine (G2 _).out.mono ?_
     clear a0 a1 b0 b1 r0 r1 f0 f1 s0 s1 s2 bl
     rintro e w1' ⟨rfl, hB1'⟩
     have J1' := Lib.hid (J1.out.later hB1')
     clear hB1' J1
     go_wp2_with fail
     refine (F _).out.mono ?_
     rintro e w2 ⟨rfl, hB2⟩
     have I3 := J1'.out.later hB2
     have J3 := Lib.hid I3
     obtain ⟨a0, a1, b0, b1, r0, r1, f0, f1, s0, s1, s2, bl⟩ := I3
     clear hB2 J1' G G2 F
     go_wp2
     all_goals refine bodyPost_ret (v := .agg #[.int .i64 _, .int .i64 _]) (by first | (simp [results, Try.results40, go_sem, *]; done) | (simp [results, Try.results40, go_sem, *]; omega)) rfl ⟨rfl, ((bl.setCell (by simp; omega) _).setCell (by simp; omega) _).alloc (by simp [World.setCell]; omega) _⟩
theorem bits_up (op k a b c d x y : Int) (w : World) (ho : ((op == 8) = false ∧ op = 9 ∧ 0 = x) ∨ ((op == 8) = false ∧ (op == 9) = false ∧ max a c = x)) (hs : (a == b) = false ∨ ((a == b) = true ∧ (c == d) = false))
   (ha0 : 0 ≤ a) (hc0 : 0 ≤ c) (hb0 : Hid (0 ≤ b)) (hb2 : Hid (b ≤ 9223372036854775807)) (hd2 : Hid (d ≤ 9223372036854775807)) (hO : Hid (RangesMath.ones (max b d) = y)) :
   Calls Try.prog 40 #[.int .i64 op, .int .i64 k, .agg #[.int .i64 a, .int .i64 b], .agg #[.int .i64 c, .int .i64 d]] w fun e w' => e = .returned (.agg #[.int .i64 x, .int .i64 y]) ∧ Below w.heap.size w w' := by
 have G := fun w => Lib.hid (single_any a b w)
 have G2 := fun w => Lib.hid (single_any c d w)
 have F := fun w => Lib.hid (full_any k w)
 generalize fullLow k = fl at *
 generalize fullHigh k = fh at *
 rcases hs with hab | ⟨hab, hcd⟩
 · rw [hab] at G
   clear G2
   rcases ho with ⟨h1, rfl, rfl⟩ | ⟨h1, h2, rfl⟩
   all_goals
     go_enter Try.func40, Try.ntmps40
     go_wp2_with fail
     refine (G _).out.mono ?_
     rintro e w1 ⟨rfl, hB⟩
     have J1 := Lib.hid ((twoIn w a b c d).later hB)
     clear hB
     go_wp2_with fail
     refine (F _).out.mono ?_
     rintro e w2 ⟨rfl, hB2⟩
     have I3 := J1.out.later hB2
     have J3 := Lib.hid I3
     obtain ⟨a0, a1, b0, b1, r0, r1, f0, f1, s0, s1, s2, bl⟩ := I3
     clear hB2 J1 G F
     go_wp2_with fail
     generalize hW : w2.alloc (.cells #[.int .i64 fl, .int .i64 fh] 23) = W at *
     obtain ⟨a0, a1, b0, b1, r0, r1, f0, f1, s0, s1, s2, bl⟩ : TwoIn w W a b c d := by rw [← hW]; exact J3.out.later ((Below.refl _ _).alloc (Nat.le_refl _) _)
     clear hW J3
     go_loop [12] (fun t => ∃ T : Int, t = .int .i64 T ∧ OnesAt T (max b d)) (fun t => (max b d - intOf t).toNat)
     case atStart => exact ⟨0, rfl, onesAt_start _⟩
     case round =>
       obtain ⟨T, rfl, hT⟩ := hrel
       have HT := Lib.hid hT
       clear hT
       by_cases t1 : T < b
       · obtain ⟨q1, q2, q3⟩ := onesAt_step HT.out (by have := hb2.out; have := hd2.out; omega) (by omega)
         have HS := Lib.hid q3
         clear q3
         go_wp2
         go_round
         case rel => exact ⟨2 * T + 1, rfl, HS.out⟩
         case measure => simp [intOf]; omega
       · by_cases t2 : T < d
         · obtain ⟨q1, q2, q3⟩ := onesAt_step HT.out (by have := hb2.out; have := hd2.out; omega) (by omega)
           have HS := Lib.hid q3
           clear q3
           go_wp2
           go_round
           case rel => exact ⟨2 * T + 1, rfl, HS.out⟩
           case measure => simp [intOf]; omega
         · have hE : T = RangesMath.ones (max b d) := (onesAt_end HT.out (by have := hb0.out; omega) (by have := hb2.out; have := hd2.out; omega) (by omega)).symm
           obtain rfl := hE.trans hO.out
           clear HT hE
           go_wp2
           all_goals refine bodyPost_ret (v := .agg #[.int .i64 _, .int .i64 _]) (by first | (simp [results, Try.results40, go_sem, *]; done) | (simp [results, Try.results40, go_sem, *]; omega)) rfl ⟨rfl, (bl.setCell (by simp; omega) _).setCell (by simp; omega) _⟩
 · rw [hab] at G
   rw [hcd] at G2
   rcases ho with ⟨h1, rfl, rfl⟩ | ⟨h1, h2, rfl⟩
   all_goals
     go_enter Try.func40, Try.ntmps40
     go_wp2_with fail
     refine (G _).out.mono ?_
     rintro e w1 ⟨rfl, hB⟩
     have I1 := (twoIn w a b c d).later hB
     have J1 := Lib.hid I1
     obtain ⟨a0, a1, b0, b1, r0, r1, f0, f1, s0, s1, s2, bl⟩ := I1
     clear hB
     go_wp2_with fail
     refine (G2 _).out.mono ?_
     clear a0 a1 b0 b1 r0 r1 f0 f1 s0 s1 s2 bl
     rintro e w1' ⟨rfl, hB1'⟩
     have J1' := Lib.hid (J1.out.later hB1')
     clear hB1' J1
     go_wp2_with fail
     refine (F _).out.mono ?_
     rintro e w2 ⟨rfl, hB2⟩
     have I3 := J1'.out.later hB2
     have J3 := Lib.hid I3
     obtain ⟨a0, a1, b0, b1, r0, r1, f0, f1, s0, s1, s2, bl⟩ := I3
     clear hB2 J1' G G2 F
     go_wp2_with fail
     generalize hW : w2.alloc (.cells #[.int .i64 fl, .int .i64 fh] 23) = W at *
     obtain ⟨a0, a1, b0, b1, r0, r1, f0, f1, s0, s1, s2, bl⟩ : TwoIn w W a b c d := by rw [← hW]; exact J3.out.later ((Below.refl _ _).alloc (Nat.le_refl _) _)
     clear hW J3
     go_loop [12] (fun t => ∃ T : Int, t = .int .i64 T ∧ OnesAt T (max b d)) (fun t => (max b d - intOf t).toNat)
     case atStart => exact ⟨0, rfl, onesAt_start _⟩
     case round =>
       obtain ⟨T, rfl, hT⟩ := hrel
       have HT := Lib.hid hT
       clear hT
       by_cases t1 : T < b
       · obtain ⟨q1, q2, q3⟩ := onesAt_step HT.out (by have := hb2.out; have := hd2.out; omega) (by omega)
         have HS := Lib.hid q3
         clear q3
         go_wp2
         go_round
         case rel => exact ⟨2 * T + 1, rfl, HS.out⟩
         case measure => simp [intOf]; omega
       · by_cases t2 : T < d
         · obtain ⟨q1, q2, q3⟩ := onesAt_step HT.out (by have := hb2.out; have := hd2.out; omega) (by omega)
           have HS := Lib.hid q3
           clear q3
           go_wp2
           go_round
           case rel => exact ⟨2 * T + 1, rfl, HS.out⟩
           case measure => simp [intOf]; omega
         · have hE : T = RangesMath.ones (max b d) := (onesAt_end HT.out (by have := hb0.out; omega) (by have := hb2.out; have := hd2.out; omega) (by omega)).symm
           obtain rfl := hE.trans hO.out
           clear HT hE
           go_wp2
           all_goals refine bodyPost_ret (v := .agg #[.int .i64 _, .int .i64 _]) (by first | (simp [results, Try.results40, go_sem, *]; done) | (simp [results, Try.results40, go_sem, *]; omega)) rfl ⟨rfl, (bl.setCell (by simp; omega) _).setCell (by simp; omega) _⟩
end Go.Proofs.Ytgkhldbnljdeiaa
