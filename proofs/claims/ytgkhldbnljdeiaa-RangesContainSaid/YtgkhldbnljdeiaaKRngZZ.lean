/- Binary of the program keeps what the statements of layer 4 ask of it, for all operators, kinds and ranges. -/
import Derived.Test.YtgkhldbnljdeiaaKRngZNToRngZR
import Derived.Test.YtgkhldbnljdeiaaKRngZWToRngZY
set_option linter.unusedSimpArgs false
set_option linter.unusedVariables false
namespace Go.Proofs.Ytgkhldbnljdeiaa
open Go.RowKit RangesMath Go.MapKept

theorem arith_some (op k : Int) (g i : Nat) (cap : Nat → Array Value) (hf : ∀ n, Instr.findNow (.int .i64) (.int .i64 op) (arithmeticEs n).toList 0 = some (some (i, .func (.func g) #[] (cap n)))) (w : World) : Calls Try.prog 60 #[.int .i64 k] w (FindSome op w) := by
  refine (parithmetic k w).mono ?_
  rintro e w' ⟨b', rfl, hb, hl, hk, hz, hB⟩
  exact ⟨_, g, _, rfl, hB, run_look Try.underlying100 Try.underlying3 hb (hf _) true⟩
theorem arith_any (op k : Int) (h1 : 1 ≤ op) (h2 : op ≤ 7) (w : World) : Calls Try.prog 60 #[.int .i64 k] w (FindSome op w) := by
  obtain rfl | rfl | rfl | rfl | rfl | rfl | rfl : op = 1 ∨ op = 2 ∨ op = 3 ∨ op = 4 ∨ op = 5 ∨ op = 6 ∨ op = 7 := by omega
  · exact arith_some 1 k _ 0 (fun n => #[.pointer (some ⟨n, 0, none⟩)]) (fun n => rfl) w
  · exact arith_some 2 k _ 1 (fun n => #[.pointer (some ⟨n, 0, none⟩)]) (fun n => rfl) w
  · exact arith_some 3 k _ 2 (fun n => #[]) (fun n => rfl) w
  · exact arith_some 4 k _ 3 (fun n => #[.pointer (some ⟨n, 0, none⟩)]) (fun n => rfl) w
  · exact arith_some 5 k _ 4 (fun n => #[.pointer (some ⟨n, 0, none⟩)]) (fun n => rfl) w
  · exact arith_some 6 k _ 5 (fun n => #[.pointer (some ⟨n, 0, none⟩)]) (fun n => rfl) w
  · exact arith_some 7 k _ 6 (fun n => #[.pointer (some ⟨n, 0, none⟩)]) (fun n => rfl) w
theorem bits_some (op k : Int) (g i : Nat) (cap : Nat → Array Value) (hf : ∀ n, Instr.findNow (.int .i64) (.int .i64 op) (bitwiseEs n).toList 0 = some (some (i, .func (.func g) #[] (cap n)))) (w : World) : Calls Try.prog 59 #[.int .i64 k] w (FindSome op w) := by
  refine (pbitwise k w).mono ?_
  rintro e w' ⟨b', rfl, hb, hl, hk, hz, hB⟩
  exact ⟨_, g, _, rfl, hB, run_look Try.underlying100 Try.underlying3 hb (hf _) true⟩
theorem bits_any_some (op k : Int) (h1 : 8 ≤ op) (h2 : op ≤ 10) (w : World) : Calls Try.prog 59 #[.int .i64 k] w (FindSome op w) := by
  obtain rfl | rfl | rfl : op = 8 ∨ op = 9 ∨ op = 10 := by omega
  · exact bits_some 8 k _ 0 (fun n => #[.pointer (some ⟨n, 0, none⟩)]) (fun n => rfl) w
  · exact bits_some 9 k _ 1 (fun n => #[.pointer (some ⟨n, 0, none⟩)]) (fun n => rfl) w
  · exact bits_some 10 k _ 2 (fun n => #[.pointer (some ⟨n, 0, none⟩)]) (fun n => rfl) w

theorem fits_parts {op k : Int} (h : fits2 op k = true) : cmpOK k op = true ∨ (cmpOK k op = false ∧ ((1 ≤ op ∧ op ≤ 10 ∧ (k = 1 ∨ k = 2)) ∨ ((op = 17 ∨ op = 18) ∧ k = 3))) := by
  have h' := h
  simp only [fits2, decide_eq_true_eq] at h'
  by_cases ho : 11 ≤ op ∧ op ≤ 16
  · left; unfold cmpOK; rw [h, Bool.and_true]; simpa using ho
  · right; refine ⟨by unfold cmpOK; rw [h, Bool.and_true]; simpa using ho, ?_⟩; omega
theorem fits_no {op k : Int} (h : fits2 op k = false) : cmpOK k op = false := by unfold cmpOK; rw [h, Bool.and_false]

/-- Where an operator and a kind fit, binaryOf finds some function. -/
theorem bof_some (op k : Int) (h : fits2 op k = true) (w : World) : Calls Try.prog 37 #[.int .i64 op, .int .i64 k] w (BofSome w) := by
  rcases fits_parts h with hc | ⟨hc, ⟨h1, h2, hk⟩ | ⟨ho, rfl⟩⟩
  · have ho := cmp_ops hc
    obtain ⟨f, ef, _, _⟩ := nar_ok hc
    obtain ⟨g, eg, _, _⟩ := nar_ok (cmpOK_opp hc)
    refine (pbof_cmp op (oppS op) k f g w (fun w => Lib.hid (comp_pair ef eg w)) (fun w => Lib.hid (popposite_any op w ho.1 ho.2)) (fun w => Lib.hid (pcompared f g w))).mono ?_
    rintro e w' ⟨v, rfl, p, q, rfl, hp, hq, cp, cq, hB⟩
    exact ⟨_, _, rfl, hB⟩
  · have C := comp_nil k op hc
    by_cases hb : 8 ≤ op
    · rcases hk with rfl | rfl
      · exact pbof_bits_some_1 op w C (fun w => Lib.hid (bits_any_some op 1 hb h2 w))
      · exact pbof_bits_some_2 op w C (fun w => Lib.hid (bits_any_some op 2 hb h2 w))
    · rcases hk with rfl | rfl
      · exact pbof_arith_some_1 op w C (fun w => Lib.hid (bits_no 1 op (by omega) w)) (fun w => Lib.hid (arith_any op 1 h1 (by omega) w))
      · exact pbof_arith_some_2 op w C (fun w => Lib.hid (bits_no 2 op (by omega) w)) (fun w => Lib.hid (arith_any op 2 h1 (by omega) w))
  · exact pbof_con_some op w (comp_nil 3 op hc) (fun w => Lib.hid (con_some op ho w))

/-- Where they don't, it finds none. -/
theorem bof_no (op k : Int) (h : fits2 op k = false) (w : World) : Calls Try.prog 37 #[.int .i64 op, .int .i64 k] w (BofNo w) := by
  have C := comp_nil k op (fits_no h)
  simp only [fits2, decide_eq_false_iff_not] at h
  by_cases h1 : k = 1
  · subst h1
    exact pbof_none_1 op w C (fun w => Lib.hid (bits_no 1 op (by omega) w)) (fun w => Lib.hid (arith_no 1 op (by omega) w))
  by_cases h2 : k = 2
  · subst h2
    exact pbof_none_2 op w C (fun w => Lib.hid (bits_no 2 op (by omega) w)) (fun w => Lib.hid (arith_no 2 op (by omega) w))
  by_cases h3 : k = 3
  · subst h3
    exact pbof_none_3 op w C (fun w => Lib.hid (con_no op (by omega) w))
  exact pbof_none op k w (by simpa using h1) (by simpa using h2) (by simpa using h3) C

theorem bin_all (op k a b c d : Int) (h : fits2 op k = true) (h1 : checkErr k a b = 0) (h2 : checkErr k c d = 0) : BinIs op k a b c d := by
  rcases fits_parts h with hc | ⟨hc, ⟨o1, o2, hk⟩ | ⟨ho, rfl⟩⟩
  · exact bin_cmp op k a b c d hc h1 h2
  · obtain rfl | rfl | rfl | rfl | rfl | rfl | rfl | rfl | rfl | rfl : op = 1 ∨ op = 2 ∨ op = 3 ∨ op = 4 ∨ op = 5 ∨ op = 6 ∨ op = 7 ∨ op = 8 ∨ op = 9 ∨ op = 10 := by omega
    · exact bin_mul k a b c d hk h1 h2
    · exact bin_div k a b c d hk h1 h2
    · exact bin_rem k a b c d hk h1 h2
    · exact bin_add k a b c d hk h1 h2
    · exact bin_sub k a b c d hk h1 h2
    · exact bin_shl k a b c d hk h1 h2
    · exact bin_shr k a b c d hk h1 h2
    · exact bin_and k a b c d hk h1 h2
    · exact bin_xor k a b c d hk h1 h2
    · exact bin_or k a b c d hk h1 h2
  · rcases ho with rfl | rfl
    · exact bin_land a b c d h1 h2
    · exact bin_lor a b c d h1 h2

theorem okB_no {k a b : Int} (h : ¬ checkErr k a b = 0) : okB k a b = false := by simpa [okB] using h

theorem pbinary_spec : BinSpec 21 := by
  intro op k a b c d _ _ _ _ w
  refine Lib.hid ?_
  cases hf : fits2 op k with
  | false =>
    have hg : ¬ binGood op k a b c d = true := by unfold binGood; rw [hf]; simp
    have eE : binE op k a b c d = ⟨0, 0, false, false, false⟩ := by unfold binE; rw [if_neg hg]
    have eR : binErr op k a b c d = 2 := by unfold binErr; rw [if_neg hg]
    rw [eE, eR]
    exact pbinary_no op k a b c d w (fun w => Lib.hid (bof_no op k hf w))
  | true =>
    by_cases h : checkErr k a b = 0 ∧ checkErr k c d = 0
    · have hg : binGood op k a b c d = true := by unfold binGood; rw [hf, h.1, h.2]; rfl
      have eE : binE op k a b c d = binS op k a b c d := by unfold binE; rw [if_pos hg]
      have eR : binErr op k a b c d = 0 := by unfold binErr; rw [if_pos hg]
      rw [eE, eR]
      exact bin_all op k a b c d hf h.1 h.2 w
    · have hg : ¬ binGood op k a b c d = true := by
        intro hh
        have p := good_parts hh
        exact h p.2
      have eE : binE op k a b c d = ⟨0, 0, false, false, false⟩ := by unfold binE; rw [if_neg hg]
      have eR : binErr op k a b c d = 2 := by unfold binErr; rw [if_neg hg]
      rw [eE, eR]
      have A := are2_any k a b c d
      have e : (okB k a b && okB k c d) = false := by
        by_cases h1 : checkErr k a b = 0
        · rw [okB_no (k := k) (a := c) (b := d) (fun h2 => h ⟨h1, h2⟩), Bool.and_false]
        · rw [okB_no h1, Bool.false_and]
      rw [e] at A
      exact pbinary_unfit op k a b c d w (fun w => Lib.hid (bof_some op k hf w)) A

end Go.Proofs.Ytgkhldbnljdeiaa
