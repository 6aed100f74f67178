/- LawTight, GlueT. -/
import Derived.Test.YtgkhldbnljdeiaaKLawTightF1ToLawTightR
import Derived.Test.YtgkhldbnljdeiaaKLawTightF2
import Derived.Test.YtgkhldbnljdeiaaKLawTightF3ToLawTightS4
import Derived.Test.YtgkhldbnljdeiaaKLawTightF4
import Derived.Test.YtgkhldbnljdeiaaKLawTightF5
import Derived.Test.YtgkhldbnljdeiaaKLawTightS5ToLawTightF6
import Derived.Test.YtgkhldbnljdeiaaKLawPickedToRngK
import Derived.Test.YtgkhldbnljdeiaaKFrameTightToRangesH
set_option linter.unusedSimpArgs false
set_option linter.unusedVariables false
/- The walk of the law RangesTight, out of the contracts of Binary, Join, Check and of the examples. -/
namespace Go.Proofs.Ytgkhldbnljdeiaa
open Go.RowKit RangesMath

theorem tight_walkR5 : tight_walkS5.2.1 := tight_walkS6.2.2 ⟨tight_walkP6⟩ ⟨tight_walkR6⟩
theorem tight_walkR4 : tight_walkS4.2.1 := tight_walkS5.2.2 ⟨tight_walkP5⟩ ⟨tight_walkR5⟩
theorem tight_walkR3 : tight_walkS3.2.1 := tight_walkS4.2.2 ⟨tight_walkP4⟩ ⟨tight_walkR4⟩
theorem tight_walkR2 : tight_walkS2.2.1 := tight_walkS3.2.2 ⟨tight_walkP3⟩ ⟨tight_walkR3⟩
theorem tight_walkR1 : tight_walkS1.2.1 := tight_walkS2.2.2 ⟨tight_walkP2⟩ ⟨tight_walkR2⟩
theorem tight_walk (hs : ShownOK') (o k a b c d m0 m1 m2 m3 lo hi c0 c1 f d0 d1 g lo' hi' : Int) (s t u s' t' u' : Bool) (w : World)
    (hA : BinOut 21 o k a b c d lo hi s t u 0) (hJ1 : PairOK 15 a b m0 m1 c0 c1 f) (hJ2 : PairOK 15 c d m2 m3 d0 d1 g) (hK : Hid (CheckOK 13))
    (hF : Hid (f = 0 → g = 0 → checkErr k c0 c1 = 0 → checkErr k d0 d1 = 0 → BinOut 21 o k c0 c1 d0 d1 lo' hi' s' t' u' 0 ∧ More ⟨lo, hi, s, t, u⟩ ⟨lo', hi', s', t', u'⟩))
    (hf : Hid (fitsB o k = true)) (hab : Hid (a ≤ b)) (hcd : Hid (c ≤ d)) (hC : Hid (Contains o k a b c d ⟨lo, hi, s, t, u⟩))
    (hX : Hid (k ≠ 2 → Few a b c d → (o = 4 ∨ o = 5 ∨ o = 1 ∨ o = 2 ∨ o = 6 ∨ o = 7 ∨ 11 ≤ o) → (o = 6 → d ≤ 40) → Exact o k a b c d ⟨lo, hi, s, t, u⟩)) :
    Calls Try.prog 9 #[.agg #[.int .i64 o, .int .i64 k], .agg #[.int .i64 a, .int .i64 b, .int .i64 c, .int .i64 d], .agg #[.int .i64 m0, .int .i64 m1, .int .i64 m2, .int .i64 m3]] w fun e w' => e = .returned (.bool true) ∧ Below w.heap.size w w' := tight_walkS1.2.2 ⟨tight_walkP1⟩ ⟨tight_walkR1⟩ hs o k a b c d m0 m1 m2 m3 lo hi c0 c1 f d0 d1 g lo' hi' s t u s' t' u' w hA hJ1 hJ2 hK hF hf hab hcd hC hX

end Go.Proofs.Ytgkhldbnljdeiaa

/- The statement RangesTight out of what is asked of the program's functions. -/
namespace Go.Proofs.Ytgkhldbnljdeiaa
open Go.RowKit RangesMath

theorem joinS_ok {a b c d : Int} (h : (joinS a b c d).2.2 = 0) : (joinS a b c d).1 = min a c ∧ (joinS a b c d).2.1 = max b d := by
  unfold joinS at *
  by_cases hh : b < a ∨ d < c
  · rw [if_pos hh] at h; simp at h
  · rw [if_neg hh]; exact ⟨rfl, rfl⟩

theorem join_in {a b c d : Int} (ha : In64 a) (hb : In64 b) (hc : In64 c) (hd : In64 d) : In64 (joinS a b c d).1 ∧ In64 (joinS a b c d).2.1 := by
  have a1 := ha.lo; have a2 := ha.hi; have b1 := hb.lo; have b2 := hb.hi
  have c1 := hc.lo; have c2 := hc.hi; have d1 := hd.lo; have d2 := hd.hi
  unfold joinS
  by_cases hh : b < a ∨ d < c
  · rw [if_pos hh]; exact ⟨⟨by simp, by simp⟩, ⟨by simp, by simp⟩⟩
  · rw [if_neg hh]; exact ⟨⟨by simp only; omega, by simp only; omega⟩, ⟨by simp only; omega, by simp only; omega⟩⟩

theorem tight_glue (hs : ShownOK') (hb : BinSpec 21) (hj : JoinSpec 15) (hk : CheckOK 13) : WalkRangesTight := by
  intro o k a b c d m0 m1 m2 m3 w _ _ wa wb wc wd w0 w1 w2 w3
  have ia := in64_of wa
  have ib := in64_of wb
  have ic := in64_of wc
  have id' := in64_of wd
  have B := hb o k a b c d ia ib ic id'
  by_cases hg : binGood o k a b c d = true
  · have eE : binE o k a b c d = binS o k a b c d := by unfold binE; rw [if_pos hg]
    have eR : binErr o k a b c d = 0 := by unfold binErr; rw [if_pos hg]
    rw [eE, eR] at B
    obtain ⟨h1, h2, h3⟩ := good_parts hg
    have p := check_parts h2
    have q := check_parts h3
    have j1 := hj a b m0 m1 ia ib (in64_of w0) (in64_of w1)
    have j2 := hj c d m2 m3 ic id' (in64_of w2) (in64_of w3)
    have n1 := join_in ia ib (in64_of w0) (in64_of w1)
    have n2 := join_in ic id' (in64_of w2) (in64_of w3)
    refine tight_walk hs o k a b c d m0 m1 m2 m3 _ _ _ _ _ _ _ _ (binE o k (joinS a b m0 m1).1 (joinS a b m0 m1).2.1 (joinS c d m2 m3).1 (joinS c d m2 m3).2.1).lo (binE o k (joinS a b m0 m1).1 (joinS a b m0 m1).2.1 (joinS c d m2 m3).1 (joinS c d m2 m3).2.1).hi _ _ _ (binE o k (joinS a b m0 m1).1 (joinS a b m0 m1).2.1 (joinS c d m2 m3).1 (joinS c d m2 m3).2.1).some (binE o k (joinS a b m0 m1).1 (joinS a b m0 m1).2.1 (joinS c d m2 m3).1 (joinS c d m2 m3).2.1).trap (binE o k (joinS a b m0 m1).1 (joinS a b m0 m1).2.1 (joinS c d m2 m3).1 (joinS c d m2 m3).2.1).undef w B j1 j2 (Lib.hid hk) (Lib.hid fun f0 g0 k0 k1 => ?_) (Lib.hid h1) (Lib.hid p.2.1) (Lib.hid q.2.1) (Lib.hid (con_good hg)) (Lib.hid fun kn few ex on => ?_)
    · have hg' : binGood o k (joinS a b m0 m1).1 (joinS a b m0 m1).2.1 (joinS c d m2 m3).1 (joinS c d m2 m3).2.1 = true := by
        unfold binGood
        have : fits2 o k = true := h1
        rw [this, k0, k1]; rfl
      have B' := hb o k (joinS a b m0 m1).1 (joinS a b m0 m1).2.1 (joinS c d m2 m3).1 (joinS c d m2 m3).2.1 n1.1 n1.2 n2.1 n2.2
      have eR' : binErr o k (joinS a b m0 m1).1 (joinS a b m0 m1).2.1 (joinS c d m2 m3).1 (joinS c d m2 m3).2.1 = 0 := by unfold binErr; rw [if_pos hg']
      have eE' : binE o k (joinS a b m0 m1).1 (joinS a b m0 m1).2.1 (joinS c d m2 m3).1 (joinS c d m2 m3).2.1 = binS o k (joinS a b m0 m1).1 (joinS a b m0 m1).2.1 (joinS c d m2 m3).1 (joinS c d m2 m3).2.1 := by unfold binE; rw [if_pos hg']
      rw [eR'] at B'
      refine ⟨B', ?_⟩
      have p' := check_parts k0
      have q' := check_parts k1
      have e1 := joinS_ok f0
      have e2 := joinS_ok g0
      have := more_all o k a b c d (joinS a b m0 m1).1 (joinS a b m0 m1).2.1 (joinS c d m2 m3).1 (joinS c d m2 m3).2.1 h1 p.2.2.1 p.2.1 p.2.2.2 q.2.2.1 q.2.1 q.2.2.2 p'.2.2.1 p'.2.2.2 q'.2.2.1 q'.2.2.2 (by omega) (by omega) (by omega) (by omega)
      rw [eE']; exact this
    · exact exact_all o k a b c d h1 kn p.2.2.1 p.2.2.2 q.2.2.1 q.2.2.2 few ex on
  · have eE : binE o k a b c d = ⟨0, 0, false, false, false⟩ := by unfold binE; rw [if_neg hg]
    have eR : binErr o k a b c d = 2 := by unfold binErr; rw [if_neg hg]
    rw [eE, eR] at B
    exact tight_no hs o k a b c d m0 m1 m2 m3 w B

end Go.Proofs.Ytgkhldbnljdeiaa
