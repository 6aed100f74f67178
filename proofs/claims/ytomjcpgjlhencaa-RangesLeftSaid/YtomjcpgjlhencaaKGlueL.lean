/- The statement RangesLeft of layer 4 out of what is asked of the program's functions. -/
import Derived.Test.YtomjcpgjlhencaaKGlueBToGlueQ
import Derived.Test.YtomjcpgjlhencaaKLawLeft
import Derived.Test.YtomjcpgjlhencaaKLawLeftNoToLeftMath
import Derived.Test.YtomjcpgjlhencaaKFrameLeft
set_option linter.unusedSimpArgs false
set_option linter.unusedVariables false
namespace Go.Proofs.Ytomjcpgjlhencaa
open Go.RowKit RangesMath

theorem ass_left (o a b c d : Int) (r : Bool) (h : (leftS (if r then o else oppS o) a b c d).p = true) : assS o a b c d r = leftS (if r then o else oppS o) a b c d := by
  unfold assS; simp only [h, if_true]
theorem ass_p (o a b c d : Int) (r : Bool) : (assS o a b c d r).p = true → (leftS (if r then o else oppS o) a b c d).p = true := by
  unfold assS
  intro h
  by_cases hp : (leftS (if r then o else oppS o) a b c d).p = true
  · exact hp
  · simp only [hp, if_false, Bool.false_eq_true] at h

theorem left_glue (hs : ShownOK') (ha : AssSpec 25) : WalkRangesLeft := by
  intro o k a b c d P Q w _ _ wa wb wc wd wP wQ
  have A := fun r => ha o k a b c d r (in64_of wa) (in64_of wb) (in64_of wc) (in64_of wd)
  simp only [assR_eq] at A
  by_cases hg : assOK o k a b c d = true
  · have hg' := hg
    simp only [assOK, Bool.and_eq_true, decide_eq_true_eq] at hg'
    obtain ⟨⟨⟨⟨o1, o2⟩, hf⟩, hc⟩, hd⟩ := hg'
    have ab := check_ok64 hc
    have cd := check_ok64 hd
    have eT : ∀ r, assT o k a b c d r = assS o a b c d r := fun r => by unfold assT; rw [if_pos hg]
    have eE : assE o k a b c d = 0 := by unfold assE; rw [if_pos hg]
    simp only [eT, eE] at A
    have op' : ∀ r : Bool, 11 ≤ (if r then o else oppS o) ∧ (if r then o else oppS o) ≤ 16 := fun r => by
      cases r
      · exact opp_in o o1 o2
      · exact ⟨o1, o2⟩
    refine left_walk hs o k a b c d P Q (bounds_u64 wP).1 (bounds_u64 wQ).1 w (fun r => (assS o a b c d r).x0) (fun r => (assS o a b c d r).x1) (fun r => (assS o a b c d r).y0) (fun r => (assS o a b c d r).y1) (fun r => (assS o a b c d r).p) A (Lib.hid ⟨o1, o2⟩) (Lib.hid ab) (Lib.hid cd) (Lib.hid fun r m n m1 m2 n1 n2 hh => ?_) (Lib.hid fun r hp => ?_)
    · have hr : holdsS (if r then o else oppS o) m n = true := by
        cases r
        · have := holds_opp o m n o1 o2
          simp at hh
          show holdsS (oppS o) m n = true
          rw [this, hh]; rfl
        · simpa using hh
      have s := left_sound (if r then o else oppS o) a b c d m n ab cd (op' r).1 (op' r).2 m1 m2 n1 n2 hr
      rw [ass_left o a b c d r s.1]; exact s
    · have hl := ass_p o a b c d r hp
      have s := left_less (if r then o else oppS o) a b c d ab cd (op' r).1 (op' r).2 hl
      rw [ass_left o a b c d r hl]; exact s
  · have eT : assT o k a b c d false = ⟨0, 0, 0, 0, false⟩ := by unfold assT; rw [if_neg hg]
    have eE : assE o k a b c d = 2 := by unfold assE; rw [if_neg hg]
    have A0 := A false
    simp only [eT, eE] at A0
    exact left_no hs o k a b c d P Q w A0

end Go.Proofs.Ytomjcpgjlhencaa
