/- GlueB, GlueQ. -/
import Derived.Test.YtomjcpgjlhencaaKLawOpsToGlueA
import Derived.Test.YtomjcpgjlhencaaKLawDone3ToLawAssume
import Derived.Test.YtomjcpgjlhencaaKRefK
import Derived.Test.YtomjcpgjlhencaaKFrameAssume
set_option linter.unusedSimpArgs false
set_option linter.unusedVariables false
/- The statement RangesAssume of layer 4 out of what is asked of the program's functions. -/
namespace Go.Proofs.Ytomjcpgjlhencaa
open Go.RowKit RangesMath

def assT (op k a b c d : Int) (r : Bool) : Two := if assOK op k a b c d then assS op a b c d r else ⟨0, 0, 0, 0, false⟩
def assE (op k a b c d : Int) : Int := if assOK op k a b c d then 0 else 2
theorem assR_eq (op k a b c d : Int) (r : Bool) : assR op k a b c d r = assV (assT op k a b c d r) (assE op k a b c d) := by
  unfold assR assT assE; split <;> rfl

theorem assume_glue (hs : ShownOK') (ha : AssSpec 25) (ha' : AssSpec 26) : WalkRangesAssume := by
  intro o k a b c d w _ _ wa wb wc wd
  have A := fun r => ha o k a b c d r (in64_of wa) (in64_of wb) (in64_of wc) (in64_of wd)
  have A' := fun r => ha' o k a b c d r (in64_of wa) (in64_of wb) (in64_of wc) (in64_of wd)
  simp only [assR_eq] at A A'
  exact assume_of hs o k a b c d (fun r => (assT o k a b c d r).x0) (fun r => (assT o k a b c d r).x1) (fun r => (assT o k a b c d r).y0) (fun r => (assT o k a b c d r).y1) (fun _ => assE o k a b c d) (fun r => (assT o k a b c d r).p) A A' w

end Go.Proofs.Ytomjcpgjlhencaa

/- What the reference's Assume, Unary and ToSmall do. -/
namespace Go.Proofs.Ytomjcpgjlhencaa
open Go.RowKit RangesMath

theorem ref_assume : AssSpec 26 := fun op k a b c d r _ _ _ _ w => Lib.hid (assume_any op k a b c d r w)
theorem ref_unary : UnaSpec 20 := fun op k a b _ _ w => Lib.hid (unary_any op k a b w)
theorem ref_small : SmlSpec 24 := fun a b _ _ w => Lib.hid (toSmall_any a b w)

end Go.Proofs.Ytomjcpgjlhencaa
