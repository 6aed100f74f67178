/- A part of the proof of SgG. -/
import Derived.Test.YtcfneeeieofkeaaGreatDoorSgF
namespace Go.Proofs.YtcfneeeieofkeaaGreatDoor
open Go
theorem facts_ok : joinedFacts Tryz.checked.prog 4 Tryz.f4 Rows.semAgreesSpec Rows.semAgreesRow = true := by kernel_rfl
theorem sem_agrees_row : Rows.SemAgreesSaid :=
  OpenClaim.holds_of_wide 4 Tryz.f4 rfl rfl rfl rfl rfl rfl rfl ⟨rfl, rfl, rfl, rfl, rfl⟩ rfl rfl rfl rfl rfl (by kernel_rfl) Tryz.func4 facts_ok
    (of_decide_eq_true (by kernel_rfl)) (by unfold Func.isWrapper; rw [if_neg (of_decide_eq_false (by kernel_rfl))]; exact ⟨rfl, rfl⟩)
    (fun os started H enc _ => law_lifted os started H enc)
end Go.Proofs.YtcfneeeieofkeaaGreatDoor
