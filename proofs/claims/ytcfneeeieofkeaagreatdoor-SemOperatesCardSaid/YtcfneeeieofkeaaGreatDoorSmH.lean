/- A part of the proof of SmG. -/
import Derived.Test.YtcfneeeieofkeaaGreatDoorSmF
namespace Go.Proofs.YtcfneeeieofkeaaGreatDoor
open Go
theorem facts_ok : joinedFacts Tryz.checked.prog 3 Tryz.f3 Rows.semOperatesSpec Rows.semOperatesRow = true := by kernel_rfl
theorem sem_operates_row : Rows.SemOperatesSaid :=
  OpenClaim.holds_of_wide 3 Tryz.f3 rfl rfl rfl rfl rfl rfl rfl ⟨rfl, rfl, rfl, rfl, rfl⟩ rfl rfl rfl rfl rfl (by kernel_rfl) Tryz.func3 facts_ok
    (of_decide_eq_true (by kernel_rfl)) (by unfold Func.isWrapper; rw [if_neg (of_decide_eq_false (by kernel_rfl))]; exact ⟨rfl, rfl⟩)
    (fun os started H enc _ => law_lifted os started H enc)
end Go.Proofs.YtcfneeeieofkeaaGreatDoor
