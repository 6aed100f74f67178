/- The row of GenNumbers, its listed variables as the text lays them. -/
import Derived.Test.YtnjihbpgjopghaaGreatDoorGnF
namespace Go.Proofs.YtnjihbpgjopghaaGreatDoor
open Go
theorem facts_ok : joinedFacts Tryz.checked.prog 3 Tryz.f3 Rows.genNumbersSpec Rows.genNumbersRow = true := by kernel_rfl
theorem gen_numbers_row : Rows.GenNumbersSaid :=
  OpenClaim.holds_of_wide 3 Tryz.f3 rfl rfl rfl rfl rfl rfl rfl ⟨rfl, rfl, rfl, rfl, rfl⟩ rfl rfl rfl rfl rfl (by kernel_rfl) Tryz.func3 facts_ok
    (of_decide_eq_true (by kernel_rfl)) (by unfold Func.isWrapper; rw [if_neg (of_decide_eq_false (by kernel_rfl))]; exact ⟨rfl, rfl⟩)
    (fun os started H enc _ => law_lifted os started H enc)
end Go.Proofs.YtnjihbpgjopghaaGreatDoor
