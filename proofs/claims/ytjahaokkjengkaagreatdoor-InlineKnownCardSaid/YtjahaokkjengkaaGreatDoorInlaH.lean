/- A part of the proof of InlaG. -/
import Derived.Test.YtjahaokkjengkaaGreatDoorInlaF
set_option linter.unusedVariables false
set_option linter.unusedSimpArgs false
set_option maxRecDepth 100000
namespace Go.Proofs.YtjahaokkjengkaaGreatDoor
open Go
theorem facts_ok : joinedFacts Tryz.checked.prog 3 Tryz.f3 Rows.inlineKnownSpec Rows.inlineKnownRow = true := by kernel_rfl
theorem inlineKnown_row : Rows.InlineKnownSaid :=
  OpenClaim.holds_of_wide 3 Tryz.f3 rfl rfl rfl rfl rfl rfl rfl ⟨rfl, rfl, rfl, rfl, rfl⟩ rfl rfl rfl rfl rfl (by kernel_rfl) Tryz.func3 facts_ok
    (of_decide_eq_true (by kernel_rfl)) (by unfold Func.isWrapper; rw [if_neg (of_decide_eq_false (by kernel_rfl))]; exact ⟨rfl, rfl⟩)
    (fun os started H enc _ => law_lifted os started H enc)
end Go.Proofs.YtjahaokkjengkaaGreatDoor
