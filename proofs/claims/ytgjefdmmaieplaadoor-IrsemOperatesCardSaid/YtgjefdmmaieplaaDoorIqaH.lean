/- A part of the proof of IqaG. -/
import Derived.Test.YtgjefdmmaieplaaDoorIqaF
set_option linter.unusedVariables false
set_option linter.unusedSimpArgs false
set_option maxRecDepth 100000
namespace Go.Proofs.YtgjefdmmaieplaaDoor
open Go
theorem facts_ok : joinedFacts Tryd.checked.prog 3 Tryd.f3 Rows.irsemOperatesSpec Rows.irsemOperatesRow = true := by kernel_rfl
theorem irsemOperates_row : Rows.IrsemOperatesSaid :=
  OpenClaim.holds_of_wide 3 Tryd.f3 rfl rfl rfl rfl rfl rfl rfl ⟨rfl, rfl, rfl, rfl, rfl⟩ rfl rfl rfl rfl rfl (by kernel_rfl) Tryd.func3 facts_ok
    (of_decide_eq_true (by kernel_rfl)) (by unfold Func.isWrapper; rw [if_neg (of_decide_eq_false (by kernel_rfl))]; exact ⟨rfl, rfl⟩)
    (fun os started H enc _ => law_lifted os started H enc)
end Go.Proofs.YtgjefdmmaieplaaDoor
