/- A part of the proof of IraG. -/
import Derived.Test.YtgjefdmmaieplaaDoorIraF
set_option linter.unusedVariables false
set_option linter.unusedSimpArgs false
set_option maxRecDepth 100000
namespace Go.Proofs.YtgjefdmmaieplaaDoor
open Go
theorem facts_ok : joinedFacts Tryd.checked.prog 4 Tryd.f4 Rows.irsemAgreesSpec Rows.irsemAgreesRow = true := by kernel_rfl
theorem irsemAgrees_row : Rows.IrsemAgreesSaid :=
  OpenClaim.holds_of_wide 4 Tryd.f4 rfl rfl rfl rfl rfl rfl rfl ⟨rfl, rfl, rfl, rfl, rfl⟩ rfl rfl rfl rfl rfl (by kernel_rfl) Tryd.func4 facts_ok
    (of_decide_eq_true (by kernel_rfl)) (by unfold Func.isWrapper; rw [if_neg (of_decide_eq_false (by kernel_rfl))]; exact ⟨rfl, rfl⟩)
    (fun os started H enc _ => law_lifted os started H enc)
end Go.Proofs.YtgjefdmmaieplaaDoor
