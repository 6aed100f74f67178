/- IrUses (layer 8): for every instruction, if the variables that the row lists hold what they are laid with, the law answers true and leaves the instruction as it was: the tied card. -/
import Derived.Test.YtlcnpcaeoahobaaGreatDoorIuF
import Derived.Test.YtlcnpcaeoahobaaGreatDoorCards
import Derived.Test.YtlcnpcaeoahobaaGreatDoorTie
import Derived.SevenTiedAt
section
namespace Go.Proofs.YtlcnpcaeoahobaaGreatDoor
open Go
theorem facts_ok : joinedFacts Tryz.checked.prog 3 Tryz.f3 Rows.irUsesSpec Rows.irUsesRow = true := by kernel_rfl
theorem ir_uses_row : Rows.IrUsesSaid :=
  OpenClaim.holds_of_wide 3 Tryz.f3 rfl rfl rfl rfl rfl rfl rfl ⟨rfl, rfl, rfl, rfl, rfl⟩ rfl rfl rfl rfl rfl (by kernel_rfl) Tryz.func3 facts_ok
    (of_decide_eq_true (by kernel_rfl)) (by unfold Func.isWrapper; rw [if_neg (of_decide_eq_false (by kernel_rfl))]; exact ⟨rfl, rfl⟩)
    (fun os started H enc _ => law_lifted os started H enc)
end Go.Proofs.YtlcnpcaeoahobaaGreatDoor
end
section
namespace Go.Proofs.YtlcnpcaeoahobaaGreatDoor
open Go
theorem ir_uses_holds : Rows.IrUsesCardSaid :=
  Claim7.holds_tied_plain_at .later [] [.data, .data, .data, .sentinel, .sentinel, .data, .data] true (true, "37aa8465c364e382f029bcd0b7c593821a6ef65f846279032864beb9a696ee01") true
    ir_uses_row (fun _ h => by cases h) (by kernel_rfl) (fun _ h => by cases h) irUses_row_tie rfl ⟨rfl, rfl⟩ (by kernel_rfl) rfl
    (fun f fn hf hfn => by
      obtain rfl : f = 3 := Option.some.inj ((show Tryz.prog.funcNamed "cupel/cupellaw08.IrUses" = some 3 by kernel_rfl).symm.trans hf) |>.symm
      obtain rfl : fn = Tryz.f3 := (Option.some.inj (Tryz.func3.symm.trans hfn)).symm
      exact ⟨by kernel_rfl, fun j t ht => by
        rw [Tryz.params3] at ht
        have h3 : t = 27 := by
          rcases j with _ | j
          · simpa using ht.symm
          · simp at ht
        subst h3
        exact (show Tryz.prog.wantsStandIn 27 = false by kernel_rfl)⟩)
    (by kernel_rfl)
#print axioms ir_uses_holds
end Go.Proofs.YtlcnpcaeoahobaaGreatDoor
end
