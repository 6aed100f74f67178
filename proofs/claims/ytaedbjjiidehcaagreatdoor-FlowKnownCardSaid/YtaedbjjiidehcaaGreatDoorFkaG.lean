/- FlowKnown (layer 11): the examples of the document: the law answers true and leaves its arguments as they were, if the variable that it lists holds the table of the text. -/
import Derived.Test.YtaedbjjiidehcaaGreatDoorFkaH
import Derived.Test.YtaedbjjiidehcaaGreatDoorCards
import Derived.Test.YtaedbjjiidehcaaGreatDoorTie
import Derived.SevenTiedAt
set_option linter.unusedVariables false
set_option linter.unusedSimpArgs false
set_option maxRecDepth 100000
namespace Go.Proofs.YtaedbjjiidehcaaGreatDoor
open Go
theorem flowKnown_holds : Rows.FlowKnownCardSaid :=
  Claim7.holds_tied_plain_at .later [] [.data] true (true, "db65bd4f3abd6b2e2a225ad26c52ba48f39eb56f2e5ab1f9724287ee0827e885") false
    flowKnown_row (fun _ h => by cases h) (by kernel_rfl) (fun _ h => by cases h) flowKnown_row_tie rfl ⟨rfl, rfl⟩ (by kernel_rfl) rfl
    (fun f fn hf hfn => by
      obtain rfl : f = 3 := Option.some.inj ((show Tryz.prog.funcNamed "cupel/cupellaw11.FlowKnown" = some 3 by kernel_rfl).symm.trans hf) |>.symm
      obtain rfl : fn = Tryz.f3 := (Option.some.inj (Tryz.func3.symm.trans hfn)).symm
      exact ⟨by kernel_rfl, fun j t ht => by
        rw [Tryz.params3] at ht
        simp at ht⟩)
    (by kernel_rfl)
#print axioms flowKnown_holds
end Go.Proofs.YtaedbjjiidehcaaGreatDoor
