/- SsaKnown (layer 12): the examples of the document: the law answers true and leaves its arguments as they were, if the variable that it lists holds the table of the text. -/
import Derived.Test.YtkaibjghhopklaaGreatDoorSaaH
import Derived.Test.YtkaibjghhopklaaGreatDoorCards
import Derived.Test.YtkaibjghhopklaaGreatDoorTie
import Derived.SevenTiedAt
set_option linter.unusedVariables false
set_option linter.unusedSimpArgs false
set_option maxRecDepth 100000
namespace Go.Proofs.YtkaibjghhopklaaGreatDoor
open Go
theorem ssaKnown_holds : Rows.SsaKnownCardSaid :=
  Claim7.holds_tied_plain_at .later [] [.data] true (true, "733d4ab129ebd2ae64d66703182c0fdf8e429b3cd3217779d69516f924328e35") false
    ssaKnown_row (fun _ h => by cases h) (by kernel_rfl) (fun _ h => by cases h) ssaKnown_row_tie rfl ⟨rfl, rfl⟩ (by kernel_rfl) rfl
    (fun f fn hf hfn => by
      obtain rfl : f = 3 := Option.some.inj ((show Tryz.prog.funcNamed "cupel/cupellaw12.SsaKnown" = some 3 by kernel_rfl).symm.trans hf) |>.symm
      obtain rfl : fn = Tryz.f3 := (Option.some.inj (Tryz.func3.symm.trans hfn)).symm
      exact ⟨by kernel_rfl, fun j t ht => by
        rw [Tryz.params3] at ht
        simp at ht⟩)
    (by kernel_rfl)
#print axioms ssaKnown_holds
end Go.Proofs.YtkaibjghhopklaaGreatDoor
