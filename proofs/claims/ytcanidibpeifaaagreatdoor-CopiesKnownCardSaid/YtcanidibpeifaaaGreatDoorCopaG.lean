/- A part of the proof of CopaG. -/
import Derived.Test.YtcanidibpeifaaaGreatDoorCopaH
import Derived.Test.YtcanidibpeifaaaGreatDoorCards
import Derived.Test.YtcanidibpeifaaaGreatDoorTie
import Derived.SevenTiedAt
set_option linter.unusedVariables false
set_option linter.unusedSimpArgs false
set_option maxRecDepth 100000
namespace Go.Proofs.YtcanidibpeifaaaGreatDoor
open Go
theorem copiesKnown_holds : Rows.CopiesKnownCardSaid :=
  Claim7.holds_tied_plain_at .later [] [.data] true (true, "7cac375d051ba1b1be17969ba5335d202279091c2d61de6823623cde7832b781") false
    copiesKnown_row (fun _ h => by cases h) (by kernel_rfl) (fun _ h => by cases h) copiesKnown_row_tie rfl ⟨rfl, rfl⟩ (by kernel_rfl) rfl
    (fun f fn hf hfn => by
      obtain rfl : f = 3 := Option.some.inj ((show Tryz.prog.funcNamed "cupel/cupellaw14.CopiesKnown" = some 3 by kernel_rfl).symm.trans hf) |>.symm
      obtain rfl : fn = Tryz.f3 := (Option.some.inj (Tryz.func3.symm.trans hfn)).symm
      exact ⟨by kernel_rfl, fun j t ht => by
        rw [Tryz.params3] at ht
        simp at ht⟩)
    (by kernel_rfl)
#print axioms copiesKnown_holds
end Go.Proofs.YtcanidibpeifaaaGreatDoor
