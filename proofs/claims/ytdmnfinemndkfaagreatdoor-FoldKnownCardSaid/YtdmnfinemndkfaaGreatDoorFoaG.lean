/- A part of the proof of FoaG. -/
import Derived.Test.YtdmnfinemndkfaaGreatDoorFoaH
import Derived.Test.YtdmnfinemndkfaaGreatDoorCards
import Derived.Test.YtdmnfinemndkfaaGreatDoorTie
import Derived.SevenTiedAt
set_option linter.unusedVariables false
set_option linter.unusedSimpArgs false
set_option maxRecDepth 100000
namespace Go.Proofs.YtdmnfinemndkfaaGreatDoor
open Go
theorem foldKnown_holds : Rows.FoldKnownCardSaid :=
  Claim7.holds_tied_plain_at .later [] [.data] true (true, "473c2655b76133ff43920b604a8ed660505c33ac710bdd12d4c17e55f558d51f") false
    foldKnown_row (fun _ h => by cases h) (by kernel_rfl) (fun _ h => by cases h) foldKnown_row_tie rfl ⟨rfl, rfl⟩ (by kernel_rfl) rfl
    (fun f fn hf hfn => by
      obtain rfl : f = 3 := Option.some.inj ((show Tryz.prog.funcNamed "cupel/cupellaw13.FoldKnown" = some 3 by kernel_rfl).symm.trans hf) |>.symm
      obtain rfl : fn = Tryz.f3 := (Option.some.inj (Tryz.func3.symm.trans hfn)).symm
      exact ⟨by kernel_rfl, fun j t ht => by
        rw [Tryz.params3] at ht
        simp at ht⟩)
    (by kernel_rfl)
#print axioms foldKnown_holds
end Go.Proofs.YtdmnfinemndkfaaGreatDoor
