/- A part of the proof of InlaG. -/
import Derived.Test.YtjahaokkjengkaaGreatDoorInlaH
import Derived.Test.YtjahaokkjengkaaGreatDoorCards
import Derived.Test.YtjahaokkjengkaaGreatDoorTie
import Derived.SevenTiedAt
set_option linter.unusedVariables false
set_option linter.unusedSimpArgs false
set_option maxRecDepth 100000
namespace Go.Proofs.YtjahaokkjengkaaGreatDoor
open Go
theorem inlineKnown_holds : Rows.InlineKnownCardSaid :=
  Claim7.holds_tied_plain_at .later [] [.data] true (true, "5115fa848fc4298407e84245cc6fbabb106775098bf517cf47de060182360c24") false
    inlineKnown_row (fun _ h => by cases h) (by kernel_rfl) (fun _ h => by cases h) inlineKnown_row_tie rfl ⟨rfl, rfl⟩ (by kernel_rfl) rfl
    (fun f fn hf hfn => by
      obtain rfl : f = 3 := Option.some.inj ((show Tryz.prog.funcNamed "cupel/cupellaw18.InlineKnown" = some 3 by kernel_rfl).symm.trans hf) |>.symm
      obtain rfl : fn = Tryz.f3 := (Option.some.inj (Tryz.func3.symm.trans hfn)).symm
      exact ⟨by kernel_rfl, fun j t ht => by
        rw [Tryz.params3] at ht
        simp at ht⟩)
    (by kernel_rfl)
#print axioms inlineKnown_holds
end Go.Proofs.YtjahaokkjengkaaGreatDoor
