/- A part of the proof of PeeaG. -/
import Derived.Test.YtodekmogcecfeaaGreatDoorPeeaH
import Derived.Test.YtodekmogcecfeaaGreatDoorCards
import Derived.Test.YtodekmogcecfeaaGreatDoorTie
import Derived.SevenTiedAt
set_option linter.unusedVariables false
set_option linter.unusedSimpArgs false
set_option maxRecDepth 100000
namespace Go.Proofs.YtodekmogcecfeaaGreatDoor
open Go
theorem peepKnown_holds : Rows.PeepKnownCardSaid :=
  Claim7.holds_tied_plain_at .later [] [.data, .data] true (true, "61afdd2d6b68b56bd47e39964271ac53f0b4933064fcc7e951303d14b6fd0221") false
    peepKnown_row (fun _ h => by cases h) (by kernel_rfl) (fun _ h => by cases h) peepKnown_row_tie rfl ⟨rfl, rfl⟩ (by kernel_rfl) rfl
    (fun f fn hf hfn => by
      obtain rfl : f = 3 := Option.some.inj ((show Tryz.prog.funcNamed "cupel/cupellaw16.PeepKnown" = some 3 by kernel_rfl).symm.trans hf) |>.symm
      obtain rfl : fn = Tryz.f3 := (Option.some.inj (Tryz.func3.symm.trans hfn)).symm
      exact ⟨by kernel_rfl, fun j t ht => by
        rw [Tryz.params3] at ht
        simp at ht⟩)
    (by kernel_rfl)
#print axioms peepKnown_holds
end Go.Proofs.YtodekmogcecfeaaGreatDoor
