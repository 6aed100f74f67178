/- A part of the proof of DeaaG. -/
import Derived.Test.YtmkakbdndegniaaGreatDoorDeaaH
import Derived.Test.YtmkakbdndegniaaGreatDoorCards
import Derived.Test.YtmkakbdndegniaaGreatDoorTie
import Derived.SevenTiedAt
set_option linter.unusedVariables false
set_option linter.unusedSimpArgs false
set_option maxRecDepth 100000
namespace Go.Proofs.YtmkakbdndegniaaGreatDoor
open Go
theorem deadKnown_holds : Rows.DeadKnownCardSaid :=
  Claim7.holds_tied_plain_at .later [] [.data] true (true, "6a185f82d44c4a1bea71d4a518955f7339166daf518006686546797ccdcfda13") false
    deadKnown_row (fun _ h => by cases h) (by kernel_rfl) (fun _ h => by cases h) deadKnown_row_tie rfl ⟨rfl, rfl⟩ (by kernel_rfl) rfl
    (fun f fn hf hfn => by
      obtain rfl : f = 3 := Option.some.inj ((show Tryz.prog.funcNamed "cupel/cupellaw15.DeadKnown" = some 3 by kernel_rfl).symm.trans hf) |>.symm
      obtain rfl : fn = Tryz.f3 := (Option.some.inj (Tryz.func3.symm.trans hfn)).symm
      exact ⟨by kernel_rfl, fun j t ht => by
        rw [Tryz.params3] at ht
        simp at ht⟩)
    (by kernel_rfl)
#print axioms deadKnown_holds
end Go.Proofs.YtmkakbdndegniaaGreatDoor
