/- A part of the proof of HoiaG. -/
import Derived.Test.YtpdgfdpfgnnhaaaGreatDoorHoiaH
import Derived.Test.YtpdgfdpfgnnhaaaGreatDoorCards
import Derived.Test.YtpdgfdpfgnnhaaaGreatDoorTie
import Derived.SevenTiedAt
set_option linter.unusedVariables false
set_option linter.unusedSimpArgs false
set_option maxRecDepth 100000
namespace Go.Proofs.YtpdgfdpfgnnhaaaGreatDoor
open Go
theorem hoistKnown_holds : Rows.HoistKnownCardSaid :=
  Claim7.holds_tied_plain_at .later [] [.data] true (true, "86b70b257047e5010cf72793d3c6e7952bc93ce3de449147b831a24463567e63") false
    hoistKnown_row (fun _ h => by cases h) (by kernel_rfl) (fun _ h => by cases h) hoistKnown_row_tie rfl ⟨rfl, rfl⟩ (by kernel_rfl) rfl
    (fun f fn hf hfn => by
      obtain rfl : f = 3 := Option.some.inj ((show Tryz.prog.funcNamed "cupel/cupellaw17.HoistKnown" = some 3 by kernel_rfl).symm.trans hf) |>.symm
      obtain rfl : fn = Tryz.f3 := (Option.some.inj (Tryz.func3.symm.trans hfn)).symm
      exact ⟨by kernel_rfl, fun j t ht => by
        rw [Tryz.params3] at ht
        simp at ht⟩)
    (by kernel_rfl)
#print axioms hoistKnown_holds
end Go.Proofs.YtpdgfdpfgnnhaaaGreatDoor
