/- A part of the proof of SgG. -/
import Derived.Test.YtcfneeeieofkeaaGreatDoorSgH
import Derived.Test.YtcfneeeieofkeaaGreatDoorCards
import Derived.Test.YtcfneeeieofkeaaGreatDoorTie
import Derived.SevenTiedAt
namespace Go.Proofs.YtcfneeeieofkeaaGreatDoor
open Go
theorem sem_agrees_holds : Rows.SemAgreesCardSaid :=
  Claim7.holds_tied_plain_at .later [] [.data, .data] true (true, "3a3433ca7a7a21cd3a5a73482043761ce38bc5cd1a03a3c6a3239811046046ae") true
    sem_agrees_row (fun _ h => by cases h) (by kernel_rfl) (fun _ h => by cases h) semAgrees_row_tie rfl ⟨rfl, rfl⟩ (by kernel_rfl) rfl
    (fun f fn hf hfn => by
      obtain rfl : f = 4 := Option.some.inj ((show Tryz.prog.funcNamed "cupel/cupellaw03.SemAgrees" = some 4 by kernel_rfl).symm.trans hf) |>.symm
      obtain rfl : fn = Tryz.f4 := (Option.some.inj (Tryz.func4.symm.trans hfn)).symm
      exact ⟨by kernel_rfl, fun j t ht => by
        rw [Tryz.params4] at ht
        have h3 : t = 33 := by
          rcases j with _ | _ | j
          · simpa using ht.symm
          · simpa using ht.symm
          · simp at ht
        subst h3
        exact (show Tryz.prog.wantsStandIn 33 = false by kernel_rfl)⟩)
    (by kernel_rfl)
#print axioms sem_agrees_holds
end Go.Proofs.YtcfneeeieofkeaaGreatDoor
