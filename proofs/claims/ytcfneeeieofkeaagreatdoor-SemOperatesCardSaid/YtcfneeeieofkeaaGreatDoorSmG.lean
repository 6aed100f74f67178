/- A part of the proof of SmG. -/
import Derived.Test.YtcfneeeieofkeaaGreatDoorSmH
import Derived.Test.YtcfneeeieofkeaaGreatDoorCards
import Derived.Test.YtcfneeeieofkeaaGreatDoorTie
import Derived.SevenTiedAt
namespace Go.Proofs.YtcfneeeieofkeaaGreatDoor
open Go
theorem sem_operates_holds : Rows.SemOperatesCardSaid :=
  Claim7.holds_tied_plain_at .later [] [.data, .data] true (true, "3a3433ca7a7a21cd3a5a73482043761ce38bc5cd1a03a3c6a3239811046046ae") true
    sem_operates_row (fun _ h => by cases h) (by kernel_rfl) (fun _ h => by cases h) semOperates_row_tie rfl ⟨rfl, rfl⟩ (by kernel_rfl) rfl
    (fun f fn hf hfn => by
      obtain rfl : f = 3 := Option.some.inj ((show Tryz.prog.funcNamed "cupel/cupellaw03.SemOperates" = some 3 by kernel_rfl).symm.trans hf) |>.symm
      obtain rfl : fn = Tryz.f3 := (Option.some.inj (Tryz.func3.symm.trans hfn)).symm
      exact ⟨by kernel_rfl, fun j t ht => by
        rw [Tryz.params3] at ht
        have h3 : t = 23 := by
          rcases j with _ | j
          · simpa using ht.symm
          · simp at ht
        subst h3
        exact (show Tryz.prog.wantsStandIn 23 = false by kernel_rfl)⟩)
    (by kernel_rfl)
#print axioms sem_operates_holds
end Go.Proofs.YtcfneeeieofkeaaGreatDoor
