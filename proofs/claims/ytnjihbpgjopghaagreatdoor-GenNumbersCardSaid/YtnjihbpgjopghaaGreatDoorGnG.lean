/- GenNumbers of layer 6: for every input the law returns true and leaves its arguments as they were. No condition. -/
import Derived.Test.YtnjihbpgjopghaaGreatDoorGnH
import Derived.Test.YtnjihbpgjopghaaGreatDoorCards
import Derived.Test.YtnjihbpgjopghaaGreatDoorTie
import Derived.SevenTiedAt
namespace Go.Proofs.YtnjihbpgjopghaaGreatDoor
open Go
theorem gen_numbers_holds : Rows.GenNumbersCardSaid :=
  Claim7.holds_tied_plain_at .later [] [.data, .data] true (true, "6edbdbb5b3860d58b80e2bc84660818489183387f18773a1f7eb9e3ab4902306") true
    gen_numbers_row (fun _ h => by cases h) (by kernel_rfl) (fun _ h => by cases h) genNumbers_row_tie rfl ⟨rfl, rfl⟩ (by kernel_rfl) rfl
    (fun f fn hf hfn => by
      obtain rfl : f = 3 := Option.some.inj ((show Tryz.prog.funcNamed "cupel/cupellaw06.GenNumbers" = some 3 by kernel_rfl).symm.trans hf) |>.symm
      obtain rfl : fn = Tryz.f3 := (Option.some.inj (Tryz.func3.symm.trans hfn)).symm
      exact ⟨by kernel_rfl, fun j t ht => by
        rw [Tryz.params3] at ht
        have h3 : t = 22 ∨ t = 3 := by
          rcases j with _ | _ | j
          · left; simpa using ht.symm
          · right; simpa using ht.symm
          · simp at ht
        rcases h3 with rfl | rfl
        · exact (show Tryz.prog.wantsStandIn 22 = false by kernel_rfl)
        · exact (show Tryz.prog.wantsStandIn 3 = false by kernel_rfl)⟩)
    (by kernel_rfl)
#print axioms gen_numbers_holds
end Go.Proofs.YtnjihbpgjopghaaGreatDoor
