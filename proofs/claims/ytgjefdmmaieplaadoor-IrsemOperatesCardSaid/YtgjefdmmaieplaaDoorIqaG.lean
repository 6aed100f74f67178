/- IrsemOperates (layer 10): for every kind and all numbers the law answers true and leaves its arguments as they were, if the variable that the row lists holds what the text lays. No other condition. -/
import Derived.Test.YtgjefdmmaieplaaDoorIqaH
import Derived.Test.YtgjefdmmaieplaaDoorCards
import Derived.Test.YtgjefdmmaieplaaDoorTie
import Derived.SevenTiedAt
set_option linter.unusedVariables false
set_option linter.unusedSimpArgs false
set_option maxRecDepth 100000
namespace Go.Proofs.YtgjefdmmaieplaaDoor
open Go
theorem irsemOperates_holds : Rows.IrsemOperatesCardSaid :=
  Claim7.holds_tied_plain_at .later [] [.data] true (true, "5e82e81ad3781839ac096980ef7f8b04976e57befc85a824674b1c64f48585b3") true
    irsemOperates_row (fun _ h => by cases h) (by kernel_rfl) (fun _ h => by cases h) irsemOperates_row_tie rfl ⟨rfl, rfl⟩ (by kernel_rfl) rfl
    (fun f fn hf hfn => by
      obtain rfl : f = 3 := Option.some.inj ((show Tryd.prog.funcNamed "cupel/cupellaw10.IrsemOperates" = some 3 by kernel_rfl).symm.trans hf) |>.symm
      obtain rfl : fn = Tryd.f3 := (Option.some.inj (Tryd.func3.symm.trans hfn)).symm
      exact ⟨by kernel_rfl, fun j t ht => by
        rw [Tryd.params3] at ht
        have h3 : t = 2 ∨ t = 3 := by
          rcases j with _ | _ | _ | j
          · exact (.inr (by simpa using ht.symm))
          · exact .inl (by simpa using ht.symm)
          · exact .inl (by simpa using ht.symm)
          · simp at ht
        rcases h3 with rfl | rfl
        · exact (show Tryd.prog.wantsStandIn 2 = false by kernel_rfl)
        · exact (show Tryd.prog.wantsStandIn 3 = false by kernel_rfl)⟩)
    (by kernel_rfl)
#print axioms irsemOperates_holds
end Go.Proofs.YtgjefdmmaieplaaDoor
