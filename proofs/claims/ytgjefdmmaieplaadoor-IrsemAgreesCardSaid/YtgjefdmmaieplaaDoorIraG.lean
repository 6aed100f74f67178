/- IrsemAgrees (layer 10): for all behaviours the law answers true and leaves its arguments as they were, if the variable that the row lists holds what the text lays. No other condition. -/
import Derived.Test.YtgjefdmmaieplaaDoorIraH
import Derived.Test.YtgjefdmmaieplaaDoorCards
import Derived.Test.YtgjefdmmaieplaaDoorTie
import Derived.SevenTiedAt
set_option linter.unusedVariables false
set_option linter.unusedSimpArgs false
set_option maxRecDepth 100000
namespace Go.Proofs.YtgjefdmmaieplaaDoor
open Go
theorem irsemAgrees_holds : Rows.IrsemAgreesCardSaid :=
  Claim7.holds_tied_plain_at .later [] [.data] true (true, "5e82e81ad3781839ac096980ef7f8b04976e57befc85a824674b1c64f48585b3") true
    irsemAgrees_row (fun _ h => by cases h) (by kernel_rfl) (fun _ h => by cases h) irsemAgrees_row_tie rfl ⟨rfl, rfl⟩ (by kernel_rfl) rfl
    (fun f fn hf hfn => by
      obtain rfl : f = 4 := Option.some.inj ((show Tryd.prog.funcNamed "cupel/cupellaw10.IrsemAgrees" = some 4 by kernel_rfl).symm.trans hf) |>.symm
      obtain rfl : fn = Tryd.f4 := (Option.some.inj (Tryd.func4.symm.trans hfn)).symm
      exact ⟨by kernel_rfl, fun j t ht => by
        rw [Tryd.params4] at ht
        have h3 : t = 29 := by
          rcases j with _ | _ | j
          · exact by simpa using ht.symm
          · exact by simpa using ht.symm
          · simp at ht
        subst h3
        exact (show Tryd.prog.wantsStandIn 29 = false by kernel_rfl)⟩)
    (by kernel_rfl)
#print axioms irsemAgrees_holds
end Go.Proofs.YtgjefdmmaieplaaDoor
