/- Proved: the law PipelineKnown (the examples of the chapter on the pipeline) answers true, at the code of this commit. Without a condition. -/
import Derived.Test.YtmmialoeghjckaaGreatDoorPipaH
import Derived.Test.YtmmialoeghjckaaGreatDoorCards
import Derived.Test.YtmmialoeghjckaaGreatDoorTie
import Derived.SevenTiedAt
set_option linter.unusedVariables false
set_option linter.unusedSimpArgs false
set_option maxRecDepth 100000
namespace Go.Proofs.YtmmialoeghjckaaGreatDoor
open Go
/-- No function of the whole program starts a goroutine: then no call does (the calls that it comes to are not asked one by one: that took the kernel more than ten gigabytes). -/
theorem goes_none {P : Program} (h : P.funcs.toList.all (fun fn => !fn.goes) = true) (c : OpenClaim) (hs : c.start = .entering) : false = c.goesBy P := by
  have h1 : ∀ fn ∈ P.funcs.toList, fn.goes = false := fun fn hm => by have := List.all_eq_true.1 h fn hm; simpa using this
  have h2 : ∀ f, P.goes f = false := by
    intro f
    unfold Program.goes
    rw [Bool.or_eq_false_iff]
    constructor
    · rw [List.any_eq_false]
      intro g _
      cases hg : P.funcs[g]? with
      | none => simp
      | some fn =>
        simp only [Option.any_some]
        have := h1 fn (by rw [Array.mem_toList_iff]; exact Array.mem_of_getElem? hg)
        simp [this]
    · rw [Bool.and_eq_false_iff]
      right
      rw [Array.any_eq_false']
      intro fn hm
      have := h1 fn (Array.mem_toList_iff.2 hm)
      simp [this]
  unfold OpenClaim.goesBy Program.goesAt Program.goesFrom
  rw [hs]
  cases hf : P.funcNamed c.func with
  | none => rfl
  | some f => simp [h2]
theorem pipelineKnown_holds : Rows.PipelineKnownCardSaid :=
  Claim7.holds_tied_plain_at .later [] [.data, .data] true (true, "0899ef69bead8c457aea26a8cc422af233d9dab18dfc4d583eee7923a645ca07") false
    pipelineKnown_row (fun _ h => by cases h) (by kernel_rfl) (fun _ h => by cases h) pipelineKnown_row_tie rfl ⟨rfl, rfl⟩ (by kernel_rfl) rfl
    (fun f fn hf hfn => by
      obtain rfl : f = 3 := Option.some.inj ((show Tryz.prog.funcNamed "cupel/cupellaw19.PipelineKnown" = some 3 by kernel_rfl).symm.trans hf) |>.symm
      obtain rfl : fn = Tryz.f3 := (Option.some.inj (Tryz.func3.symm.trans hfn)).symm
      exact ⟨by kernel_rfl, fun j t ht => by
        rw [Tryz.params3] at ht
        simp at ht⟩)
    (goes_none (by kernel_rfl) _ rfl)
#print axioms pipelineKnown_holds
end Go.Proofs.YtmmialoeghjckaaGreatDoor
