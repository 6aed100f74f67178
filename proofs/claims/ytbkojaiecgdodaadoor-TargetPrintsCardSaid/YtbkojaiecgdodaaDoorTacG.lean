/- Proved: the given statement TargetPrints of this seat: the law that compares the program with the reference on Print, at every image, answers true, at the code of this commit. Without a condition. -/
import Derived.Test.YtbkojaiecgdodaaDoorTacH
import Derived.Test.YtbkojaiecgdodaaDoorCards
import Derived.Test.YtbkojaiecgdodaaDoorTie
import Derived.SevenTiedAt
set_option linter.unusedVariables false
set_option linter.unusedSimpArgs false
set_option maxRecDepth 100000
namespace Go.Proofs.YtbkojaiecgdodaaDoor
open Go
/-- No function of the whole program starts a goroutine: then no call does (the calls that it comes to are not asked one by one: that took the kernel more than ten gigabytes). -/
theorem goes_none {P : Program} (h : P.funcs.toList.all (fun fn => !fn.goes) = true) (c : OpenClaim) (hs : c.start = .entering) : false = c.goesBy P := by
  have h1 : ∀ fn ∈ P.funcs.toList, fn.goes = false := fun fn hm => by have := List.all_eq_true.1 h fn hm; simpa using this
  have h2 : ∀ f, P.goes f = false := by
    intro f
    unfold Program.goes
    rw [Bool.or_eq_false_iff]
    constructor
    · rw [List.any_eq_false]
      intro g _
      cases hg : P.funcs[g]? with
      | none => simp
      | some fn =>
        simp only [Option.any_some]
        have := h1 fn (by rw [Array.mem_toList_iff]; exact Array.mem_of_getElem? hg)
        simp [this]
    · rw [Bool.and_eq_false_iff]
      right
      rw [Array.any_eq_false']
      intro fn hm
      have := h1 fn (Array.mem_toList_iff.2 hm)
      simp [this]
  unfold OpenClaim.goesBy Program.goesAt Program.goesFrom
  rw [hs]
  cases hf : P.funcNamed c.func with
  | none => rfl
  | some f => simp [h2]
theorem targetPrints_holds : Rows.TargetPrintsCardSaid :=
  Claim7.holds_tied_plain_at .later [] [.data, .data, .data, .sentinel, .sentinel, .data, .data] true (true, "9540d1fae49fd5ab57dc98d9527a9750c0cc82fb82602038db8f68bb567694d3") true
    targetPrints_row (fun _ h => by cases h) (by kernel_rfl) (fun _ h => by cases h) targetPrints_row_tie rfl ⟨rfl, rfl⟩ (by kernel_rfl) rfl
    (fun f fn hf hfn => by
      obtain rfl : f = 5 := Option.some.inj ((show Tryd.prog.funcNamed "cupel/cupellaw20.TargetPrints" = some 5 by kernel_rfl).symm.trans hf) |>.symm
      obtain rfl : fn = Tryd.f5 := (Option.some.inj (Tryd.func5.symm.trans hfn)).symm
      exact ⟨by kernel_rfl, fun j t ht => by
        rw [Tryd.params5] at ht
        have h3 : t = 35 := by
          rcases j with _ | j
          · exact by simpa using ht.symm
          · simp at ht
        subst h3
        exact (show Tryd.prog.wantsStandIn 35 = false by kernel_rfl)⟩)
    (goes_none (by kernel_rfl) _ rfl)
#print axioms targetPrints_holds
end Go.Proofs.YtbkojaiecgdodaaDoor
