/- Proved: the given statement TargetEncodes of this seat, at the code of this commit: for every list of instructions. Without a condition. -/
import Derived.Test.YtbkojaiecgdodaaDoorTaaH
import Derived.Test.YtbkojaiecgdodaaDoorCards
import Derived.Test.YtbkojaiecgdodaaDoorTie
import Derived.SevenTiedAt
set_option linter.unusedVariables false
set_option linter.unusedSimpArgs false
set_option maxRecDepth 100000
namespace Go.Proofs.YtbkojaiecgdodaaDoor
open Go
/-- No function of the whole program starts a goroutine: then no call does (the calls that it comes to are not asked one by one: that took the kernel more than ten gigabytes). -/
theorem goes_none {P : Program} (h : P.funcs.toList.all (fun fn => !fn.goes) = true) (c : OpenClaim) (hs : c.start = .entering) : false = c.goesBy P := by
  have h1 : ∀ fn ∈ P.funcs.toList, fn.goes = false := fun fn hm => by have := List.all_eq_true.1 h fn hm; simpa using this
  have h2 : ∀ f, P.goes f = false := by
    intro f
    unfold Program.goes
    rw [Bool.or_eq_false_iff]
    constructor
    · rw [List.any_eq_false]
      intro g _
      cases hg : P.funcs[g]? with
      | none => simp
      | some fn =>
        simp only [Option.any_some]
        have := h1 fn (by rw [Array.mem_toList_iff]; exact Array.mem_of_getElem? hg)
        simp [this]
    · rw [Bool.and_eq_false_iff]
      right
      rw [Array.any_eq_false']
      intro fn hm
      have := h1 fn (Array.mem_toList_iff.2 hm)
      simp [this]
  unfold OpenClaim.goesBy Program.goesAt Program.goesFrom
  rw [hs]
  cases hf : P.funcNamed c.func with
  | none => rfl
  | some f => simp [h2]
theorem targetEncodes_holds : Rows.TargetEncodesCardSaid :=
  Claim7.holds_tied_plain_at .later [] [.data, .data, .data, .sentinel, .sentinel, .data, .data] true (true, "9540d1fae49fd5ab57dc98d9527a9750c0cc82fb82602038db8f68bb567694d3") true
    targetEncodes_row (fun _ h => by cases h) (by kernel_rfl) (fun _ h => by cases h) targetEncodes_row_tie rfl ⟨rfl, rfl⟩ (by kernel_rfl) rfl
    (fun f fn hf hfn => by
      obtain rfl : f = 3 := Option.some.inj ((show Tryd.prog.funcNamed "cupel/cupellaw20.TargetEncodes" = some 3 by kernel_rfl).symm.trans hf) |>.symm
      obtain rfl : fn = Tryd.f3 := (Option.some.inj (Tryd.func3.symm.trans hfn)).symm
      exact ⟨by kernel_rfl, fun j t ht => by
        rw [Tryd.params3] at ht
        have h3 : t = 22 := by
          rcases j with _ | j
          · exact by simpa using ht.symm
          · simp at ht
        subst h3
        exact (show Tryd.prog.wantsStandIn 22 = false by kernel_rfl)⟩)
    (goes_none (by kernel_rfl) _ rfl)
#print axioms targetEncodes_holds
end Go.Proofs.YtbkojaiecgdodaaDoor
