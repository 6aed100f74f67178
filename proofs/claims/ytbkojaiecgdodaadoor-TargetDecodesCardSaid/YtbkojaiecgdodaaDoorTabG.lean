/- Proved: the given statement TargetDecodes of this seat, at the code of this commit: for every image and every index. Without a condition. -/
import Derived.Test.YtbkojaiecgdodaaDoorTabH
import Derived.Test.YtbkojaiecgdodaaDoorCards
import Derived.Test.YtbkojaiecgdodaaDoorTie
import Derived.SevenTiedAt
set_option linter.unusedVariables false
set_option linter.unusedSimpArgs false
set_option maxRecDepth 100000
namespace Go.Proofs.YtbkojaiecgdodaaDoor
open Go
/-- No function of the whole program starts a goroutine: then no call does (the calls that it comes to are not asked one by one: that took the kernel more than ten gigabytes). -/
theorem goes_none {P : Program} (h : P.funcs.toList.all (fun fn => !fn.goes) = true) (c : OpenClaim) (hs : c.start = .entering) : false = c.goesBy P := by
  have h1 : ∀ fn ∈ P.funcs.toList, fn.goes = false := fun fn hm => by have := List.all_eq_true.1 h fn hm; simpa using this
  have h2 : ∀ f, P.goes f = false := by
    intro f
    unfold Program.goes
    rw [Bool.or_eq_false_iff]
    constructor
    · rw [List.any_eq_false]
      intro g _
      cases hg : P.funcs[g]? with
      | none => simp
      | some fn =>
        simp only [Option.any_some]
        have := h1 fn (by rw [Array.mem_toList_iff]; exact Array.mem_of_getElem? hg)
        simp [this]
    · rw [Bool.and_eq_false_iff]
      right
      rw [Array.any_eq_false']
      intro fn hm
      have := h1 fn (Array.mem_toList_iff.2 hm)
      simp [this]
  unfold OpenClaim.goesBy Program.goesAt Program.goesFrom
  rw [hs]
  cases hf : P.funcNamed c.func with
  | none => rfl
  | some f => simp [h2]
theorem targetDecodes_holds : Rows.TargetDecodesCardSaid :=
  Claim7.holds_tied_plain_at .later [] [.data, .data, .data, .sentinel, .sentinel, .data, .data] true (true, "9540d1fae49fd5ab57dc98d9527a9750c0cc82fb82602038db8f68bb567694d3") true
    targetDecodes_row (fun _ h => by cases h) (by kernel_rfl) (fun _ h => by cases h) targetDecodes_row_tie rfl ⟨rfl, rfl⟩ (by kernel_rfl) rfl
    (fun f fn hf hfn => by
      obtain rfl : f = 4 := Option.some.inj ((show Tryd.prog.funcNamed "cupel/cupellaw20.TargetDecodes" = some 4 by kernel_rfl).symm.trans hf) |>.symm
      obtain rfl : fn = Tryd.f4 := (Option.some.inj (Tryd.func4.symm.trans hfn)).symm
      exact ⟨by kernel_rfl, fun j t ht => by
        rw [Tryd.params4] at ht
        have h3 : t = 3 ∨ t = 35 := by
          rcases j with _ | _ | j
          · exact (.inr (by simpa using ht.symm))
          · exact .inl (by simpa using ht.symm)
          · simp at ht
        rcases h3 with rfl | rfl
        · exact (show Tryd.prog.wantsStandIn 3 = false by kernel_rfl)
        · exact (show Tryd.prog.wantsStandIn 35 = false by kernel_rfl)⟩)
    (goes_none (by kernel_rfl) _ rfl)
#print axioms targetDecodes_holds
end Go.Proofs.YtbkojaiecgdodaaDoor
