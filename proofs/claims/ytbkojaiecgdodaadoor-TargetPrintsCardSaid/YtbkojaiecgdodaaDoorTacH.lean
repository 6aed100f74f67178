/- A part of the proof of TacG. -/
import Derived.Test.YtbkojaiecgdodaaDoorTacF
set_option linter.unusedVariables false
set_option linter.unusedSimpArgs false
set_option maxRecDepth 100000
namespace Go.Proofs.YtbkojaiecgdodaaDoor
open Go
theorem fk0 : (fun (P : Program) (f : FuncId) (fn : Func) (s : ChangeSpec) (c : OpenClaim) => (c.wf (OpenSpec.ofChange s) : Bool)) Tryd.checked.prog 5 Tryd.f5 Rows.targetPrintsSpec Rows.targetPrintsRow = true := by kernel_rfl
theorem fk1 : (fun (P : Program) (f : FuncId) (fn : Func) (s : ChangeSpec) (c : OpenClaim) => (laidOutB P : Bool)) Tryd.checked.prog 5 Tryd.f5 Rows.targetPrintsSpec Rows.targetPrintsRow = true := by kernel_rfl
theorem fk2 : (fun (P : Program) (f : FuncId) (fn : Func) (s : ChangeSpec) (c : OpenClaim) => (mapsRowed P : Bool)) Tryd.checked.prog 5 Tryd.f5 Rows.targetPrintsSpec Rows.targetPrintsRow = true := by kernel_rfl
theorem fk3 : (fun (P : Program) (f : FuncId) (fn : Func) (s : ChangeSpec) (c : OpenClaim) => (fn.params.all (P.readableRec ·) : Bool)) Tryd.checked.prog 5 Tryd.f5 Rows.targetPrintsSpec Rows.targetPrintsRow = true := by kernel_rfl
theorem fk4 : (fun (P : Program) (f : FuncId) (fn : Func) (s : ChangeSpec) (c : OpenClaim) => (namedTie P c.named s.vars : Bool)) Tryd.checked.prog 5 Tryd.f5 Rows.targetPrintsSpec Rows.targetPrintsRow = true := by kernel_rfl
theorem fk5 : (fun (P : Program) (f : FuncId) (fn : Func) (s : ChangeSpec) (c : OpenClaim) => ((c.stops == []) : Bool)) Tryd.checked.prog 5 Tryd.f5 Rows.targetPrintsSpec Rows.targetPrintsRow = true := by kernel_rfl
theorem fk6 : (fun (P : Program) (f : FuncId) (fn : Func) (s : ChangeSpec) (c : OpenClaim) => ((P.stops == []) : Bool)) Tryd.checked.prog 5 Tryd.f5 Rows.targetPrintsSpec Rows.targetPrintsRow = true := by kernel_rfl
theorem fk7 : (fun (P : Program) (f : FuncId) (fn : Func) (s : ChangeSpec) (c : OpenClaim) => ((c.knobs == []) : Bool)) Tryd.checked.prog 5 Tryd.f5 Rows.targetPrintsSpec Rows.targetPrintsRow = true := by kernel_rfl
theorem fk8 : (fun (P : Program) (f : FuncId) (fn : Func) (s : ChangeSpec) (c : OpenClaim) => ((P.stopKnobs == []) : Bool)) Tryd.checked.prog 5 Tryd.f5 Rows.targetPrintsSpec Rows.targetPrintsRow = true := by kernel_rfl
theorem fk9 : (fun (P : Program) (f : FuncId) (fn : Func) (s : ChangeSpec) (c : OpenClaim) => ((c.inPlace == P.inPlace f) : Bool)) Tryd.checked.prog 5 Tryd.f5 Rows.targetPrintsSpec Rows.targetPrintsRow = true := by kernel_rfl
theorem fk10 : (fun (P : Program) (f : FuncId) (fn : Func) (s : ChangeSpec) (c : OpenClaim) => ((c.unfollowed == P.unfollowed f) : Bool)) Tryd.checked.prog 5 Tryd.f5 Rows.targetPrintsSpec Rows.targetPrintsRow = true := by kernel_rfl
theorem fk11 : (fun (P : Program) (f : FuncId) (fn : Func) (s : ChangeSpec) (c : OpenClaim) => ((c.recurses == P.recurses f) : Bool)) Tryd.checked.prog 5 Tryd.f5 Rows.targetPrintsSpec Rows.targetPrintsRow = true := by
  have h : Program.unfollowed Tryd.checked.prog 5 = true := (beq_iff_eq.1 fk10).symm
  show (true == Program.recurses Tryd.checked.prog 5) = true
  unfold Program.recurses
  rw [h]
  rfl
theorem fk12 : (fun (P : Program) (f : FuncId) (fn : Func) (s : ChangeSpec) (c : OpenClaim) => ((c.named == P.varsNamed f) : Bool)) Tryd.checked.prog 5 Tryd.f5 Rows.targetPrintsSpec Rows.targetPrintsRow = true := by kernel_rfl
theorem fk13 : (fun (P : Program) (f : FuncId) (fn : Func) (s : ChangeSpec) (c : OpenClaim) => ((c.maps == (fn.params.toList ++ s.plain.varTypes P).any (P.mapsRec ·)) : Bool)) Tryd.checked.prog 5 Tryd.f5 Rows.targetPrintsSpec Rows.targetPrintsRow = true := by kernel_rfl
theorem fk14 : (fun (P : Program) (f : FuncId) (fn : Func) (s : ChangeSpec) (c : OpenClaim) => ((c.ifaces == (fn.params.toList ++ s.plain.varTypes P).any (P.ifacesRec ·)) : Bool)) Tryd.checked.prog 5 Tryd.f5 Rows.targetPrintsSpec Rows.targetPrintsRow = true := by kernel_rfl
theorem fk15 : (fun (P : Program) (f : FuncId) (fn : Func) (s : ChangeSpec) (c : OpenClaim) => ((c.mapsOut == P.mapsAmong fn.resultTypes.toList) : Bool)) Tryd.checked.prog 5 Tryd.f5 Rows.targetPrintsSpec Rows.targetPrintsRow = true := by kernel_rfl
theorem fk16 : (fun (P : Program) (f : FuncId) (fn : Func) (s : ChangeSpec) (c : OpenClaim) => ((c.loops == (fn.params.toList ++ s.plain.varTypes P).any (P.loopsFrom ·)) : Bool)) Tryd.checked.prog 5 Tryd.f5 Rows.targetPrintsSpec Rows.targetPrintsRow = true := by kernel_rfl
theorem fk17 : (fun (P : Program) (f : FuncId) (fn : Func) (s : ChangeSpec) (c : OpenClaim) => ((c.wideKeys == (fn.params.toList ++ s.plain.varTypes P ++ fn.resultTypes.toList).any (P.wideKeysFrom ·)) : Bool)) Tryd.checked.prog 5 Tryd.f5 Rows.targetPrintsSpec Rows.targetPrintsRow = true := by kernel_rfl
theorem fk18 : (fun (P : Program) (f : FuncId) (fn : Func) (s : ChangeSpec) (c : OpenClaim) => (s.vars.all (P.varReadable ·) : Bool)) Tryd.checked.prog 5 Tryd.f5 Rows.targetPrintsSpec Rows.targetPrintsRow = true := by kernel_rfl
theorem fk19 : (fun (P : Program) (f : FuncId) (fn : Func) (s : ChangeSpec) (c : OpenClaim) => (fn.resultTypes.all (fun t => P.readableRec t && decide (t < P.types.size)) : Bool)) Tryd.checked.prog 5 Tryd.f5 Rows.targetPrintsSpec Rows.targetPrintsRow = true := by kernel_rfl
theorem fk20 : (fun (P : Program) (f : FuncId) (fn : Func) (s : ChangeSpec) (c : OpenClaim) => ((c.ifacesOut == fn.resultTypes.toList.any (P.ifacesRec ·)) : Bool)) Tryd.checked.prog 5 Tryd.f5 Rows.targetPrintsSpec Rows.targetPrintsRow = true := by kernel_rfl
theorem fk21 : (fun (P : Program) (f : FuncId) (fn : Func) (s : ChangeSpec) (c : OpenClaim) => ((c.loopsOut == fn.resultTypes.toList.any (P.loopsFrom ·)) : Bool)) Tryd.checked.prog 5 Tryd.f5 Rows.targetPrintsSpec Rows.targetPrintsRow = true := by kernel_rfl
theorem fk22 : (fun (P : Program) (f : FuncId) (fn : Func) (s : ChangeSpec) (c : OpenClaim) => ((c.plainKeys == P.plainKeys) : Bool)) Tryd.checked.prog 5 Tryd.f5 Rows.targetPrintsSpec Rows.targetPrintsRow = true := by kernel_rfl
theorem fk23 : (fun (P : Program) (f : FuncId) (fn : Func) (s : ChangeSpec) (c : OpenClaim) => (c.shortTexts.isNone : Bool)) Tryd.checked.prog 5 Tryd.f5 Rows.targetPrintsSpec Rows.targetPrintsRow = true := by kernel_rfl
theorem fk24 : (fun (P : Program) (f : FuncId) (fn : Func) (s : ChangeSpec) (c : OpenClaim) => (P.stopsHeard : Bool)) Tryd.checked.prog 5 Tryd.f5 Rows.targetPrintsSpec Rows.targetPrintsRow = true := by kernel_rfl
theorem fk25 : (fun (P : Program) (f : FuncId) (fn : Func) (s : ChangeSpec) (c : OpenClaim) => (P.mayEnter : Bool)) Tryd.checked.prog 5 Tryd.f5 Rows.targetPrintsSpec Rows.targetPrintsRow = true := by kernel_rfl
theorem fk26 : (fun (P : Program) (f : FuncId) (fn : Func) (s : ChangeSpec) (c : OpenClaim) => ((c.lifted == P.liftsFinal) : Bool)) Tryd.checked.prog 5 Tryd.f5 Rows.targetPrintsSpec Rows.targetPrintsRow = true := by kernel_rfl
theorem fk27 : (fun (P : Program) (f : FuncId) (fn : Func) (s : ChangeSpec) (c : OpenClaim) => ((P.make == some c.make) : Bool)) Tryd.checked.prog 5 Tryd.f5 Rows.targetPrintsSpec Rows.targetPrintsRow = true := by kernel_rfl
theorem fk28 : (fun (P : Program) (f : FuncId) (fn : Func) (s : ChangeSpec) (c : OpenClaim) => ((c.kinds == (if c.domain.isEmpty then [] else fn.params.toList.map fun t => match P.underlying t with | some (.int k) => some k | _ => none)) : Bool)) Tryd.checked.prog 5 Tryd.f5 Rows.targetPrintsSpec Rows.targetPrintsRow = true := by kernel_rfl
theorem fk29 : (fun (P : Program) (f : FuncId) (fn : Func) (s : ChangeSpec) (c : OpenClaim) => ((c.pinned == c.pinnedBy) : Bool)) Tryd.checked.prog 5 Tryd.f5 Rows.targetPrintsSpec Rows.targetPrintsRow = true := by kernel_rfl
theorem fk30 : (fun (P : Program) (f : FuncId) (fn : Func) (s : ChangeSpec) (c : OpenClaim) => ((c.veiled == (fn.params.toList ++ s.plain.varTypes P ++ fn.resultTypes.toList).any (P.veiledRec ·)) : Bool)) Tryd.checked.prog 5 Tryd.f5 Rows.targetPrintsSpec Rows.targetPrintsRow = true := by kernel_rfl
theorem fk31 : (fun (P : Program) (f : FuncId) (fn : Func) (s : ChangeSpec) (c : OpenClaim) => (c.veiledFits P fn.params.toList (fn.params.toList ++ s.plain.varTypes P ++ fn.resultTypes.toList) : Bool)) Tryd.checked.prog 5 Tryd.f5 Rows.targetPrintsSpec Rows.targetPrintsRow = true := by kernel_rfl
theorem and_t {a b : Bool} (h : a = true) (k : b = true) : (a && b) = true := by rw [h, k]; rfl
theorem facts_ok : joinedFacts Tryd.checked.prog 5 Tryd.f5 Rows.targetPrintsSpec Rows.targetPrintsRow = true := (and_t (and_t (and_t (and_t (and_t (and_t (and_t (and_t (and_t (and_t (and_t (and_t (and_t (and_t (and_t (and_t (and_t (and_t (and_t (and_t (and_t (and_t (and_t (and_t (and_t (and_t (and_t (and_t (and_t (and_t (and_t fk0 fk1) fk2) fk3) fk4) fk5) fk6) fk7) fk8) fk9) fk10) fk11) fk12) fk13) fk14) fk15) fk16) fk17) fk18) fk19) fk20) fk21) fk22) fk23) fk24) fk25) fk26) fk27) fk28) fk29) fk30) fk31)
theorem targetPrints_row : Rows.TargetPrintsSaid :=
  OpenClaim.holds_of_wide 5 Tryd.f5 rfl rfl rfl rfl rfl rfl rfl ⟨rfl, rfl, rfl, rfl, rfl⟩ rfl rfl rfl rfl rfl (by kernel_rfl) Tryd.func5 facts_ok
    (of_decide_eq_true (by kernel_rfl)) (by unfold Func.isWrapper; rw [if_neg (of_decide_eq_false (by kernel_rfl))]; exact ⟨rfl, rfl⟩)
    (fun os started H enc _ => law_lifted os started H enc)
end Go.Proofs.YtbkojaiecgdodaaDoor
