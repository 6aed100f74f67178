/- A part of the proof of SgG. -/
import Derived.Test.YtcfneeeieofkeaaGreatDoorProg
import Derived.KernelRfl
import Derived.MapKept
import Derived.Test.YtcfneeeieofkeaaGreatDoorEvT
set_option linter.unusedVariables false
set_option linter.unusedSimpArgs false
namespace Go.Proofs.YtcfneeeieofkeaaGreatDoor
open Go.Ev Go.RowKit Go.MapKept

theorem names_ok : NoName Tryz.prog := by
  have : (Tryz.prog.funcs.toList.all fun f => !(f.name == "runtime.NumGoroutine")) = true := by kernel_rfl
  intro f hf
  have := List.all_eq_true.1 this f hf
  simpa using this
theorem eq_ok : ∀ t, t ∈ [49] → EqOk Tryz.prog t := by
  intro t ht
  have h1 : ([49].all fun t => !(Tryz.prog.eqGuardType Tryz.prog.depth t)) = true := by kernel_rfl
  have h2 : ([49].all fun t => !(Tryz.prog.stoodInHeld t)) = true := by kernel_rfl
  have h3 : ([49].all fun t => (Tryz.prog.fieldsOf t).toList.all fun f => !(f.name == "_")) = true := by kernel_rfl
  refine ⟨by simpa using List.all_eq_true.1 h1 t ht, by simpa using List.all_eq_true.1 h2 t ht, fun f hf e => ?_⟩
  have := List.all_eq_true.1 (List.all_eq_true.1 h3 t ht) f hf
  rw [e] at this
  simp at this
theorem ok0 : Ok0 Tryz.prog [49] 0 := ⟨eq_ok, names_ok, fun h => absurd rfl h, by kernel_rfl⟩
theorem ok_no : @Ok noDen Tryz.prog [49] 0 := @Ok.mk noDen Tryz.prog [49] 0 eq_ok names_ok (fun h => absurd rfl h) (by kernel_rfl) (fun _ h => nomatch h)
theorem nglobals : Tryz.prog.globals.size = 2 := by kernel_rfl
end Go.Proofs.YtcfneeeieofkeaaGreatDoor
