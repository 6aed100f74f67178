/- What the evaluator asks of this program: its names, the types that it compares. -/
import Derived.Test.YtgjefdmmaieplaaDoorProg
import Derived.KernelRfl
import Derived.Test.YtgjefdmmaieplaaDoorEvB1
set_option linter.unusedVariables false
set_option linter.unusedSimpArgs false
set_option maxRecDepth 100000
namespace Go.Proofs.YtgjefdmmaieplaaDoor
open Go Go.Ev Go.RowKit
theorem names_ok : NoName Tryd.prog := by
  have : (Tryd.prog.funcs.toList.all fun f => !(f.name == "runtime.NumGoroutine")) = true := by kernel_rfl
  intro f hf
  have := List.all_eq_true.1 this f hf
  simpa using this
def eqTypes : List Nat := [61, 94, 54]
theorem eq_ok : ∀ t, t ∈ eqTypes → EqOk Tryd.prog t := by
  intro t ht
  have h1 : (eqTypes.all fun t => !(Tryd.prog.eqGuardType Tryd.prog.depth t)) = true := by kernel_rfl
  have h2 : (eqTypes.all fun t => !(Tryd.prog.stoodInHeld t)) = true := by kernel_rfl
  have h3 : (eqTypes.all fun t => (Tryd.prog.fieldsOf t).toList.all fun f => !(f.name == "_")) = true := by kernel_rfl
  refine ⟨by simpa using List.all_eq_true.1 h1 t ht, by simpa using List.all_eq_true.1 h2 t ht, fun f hf e => ?_⟩
  have := List.all_eq_true.1 (List.all_eq_true.1 h3 t ht) f hf
  rw [e] at this
  simp at this
def sp : Sp := ⟨0, 0, 0⟩
theorem ok0 : Ok0 Tryd.prog eqTypes sp := ⟨eq_ok, names_ok, ⟨fun h => absurd rfl h, fun h => absurd rfl h, fun h => absurd rfl h⟩, by kernel_rfl⟩
theorem nglobals : Tryd.prog.globals.size = 1 := by kernel_rfl
end Go.Proofs.YtgjefdmmaieplaaDoor
