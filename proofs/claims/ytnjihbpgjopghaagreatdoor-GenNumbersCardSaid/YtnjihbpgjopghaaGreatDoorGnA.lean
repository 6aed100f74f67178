/- What the evaluator asks of this program: its names, the types that it compares, maps.clone. -/
import Derived.Test.YtnjihbpgjopghaaGreatDoorProg
import Derived.KernelRfl
import Derived.MapKept
import Derived.Test.YtnjihbpgjopghaaGreatDoorEvV
set_option linter.unusedVariables false
set_option linter.unusedSimpArgs false
namespace Go.Proofs.YtnjihbpgjopghaaGreatDoor
open Go.Ev Go.RowKit Go.MapKept

theorem nextNone : Extern.findNext Tryz.f222 = .none := by kernel_rfl
theorem findClone : Extern.find Tryz.f222 = some Extern.MapsClone.clone := by rfl
theorem clone_ok : CloneOk Tryz.prog 222 := by
  intro t b es k w hb
  have hn : ¬ Tryz.f222.name = "runtime.NumGoroutine" := by
    have : (Tryz.f222.name == "runtime.NumGoroutine") = false := by kernel_rfl
    simpa using this
  have hbd : Tryz.f222.body = .none := by
    have : Tryz.f222.body.isNone = true := by kernel_rfl
    simpa using this
  have e : Extern.MapsClone.clone #[.iface t (.map (some b))] = (getObj b >>= fun o => match o with
      | .map entries clock => (newObj (.map entries clock) >>= fun n => pure (.iface t (.map (some n))))
      | _ => stuck "maps.clone: a map expected") := rfl
  simp [callFunc, Tryz.func222, hn, hbd, nextNone, findClone, e, Go.MapKept.run_getObj_map hb, Result.andThen]
theorem names_ok : NoName Tryz.prog := by
  have : (Tryz.prog.funcs.toList.all fun f => !(f.name == "runtime.NumGoroutine")) = true := by kernel_rfl
  intro f hf
  have := List.all_eq_true.1 this f hf
  simpa using this
theorem eq_ok : ∀ t, t ∈ [49, 93, 47, 62, 160, 280] → EqOk Tryz.prog t := by
  intro t ht
  have h1 : ([49, 93, 47, 62, 160, 280].all fun t => !(Tryz.prog.eqGuardType Tryz.prog.depth t)) = true := by kernel_rfl
  have h2 : ([49, 93, 47, 62, 160, 280].all fun t => !(Tryz.prog.stoodInHeld t)) = true := by kernel_rfl
  have h3 : ([49, 93, 47, 62, 160, 280].all fun t => (Tryz.prog.fieldsOf t).toList.all fun f => !(f.name == "_")) = true := by kernel_rfl
  refine ⟨by simpa using List.all_eq_true.1 h1 t ht, by simpa using List.all_eq_true.1 h2 t ht, fun f hf e => ?_⟩
  have := List.all_eq_true.1 (List.all_eq_true.1 h3 t ht) f hf
  rw [e] at this
  simp at this
theorem all_ok : Ok Tryz.prog [49, 93, 47, 62, 160, 280] 222 := ⟨eq_ok, names_ok, clone_ok, by kernel_rfl⟩
theorem nglobals : Tryz.prog.globals.size = 2 := by kernel_rfl
end Go.Proofs.YtnjihbpgjopghaaGreatDoor
