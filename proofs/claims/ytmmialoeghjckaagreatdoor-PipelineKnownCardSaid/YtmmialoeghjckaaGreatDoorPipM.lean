/- A part of the proof of PipaG. -/
import Derived.Test.YtmmialoeghjckaaGreatDoorPipK
set_option linter.unusedVariables false
set_option linter.unusedSimpArgs false
set_option maxRecDepth 100000
namespace Go.Proofs.YtmmialoeghjckaaGreatDoor
open Go Go.Ev Go.RowKit
def Yes (W : World) (e : Ending) (w' : World) : Prop := e = .returned (.bool true) ∧ Below W.heap.size W w'
/-- what the tables hold -/
structure Laid (W : World) : Prop where
  size : 2 ≤ W.heap.size
  t0 : ∀ (o : Nat) (u : Value), g0[o]? = some u → W.cell? ⟨0, o, none⟩ = some u
  t1 : ∀ (o : Nat) (u : Value), g1[o]? = some u → W.cell? ⟨1, o, none⟩ = some u
theorem Laid.grow {W w : World} (h : Laid W) (g : Grow W w) : Laid w := by
  have z := h.size
  have c : ∀ b o u, b < 2 → W.cell? ⟨b, o, none⟩ = some u → w.cell? ⟨b, o, none⟩ = some u := fun b o u hb hu => (g.cell (p := ⟨b, o, none⟩) (by show b < W.heap.size; omega)).trans hu
  exact ⟨Nat.le_trans z g.size, fun o u hu => c _ _ _ (by decide) (h.t0 o u hu), fun o u hu => c _ _ _ (by decide) (h.t1 o u hu)⟩
theorem flat0 : flatL g0 = true := by rfl
theorem flat1 : flatL g1 = true := by rfl
theorem Laid.ros {W : World} (h : Laid W) : ∀ p ∈ ([(0, g0), (1, g1)] : List (Nat × List Value)), p.1 < Tryz.prog.globals.size ∧ flatL p.2 = true ∧ ∀ (o : Nat) (u : Value), p.2[o]? = some u → W.cell? ⟨p.1, o, none⟩ = some u := by
  intro p hp
  rw [nglobals]
  simp at hp
  rcases hp with rfl | rfl
  · exact ⟨by decide, flat0, h.t0⟩
  · exact ⟨by decide, flat1, h.t1⟩
/-- what an open value of a table stands for -/
def denT (W : World) (c : Nat) : Value := (W.cell? ⟨c, 0, none⟩).getD .nilFunc
theorem Laid.tab {W : World} (h : Laid W) : @TabOk (denR (denT W) [run2, run3, run22, run24, run182]) Tryz.prog W tables := by
  have hf := @TabOk.of_flat (denR (denT W) [run2, run3, run22, run24, run182]) Tryz.prog W _ h.ros
  exact hf
/-- the examples show what they are to show -/
theorem awake_calls {W : World} (hL : Laid W) : Calls Tryz.prog 3 #[] W (Yes W) :=
  true_runG (denT W) ok0 top_known (by rw [nglobals]; exact hL.size) hL.tab top_run
theorem known_awake {W : World} (hL : Laid W) (vals : List Value) : Known Tryz.prog W vals ⟨3, [], .bool true, []⟩ :=
  ⟨⟨_, _, Tryz.func3, rfl⟩, fun v hv => (by cases hv), rfl, rfl, fun w g => awake_calls (hL.grow g)⟩
end Go.Proofs.YtmmialoeghjckaaGreatDoor
