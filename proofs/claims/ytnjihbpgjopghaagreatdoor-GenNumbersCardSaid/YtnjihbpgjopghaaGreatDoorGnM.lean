/- A world that holds the two tables. -/
import Derived.Test.YtnjihbpgjopghaaGreatDoorGnA
import Derived.Test.YtnjihbpgjopghaaGreatDoorGnV
set_option linter.unusedVariables false
set_option linter.unusedSimpArgs false
namespace Go.Proofs.YtnjihbpgjopghaaGreatDoor
open Go.Ev Go.RowKit
/-- what the tables hold -/
def Laid (W : World) : Prop := (∀ (o : Nat) (u : Value), g0[o]? = some u → W.cell? ⟨0, o, none⟩ = some u) ∧ (∀ (o : Nat) (u : Value), g1[o]? = some u → W.cell? ⟨1, o, none⟩ = some u)
theorem Laid.size {W : World} (h : Laid W) : 2 ≤ W.heap.size := by
  have := World.block_lt_of_cell? W _ (h.2 0 _ rfl)
  exact this
theorem flat0 : flatL g0 = true := by rfl
theorem flat1 : flatL g1 = true := by rfl
theorem Laid.ros {W : World} (h : Laid W) : ∀ p ∈ [(0, g0), (1, g1)], p.1 < Tryz.prog.globals.size ∧ flatL p.2 = true ∧ ∀ (o : Nat) (u : Value), p.2[o]? = some u → W.cell? ⟨p.1, o, none⟩ = some u := by
  intro p hp
  rw [nglobals]
  simp at hp
  rcases hp with rfl | rfl
  · exact ⟨by decide, flat0, h.1⟩
  · exact ⟨by decide, flat1, h.2⟩
end Go.Proofs.YtnjihbpgjopghaaGreatDoor
