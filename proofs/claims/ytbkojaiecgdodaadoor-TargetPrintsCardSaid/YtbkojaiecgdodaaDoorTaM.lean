/- A part of the proof of TacG. -/
import Derived.Test.YtbkojaiecgdodaaDoorTaK
set_option linter.unusedVariables false
set_option linter.unusedSimpArgs false
set_option maxRecDepth 100000
namespace Go.Proofs.YtbkojaiecgdodaaDoor
open Go Go.Ev Go.RowKit
def Yes (W : World) (e : Ending) (w' : World) : Prop := e = .returned (.bool true) ∧ Below W.heap.size W w'
/-- what the tables hold -/
structure Laid (W : World) : Prop where
  size : 8 ≤ W.heap.size
  t0 : ∀ (o : Nat) (u : Value), g0[o]? = some u → W.cell? ⟨0, o, none⟩ = some u
  t1 : ∀ (o : Nat) (u : Value), g1[o]? = some u → W.cell? ⟨1, o, none⟩ = some u
  t2 : ∀ (o : Nat) (u : Value), g2[o]? = some u → W.cell? ⟨2, o, none⟩ = some u
  t3 : ∀ (o : Nat) (u : Value), g3[o]? = some u → W.cell? ⟨3, o, none⟩ = some u
  t4 : ∀ (o : Nat) (u : Value), g4[o]? = some u → W.cell? ⟨4, o, none⟩ = some u
  t6 : ∃ u, W.cell? ⟨6, 0, none⟩ = some u ∧ scal1 u = true
  t7 : ∃ u, W.cell? ⟨7, 0, none⟩ = some u ∧ scal1 u = true
theorem Laid.grow {W w : World} (h : Laid W) (g : Grow W w) : Laid w := by
  have z := h.size
  have c : ∀ b o u, b < 8 → W.cell? ⟨b, o, none⟩ = some u → w.cell? ⟨b, o, none⟩ = some u := fun b o u hb hu => (g.cell (p := ⟨b, o, none⟩) (by show b < W.heap.size; omega)).trans hu
  obtain ⟨u6, h6, k6⟩ := h.t6
  obtain ⟨u7, h7, k7⟩ := h.t7
  exact ⟨Nat.le_trans z g.size, fun o u hu => c _ _ _ (by decide) (h.t0 o u hu), fun o u hu => c _ _ _ (by decide) (h.t1 o u hu), fun o u hu => c _ _ _ (by decide) (h.t2 o u hu), fun o u hu => c _ _ _ (by decide) (h.t3 o u hu), fun o u hu => c _ _ _ (by decide) (h.t4 o u hu), ⟨u6, c _ _ _ (by decide) h6, k6⟩, ⟨u7, c _ _ _ (by decide) h7, k7⟩⟩
theorem flat0 : flatL g0 = true := by rfl
theorem flat1 : flatL g1 = true := by rfl
theorem flat2 : flatL g2 = true := by rfl
theorem flat3 : flatL g3 = true := by rfl
theorem flat4 : flatL g4 = true := by rfl
theorem Laid.ros {W : World} (h : Laid W) : ∀ p ∈ ([(0, g0), (1, g1), (2, g2), (3, g3), (4, g4)] : List (Nat × List Value)), p.1 < Tryd.prog.globals.size ∧ flatL p.2 = true ∧ ∀ (o : Nat) (u : Value), p.2[o]? = some u → W.cell? ⟨p.1, o, none⟩ = some u := by
  intro p hp
  rw [nglobals]
  simp at hp
  rcases hp with rfl | rfl | rfl | rfl | rfl
  · exact ⟨by decide, flat0, h.t0⟩
  · exact ⟨by decide, flat1, h.t1⟩
  · exact ⟨by decide, flat2, h.t2⟩
  · exact ⟨by decide, flat3, h.t3⟩
  · exact ⟨by decide, flat4, h.t4⟩
/-- what an open value of a table stands for -/
def denT (W : World) (c : Nat) : Value := (W.cell? ⟨c, 0, none⟩).getD .nilFunc
theorem Laid.tab {W : World} (h : Laid W) : @TabOk (denR (denT W) [run0, run1]) Tryd.prog W tables := by
  have hf := @TabOk.of_flat (denR (denT W) [run0, run1]) Tryd.prog W _ h.ros
  have op : ∀ g, g < 8 → (∃ u, W.cell? ⟨g, 0, none⟩ = some u ∧ scal1 u = true) → g < Tryd.prog.globals.size ∧ ∀ (o : Nat) (u : Value), [Value.float .f64 g][o]? = some u → okv (denT W) u = true ∧ W.cell? ⟨g, o, none⟩ = some (dv (denT W) u) := by
    intro g hg ⟨u, hu, hs⟩
    refine ⟨by rw [nglobals]; exact hg, fun o v hv => ?_⟩
    cases o with
    | succ o => simp at hv
    | zero =>
      simp at hv
      subst hv
      have e : denT W g = u := by unfold denT; rw [hu]; rfl
      exact ⟨by show scal1 (denT W g) = true; rw [e]; exact hs, by show _ = some (denT W g); rw [e]; exact hu⟩
  intro p hp
  have hp : p = (0, g0) ∨ p = (1, g1) ∨ p = (2, g2) ∨ p = (3, g3) ∨ p = (4, g4) ∨ p = (6, g6) ∨ p = (7, g7) := by simpa [tables] using hp
  rcases hp with rfl | rfl | rfl | rfl | rfl | rfl | rfl
  · exact hf _ (by simp)
  · exact hf _ (by simp)
  · exact hf _ (by simp)
  · exact hf _ (by simp)
  · exact hf _ (by simp)
  · exact op 6 (by decide) h.t6
  · exact op 7 (by decide) h.t7
/-- the examples show what they are to show -/
theorem awake_calls {W : World} (hL : Laid W) : Calls Tryd.prog 8 #[] W (Yes W) :=
  true_runG (denT W) ok0 top_known (by rw [nglobals]; exact hL.size) hL.tab top_run
theorem known_awake {W : World} (hL : Laid W) (vals : List Value) : Known Tryd.prog W vals ⟨8, [], .bool true, []⟩ :=
  ⟨⟨_, _, Tryd.func8, rfl⟩, fun v hv => (by cases hv), rfl, rfl, fun w g => awake_calls (hL.grow g)⟩
end Go.Proofs.YtbkojaiecgdodaaDoor
