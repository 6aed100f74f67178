/- A part of the proof of PipaG. -/
import Derived.Test.YtmmialoeghjckaaGreatDoorRows
import Derived.Test.YtmmialoeghjckaaGreatDoorPipM
import Derived.MapViews
import Derived.DeepKeys2
import Derived.FnData
import Derived.LaidLaws
set_option linter.unusedVariables false
set_option linter.unusedSimpArgs false
set_option maxRecDepth 100000
namespace Go.Proofs.YtmmialoeghjckaaGreatDoor
open Go Go.Ev Go.RowKit
theorem cells_laid {W : World} {g t : Nat} {name : String} {cs : Array Value} {fuel : Nat} {d : DataW Unit} {p : List MemPlace} (hg : Tryz.prog.globalNamed name = some g) (hk : Tryz.prog.keyTypeAt 5 t = true) (ht : Tryz.prog.tiled 5 t = true) (hvar : W.var? Tryz.prog name = some cs)
    (hd : DataW.trod (fun _ => ()) Tryz.prog W 0 (fun _ => true) false fuel t cs.toList = some (d, p)) : ∀ (o : Nat) (u : Value), (d.flat.map Lit.toCell)[o]? = some u → W.cell? ⟨g, o, none⟩ = some u := by
  obtain ⟨h1, _⟩ := keyLits_of_trod 5 t hk _ _ _ hd
  have h2 := cells_of_lits 5 t ht 5 cs.toList _ h1
  intro o u hu
  rw [World.var?_cell hg hvar o]
  have h2 : cs.toList = d.flat.map Lit.toCell := h2
  rw [← h2] at hu
  simpa using hu
theorem err_laid {W : World} {g t : Nat} {ms : Array (String × TypeId)} {name nm : String} {cs : Array Value} {fuel : Nat} {d : DataW Unit} {p : List MemPlace} (hg : Tryz.prog.globalNamed name = some g) (ht : Tryz.prog.underlying t = some (.interface ms)) (hvar : W.var? Tryz.prog name = some cs)
    (hd : DataW.trod (fun _ => ()) Tryz.prog W 0 (fun _ => true) false fuel t cs.toList = some (.iface nm d, p)) : ∃ u, W.cell? ⟨g, 0, none⟩ = some u ∧ scal1 u = true := by
  obtain ⟨f', u, v, e, _⟩ := iface_of_trod ht hd
  refine ⟨.iface u v, ?_, rfl⟩
  rw [World.var?_cell hg hvar 0]
  have : cs[0]? = cs.toList[0]? := by simp
  rw [this, e]; rfl
theorem g0_eq : (DataW.flat (H := Unit) Rows.laid_cupel_ir_shapes).map Lit.toCell = g0 := by rfl
theorem key0 : Tryz.prog.keyTypeAt 5 259 = true := by kernel_rfl
theorem til0 : Tryz.prog.tiled 5 259 = true := by kernel_rfl
theorem g1_eq : (DataW.flat (H := Unit) Rows.laid_math_bits_deBruijn64tab).map Lit.toCell = g1 := by rfl
theorem key1 : Tryz.prog.keyTypeAt 5 536 = true := by kernel_rfl
theorem til1 : Tryz.prog.tiled 5 536 = true := by kernel_rfl
theorem gn0 : Tryz.prog.globalNamed "cupel/ir.shapes" = some 0 := by kernel_rfl
theorem gt0 : (Tryz.prog.globals[0]?).map (·.type) = some 259 := by kernel_rfl
theorem gn1 : Tryz.prog.globalNamed "math/bits.deBruijn64tab" = some 1 := by kernel_rfl
theorem gt1 : (Tryz.prog.globals[1]?).map (·.type) = some 536 := by kernel_rfl
theorem laid_of {W : World} (h : laidMet Tryz.prog [("math/bits.deBruijn64tab", Rows.laid_math_bits_deBruijn64tab), ("cupel/ir.shapes", Rows.laid_cupel_ir_shapes)] W) : Laid W := by
  obtain ⟨ps, ⟨a1, t1, cs1, f1, p1, q1, hg1, ht1, hv1, hd1, ⟨a0, t0, cs0, f0, p0, q0, hg0, ht0, hv0, hd0, _, _⟩, _⟩, _⟩ := h
  obtain rfl := Option.some.inj (gn0.symm.trans hg0)
  obtain rfl := Option.some.inj (gt0.symm.trans ht0)
  obtain rfl := Option.some.inj (gn1.symm.trans hg1)
  obtain rfl := Option.some.inj (gt1.symm.trans ht1)
  have r0 := cells_laid gn0 key0 til0 hv0 hd0
  rw [g0_eq] at r0
  have r1 := cells_laid gn1 key1 til1 hv1 hd1
  rw [g1_eq] at r1
  have hz : 2 ≤ W.heap.size := World.block_lt_of_cell? W _ (r1 0 _ rfl)
  exact ⟨hz, r0, r1⟩
end Go.Proofs.YtmmialoeghjckaaGreatDoor
