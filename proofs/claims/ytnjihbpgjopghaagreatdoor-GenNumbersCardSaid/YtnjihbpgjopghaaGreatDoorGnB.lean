/- The tables that the row lists, as cells of the world. -/
import Derived.Test.YtnjihbpgjopghaaGreatDoorRows
import Derived.Test.YtnjihbpgjopghaaGreatDoorGnM
import Derived.MapViews
import Derived.DeepKeys2
import Derived.FnData
set_option linter.unusedVariables false
set_option linter.unusedSimpArgs false
namespace Go.Proofs.YtnjihbpgjopghaaGreatDoor
open Go.Ev Go.RowKit

theorem cells_laid {W : World} {g t : Nat} {name : String} {cs : Array Value} {fuel : Nat} {d : DataW Unit} {p : List MemPlace} (hg : Tryz.prog.globalNamed name = some g) (hk : Tryz.prog.keyTypeAt 5 t = true) (ht : Tryz.prog.tiled 5 t = true) (hvar : W.var? Tryz.prog name = some cs)
    (hd : DataW.trod (fun _ => ()) Tryz.prog W 0 (fun _ => true) false fuel t cs.toList = some (d, p)) : ∀ (o : Nat) (u : Value), (d.flat.map Lit.toCell)[o]? = some u → W.cell? ⟨g, o, none⟩ = some u := by
  obtain ⟨h1, _⟩ := keyLits_of_trod 5 t hk _ _ _ hd
  have h2 := cells_of_lits 5 t ht 5 cs.toList _ h1
  intro o u hu
  rw [World.var?_cell hg hvar o]
  have h2 : cs.toList = d.flat.map Lit.toCell := h2
  rw [← h2] at hu
  simpa using hu

theorem g0_eq : (DataW.flat (H := Unit) Rows.laid_cupel_syntax_stmtShapes).map Lit.toCell = g0 := by rfl
theorem g1_eq : (DataW.flat (H := Unit) Rows.laid_cupel_syntax_exprShapes).map Lit.toCell = g1 := by rfl
theorem gn0 : Tryz.prog.globalNamed "cupel/syntax.stmtShapes" = some 0 := by kernel_rfl
theorem gn1 : Tryz.prog.globalNamed "cupel/syntax.exprShapes" = some 1 := by kernel_rfl
theorem gt0 : (Tryz.prog.globals[0]?).map (·.type) = some 294 := by kernel_rfl
theorem gt1 : (Tryz.prog.globals[1]?).map (·.type) = some 368 := by kernel_rfl
theorem key0 : Tryz.prog.keyTypeAt 5 294 = true := by kernel_rfl
theorem key1 : Tryz.prog.keyTypeAt 5 368 = true := by kernel_rfl
theorem til0 : Tryz.prog.tiled 5 294 = true := by kernel_rfl
theorem til1 : Tryz.prog.tiled 5 368 = true := by kernel_rfl

theorem laid_of {W : World} (h : laidMetH Tryz.prog Rows.genNumbersRow.laid W) : Laid W := by
  have h' : laidMet Tryz.prog [("cupel/syntax.exprShapes", Rows.laid_cupel_syntax_exprShapes), ("cupel/syntax.stmtShapes", Rows.laid_cupel_syntax_stmtShapes)] W := h
  obtain ⟨ps, ⟨a, t, cs, fuel, p, q, hg, ht, hvar, hd, ⟨a2, t2, cs2, fuel2, p2, q2, hg2, ht2, hvar2, hd2, _, _⟩, _⟩, _⟩ := h'
  obtain rfl := Option.some.inj (gn1.symm.trans hg)
  obtain rfl := Option.some.inj (gt1.symm.trans ht)
  obtain rfl := Option.some.inj (gn0.symm.trans hg2)
  obtain rfl := Option.some.inj (gt0.symm.trans ht2)
  have r1 := cells_laid gn1 key1 til1 hvar hd
  have r2 := cells_laid gn0 key0 til0 hvar2 hd2
  rw [g1_eq] at r1
  rw [g0_eq] at r2
  exact ⟨r2, r1⟩
end Go.Proofs.YtnjihbpgjopghaaGreatDoor
