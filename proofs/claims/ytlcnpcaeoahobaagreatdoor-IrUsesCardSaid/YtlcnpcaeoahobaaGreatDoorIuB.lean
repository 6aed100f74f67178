/- The listed variables of the row hold the tables that the runs read. -/
import Derived.Test.YtlcnpcaeoahobaaGreatDoorRows
import Derived.Test.YtlcnpcaeoahobaaGreatDoorIuM
import Derived.MapViews
import Derived.DeepKeys2
import Derived.FnData
import Derived.LaidLaws
set_option linter.unusedVariables false
set_option linter.unusedSimpArgs false
set_option maxRecDepth 100000
namespace Go.Proofs.YtlcnpcaeoahobaaGreatDoor
open Go.Ev Go.RowKit

theorem cells_laid {W : World} {g t : Nat} {name : String} {cs : Array Value} {fuel : Nat} {d : DataW Unit} {p : List MemPlace} (hg : Tryz.prog.globalNamed name = some g) (hk : Tryz.prog.keyTypeAt 5 t = true) (ht : Tryz.prog.tiled 5 t = true) (hvar : W.var? Tryz.prog name = some cs)
    (hd : DataW.trod (fun _ => ()) Tryz.prog W 0 (fun _ => true) false fuel t cs.toList = some (d, p)) : ∀ (o : Nat) (u : Value), (d.flat.map Lit.toCell)[o]? = some u → W.cell? ⟨g, o, none⟩ = some u := by
  obtain ⟨h1, _⟩ := keyLits_of_trod 5 t hk _ _ _ hd
  have h2 := cells_of_lits 5 t ht 5 cs.toList _ h1
  intro o u hu
  rw [World.var?_cell hg hvar o]
  have h2 : cs.toList = d.flat.map Lit.toCell := h2
  rw [← h2] at hu
  simpa using hu
/-- a variable that holds an error -/
theorem err_laid {W : World} {g t : Nat} {ms : Array (String × TypeId)} {name nm : String} {cs : Array Value} {fuel : Nat} {d : DataW Unit} {p : List MemPlace} (hg : Tryz.prog.globalNamed name = some g) (ht : Tryz.prog.underlying t = some (.interface ms)) (hvar : W.var? Tryz.prog name = some cs)
    (hd : DataW.trod (fun _ => ()) Tryz.prog W 0 (fun _ => true) false fuel t cs.toList = some (.iface nm d, p)) : ∃ u, W.cell? ⟨g, 0, none⟩ = some u ∧ scal1 u = true := by
  obtain ⟨f', u, v, e, _⟩ := iface_of_trod ht hd
  refine ⟨.iface u v, ?_, rfl⟩
  rw [World.var?_cell hg hvar 0]
  have : cs[0]? = cs.toList[0]? := by simp
  rw [this, e]; rfl

theorem g0_eq : (DataW.flat (H := Unit) Rows.laid_cupel_ir_shapes).map Lit.toCell = g0 := by rfl
theorem g1_eq : (DataW.flat (H := Unit) Rows.laid_cupel_ir_binaryWords).map Lit.toCell = g1 := by rfl
theorem g2_eq : (DataW.flat (H := Unit) Rows.laid_internal_strconv_uint64pow10).map Lit.toCell = g2 := by rfl
theorem gn0 : Tryz.prog.globalNamed "cupel/ir.shapes" = some 0 := by kernel_rfl
theorem gn1 : Tryz.prog.globalNamed "cupel/ir.binaryWords" = some 1 := by kernel_rfl
theorem gn2 : Tryz.prog.globalNamed "internal/strconv.uint64pow10" = some 2 := by kernel_rfl
theorem gn6 : Tryz.prog.globalNamed "strconv.ErrSyntax" = some 6 := by kernel_rfl
theorem gn7 : Tryz.prog.globalNamed "strconv.ErrRange" = some 7 := by kernel_rfl
theorem gt0 : (Tryz.prog.globals[0]?).map (·.type) = some 48 := by kernel_rfl
theorem gt1 : (Tryz.prog.globals[1]?).map (·.type) = some 127 := by kernel_rfl
theorem gt2 : (Tryz.prog.globals[2]?).map (·.type) = some 177 := by kernel_rfl
theorem gt6 : (Tryz.prog.globals[6]?).map (·.type) = some 166 := by kernel_rfl
theorem gt7 : (Tryz.prog.globals[7]?).map (·.type) = some 166 := by kernel_rfl
theorem key0 : Tryz.prog.keyTypeAt 5 48 = true := by kernel_rfl
theorem key1 : Tryz.prog.keyTypeAt 5 127 = true := by kernel_rfl
theorem key2 : Tryz.prog.keyTypeAt 5 177 = true := by kernel_rfl
theorem til0 : Tryz.prog.tiled 5 48 = true := by kernel_rfl
theorem til1 : Tryz.prog.tiled 5 127 = true := by kernel_rfl
theorem til2 : Tryz.prog.tiled 5 177 = true := by kernel_rfl

theorem laid_of {W : World} (h : laidMetH Tryz.prog Rows.irUsesRow.laid W) : Laid W := by
  have h' : laidMet Tryz.prog [("math/bits.deBruijn32tab", Rows.laid_math_bits_deBruijn32tab), ("math/bits.deBruijn64tab", Rows.laid_math_bits_deBruijn64tab), ("internal/strconv.uint64pow10", Rows.laid_internal_strconv_uint64pow10), ("strconv.ErrRange", Rows.laid_strconv_ErrRange), ("strconv.ErrSyntax", Rows.laid_strconv_ErrSyntax), ("cupel/ir.shapes", Rows.laid_cupel_ir_shapes), ("cupel/ir.binaryWords", Rows.laid_cupel_ir_binaryWords)] W := h
  obtain ⟨ps, ⟨_, _, _, _, _, _, _, _, _, _, ⟨_, _, _, _, _, _, _, _, _, _, ⟨a2, t2, cs2, f2, p2, q2, hg2, ht2, hv2, hd2, ⟨a7, t7, cs7, f7, p7, q7, hg7, ht7, hv7, hd7, ⟨a6, t6, cs6, f6, p6, q6, hg6, ht6, hv6, hd6, ⟨a0, t0, cs0, f0, p0, q0, hg0, ht0, hv0, hd0, ⟨a1, t1, cs1, f1, p1, q1, hg1, ht1, hv1, hd1, _, _⟩, _⟩, _⟩, _⟩, _⟩, _⟩, _⟩, _⟩ := h'
  obtain rfl := Option.some.inj (gn0.symm.trans hg0)
  obtain rfl := Option.some.inj (gt0.symm.trans ht0)
  obtain rfl := Option.some.inj (gn1.symm.trans hg1)
  obtain rfl := Option.some.inj (gt1.symm.trans ht1)
  obtain rfl := Option.some.inj (gn2.symm.trans hg2)
  obtain rfl := Option.some.inj (gt2.symm.trans ht2)
  obtain rfl := Option.some.inj (gn6.symm.trans hg6)
  obtain rfl := Option.some.inj (gt6.symm.trans ht6)
  obtain rfl := Option.some.inj (gn7.symm.trans hg7)
  obtain rfl := Option.some.inj (gt7.symm.trans ht7)
  have r0 := cells_laid gn0 key0 til0 hv0 hd0
  have r1 := cells_laid gn1 key1 til1 hv1 hd1
  have r2 := cells_laid gn2 key2 til2 hv2 hd2
  rw [g0_eq] at r0
  rw [g1_eq] at r1
  rw [g2_eq] at r2
  exact ⟨r0, r1, r2, err_laid gn6 Tryz.underlying166 hv6 hd6, err_laid gn7 Tryz.underlying166 hv7 hd7⟩
end Go.Proofs.YtlcnpcaeoahobaaGreatDoor
