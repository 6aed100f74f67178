/- A part of the proof of TacG. -/
import Derived.Test.YtbkojaiecgdodaaDoorRows
import Derived.Test.YtbkojaiecgdodaaDoorTaM
import Derived.MapViews
import Derived.DeepKeys2
import Derived.FnData
import Derived.LaidLaws
set_option linter.unusedVariables false
set_option linter.unusedSimpArgs false
set_option maxRecDepth 100000
namespace Go.Proofs.YtbkojaiecgdodaaDoor
open Go Go.Ev Go.RowKit
theorem cells_laid {W : World} {g t : Nat} {name : String} {cs : Array Value} {fuel : Nat} {d : DataW Unit} {p : List MemPlace} (hg : Tryd.prog.globalNamed name = some g) (hk : Tryd.prog.keyTypeAt 5 t = true) (ht : Tryd.prog.tiled 5 t = true) (hvar : W.var? Tryd.prog name = some cs)
    (hd : DataW.trod (fun _ => ()) Tryd.prog W 0 (fun _ => true) false fuel t cs.toList = some (d, p)) : ∀ (o : Nat) (u : Value), (d.flat.map Lit.toCell)[o]? = some u → W.cell? ⟨g, o, none⟩ = some u := by
  obtain ⟨h1, _⟩ := keyLits_of_trod 5 t hk _ _ _ hd
  have h2 := cells_of_lits 5 t ht 5 cs.toList _ h1
  intro o u hu
  rw [World.var?_cell hg hvar o]
  have h2 : cs.toList = d.flat.map Lit.toCell := h2
  rw [← h2] at hu
  simpa using hu
theorem err_laid {W : World} {g t : Nat} {ms : Array (String × TypeId)} {name nm : String} {cs : Array Value} {fuel : Nat} {d : DataW Unit} {p : List MemPlace} (hg : Tryd.prog.globalNamed name = some g) (ht : Tryd.prog.underlying t = some (.interface ms)) (hvar : W.var? Tryd.prog name = some cs)
    (hd : DataW.trod (fun _ => ()) Tryd.prog W 0 (fun _ => true) false fuel t cs.toList = some (.iface nm d, p)) : ∃ u, W.cell? ⟨g, 0, none⟩ = some u ∧ scal1 u = true := by
  obtain ⟨f', u, v, e, _⟩ := iface_of_trod ht hd
  refine ⟨.iface u v, ?_, rfl⟩
  rw [World.var?_cell hg hvar 0]
  have : cs[0]? = cs.toList[0]? := by simp
  rw [this, e]; rfl
theorem g0_eq : (DataW.flat (H := Unit) Rows.laid_cupel_target_operations).map Lit.toCell = g0 := by rfl
theorem key0 : Tryd.prog.keyTypeAt 5 93 = true := by kernel_rfl
theorem til0 : Tryd.prog.tiled 5 93 = true := by kernel_rfl
theorem g1_eq : (DataW.flat (H := Unit) Rows.laid_internal_strconv_uint64pow10).map Lit.toCell = g1 := by rfl
theorem key1 : Tryd.prog.keyTypeAt 5 124 = true := by kernel_rfl
theorem til1 : Tryd.prog.tiled 5 124 = true := by kernel_rfl
theorem g2_eq : (DataW.flat (H := Unit) Rows.laid_cupel_texts_operations).map Lit.toCell = g2 := by rfl
theorem key2 : Tryd.prog.keyTypeAt 5 128 = true := by kernel_rfl
theorem til2 : Tryd.prog.tiled 5 128 = true := by kernel_rfl
theorem g3_eq : (DataW.flat (H := Unit) Rows.laid_math_bits_deBruijn32tab).map Lit.toCell = g3 := by rfl
theorem key3 : Tryd.prog.keyTypeAt 5 141 = true := by kernel_rfl
theorem til3 : Tryd.prog.tiled 5 141 = true := by kernel_rfl
theorem g4_eq : (DataW.flat (H := Unit) Rows.laid_math_bits_deBruijn64tab).map Lit.toCell = g4 := by rfl
theorem key4 : Tryd.prog.keyTypeAt 5 142 = true := by kernel_rfl
theorem til4 : Tryd.prog.tiled 5 142 = true := by kernel_rfl
theorem gn0 : Tryd.prog.globalNamed "cupel/target.operations" = some 0 := by kernel_rfl
theorem gt0 : (Tryd.prog.globals[0]?).map (·.type) = some 93 := by kernel_rfl
theorem gn1 : Tryd.prog.globalNamed "internal/strconv.uint64pow10" = some 1 := by kernel_rfl
theorem gt1 : (Tryd.prog.globals[1]?).map (·.type) = some 124 := by kernel_rfl
theorem gn2 : Tryd.prog.globalNamed "cupel/texts.operations" = some 2 := by kernel_rfl
theorem gt2 : (Tryd.prog.globals[2]?).map (·.type) = some 128 := by kernel_rfl
theorem gn3 : Tryd.prog.globalNamed "math/bits.deBruijn32tab" = some 3 := by kernel_rfl
theorem gt3 : (Tryd.prog.globals[3]?).map (·.type) = some 141 := by kernel_rfl
theorem gn4 : Tryd.prog.globalNamed "math/bits.deBruijn64tab" = some 4 := by kernel_rfl
theorem gt4 : (Tryd.prog.globals[4]?).map (·.type) = some 142 := by kernel_rfl
theorem gn6 : Tryd.prog.globalNamed "strconv.ErrSyntax" = some 6 := by kernel_rfl
theorem gt6 : (Tryd.prog.globals[6]?).map (·.type) = some 131 := by kernel_rfl
theorem gn7 : Tryd.prog.globalNamed "strconv.ErrRange" = some 7 := by kernel_rfl
theorem gt7 : (Tryd.prog.globals[7]?).map (·.type) = some 131 := by kernel_rfl
theorem laid_of {W : World} (h : laidMet Tryd.prog [("math/bits.deBruijn32tab", Rows.laid_math_bits_deBruijn32tab), ("math/bits.deBruijn64tab", Rows.laid_math_bits_deBruijn64tab), ("internal/strconv.uint64pow10", Rows.laid_internal_strconv_uint64pow10), ("strconv.ErrRange", Rows.laid_strconv_ErrRange), ("strconv.ErrSyntax", Rows.laid_strconv_ErrSyntax), ("cupel/texts.operations", Rows.laid_cupel_texts_operations), ("cupel/target.operations", Rows.laid_cupel_target_operations)] W) : Laid W := by
  obtain ⟨ps, ⟨a3, t3, cs3, f3, p3, q3, hg3, ht3, hv3, hd3, ⟨a4, t4, cs4, f4, p4, q4, hg4, ht4, hv4, hd4, ⟨a1, t1, cs1, f1, p1, q1, hg1, ht1, hv1, hd1, ⟨a7, t7, cs7, f7, p7, q7, hg7, ht7, hv7, hd7, ⟨a6, t6, cs6, f6, p6, q6, hg6, ht6, hv6, hd6, ⟨a2, t2, cs2, f2, p2, q2, hg2, ht2, hv2, hd2, ⟨a0, t0, cs0, f0, p0, q0, hg0, ht0, hv0, hd0, _, _⟩, _⟩, _⟩, _⟩, _⟩, _⟩, _⟩, _⟩ := h
  obtain rfl := Option.some.inj (gn0.symm.trans hg0)
  obtain rfl := Option.some.inj (gt0.symm.trans ht0)
  obtain rfl := Option.some.inj (gn1.symm.trans hg1)
  obtain rfl := Option.some.inj (gt1.symm.trans ht1)
  obtain rfl := Option.some.inj (gn2.symm.trans hg2)
  obtain rfl := Option.some.inj (gt2.symm.trans ht2)
  obtain rfl := Option.some.inj (gn3.symm.trans hg3)
  obtain rfl := Option.some.inj (gt3.symm.trans ht3)
  obtain rfl := Option.some.inj (gn4.symm.trans hg4)
  obtain rfl := Option.some.inj (gt4.symm.trans ht4)
  obtain rfl := Option.some.inj (gn6.symm.trans hg6)
  obtain rfl := Option.some.inj (gt6.symm.trans ht6)
  obtain rfl := Option.some.inj (gn7.symm.trans hg7)
  obtain rfl := Option.some.inj (gt7.symm.trans ht7)
  have r0 := cells_laid gn0 key0 til0 hv0 hd0
  rw [g0_eq] at r0
  have r1 := cells_laid gn1 key1 til1 hv1 hd1
  rw [g1_eq] at r1
  have r2 := cells_laid gn2 key2 til2 hv2 hd2
  rw [g2_eq] at r2
  have r3 := cells_laid gn3 key3 til3 hv3 hd3
  rw [g3_eq] at r3
  have r4 := cells_laid gn4 key4 til4 hv4 hd4
  rw [g4_eq] at r4
  have hz : 8 ≤ W.heap.size := by
    obtain ⟨u, hu, _⟩ := err_laid gn7 Tryd.underlying131 hv7 hd7
    exact World.block_lt_of_cell? W _ hu
  exact ⟨hz, r0, r1, r2, r3, r4, err_laid gn6 Tryd.underlying131 hv6 hd6, err_laid gn7 Tryd.underlying131 hv7 hd7⟩
end Go.Proofs.YtbkojaiecgdodaaDoor
