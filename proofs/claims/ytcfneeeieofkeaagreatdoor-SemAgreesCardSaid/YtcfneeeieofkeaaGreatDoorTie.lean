/-
  DERIVED. GIVEN WITH THE SEED: THE PROGRAM's TIES (one call each: nine closed facts by the kernel) AND EACH ROW's TIE, after the 31st guide's Derived/Test/Toyas{Tie, Card}.lean. No idea stands in it: it is a product of the set-up. Laid BY PROGRAM, IN A SANDBOX (cutbox-door.mjs). By AI agents, Wed Nov 11 2026. No macro, syntax, notation, axiom, sorry.
-/
import Derived.Test.YtcfneeeieofkeaaGreatDoorRows
import Derived.LaidByTextLater
import Derived.SevenTiedAt
import Derived.LaidSub
import Derived.LaidOnce
namespace Go.Proofs.YtcfneeeieofkeaaGreatDoor
open Go
set_option maxRecDepth 100000
theorem seatTie1 : Tryz.prog.laidByTextLater [("cupel/syntax.exprShapes", Rows.laid_cupel_syntax_exprShapes), ("cupel/syntax.stmtShapes", Rows.laid_cupel_syntax_stmtShapes)] [.data, .data] true :=
  Program.laidByTextLater_by_one 41 8 92 (by kernel_rfl) (by kernel_rfl) (by kernel_rfl) (by kernel_rfl) (by kernel_rfl) (by kernel_rfl) (fun _ _ => by kernel_rfl)
theorem noOwnUnsafe : Tryz.pinned.checked.prog.headLifts.contains "ownunsafe" = false := by kernel_rfl
theorem tie : Tryz.prog.laidByTextLater [("cupel/syntax.exprShapes", Rows.laid_cupel_syntax_exprShapes), ("cupel/syntax.stmtShapes", Rows.laid_cupel_syntax_stmtShapes)] [.data, .data] true :=
  Program.laidByTextLater.sub seatTie1 ["cupel/syntax.exprShapes", "cupel/syntax.stmtShapes"] (by kernel_rfl) (by kernel_rfl)
theorem semOperates_row_tie : Rows.semOperatesRow.laidByTextAt .later Tryz.pinned [.data, .data] true :=
  OpenClaim.laidByTextAt_later rfl rfl tie noOwnUnsafe
theorem semAgrees_row_tie : Rows.semAgreesRow.laidByTextAt .later Tryz.pinned [.data, .data] true :=
  OpenClaim.laidByTextAt_later rfl rfl tie noOwnUnsafe
theorem semOperatesUpto_row_tie : Rows.semOperatesUptoRow.laidByTextAt .later Tryz.pinned [.data, .data] true :=
  OpenClaim.laidByTextAt_later rfl rfl tie noOwnUnsafe
theorem semAgreesUpto_row_tie : Rows.semAgreesUptoRow.laidByTextAt .later Tryz.pinned [.data, .data] true :=
  OpenClaim.laidByTextAt_later rfl rfl tie noOwnUnsafe
end Go.Proofs.YtcfneeeieofkeaaGreatDoor
