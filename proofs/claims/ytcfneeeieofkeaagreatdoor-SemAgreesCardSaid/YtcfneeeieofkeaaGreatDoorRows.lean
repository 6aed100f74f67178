/-
  NARROWER THAN 'FOR EVERY INPUT', by the rows' own cells (each row's printed sentence says how): SemOperates: laid · SemAgrees: laid.
  DERIVED. THE GIVEN ROWS OF THIS SEAT. 2 by the template 'for every input the law returns true; each argument reads behind the call as it read before'; 0 by the template 'total and deterministic' (their statements: YtcfneeeieofkeaaGreatDoorTotals.lean).
  GIVEN WITH THE SEED: the statements are not yours to turn. If you find one false, say at which input.
  Laid BY PROGRAM, IN A SANDBOX (cutbox-rows.mjs): the forced cells as the released guide's own fill.sh prints them over the translation f5f06bf2ae8db4cd… (all of the seat's roots in one cut). By AI agents, Wed Nov 11 2026. No macro, syntax, notation, axiom, sorry.
-/
import Derived.Test.YtcfneeeieofkeaaGreatDoorChecked
import GoSem.Claim
import GoSem.ClaimJoined
import GoSem.ClaimMapViews
import Derived.JoinedTies
import Derived.KernelRfl
namespace Go.Proofs.YtcfneeeieofkeaaGreatDoor
/- THE CELL 'sum', in the pinned program and in every row, IS THE sha256 OF THE DUMP (.gsa) THAT YtcfneeeieofkeaaGreatDoorProg.lean LOADS. Nothing in Lean hashes anything: it is a label: what it is worth is what the hold of that sum in a sandbox is worth. -/
noncomputable def Tryz.pinned : Pinned := { name := "ytcfneeeieofkeaagreatdoor", sum := "f5f06bf2ae8db4cd675c6a1fb4e0768c1440f795e193b4857cbd939c5c67ca51", checked := Tryz.checked }
namespace Rows
def none {H : Type} : Left H := { results := [], args := [] }

/- WHAT THE LISTED PACKAGE-LEVEL VARIABLES READ AS WHEN THE CALL BEGINS. Each datum BY PROGRAM (the guide's laid-datum.mjs) off the statement by which the dump's own 'gosem.cut.vars' lays the variable. In a bare row this is a premise. The card (YtcfneeeieofkeaaGreatDoorCards.lean) ties it to the program's text. -/
def laid_cupel_syntax_exprShapes {H : Type} : DataW H := .agg [.agg [.lit (.int .i64 0), .lit (.bool false), .lit (.int .i64 0), .lit (.int .i64 0), .lit (.int .i64 0)], .agg [.lit (.int .i64 9223372036854775807), .lit (.bool false), .lit (.int .i64 0), .lit (.int .i64 0), .lit (.int .i64 0)], .agg [.lit (.int .i64 255), .lit (.bool false), .lit (.int .i64 0), .lit (.int .i64 0), .lit (.int .i64 0)], .agg [.lit (.int .i64 1), .lit (.bool false), .lit (.int .i64 0), .lit (.int .i64 0), .lit (.int .i64 0)], .agg [.lit (.int .i64 0), .lit (.bool true), .lit (.int .i64 0), .lit (.int .i64 0), .lit (.int .i64 0)], .agg [.lit (.int .i64 0), .lit (.bool true), .lit (.int .i64 0), .lit (.int .i64 1), .lit (.int .i64 1)], .agg [.lit (.int .i64 0), .lit (.bool true), .lit (.int .i64 0), .lit (.int .i64 0), .lit (.int .i64 4)], .agg [.lit (.int .i64 0), .lit (.bool false), .lit (.int .i64 3), .lit (.int .i64 1), .lit (.int .i64 1)], .agg [.lit (.int .i64 0), .lit (.bool false), .lit (.int .i64 18), .lit (.int .i64 2), .lit (.int .i64 2)], .agg [.lit (.int .i64 0), .lit (.bool false), .lit (.int .i64 0), .lit (.int .i64 1), .lit (.int .i64 1)], .agg [.lit (.int .i64 0), .lit (.bool false), .lit (.int .i64 0), .lit (.int .i64 1), .lit (.int .i64 1)]]
def laid_cupel_syntax_stmtShapes {H : Type} : DataW H := .agg [.agg [.lit (.bool false), .lit (.bool false), .lit (.bool false), .lit (.int .i64 0), .lit (.int .i64 0), .lit (.bool false), .lit (.bool false)], .agg [.lit (.bool true), .lit (.bool true), .lit (.bool false), .lit (.int .i64 0), .lit (.int .i64 1), .lit (.bool false), .lit (.bool false)], .agg [.lit (.bool true), .lit (.bool false), .lit (.bool false), .lit (.int .i64 1), .lit (.int .i64 1), .lit (.bool false), .lit (.bool false)], .agg [.lit (.bool true), .lit (.bool false), .lit (.bool false), .lit (.int .i64 2), .lit (.int .i64 2), .lit (.bool false), .lit (.bool false)], .agg [.lit (.bool false), .lit (.bool false), .lit (.bool false), .lit (.int .i64 1), .lit (.int .i64 1), .lit (.bool false), .lit (.bool false)], .agg [.lit (.bool false), .lit (.bool false), .lit (.bool false), .lit (.int .i64 1), .lit (.int .i64 1), .lit (.bool false), .lit (.bool false)], .agg [.lit (.bool false), .lit (.bool false), .lit (.bool false), .lit (.int .i64 0), .lit (.int .i64 0), .lit (.bool false), .lit (.bool false)], .agg [.lit (.bool false), .lit (.bool false), .lit (.bool false), .lit (.int .i64 1), .lit (.int .i64 1), .lit (.bool true), .lit (.bool true)], .agg [.lit (.bool false), .lit (.bool false), .lit (.bool true), .lit (.int .i64 1), .lit (.int .i64 1), .lit (.bool true), .lit (.bool false)], .agg [.lit (.bool true), .lit (.bool false), .lit (.bool false), .lit (.int .i64 2), .lit (.int .i64 2), .lit (.bool true), .lit (.bool false)], .agg [.lit (.bool false), .lit (.bool false), .lit (.bool false), .lit (.int .i64 0), .lit (.int .i64 0), .lit (.bool false), .lit (.bool false)], .agg [.lit (.bool false), .lit (.bool false), .lit (.bool false), .lit (.int .i64 0), .lit (.int .i64 0), .lit (.bool false), .lit (.bool false)], .agg [.lit (.bool false), .lit (.bool false), .lit (.bool false), .lit (.int .i64 0), .lit (.int .i64 1), .lit (.bool false), .lit (.bool false)]]

/-- 'cupellaw03.SemOperates': WHATEVER THE INPUT: true; the input reads as it did. -/
def semOperatesSpec : ChangeSpec := { name := "semOperates", fn := fun _ => fun
  | [d] => { results := [.lit (.bool true)], args := [d] }
  | _ => none }
def semOperatesRow : OpenClaim := { program := "ytcfneeeieofkeaagreatdoor", sum := "f5f06bf2ae8db4cd675c6a1fb4e0768c1440f795e193b4857cbd939c5c67ca51", func := "cupel/cupellaw03.SemOperates", spec := "semOperates", unfollowed := true, recurses := true, named := ["cupel/syntax.stmtShapes", "cupel/syntax.exprShapes"], apart := false, laid := [("cupel/syntax.exprShapes", laid_cupel_syntax_exprShapes), ("cupel/syntax.stmtShapes", laid_cupel_syntax_stmtShapes)] }
def SemOperatesSaid : Prop := semOperatesRow.holds Tryz.pinned (OpenSpec.ofChange semOperatesSpec)

/-- ITS FALSE NEIGHBOUR: 'it returns false'. Refute it at one input. -/
def semOperatesWrong : ChangeSpec := { name := "semOperates", fn := fun _ => fun
  | [d] => { results := [.lit (.bool false)], args := [d] }
  | _ => none }
def SemOperatesWrongFalsely : Prop := semOperatesRow.holds Tryz.pinned (OpenSpec.ofChange semOperatesWrong)

/-- 'cupellaw03.SemAgrees': WHATEVER THE INPUT: true; the input reads as it did. -/
def semAgreesSpec : ChangeSpec := { name := "semAgrees", fn := fun _ => fun
  | [d1, d2] => { results := [.lit (.bool true)], args := [d1, d2] }
  | _ => none }
def semAgreesRow : OpenClaim := { program := "ytcfneeeieofkeaagreatdoor", sum := "f5f06bf2ae8db4cd675c6a1fb4e0768c1440f795e193b4857cbd939c5c67ca51", func := "cupel/cupellaw03.SemAgrees", spec := "semAgrees", unfollowed := true, recurses := true, named := ["cupel/syntax.stmtShapes", "cupel/syntax.exprShapes"], apart := false, laid := [("cupel/syntax.exprShapes", laid_cupel_syntax_exprShapes), ("cupel/syntax.stmtShapes", laid_cupel_syntax_stmtShapes)] }
def SemAgreesSaid : Prop := semAgreesRow.holds Tryz.pinned (OpenSpec.ofChange semAgreesSpec)

/-- ITS FALSE NEIGHBOUR: 'it returns false'. Refute it at one input. -/
def semAgreesWrong : ChangeSpec := { name := "semAgrees", fn := fun _ => fun
  | [d1, d2] => { results := [.lit (.bool false)], args := [d1, d2] }
  | _ => none }
def SemAgreesWrongFalsely : Prop := semAgreesRow.holds Tryz.pinned (OpenSpec.ofChange semAgreesWrong)

/- THE SECOND FORM. 'bulk': how many values and letters a reading holds, each counted each time it is reached (what is shared counts as often as it is met; a slice's spare places count too). A statement '..UptoSaid' is the law's where the arguments, and the package variables that the reading takes, are together of bulk at most 1048576: NARROWER than '..Said'. Prove '..Said' where nothing that the law and all that it calls make is longer than what came in: it says more and counts as full. Else prove '..UptoSaid'. A law counts once. -/
mutual
def uptoBulk {H : Type} : DataW H → Nat
  | .lit (.string bytes) => bytes.length + 1
  | .lit _ => 1
  | .nil => 1
  | .ptr d => uptoBulk d + 1
  | .slice elems spare => uptoBulkAll elems + uptoBulkAll spare + 1
  | .agg parts => uptoBulkAll parts + 1
  | .iface _ d => uptoBulk d + 1
  | .map entries => uptoBulkEntries entries + 1
  | .held _ => 1
def uptoBulkAll {H : Type} : List (DataW H) → Nat
  | [] => 0
  | d :: r => uptoBulk d + uptoBulkAll r
def uptoBulkEntries {H : Type} : List (Lit × DataW H) → Nat
  | [] => 0
  | x :: r => uptoBulkEntry x + uptoBulkEntries r
def uptoBulkEntry {H : Type} : Lit × DataW H → Nat
  | (.string bytes, d) => bytes.length + uptoBulk d + 1
  | (_, d) => uptoBulk d + 1
 end
def uptoSmall : (H : Type) → List (DataW H) → Bool := fun _ ds => decide (uptoBulkAll ds ≤ 1048576)
def OpenSpec.upto (s : _root_.Go.ChangeSpec) : _root_.Go.OpenSpec := { _root_.Go.OpenSpec.ofChange s with cond := some uptoSmall }

/-- 'cupellaw03.SemOperates', WHERE WHAT IT READS IS OF BULK AT MOST 1048576: true; the input reads as it did. -/
def semOperatesUptoRow : OpenClaim := { program := "ytcfneeeieofkeaagreatdoor", sum := "f5f06bf2ae8db4cd675c6a1fb4e0768c1440f795e193b4857cbd939c5c67ca51", func := "cupel/cupellaw03.SemOperates", spec := "semOperates", unfollowed := true, recurses := true, named := ["cupel/syntax.stmtShapes", "cupel/syntax.exprShapes"], apart := false, laid := [("cupel/syntax.exprShapes", laid_cupel_syntax_exprShapes), ("cupel/syntax.stmtShapes", laid_cupel_syntax_stmtShapes)], narrowed := true }
def SemOperatesUptoSaid : Prop := semOperatesUptoRow.holds Tryz.pinned (OpenSpec.upto semOperatesSpec)

/-- 'cupellaw03.SemAgrees', WHERE WHAT IT READS IS OF BULK AT MOST 1048576: true; the input reads as it did. -/
def semAgreesUptoRow : OpenClaim := { program := "ytcfneeeieofkeaagreatdoor", sum := "f5f06bf2ae8db4cd675c6a1fb4e0768c1440f795e193b4857cbd939c5c67ca51", func := "cupel/cupellaw03.SemAgrees", spec := "semAgrees", unfollowed := true, recurses := true, named := ["cupel/syntax.stmtShapes", "cupel/syntax.exprShapes"], apart := false, laid := [("cupel/syntax.exprShapes", laid_cupel_syntax_exprShapes), ("cupel/syntax.stmtShapes", laid_cupel_syntax_stmtShapes)], narrowed := true }
def SemAgreesUptoSaid : Prop := semAgreesUptoRow.holds Tryz.pinned (OpenSpec.upto semAgreesSpec)

end Rows
end Go.Proofs.YtcfneeeieofkeaaGreatDoor
