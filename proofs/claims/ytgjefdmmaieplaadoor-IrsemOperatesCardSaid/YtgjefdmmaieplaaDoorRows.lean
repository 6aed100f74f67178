/-
  NARROWER THAN 'FOR EVERY INPUT', by the rows' own cells (each row's printed sentence says how): IrsemOperates: laid · IrsemAgrees: laid · IrsemTotals: laid.
  DERIVED. THE GIVEN ROWS OF THIS SEAT. 3 by the template 'for every input the law returns true; each argument reads behind the call as it read before'; 0 by the template 'total and deterministic' (their statements: YtgjefdmmaieplaaDoorTotals.lean).
  GIVEN WITH THE SEED: the statements are not yours to turn. If you find one false, say at which input.
  Laid BY PROGRAM, IN A SANDBOX (cutbox-rows.mjs): the forced cells as the released guide's own fill.sh prints them over the translation 1d42fde7ffdba5b2… (all of the seat's roots in one cut). By AI agents, Wed Nov 11 2026. No macro, syntax, notation, axiom, sorry.
-/
import Derived.Test.YtgjefdmmaieplaaDoorChecked
import GoSem.Claim
import GoSem.ClaimJoined
import GoSem.ClaimMapViews
import Derived.JoinedTies
import Derived.KernelRfl
namespace Go.Proofs.YtgjefdmmaieplaaDoor
/- THE CELL 'sum', in the pinned program and in every row, IS THE sha256 OF THE DUMP (.gsa) THAT YtgjefdmmaieplaaDoorProg.lean LOADS. Nothing in Lean hashes anything: it is a label: what it is worth is what the hold of that sum in a sandbox is worth. -/
noncomputable def Tryd.pinned : Pinned := { name := "ytgjefdmmaieplaadoor", sum := "1d42fde7ffdba5b2c42770074f7c092206c76eaed93bdd0ff07f71ba9a53dc08", checked := Tryd.checked }
namespace Rows
def none {H : Type} : Left H := { results := [], args := [] }

/- WHAT THE LISTED PACKAGE-LEVEL VARIABLES READ AS WHEN THE CALL BEGINS. Each datum BY PROGRAM (the guide's laid-datum.mjs) off the statement by which the dump's own 'gosem.cut.vars' lays the variable. In a bare row this is a premise. The card (YtgjefdmmaieplaaDoorCards.lean) ties it to the program's text. -/
def laid_cupel_ir_shapes {H : Type} : DataW H := .agg [.agg [.lit (.bool false), .lit (.bool false), .lit (.bool false), .lit (.bool false), .lit (.bool false), .lit (.bool false), .lit (.bool false), .lit (.bool false), .lit (.bool false)], .agg [.lit (.bool false), .lit (.bool true), .lit (.bool true), .lit (.bool false), .lit (.bool false), .lit (.bool false), .lit (.bool false), .lit (.bool false), .lit (.bool false)], .agg [.lit (.bool true), .lit (.bool true), .lit (.bool true), .lit (.bool true), .lit (.bool false), .lit (.bool false), .lit (.bool false), .lit (.bool false), .lit (.bool false)], .agg [.lit (.bool false), .lit (.bool false), .lit (.bool true), .lit (.bool true), .lit (.bool false), .lit (.bool false), .lit (.bool false), .lit (.bool false), .lit (.bool false)], .agg [.lit (.bool false), .lit (.bool true), .lit (.bool true), .lit (.bool false), .lit (.bool true), .lit (.bool false), .lit (.bool false), .lit (.bool false), .lit (.bool false)], .agg [.lit (.bool false), .lit (.bool false), .lit (.bool true), .lit (.bool true), .lit (.bool true), .lit (.bool false), .lit (.bool false), .lit (.bool false), .lit (.bool false)], .agg [.lit (.bool false), .lit (.bool true), .lit (.bool false), .lit (.bool false), .lit (.bool false), .lit (.bool true), .lit (.bool false), .lit (.bool false), .lit (.bool false)], .agg [.lit (.bool false), .lit (.bool false), .lit (.bool true), .lit (.bool false), .lit (.bool false), .lit (.bool true), .lit (.bool false), .lit (.bool false), .lit (.bool false)], .agg [.lit (.bool false), .lit (.bool false), .lit (.bool true), .lit (.bool false), .lit (.bool false), .lit (.bool false), .lit (.bool false), .lit (.bool false), .lit (.bool false)], .agg [.lit (.bool false), .lit (.bool true), .lit (.bool false), .lit (.bool false), .lit (.bool false), .lit (.bool false), .lit (.bool true), .lit (.bool true), .lit (.bool false)], .agg [.lit (.bool false), .lit (.bool true), .lit (.bool false), .lit (.bool false), .lit (.bool false), .lit (.bool false), .lit (.bool false), .lit (.bool true), .lit (.bool true)]]

/-- 'cupellaw10.IrsemOperates': WHATEVER THE INPUT: true; the input reads as it did. -/
def irsemOperatesSpec : ChangeSpec := { name := "irsemOperates", fn := fun _ => fun
  | [d1, d2, d3] => { results := [.lit (.bool true)], args := [d1, d2, d3] }
  | _ => none }
def irsemOperatesRow : OpenClaim := { program := "ytgjefdmmaieplaadoor", sum := "1d42fde7ffdba5b2c42770074f7c092206c76eaed93bdd0ff07f71ba9a53dc08", func := "cupel/cupellaw10.IrsemOperates", spec := "irsemOperates", unfollowed := true, recurses := true, named := ["cupel/ir.shapes"], apart := false, laid := [("cupel/ir.shapes", laid_cupel_ir_shapes)] }
def IrsemOperatesSaid : Prop := irsemOperatesRow.holds Tryd.pinned (OpenSpec.ofChange irsemOperatesSpec)

/-- ITS FALSE NEIGHBOUR: 'it returns false'. Refute it at one input. -/
def irsemOperatesWrong : ChangeSpec := { name := "irsemOperates", fn := fun _ => fun
  | [d1, d2, d3] => { results := [.lit (.bool false)], args := [d1, d2, d3] }
  | _ => none }
def IrsemOperatesWrongFalsely : Prop := irsemOperatesRow.holds Tryd.pinned (OpenSpec.ofChange irsemOperatesWrong)

/-- 'cupellaw10.IrsemAgrees': WHATEVER THE INPUT: true; the input reads as it did. -/
def irsemAgreesSpec : ChangeSpec := { name := "irsemAgrees", fn := fun _ => fun
  | [d1, d2] => { results := [.lit (.bool true)], args := [d1, d2] }
  | _ => none }
def irsemAgreesRow : OpenClaim := { program := "ytgjefdmmaieplaadoor", sum := "1d42fde7ffdba5b2c42770074f7c092206c76eaed93bdd0ff07f71ba9a53dc08", func := "cupel/cupellaw10.IrsemAgrees", spec := "irsemAgrees", unfollowed := true, recurses := true, named := ["cupel/ir.shapes"], apart := false, laid := [("cupel/ir.shapes", laid_cupel_ir_shapes)] }
def IrsemAgreesSaid : Prop := irsemAgreesRow.holds Tryd.pinned (OpenSpec.ofChange irsemAgreesSpec)

/-- ITS FALSE NEIGHBOUR: 'it returns false'. Refute it at one input. -/
def irsemAgreesWrong : ChangeSpec := { name := "irsemAgrees", fn := fun _ => fun
  | [d1, d2] => { results := [.lit (.bool false)], args := [d1, d2] }
  | _ => none }
def IrsemAgreesWrongFalsely : Prop := irsemAgreesRow.holds Tryd.pinned (OpenSpec.ofChange irsemAgreesWrong)

/-- 'cupellaw10.IrsemTotals': WHATEVER THE INPUT: true; the input reads as it did. -/
def irsemTotalsSpec : ChangeSpec := { name := "irsemTotals", fn := fun _ => fun
  | [d1, d2] => { results := [.lit (.bool true)], args := [d1, d2] }
  | _ => none }
def irsemTotalsRow : OpenClaim := { program := "ytgjefdmmaieplaadoor", sum := "1d42fde7ffdba5b2c42770074f7c092206c76eaed93bdd0ff07f71ba9a53dc08", func := "cupel/cupellaw10.IrsemTotals", spec := "irsemTotals", unfollowed := true, recurses := true, named := ["cupel/ir.shapes"], apart := false, laid := [("cupel/ir.shapes", laid_cupel_ir_shapes)] }
def IrsemTotalsSaid : Prop := irsemTotalsRow.holds Tryd.pinned (OpenSpec.ofChange irsemTotalsSpec)

/-- ITS FALSE NEIGHBOUR: 'it returns false'. Refute it at one input. -/
def irsemTotalsWrong : ChangeSpec := { name := "irsemTotals", fn := fun _ => fun
  | [d1, d2] => { results := [.lit (.bool false)], args := [d1, d2] }
  | _ => none }
def IrsemTotalsWrongFalsely : Prop := irsemTotalsRow.holds Tryd.pinned (OpenSpec.ofChange irsemTotalsWrong)

/- THE SECOND FORM. 'bulk': how many values and letters a reading holds, each counted each time it is reached (what is shared counts as often as it is met; a slice's spare places count too). A statement '..UptoSaid' is the law's where the arguments, and the package variables that the reading takes, are together of bulk at most 1048576: NARROWER than '..Said'. Prove '..Said' where nothing that the law and all that it calls make is longer than what came in: it says more and counts as full. Else prove '..UptoSaid'. A law counts once. -/
mutual
def uptoBulk {H : Type} : DataW H → Nat
  | .lit (.string bytes) => bytes.length + 1
  | .lit _ => 1
  | .nil => 1
  | .ptr d => uptoBulk d + 1
  | .slice elems spare => uptoBulkAll elems + uptoBulkAll spare + 1
  | .agg parts => uptoBulkAll parts + 1
  | .iface _ d => uptoBulk d + 1
  | .map entries => uptoBulkEntries entries + 1
  | .held _ => 1
def uptoBulkAll {H : Type} : List (DataW H) → Nat
  | [] => 0
  | d :: r => uptoBulk d + uptoBulkAll r
def uptoBulkEntries {H : Type} : List (Lit × DataW H) → Nat
  | [] => 0
  | x :: r => uptoBulkEntry x + uptoBulkEntries r
def uptoBulkEntry {H : Type} : Lit × DataW H → Nat
  | (.string bytes, d) => bytes.length + uptoBulk d + 1
  | (_, d) => uptoBulk d + 1
 end
def uptoSmall : (H : Type) → List (DataW H) → Bool := fun _ ds => decide (uptoBulkAll ds ≤ 1048576)
def OpenSpec.upto (s : _root_.Go.ChangeSpec) : _root_.Go.OpenSpec := { _root_.Go.OpenSpec.ofChange s with cond := some uptoSmall }

/-- 'cupellaw10.IrsemOperates', WHERE WHAT IT READS IS OF BULK AT MOST 1048576: true; the input reads as it did. -/
def irsemOperatesUptoRow : OpenClaim := { program := "ytgjefdmmaieplaadoor", sum := "1d42fde7ffdba5b2c42770074f7c092206c76eaed93bdd0ff07f71ba9a53dc08", func := "cupel/cupellaw10.IrsemOperates", spec := "irsemOperates", unfollowed := true, recurses := true, named := ["cupel/ir.shapes"], apart := false, laid := [("cupel/ir.shapes", laid_cupel_ir_shapes)], narrowed := true }
def IrsemOperatesUptoSaid : Prop := irsemOperatesUptoRow.holds Tryd.pinned (OpenSpec.upto irsemOperatesSpec)

/-- 'cupellaw10.IrsemAgrees', WHERE WHAT IT READS IS OF BULK AT MOST 1048576: true; the input reads as it did. -/
def irsemAgreesUptoRow : OpenClaim := { program := "ytgjefdmmaieplaadoor", sum := "1d42fde7ffdba5b2c42770074f7c092206c76eaed93bdd0ff07f71ba9a53dc08", func := "cupel/cupellaw10.IrsemAgrees", spec := "irsemAgrees", unfollowed := true, recurses := true, named := ["cupel/ir.shapes"], apart := false, laid := [("cupel/ir.shapes", laid_cupel_ir_shapes)], narrowed := true }
def IrsemAgreesUptoSaid : Prop := irsemAgreesUptoRow.holds Tryd.pinned (OpenSpec.upto irsemAgreesSpec)

/-- 'cupellaw10.IrsemTotals', WHERE WHAT IT READS IS OF BULK AT MOST 1048576: true; the input reads as it did. -/
def irsemTotalsUptoRow : OpenClaim := { program := "ytgjefdmmaieplaadoor", sum := "1d42fde7ffdba5b2c42770074f7c092206c76eaed93bdd0ff07f71ba9a53dc08", func := "cupel/cupellaw10.IrsemTotals", spec := "irsemTotals", unfollowed := true, recurses := true, named := ["cupel/ir.shapes"], apart := false, laid := [("cupel/ir.shapes", laid_cupel_ir_shapes)], narrowed := true }
def IrsemTotalsUptoSaid : Prop := irsemTotalsUptoRow.holds Tryd.pinned (OpenSpec.upto irsemTotalsSpec)

end Rows
end Go.Proofs.YtgjefdmmaieplaaDoor
