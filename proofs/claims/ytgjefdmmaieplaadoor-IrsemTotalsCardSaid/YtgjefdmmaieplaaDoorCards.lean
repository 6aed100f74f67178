/-
  DERIVED. GIVEN WITH THE SEED: THE CARDS: each row of YtgjefdmmaieplaaDoorRows.lean that lists a variable, with what it lists TIED to the program's text (the seventh form; the later family's looks); each row that meets fmt, with fmt's text TOLD by the authors' own Lean function (tested against real Go, not proved from fmt's source: count such statements apart). THE CARD IS WHAT COUNTS. Prove the row's statement (the work); the ties are given (YtgjefdmmaieplaaDoorTie.lean); close each card by the builder's one call (the guide's Derived/Test/ToyasCard.lean, 'card_holds'). Laid BY PROGRAM, IN A SANDBOX (cutbox-door.mjs). By AI agents, Wed Nov 11 2026. No macro, syntax, notation, axiom, sorry.
-/
import Derived.Test.YtgjefdmmaieplaaDoorRows
import GoSem.ClaimSeven
namespace Go.Proofs.YtgjefdmmaieplaaDoor
namespace Rows

/-- THE TIED CARD OF 'cupellaw10.IrsemOperates'. -/
def irsemOperatesCard : Claim7 := { stood := { row := irsemOperatesRow, standIns := [], harness := (true, "5e82e81ad3781839ac096980ef7f8b04976e57befc85a824674b1c64f48585b3"), looks := true }, kinds := [], alts := [], laidByText := true, laidKinds := [.data], laidTests := true, laidLooks := .later }
def IrsemOperatesCardSaid : Prop := Claim7.holds Tryd.pinned (.plain (OpenSpec.ofChange irsemOperatesSpec)) irsemOperatesCard

/-- THE TIED CARD OF 'cupellaw10.IrsemAgrees'. -/
def irsemAgreesCard : Claim7 := { stood := { row := irsemAgreesRow, standIns := [], harness := (true, "5e82e81ad3781839ac096980ef7f8b04976e57befc85a824674b1c64f48585b3"), looks := true }, kinds := [], alts := [], laidByText := true, laidKinds := [.data], laidTests := true, laidLooks := .later }
def IrsemAgreesCardSaid : Prop := Claim7.holds Tryd.pinned (.plain (OpenSpec.ofChange irsemAgreesSpec)) irsemAgreesCard

/-- THE TIED CARD OF 'cupellaw10.IrsemTotals'. -/
def irsemTotalsCard : Claim7 := { stood := { row := irsemTotalsRow, standIns := [], harness := (true, "5e82e81ad3781839ac096980ef7f8b04976e57befc85a824674b1c64f48585b3"), looks := true }, kinds := [], alts := [], laidByText := true, laidKinds := [.data], laidTests := true, laidLooks := .later }
def IrsemTotalsCardSaid : Prop := Claim7.holds Tryd.pinned (.plain (OpenSpec.ofChange irsemTotalsSpec)) irsemTotalsCard

/-- THE SECOND FORM's CARD OF 'cupellaw10.IrsemOperates'. -/
def irsemOperatesUptoCard : Claim7 := { stood := { row := irsemOperatesUptoRow, standIns := [], harness := (true, "5e82e81ad3781839ac096980ef7f8b04976e57befc85a824674b1c64f48585b3"), looks := true }, kinds := [], alts := [], laidByText := true, laidKinds := [.data], laidTests := true, laidLooks := .later }
def IrsemOperatesUptoCardSaid : Prop := Claim7.holds Tryd.pinned (.plain (OpenSpec.upto irsemOperatesSpec)) irsemOperatesUptoCard

/-- THE SECOND FORM's CARD OF 'cupellaw10.IrsemAgrees'. -/
def irsemAgreesUptoCard : Claim7 := { stood := { row := irsemAgreesUptoRow, standIns := [], harness := (true, "5e82e81ad3781839ac096980ef7f8b04976e57befc85a824674b1c64f48585b3"), looks := true }, kinds := [], alts := [], laidByText := true, laidKinds := [.data], laidTests := true, laidLooks := .later }
def IrsemAgreesUptoCardSaid : Prop := Claim7.holds Tryd.pinned (.plain (OpenSpec.upto irsemAgreesSpec)) irsemAgreesUptoCard

/-- THE SECOND FORM's CARD OF 'cupellaw10.IrsemTotals'. -/
def irsemTotalsUptoCard : Claim7 := { stood := { row := irsemTotalsUptoRow, standIns := [], harness := (true, "5e82e81ad3781839ac096980ef7f8b04976e57befc85a824674b1c64f48585b3"), looks := true }, kinds := [], alts := [], laidByText := true, laidKinds := [.data], laidTests := true, laidLooks := .later }
def IrsemTotalsUptoCardSaid : Prop := Claim7.holds Tryd.pinned (.plain (OpenSpec.upto irsemTotalsSpec)) irsemTotalsUptoCard
end Rows
end Go.Proofs.YtgjefdmmaieplaaDoor
