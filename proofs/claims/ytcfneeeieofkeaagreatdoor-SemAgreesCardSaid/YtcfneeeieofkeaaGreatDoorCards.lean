/-
  DERIVED. GIVEN WITH THE SEED: THE CARDS: each row of YtcfneeeieofkeaaGreatDoorRows.lean that lists a variable, with what it lists TIED to the program's text (the seventh form; the later family's looks); each row that meets fmt, with fmt's text TOLD by the authors' own Lean function (tested against real Go, not proved from fmt's source: count such statements apart). THE CARD IS WHAT COUNTS. Prove the row's statement (the work); the ties are given (YtcfneeeieofkeaaGreatDoorTie.lean); close each card by the builder's one call (the guide's Derived/Test/ToyasCard.lean, 'card_holds'). Laid BY PROGRAM, IN A SANDBOX (cutbox-door.mjs). By AI agents, Wed Nov 11 2026. No macro, syntax, notation, axiom, sorry.
-/
import Derived.Test.YtcfneeeieofkeaaGreatDoorRows
import GoSem.ClaimSeven
namespace Go.Proofs.YtcfneeeieofkeaaGreatDoor
namespace Rows

/-- THE TIED CARD OF 'cupellaw03.SemOperates'. -/
def semOperatesCard : Claim7 := { stood := { row := semOperatesRow, standIns := [], harness := (true, "3a3433ca7a7a21cd3a5a73482043761ce38bc5cd1a03a3c6a3239811046046ae"), looks := true }, kinds := [], alts := [], laidByText := true, laidKinds := [.data, .data], laidTests := true, laidLooks := .later }
def SemOperatesCardSaid : Prop := Claim7.holds Tryz.pinned (.plain (OpenSpec.ofChange semOperatesSpec)) semOperatesCard

/-- THE TIED CARD OF 'cupellaw03.SemAgrees'. -/
def semAgreesCard : Claim7 := { stood := { row := semAgreesRow, standIns := [], harness := (true, "3a3433ca7a7a21cd3a5a73482043761ce38bc5cd1a03a3c6a3239811046046ae"), looks := true }, kinds := [], alts := [], laidByText := true, laidKinds := [.data, .data], laidTests := true, laidLooks := .later }
def SemAgreesCardSaid : Prop := Claim7.holds Tryz.pinned (.plain (OpenSpec.ofChange semAgreesSpec)) semAgreesCard

/-- THE SECOND FORM's CARD OF 'cupellaw03.SemOperates'. -/
def semOperatesUptoCard : Claim7 := { stood := { row := semOperatesUptoRow, standIns := [], harness := (true, "3a3433ca7a7a21cd3a5a73482043761ce38bc5cd1a03a3c6a3239811046046ae"), looks := true }, kinds := [], alts := [], laidByText := true, laidKinds := [.data, .data], laidTests := true, laidLooks := .later }
def SemOperatesUptoCardSaid : Prop := Claim7.holds Tryz.pinned (.plain (OpenSpec.upto semOperatesSpec)) semOperatesUptoCard

/-- THE SECOND FORM's CARD OF 'cupellaw03.SemAgrees'. -/
def semAgreesUptoCard : Claim7 := { stood := { row := semAgreesUptoRow, standIns := [], harness := (true, "3a3433ca7a7a21cd3a5a73482043761ce38bc5cd1a03a3c6a3239811046046ae"), looks := true }, kinds := [], alts := [], laidByText := true, laidKinds := [.data, .data], laidTests := true, laidLooks := .later }
def SemAgreesUptoCardSaid : Prop := Claim7.holds Tryz.pinned (.plain (OpenSpec.upto semAgreesSpec)) semAgreesUptoCard
end Rows
end Go.Proofs.YtcfneeeieofkeaaGreatDoor
