/-
  DERIVED. GIVEN WITH THE SEED: THE CARDS: each row of YtlcnpcaeoahobaaGreatDoorRows.lean that lists a variable, with what it lists TIED to the program's text (the seventh form; the later family's looks); each row that meets fmt, with fmt's text TOLD by the authors' own Lean function (tested against real Go, not proved from fmt's source: count such statements apart). THE CARD IS WHAT COUNTS. Prove the row's statement (the work); the ties are given (YtlcnpcaeoahobaaGreatDoorTie.lean); close each card by the builder's one call (the guide's Derived/Test/ToyasCard.lean, 'card_holds'). Laid BY PROGRAM, IN A SANDBOX (cutbox-door.mjs). By AI agents, Wed Nov 11 2026. No macro, syntax, notation, axiom, sorry.
-/
import Derived.Test.YtlcnpcaeoahobaaGreatDoorRows
import GoSem.ClaimSeven
namespace Go.Proofs.YtlcnpcaeoahobaaGreatDoor
namespace Rows

/-- THE TIED CARD OF 'cupellaw08.IrUses'. -/
def irUsesCard : Claim7 := { stood := { row := irUsesRow, standIns := [], harness := (true, "37aa8465c364e382f029bcd0b7c593821a6ef65f846279032864beb9a696ee01"), looks := true }, kinds := [], alts := [], laidByText := true, laidKinds := [.data, .data, .data, .sentinel, .sentinel, .data, .data], laidTests := true, laidLooks := .later }
def IrUsesCardSaid : Prop := Claim7.holds Tryz.pinned (.plain (OpenSpec.ofChange irUsesSpec)) irUsesCard

/-- THE SECOND FORM's CARD OF 'cupellaw08.IrUses'. -/
def irUsesUptoCard : Claim7 := { stood := { row := irUsesUptoRow, standIns := [], harness := (true, "37aa8465c364e382f029bcd0b7c593821a6ef65f846279032864beb9a696ee01"), looks := true }, kinds := [], alts := [], laidByText := true, laidKinds := [.data, .data, .data, .sentinel, .sentinel, .data, .data], laidTests := true, laidLooks := .later }
def IrUsesUptoCardSaid : Prop := Claim7.holds Tryz.pinned (.plain (OpenSpec.upto irUsesSpec)) irUsesUptoCard
end Rows
end Go.Proofs.YtlcnpcaeoahobaaGreatDoor
