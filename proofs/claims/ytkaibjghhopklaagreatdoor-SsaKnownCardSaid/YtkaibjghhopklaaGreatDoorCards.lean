/-
  DERIVED. GIVEN WITH THE SEED: THE CARDS: each row of YtkaibjghhopklaaGreatDoorRows.lean that lists a variable, with what it lists TIED to the program's text (the seventh form; the later family's looks); each row that meets fmt, with fmt's text TOLD by the authors' own Lean function (tested against real Go, not proved from fmt's source: count such statements apart). THE CARD IS WHAT COUNTS. Prove the row's statement (the work); the ties are given (YtkaibjghhopklaaGreatDoorTie.lean); close each card by the builder's one call (the guide's Derived/Test/ToyasCard.lean, 'card_holds'). Laid BY PROGRAM, IN A SANDBOX (cutbox-door.mjs). By AI agents, Wed Nov 11 2026. No macro, syntax, notation, axiom, sorry.
-/
import Derived.Test.YtkaibjghhopklaaGreatDoorRows
import GoSem.ClaimSeven
namespace Go.Proofs.YtkaibjghhopklaaGreatDoor
namespace Rows

/-- THE TIED CARD OF 'cupellaw12.SsaKnown'. -/
def ssaKnownCard : Claim7 := { stood := { row := ssaKnownRow, standIns := [], harness := (true, "733d4ab129ebd2ae64d66703182c0fdf8e429b3cd3217779d69516f924328e35"), looks := false }, kinds := [], alts := [], laidByText := true, laidKinds := [.data], laidTests := true, laidLooks := .later }
def SsaKnownCardSaid : Prop := Claim7.holds Tryz.pinned (.plain (OpenSpec.ofChange ssaKnownSpec)) ssaKnownCard

/-- THE SECOND FORM's CARD OF 'cupellaw12.SsaKnown'. -/
def ssaKnownUptoCard : Claim7 := { stood := { row := ssaKnownUptoRow, standIns := [], harness := (true, "733d4ab129ebd2ae64d66703182c0fdf8e429b3cd3217779d69516f924328e35"), looks := false }, kinds := [], alts := [], laidByText := true, laidKinds := [.data], laidTests := true, laidLooks := .later }
def SsaKnownUptoCardSaid : Prop := Claim7.holds Tryz.pinned (.plain (OpenSpec.upto ssaKnownSpec)) ssaKnownUptoCard
end Rows
end Go.Proofs.YtkaibjghhopklaaGreatDoor
