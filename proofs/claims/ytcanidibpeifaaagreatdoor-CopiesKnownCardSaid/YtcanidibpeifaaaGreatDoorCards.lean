/-
  DERIVED. GIVEN WITH THE SEED: THE CARDS: each row of YtcanidibpeifaaaGreatDoorRows.lean that lists a variable, with what it lists TIED to the program's text (the seventh form; the later family's looks); each row that meets fmt, with fmt's text TOLD by the authors' own Lean function (tested against real Go, not proved from fmt's source: count such statements apart). THE CARD IS WHAT COUNTS. Prove the row's statement (the work); the ties are given (YtcanidibpeifaaaGreatDoorTie.lean); close each card by the builder's one call (the guide's Derived/Test/ToyasCard.lean, 'card_holds'). Laid BY PROGRAM, IN A SANDBOX (cutbox-door.mjs). By AI agents, Wed Nov 11 2026. No macro, syntax, notation, axiom, sorry.
-/
import Derived.Test.YtcanidibpeifaaaGreatDoorRows
import GoSem.ClaimSeven
namespace Go.Proofs.YtcanidibpeifaaaGreatDoor
namespace Rows

/-- THE TIED CARD OF 'cupellaw14.CopiesKnown'. -/
def copiesKnownCard : Claim7 := { stood := { row := copiesKnownRow, standIns := [], harness := (true, "7cac375d051ba1b1be17969ba5335d202279091c2d61de6823623cde7832b781"), looks := false }, kinds := [], alts := [], laidByText := true, laidKinds := [.data], laidTests := true, laidLooks := .later }
def CopiesKnownCardSaid : Prop := Claim7.holds Tryz.pinned (.plain (OpenSpec.ofChange copiesKnownSpec)) copiesKnownCard

/-- THE SECOND FORM's CARD OF 'cupellaw14.CopiesKnown'. -/
def copiesKnownUptoCard : Claim7 := { stood := { row := copiesKnownUptoRow, standIns := [], harness := (true, "7cac375d051ba1b1be17969ba5335d202279091c2d61de6823623cde7832b781"), looks := false }, kinds := [], alts := [], laidByText := true, laidKinds := [.data], laidTests := true, laidLooks := .later }
def CopiesKnownUptoCardSaid : Prop := Claim7.holds Tryz.pinned (.plain (OpenSpec.upto copiesKnownSpec)) copiesKnownUptoCard
end Rows
end Go.Proofs.YtcanidibpeifaaaGreatDoor
