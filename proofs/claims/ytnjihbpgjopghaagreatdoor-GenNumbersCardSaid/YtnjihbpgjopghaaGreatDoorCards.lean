/-
  DERIVED. GIVEN WITH THE SEED: THE CARDS: each row of YtnjihbpgjopghaaGreatDoorRows.lean that lists a variable, with what it lists TIED to the program's text (the seventh form; the later family's looks); each row that meets fmt, with fmt's text TOLD by the authors' own Lean function (tested against real Go, not proved from fmt's source: count such statements apart). THE CARD IS WHAT COUNTS. Prove the row's statement (the work); the ties are given (YtnjihbpgjopghaaGreatDoorTie.lean); close each card by the builder's one call (the guide's Derived/Test/ToyasCard.lean, 'card_holds'). Laid BY PROGRAM, IN A SANDBOX (cutbox-door.mjs). By AI agents, Wed Nov 11 2026. No macro, syntax, notation, axiom, sorry.
-/
import Derived.Test.YtnjihbpgjopghaaGreatDoorRows
import GoSem.ClaimSeven
namespace Go.Proofs.YtnjihbpgjopghaaGreatDoor
namespace Rows

/-- THE TIED CARD OF 'cupellaw06.GenNumbers'. -/
def genNumbersCard : Claim7 := { stood := { row := genNumbersRow, standIns := [], harness := (true, "6edbdbb5b3860d58b80e2bc84660818489183387f18773a1f7eb9e3ab4902306"), looks := true }, kinds := [], alts := [], laidByText := true, laidKinds := [.data, .data], laidTests := true, laidLooks := .later }
def GenNumbersCardSaid : Prop := Claim7.holds Tryz.pinned (.plain (OpenSpec.ofChange genNumbersSpec)) genNumbersCard

/-- THE SECOND FORM's CARD OF 'cupellaw06.GenNumbers'. -/
def genNumbersUptoCard : Claim7 := { stood := { row := genNumbersUptoRow, standIns := [], harness := (true, "6edbdbb5b3860d58b80e2bc84660818489183387f18773a1f7eb9e3ab4902306"), looks := true }, kinds := [], alts := [], laidByText := true, laidKinds := [.data, .data], laidTests := true, laidLooks := .later }
def GenNumbersUptoCardSaid : Prop := Claim7.holds Tryz.pinned (.plain (OpenSpec.upto genNumbersSpec)) genNumbersUptoCard
end Rows
end Go.Proofs.YtnjihbpgjopghaaGreatDoor
