/-
  DERIVED. GIVEN WITH THE SEED: THE CARDS: each row of YtpdgfdpfgnnhaaaGreatDoorRows.lean that lists a variable, with what it lists TIED to the program's text (the seventh form; the later family's looks); each row that meets fmt, with fmt's text TOLD by the authors' own Lean function (tested against real Go, not proved from fmt's source: count such statements apart). THE CARD IS WHAT COUNTS. Prove the row's statement (the work); the ties are given (YtpdgfdpfgnnhaaaGreatDoorTie.lean); close each card by the builder's one call (the guide's Derived/Test/ToyasCard.lean, 'card_holds'). Laid BY PROGRAM, IN A SANDBOX (cutbox-door.mjs). By AI agents, Wed Nov 11 2026. No macro, syntax, notation, axiom, sorry.
-/
import Derived.Test.YtpdgfdpfgnnhaaaGreatDoorRows
import GoSem.ClaimSeven
namespace Go.Proofs.YtpdgfdpfgnnhaaaGreatDoor
namespace Rows

/-- THE TIED CARD OF 'cupellaw17.HoistKnown'. -/
def hoistKnownCard : Claim7 := { stood := { row := hoistKnownRow, standIns := [], harness := (true, "86b70b257047e5010cf72793d3c6e7952bc93ce3de449147b831a24463567e63"), looks := false }, kinds := [], alts := [], laidByText := true, laidKinds := [.data], laidTests := true, laidLooks := .later }
def HoistKnownCardSaid : Prop := Claim7.holds Tryz.pinned (.plain (OpenSpec.ofChange hoistKnownSpec)) hoistKnownCard

/-- THE SECOND FORM's CARD OF 'cupellaw17.HoistKnown'. -/
def hoistKnownUptoCard : Claim7 := { stood := { row := hoistKnownUptoRow, standIns := [], harness := (true, "86b70b257047e5010cf72793d3c6e7952bc93ce3de449147b831a24463567e63"), looks := false }, kinds := [], alts := [], laidByText := true, laidKinds := [.data], laidTests := true, laidLooks := .later }
def HoistKnownUptoCardSaid : Prop := Claim7.holds Tryz.pinned (.plain (OpenSpec.upto hoistKnownSpec)) hoistKnownUptoCard
end Rows
end Go.Proofs.YtpdgfdpfgnnhaaaGreatDoor
