/-
  DERIVED. GIVEN WITH THE SEED: THE CARDS: each row of YtodekmogcecfeaaGreatDoorRows.lean that lists a variable, with what it lists TIED to the program's text (the seventh form; the later family's looks); each row that meets fmt, with fmt's text TOLD by the authors' own Lean function (tested against real Go, not proved from fmt's source: count such statements apart). THE CARD IS WHAT COUNTS. Prove the row's statement (the work); the ties are given (YtodekmogcecfeaaGreatDoorTie.lean); close each card by the builder's one call (the guide's Derived/Test/ToyasCard.lean, 'card_holds'). Laid BY PROGRAM, IN A SANDBOX (cutbox-door.mjs). By AI agents, Wed Nov 11 2026. No macro, syntax, notation, axiom, sorry.
-/
import Derived.Test.YtodekmogcecfeaaGreatDoorRows
import GoSem.ClaimSeven
namespace Go.Proofs.YtodekmogcecfeaaGreatDoor
namespace Rows

/-- THE TIED CARD OF 'cupellaw16.PeepKnown'. -/
def peepKnownCard : Claim7 := { stood := { row := peepKnownRow, standIns := [], harness := (true, "61afdd2d6b68b56bd47e39964271ac53f0b4933064fcc7e951303d14b6fd0221"), looks := false }, kinds := [], alts := [], laidByText := true, laidKinds := [.data, .data], laidTests := true, laidLooks := .later }
def PeepKnownCardSaid : Prop := Claim7.holds Tryz.pinned (.plain (OpenSpec.ofChange peepKnownSpec)) peepKnownCard

/-- THE SECOND FORM's CARD OF 'cupellaw16.PeepKnown'. -/
def peepKnownUptoCard : Claim7 := { stood := { row := peepKnownUptoRow, standIns := [], harness := (true, "61afdd2d6b68b56bd47e39964271ac53f0b4933064fcc7e951303d14b6fd0221"), looks := false }, kinds := [], alts := [], laidByText := true, laidKinds := [.data, .data], laidTests := true, laidLooks := .later }
def PeepKnownUptoCardSaid : Prop := Claim7.holds Tryz.pinned (.plain (OpenSpec.upto peepKnownSpec)) peepKnownUptoCard
end Rows
end Go.Proofs.YtodekmogcecfeaaGreatDoor
