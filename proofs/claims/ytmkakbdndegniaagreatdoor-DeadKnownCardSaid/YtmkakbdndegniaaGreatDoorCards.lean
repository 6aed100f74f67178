/-
  DERIVED. GIVEN WITH THE SEED: THE CARDS: each row of YtmkakbdndegniaaGreatDoorRows.lean that lists a variable, with what it lists TIED to the program's text (the seventh form; the later family's looks); each row that meets fmt, with fmt's text TOLD by the authors' own Lean function (tested against real Go, not proved from fmt's source: count such statements apart). THE CARD IS WHAT COUNTS. Prove the row's statement (the work); the ties are given (YtmkakbdndegniaaGreatDoorTie.lean); close each card by the builder's one call (the guide's Derived/Test/ToyasCard.lean, 'card_holds'). Laid BY PROGRAM, IN A SANDBOX (cutbox-door.mjs). By AI agents, Wed Nov 11 2026. No macro, syntax, notation, axiom, sorry.
-/
import Derived.Test.YtmkakbdndegniaaGreatDoorRows
import GoSem.ClaimSeven
namespace Go.Proofs.YtmkakbdndegniaaGreatDoor
namespace Rows

/-- THE TIED CARD OF 'cupellaw15.DeadKnown'. -/
def deadKnownCard : Claim7 := { stood := { row := deadKnownRow, standIns := [], harness := (true, "6a185f82d44c4a1bea71d4a518955f7339166daf518006686546797ccdcfda13"), looks := false }, kinds := [], alts := [], laidByText := true, laidKinds := [.data], laidTests := true, laidLooks := .later }
def DeadKnownCardSaid : Prop := Claim7.holds Tryz.pinned (.plain (OpenSpec.ofChange deadKnownSpec)) deadKnownCard

/-- THE SECOND FORM's CARD OF 'cupellaw15.DeadKnown'. -/
def deadKnownUptoCard : Claim7 := { stood := { row := deadKnownUptoRow, standIns := [], harness := (true, "6a185f82d44c4a1bea71d4a518955f7339166daf518006686546797ccdcfda13"), looks := false }, kinds := [], alts := [], laidByText := true, laidKinds := [.data], laidTests := true, laidLooks := .later }
def DeadKnownUptoCardSaid : Prop := Claim7.holds Tryz.pinned (.plain (OpenSpec.upto deadKnownSpec)) deadKnownUptoCard
end Rows
end Go.Proofs.YtmkakbdndegniaaGreatDoor
