/-
  DERIVED. GIVEN WITH THE SEED: THE CARDS: each row of YthogohkieiogiaaGreatDoorRows.lean that lists a variable, with what it lists TIED to the program's text (the seventh form; the later family's looks); each row that meets fmt, with fmt's text TOLD by the authors' own Lean function (tested against real Go, not proved from fmt's source: count such statements apart). THE CARD IS WHAT COUNTS. Prove the row's statement (the work); the ties are given (YthogohkieiogiaaGreatDoorTie.lean); close each card by the builder's one call (the guide's Derived/Test/ToyasCard.lean, 'card_holds'). Laid BY PROGRAM, IN A SANDBOX (cutbox-door.mjs). By AI agents, Wed Nov 11 2026. No macro, syntax, notation, axiom, sorry.
-/
import Derived.Test.YthogohkieiogiaaGreatDoorRows
import GoSem.ClaimSeven
namespace Go.Proofs.YthogohkieiogiaaGreatDoor
namespace Rows

/-- THE TIED CARD OF 'carillontop.WholeHeard'. -/
def wholeHeardCard : Claim7 := { stood := { row := wholeHeardRow, standIns := [], harness := (true, "be675bdec7013a89b9896581746f05ff937a97ef7dcb97ed7ce7ae291c51f757"), looks := true }, kinds := [], alts := [], laidByText := true, laidKinds := [.handle, .data, .data], laidTests := true, laidLooks := .later }
def WholeHeardCardSaid : Prop := Claim7.holds Tryz.pinned (.plain (OpenSpec.ofChange wholeHeardSpec)) wholeHeardCard

/-- THE SECOND FORM's CARD OF 'carillontop.WholeHeard'. -/
def wholeHeardUptoCard : Claim7 := { stood := { row := wholeHeardUptoRow, standIns := [], harness := (true, "be675bdec7013a89b9896581746f05ff937a97ef7dcb97ed7ce7ae291c51f757"), looks := true }, kinds := [], alts := [], laidByText := true, laidKinds := [.handle, .data, .data], laidTests := true, laidLooks := .later }
def WholeHeardUptoCardSaid : Prop := Claim7.holds Tryz.pinned (.plain (OpenSpec.upto wholeHeardSpec)) wholeHeardUptoCard
end Rows
end Go.Proofs.YthogohkieiogiaaGreatDoor
