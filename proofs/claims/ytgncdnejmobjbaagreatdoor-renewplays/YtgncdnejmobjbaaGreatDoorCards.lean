/-
  DERIVED. GIVEN WITH THE SEED: THE CARDS: each row of YtgncdnejmobjbaaGreatDoorRows.lean that lists a variable, with what it lists TIED to the program's text (the seventh form; the later family's looks); each row that meets fmt, with fmt's text TOLD by the authors' own Lean function (tested against real Go, not proved from fmt's source: count such statements apart). THE CARD IS WHAT COUNTS. Prove the row's statement (the work); the ties are given (YtgncdnejmobjbaaGreatDoorTie.lean); close each card by the builder's one call (the guide's Derived/Test/ToyasCard.lean, 'card_holds'). Laid BY PROGRAM, IN A SANDBOX (cutbox-door.mjs). By AI agents, Wed Nov 11 2026. No macro, syntax, notation, axiom, sorry.
-/
import Derived.Test.YtgncdnejmobjbaaGreatDoorRows
import GoSem.ClaimSeven
namespace Go.Proofs.YtgncdnejmobjbaaGreatDoor
namespace Rows

/-- THE TIED CARD OF 'carillonlaw22.RenewPlays'. -/
def renewPlaysCard : Claim7 := { stood := { row := renewPlaysRow, standIns := [], harness := (true, "d0311a4ae91b86e6404a2004ffc2df0ef85fbaab91455a93535d54e03cd1abd6"), looks := false }, kinds := [], alts := [], laidByText := true, laidKinds := [.data, .data], laidTests := true, laidLooks := .later }
def RenewPlaysCardSaid : Prop := Claim7.holds Tryz.pinned (.plain (OpenSpec.ofChange renewPlaysSpec)) renewPlaysCard

/-- THE SECOND FORM's CARD OF 'carillonlaw22.RenewPlays'. -/
def renewPlaysUptoCard : Claim7 := { stood := { row := renewPlaysUptoRow, standIns := [], harness := (true, "d0311a4ae91b86e6404a2004ffc2df0ef85fbaab91455a93535d54e03cd1abd6"), looks := false }, kinds := [], alts := [], laidByText := true, laidKinds := [.data, .data], laidTests := true, laidLooks := .later }
def RenewPlaysUptoCardSaid : Prop := Claim7.holds Tryz.pinned (.plain (OpenSpec.upto renewPlaysSpec)) renewPlaysUptoCard
end Rows
end Go.Proofs.YtgncdnejmobjbaaGreatDoor
