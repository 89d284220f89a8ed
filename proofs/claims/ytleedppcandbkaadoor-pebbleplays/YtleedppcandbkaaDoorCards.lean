/-
  DERIVED. GIVEN WITH THE SEED: THE CARDS: each row of YtleedppcandbkaaDoorRows.lean that lists a variable, with what it lists TIED to the program's text (the seventh form; the later family's looks); each row that meets fmt, with fmt's text TOLD by the authors' own Lean function (tested against real Go, not proved from fmt's source: count such statements apart). THE CARD IS WHAT COUNTS. Prove the row's statement (the work); the ties are given (YtleedppcandbkaaDoorTie.lean); close each card by the builder's one call (the guide's Derived/Test/ToyasCard.lean, 'card_holds'). Laid BY PROGRAM, IN A SANDBOX (cutbox-door.mjs). By AI agents, Wed Nov 11 2026. No macro, syntax, notation, axiom, sorry.
-/
import Derived.Test.YtleedppcandbkaaDoorRows
import GoSem.ClaimSeven
namespace Go.Proofs.YtleedppcandbkaaDoor
namespace Rows

/-- THE TIED CARD OF 'carillonlaw15.PebblePlays'. -/
def pebblePlaysCard : Claim7 := { stood := { row := pebblePlaysRow, standIns := [], harness := (true, "faa60e2f0c45f06028334fd43f4ffa9a4ae6b1a7a0cf27eec3c5caed5b71c669"), looks := false }, kinds := [], alts := [], laidByText := true, laidKinds := [.data, .data], laidTests := true, laidLooks := .later }
def PebblePlaysCardSaid : Prop := Claim7.holds Tryd.pinned (.plain (OpenSpec.ofChange pebblePlaysSpec)) pebblePlaysCard

/-- THE TIED CARD OF 'carillonlaw15.PebbleRoom'. -/
def pebbleRoomCard : Claim7 := { stood := { row := pebbleRoomRow, standIns := [], harness := (true, "faa60e2f0c45f06028334fd43f4ffa9a4ae6b1a7a0cf27eec3c5caed5b71c669"), looks := false }, kinds := [], alts := [], laidByText := true, laidKinds := [.data, .data], laidTests := true, laidLooks := .later }
def PebbleRoomCardSaid : Prop := Claim7.holds Tryd.pinned (.plain (OpenSpec.ofChange pebbleRoomSpec)) pebbleRoomCard

/-- THE TIED CARD OF 'carillonlaw15.PebbleChain'. -/
def pebbleChainCard : Claim7 := { stood := { row := pebbleChainRow, standIns := [], harness := (true, "faa60e2f0c45f06028334fd43f4ffa9a4ae6b1a7a0cf27eec3c5caed5b71c669"), looks := false }, kinds := [], alts := [], laidByText := true, laidKinds := [.data, .data], laidTests := true, laidLooks := .later }
def PebbleChainCardSaid : Prop := Claim7.holds Tryd.pinned (.plain (OpenSpec.ofChange pebbleChainSpec)) pebbleChainCard

/-- THE TIED CARD OF 'carillonlaw15.PebbleZero'. -/
def pebbleZeroCard : Claim7 := { stood := { row := pebbleZeroRow, standIns := [], harness := (true, "faa60e2f0c45f06028334fd43f4ffa9a4ae6b1a7a0cf27eec3c5caed5b71c669"), looks := false }, kinds := [], alts := [], laidByText := true, laidKinds := [.data, .data], laidTests := true, laidLooks := .later }
def PebbleZeroCardSaid : Prop := Claim7.holds Tryd.pinned (.plain (OpenSpec.ofChange pebbleZeroSpec)) pebbleZeroCard

/-- THE SECOND FORM's CARD OF 'carillonlaw15.PebblePlays'. -/
def pebblePlaysUptoCard : Claim7 := { stood := { row := pebblePlaysUptoRow, standIns := [], harness := (true, "faa60e2f0c45f06028334fd43f4ffa9a4ae6b1a7a0cf27eec3c5caed5b71c669"), looks := false }, kinds := [], alts := [], laidByText := true, laidKinds := [.data, .data], laidTests := true, laidLooks := .later }
def PebblePlaysUptoCardSaid : Prop := Claim7.holds Tryd.pinned (.plain (OpenSpec.upto pebblePlaysSpec)) pebblePlaysUptoCard

/-- THE SECOND FORM's CARD OF 'carillonlaw15.PebbleRoom'. -/
def pebbleRoomUptoCard : Claim7 := { stood := { row := pebbleRoomUptoRow, standIns := [], harness := (true, "faa60e2f0c45f06028334fd43f4ffa9a4ae6b1a7a0cf27eec3c5caed5b71c669"), looks := false }, kinds := [], alts := [], laidByText := true, laidKinds := [.data, .data], laidTests := true, laidLooks := .later }
def PebbleRoomUptoCardSaid : Prop := Claim7.holds Tryd.pinned (.plain (OpenSpec.upto pebbleRoomSpec)) pebbleRoomUptoCard

/-- THE SECOND FORM's CARD OF 'carillonlaw15.PebbleChain'. -/
def pebbleChainUptoCard : Claim7 := { stood := { row := pebbleChainUptoRow, standIns := [], harness := (true, "faa60e2f0c45f06028334fd43f4ffa9a4ae6b1a7a0cf27eec3c5caed5b71c669"), looks := false }, kinds := [], alts := [], laidByText := true, laidKinds := [.data, .data], laidTests := true, laidLooks := .later }
def PebbleChainUptoCardSaid : Prop := Claim7.holds Tryd.pinned (.plain (OpenSpec.upto pebbleChainSpec)) pebbleChainUptoCard

/-- THE SECOND FORM's CARD OF 'carillonlaw15.PebbleZero'. -/
def pebbleZeroUptoCard : Claim7 := { stood := { row := pebbleZeroUptoRow, standIns := [], harness := (true, "faa60e2f0c45f06028334fd43f4ffa9a4ae6b1a7a0cf27eec3c5caed5b71c669"), looks := false }, kinds := [], alts := [], laidByText := true, laidKinds := [.data, .data], laidTests := true, laidLooks := .later }
def PebbleZeroUptoCardSaid : Prop := Claim7.holds Tryd.pinned (.plain (OpenSpec.upto pebbleZeroSpec)) pebbleZeroUptoCard
end Rows
end Go.Proofs.YtleedppcandbkaaDoor
