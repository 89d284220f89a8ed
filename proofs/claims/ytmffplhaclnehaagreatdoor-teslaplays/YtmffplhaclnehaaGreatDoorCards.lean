/-
  DERIVED. GIVEN WITH THE SEED: THE CARDS: each row of YtmffplhaclnehaaGreatDoorRows.lean that lists a variable, with what it lists TIED to the program's text (the seventh form; the later family's looks); each row that meets fmt, with fmt's text TOLD by the authors' own Lean function (tested against real Go, not proved from fmt's source: count such statements apart). THE CARD IS WHAT COUNTS. Prove the row's statement (the work); the ties are given (YtmffplhaclnehaaGreatDoorTie.lean); close each card by the builder's one call (the guide's Derived/Test/ToyasCard.lean, 'card_holds'). Laid BY PROGRAM, IN A SANDBOX (cutbox-door.mjs). By AI agents, Wed Nov 11 2026. No macro, syntax, notation, axiom, sorry.
-/
import Derived.Test.YtmffplhaclnehaaGreatDoorRows
import GoSem.ClaimSeven
namespace Go.Proofs.YtmffplhaclnehaaGreatDoor
namespace Rows

/-- THE TIED CARD OF 'carillonlaw21.TeslaPlays'. -/
def teslaPlaysCard : Claim7 := { stood := { row := teslaPlaysRow, standIns := [], harness := (true, "fd611a1ab0b8f6e9ad5be42f037ef90fcea03b38687ec156243dd14cdd8b3be6"), looks := true }, kinds := [], alts := [], laidByText := true, laidKinds := [.handle, .data, .data], laidTests := true, laidLooks := .later }
def TeslaPlaysCardSaid : Prop := Claim7.holds Tryz.pinned (.plain (OpenSpec.ofChange teslaPlaysSpec)) teslaPlaysCard

/-- THE TIED CARD OF 'carillonlaw21.TeslaReleases'. -/
def teslaReleasesCard : Claim7 := { stood := { row := teslaReleasesRow, standIns := [], harness := (true, "fd611a1ab0b8f6e9ad5be42f037ef90fcea03b38687ec156243dd14cdd8b3be6"), looks := true }, kinds := [], alts := [], laidByText := true, laidKinds := [.handle, .data, .data], laidTests := true, laidLooks := .later }
def TeslaReleasesCardSaid : Prop := Claim7.holds Tryz.pinned (.plain (OpenSpec.ofChange teslaReleasesSpec)) teslaReleasesCard

/-- THE TIED CARD OF 'carillonlaw21.TeslaLate'. -/
def teslaLateCard : Claim7 := { stood := { row := teslaLateRow, standIns := [], harness := (true, "fd611a1ab0b8f6e9ad5be42f037ef90fcea03b38687ec156243dd14cdd8b3be6"), looks := true }, kinds := [], alts := [], laidByText := true, laidKinds := [.handle, .data, .data], laidTests := true, laidLooks := .later }
def TeslaLateCardSaid : Prop := Claim7.holds Tryz.pinned (.plain (OpenSpec.ofChange teslaLateSpec)) teslaLateCard

/-- THE TIED CARD OF 'carillonlaw21.TeslaHonest'. -/
def teslaHonestCard : Claim7 := { stood := { row := teslaHonestRow, standIns := [], harness := (true, "fd611a1ab0b8f6e9ad5be42f037ef90fcea03b38687ec156243dd14cdd8b3be6"), looks := true }, kinds := [], alts := [], laidByText := true, laidKinds := [.handle, .data, .data], laidTests := true, laidLooks := .later }
def TeslaHonestCardSaid : Prop := Claim7.holds Tryz.pinned (.plain (OpenSpec.ofChange teslaHonestSpec)) teslaHonestCard

/-- THE TIED CARD OF 'carillonlaw21.TeslaZero'. -/
def teslaZeroCard : Claim7 := { stood := { row := teslaZeroRow, standIns := [], harness := (true, "fd611a1ab0b8f6e9ad5be42f037ef90fcea03b38687ec156243dd14cdd8b3be6"), looks := true }, kinds := [], alts := [], laidByText := true, laidKinds := [.handle, .data, .data], laidTests := true, laidLooks := .later }
def TeslaZeroCardSaid : Prop := Claim7.holds Tryz.pinned (.plain (OpenSpec.ofChange teslaZeroSpec)) teslaZeroCard

/-- THE SECOND FORM's CARD OF 'carillonlaw21.TeslaPlays'. -/
def teslaPlaysUptoCard : Claim7 := { stood := { row := teslaPlaysUptoRow, standIns := [], harness := (true, "fd611a1ab0b8f6e9ad5be42f037ef90fcea03b38687ec156243dd14cdd8b3be6"), looks := true }, kinds := [], alts := [], laidByText := true, laidKinds := [.handle, .data, .data], laidTests := true, laidLooks := .later }
def TeslaPlaysUptoCardSaid : Prop := Claim7.holds Tryz.pinned (.plain (OpenSpec.upto teslaPlaysSpec)) teslaPlaysUptoCard

/-- THE SECOND FORM's CARD OF 'carillonlaw21.TeslaReleases'. -/
def teslaReleasesUptoCard : Claim7 := { stood := { row := teslaReleasesUptoRow, standIns := [], harness := (true, "fd611a1ab0b8f6e9ad5be42f037ef90fcea03b38687ec156243dd14cdd8b3be6"), looks := true }, kinds := [], alts := [], laidByText := true, laidKinds := [.handle, .data, .data], laidTests := true, laidLooks := .later }
def TeslaReleasesUptoCardSaid : Prop := Claim7.holds Tryz.pinned (.plain (OpenSpec.upto teslaReleasesSpec)) teslaReleasesUptoCard

/-- THE SECOND FORM's CARD OF 'carillonlaw21.TeslaLate'. -/
def teslaLateUptoCard : Claim7 := { stood := { row := teslaLateUptoRow, standIns := [], harness := (true, "fd611a1ab0b8f6e9ad5be42f037ef90fcea03b38687ec156243dd14cdd8b3be6"), looks := true }, kinds := [], alts := [], laidByText := true, laidKinds := [.handle, .data, .data], laidTests := true, laidLooks := .later }
def TeslaLateUptoCardSaid : Prop := Claim7.holds Tryz.pinned (.plain (OpenSpec.upto teslaLateSpec)) teslaLateUptoCard

/-- THE SECOND FORM's CARD OF 'carillonlaw21.TeslaHonest'. -/
def teslaHonestUptoCard : Claim7 := { stood := { row := teslaHonestUptoRow, standIns := [], harness := (true, "fd611a1ab0b8f6e9ad5be42f037ef90fcea03b38687ec156243dd14cdd8b3be6"), looks := true }, kinds := [], alts := [], laidByText := true, laidKinds := [.handle, .data, .data], laidTests := true, laidLooks := .later }
def TeslaHonestUptoCardSaid : Prop := Claim7.holds Tryz.pinned (.plain (OpenSpec.upto teslaHonestSpec)) teslaHonestUptoCard

/-- THE SECOND FORM's CARD OF 'carillonlaw21.TeslaZero'. -/
def teslaZeroUptoCard : Claim7 := { stood := { row := teslaZeroUptoRow, standIns := [], harness := (true, "fd611a1ab0b8f6e9ad5be42f037ef90fcea03b38687ec156243dd14cdd8b3be6"), looks := true }, kinds := [], alts := [], laidByText := true, laidKinds := [.handle, .data, .data], laidTests := true, laidLooks := .later }
def TeslaZeroUptoCardSaid : Prop := Claim7.holds Tryz.pinned (.plain (OpenSpec.upto teslaZeroSpec)) teslaZeroUptoCard
end Rows
end Go.Proofs.YtmffplhaclnehaaGreatDoor
