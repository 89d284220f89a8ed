/-
  DERIVED. GIVEN WITH THE SEED: THE CARDS: each row of YtahnbljbhfpldaaGreatDoorRows.lean that lists a variable, with what it lists TIED to the program's text (the seventh form; the later family's looks); each row that meets fmt, with fmt's text TOLD by the authors' own Lean function (tested against real Go, not proved from fmt's source: count such statements apart). THE CARD IS WHAT COUNTS. Prove the row's statement (the work); the ties are given (YtahnbljbhfpldaaGreatDoorTie.lean); close each card by the builder's one call (the guide's Derived/Test/ToyasCard.lean, 'card_holds'). Laid BY PROGRAM, IN A SANDBOX (cutbox-door.mjs). By AI agents, Wed Nov 11 2026. No macro, syntax, notation, axiom, sorry.
-/
import Derived.Test.YtahnbljbhfpldaaGreatDoorRows
import GoSem.ClaimSeven
namespace Go.Proofs.YtahnbljbhfpldaaGreatDoor
namespace Rows

/-- THE TIED CARD OF 'carillonlaw23.EchoPlays'. -/
def echoPlaysCard : Claim7 := { stood := { row := echoPlaysRow, standIns := [], harness := (true, "0f4b92da0306fb10d89fc27505bdad21c155234d21a82a2dac0dc8b299d944b4"), looks := true }, kinds := [], alts := [], laidByText := true, laidKinds := [.data, .data], laidTests := true, laidLooks := .later }
def EchoPlaysCardSaid : Prop := Claim7.holds Tryz.pinned (.plain (OpenSpec.ofChange echoPlaysSpec)) echoPlaysCard

/-- THE TIED CARD OF 'carillonlaw23.EchoTrue'. -/
def echoTrueCard : Claim7 := { stood := { row := echoTrueRow, standIns := [], harness := (true, "0f4b92da0306fb10d89fc27505bdad21c155234d21a82a2dac0dc8b299d944b4"), looks := true }, kinds := [], alts := [], laidByText := true, laidKinds := [.data, .data], laidTests := true, laidLooks := .later }
def EchoTrueCardSaid : Prop := Claim7.holds Tryz.pinned (.plain (OpenSpec.ofChange echoTrueSpec)) echoTrueCard

/-- THE TIED CARD OF 'carillonlaw23.EchoOnce'. -/
def echoOnceCard : Claim7 := { stood := { row := echoOnceRow, standIns := [], harness := (true, "0f4b92da0306fb10d89fc27505bdad21c155234d21a82a2dac0dc8b299d944b4"), looks := true }, kinds := [], alts := [], laidByText := true, laidKinds := [.data, .data], laidTests := true, laidLooks := .later }
def EchoOnceCardSaid : Prop := Claim7.holds Tryz.pinned (.plain (OpenSpec.ofChange echoOnceSpec)) echoOnceCard

/-- THE TIED CARD OF 'carillonlaw23.EchoNonces'. -/
def echoNoncesCard : Claim7 := { stood := { row := echoNoncesRow, standIns := [], harness := (true, "0f4b92da0306fb10d89fc27505bdad21c155234d21a82a2dac0dc8b299d944b4"), looks := true }, kinds := [], alts := [], laidByText := true, laidKinds := [.data, .data], laidTests := true, laidLooks := .later }
def EchoNoncesCardSaid : Prop := Claim7.holds Tryz.pinned (.plain (OpenSpec.ofChange echoNoncesSpec)) echoNoncesCard

/-- THE TIED CARD OF 'carillonlaw23.EchoZero'. -/
def echoZeroCard : Claim7 := { stood := { row := echoZeroRow, standIns := [], harness := (true, "0f4b92da0306fb10d89fc27505bdad21c155234d21a82a2dac0dc8b299d944b4"), looks := true }, kinds := [], alts := [], laidByText := true, laidKinds := [.data, .data], laidTests := true, laidLooks := .later }
def EchoZeroCardSaid : Prop := Claim7.holds Tryz.pinned (.plain (OpenSpec.ofChange echoZeroSpec)) echoZeroCard

/-- THE SECOND FORM's CARD OF 'carillonlaw23.EchoPlays'. -/
def echoPlaysUptoCard : Claim7 := { stood := { row := echoPlaysUptoRow, standIns := [], harness := (true, "0f4b92da0306fb10d89fc27505bdad21c155234d21a82a2dac0dc8b299d944b4"), looks := true }, kinds := [], alts := [], laidByText := true, laidKinds := [.data, .data], laidTests := true, laidLooks := .later }
def EchoPlaysUptoCardSaid : Prop := Claim7.holds Tryz.pinned (.plain (OpenSpec.upto echoPlaysSpec)) echoPlaysUptoCard

/-- THE SECOND FORM's CARD OF 'carillonlaw23.EchoTrue'. -/
def echoTrueUptoCard : Claim7 := { stood := { row := echoTrueUptoRow, standIns := [], harness := (true, "0f4b92da0306fb10d89fc27505bdad21c155234d21a82a2dac0dc8b299d944b4"), looks := true }, kinds := [], alts := [], laidByText := true, laidKinds := [.data, .data], laidTests := true, laidLooks := .later }
def EchoTrueUptoCardSaid : Prop := Claim7.holds Tryz.pinned (.plain (OpenSpec.upto echoTrueSpec)) echoTrueUptoCard

/-- THE SECOND FORM's CARD OF 'carillonlaw23.EchoOnce'. -/
def echoOnceUptoCard : Claim7 := { stood := { row := echoOnceUptoRow, standIns := [], harness := (true, "0f4b92da0306fb10d89fc27505bdad21c155234d21a82a2dac0dc8b299d944b4"), looks := true }, kinds := [], alts := [], laidByText := true, laidKinds := [.data, .data], laidTests := true, laidLooks := .later }
def EchoOnceUptoCardSaid : Prop := Claim7.holds Tryz.pinned (.plain (OpenSpec.upto echoOnceSpec)) echoOnceUptoCard

/-- THE SECOND FORM's CARD OF 'carillonlaw23.EchoNonces'. -/
def echoNoncesUptoCard : Claim7 := { stood := { row := echoNoncesUptoRow, standIns := [], harness := (true, "0f4b92da0306fb10d89fc27505bdad21c155234d21a82a2dac0dc8b299d944b4"), looks := true }, kinds := [], alts := [], laidByText := true, laidKinds := [.data, .data], laidTests := true, laidLooks := .later }
def EchoNoncesUptoCardSaid : Prop := Claim7.holds Tryz.pinned (.plain (OpenSpec.upto echoNoncesSpec)) echoNoncesUptoCard

/-- THE SECOND FORM's CARD OF 'carillonlaw23.EchoZero'. -/
def echoZeroUptoCard : Claim7 := { stood := { row := echoZeroUptoRow, standIns := [], harness := (true, "0f4b92da0306fb10d89fc27505bdad21c155234d21a82a2dac0dc8b299d944b4"), looks := true }, kinds := [], alts := [], laidByText := true, laidKinds := [.data, .data], laidTests := true, laidLooks := .later }
def EchoZeroUptoCardSaid : Prop := Claim7.holds Tryz.pinned (.plain (OpenSpec.upto echoZeroSpec)) echoZeroUptoCard
end Rows
end Go.Proofs.YtahnbljbhfpldaaGreatDoor
