/-
  DERIVED. GIVEN WITH THE SEED: THE CARDS: each row of YtgojemhbkhjffaaDoorRows.lean that lists a variable, with what it lists TIED to the program's text (the seventh form; the later family's looks); each row that meets fmt, with fmt's text TOLD by the authors' own Lean function (tested against real Go, not proved from fmt's source: count such statements apart). THE CARD IS WHAT COUNTS. Prove the row's statement (the work); the ties are given (YtgojemhbkhjffaaDoorTie.lean); close each card by the builder's one call (the guide's Derived/Test/ToyasCard.lean, 'card_holds'). Laid BY PROGRAM, IN A SANDBOX (cutbox-door.mjs). By AI agents, Wed Nov 11 2026. No macro, syntax, notation, axiom, sorry.
-/
import Derived.Test.YtgojemhbkhjffaaDoorRows
import GoSem.ClaimSeven
namespace Go.Proofs.YtgojemhbkhjffaaDoor
namespace Rows

/-- THE TIED CARD OF 'carillonlaw03.HmacTags'. -/
def hmacTagsCard : Claim7 := { stood := { row := hmacTagsRow, standIns := [], harness := (true, "1c555a937a4e34a8a5686d1dbb2faed8050b43914aa817cd0b55aa670f715008"), looks := false }, kinds := [], alts := [], laidByText := true, laidKinds := [.data, .data], laidTests := true, laidLooks := .later }
def HmacTagsCardSaid : Prop := Claim7.holds Tryd.pinned (.plain (OpenSpec.ofChange hmacTagsSpec)) hmacTagsCard

/-- THE TIED CARD OF 'carillonlaw03.HmacChecks'. -/
def hmacChecksCard : Claim7 := { stood := { row := hmacChecksRow, standIns := [], harness := (true, "1c555a937a4e34a8a5686d1dbb2faed8050b43914aa817cd0b55aa670f715008"), looks := false }, kinds := [], alts := [], laidByText := true, laidKinds := [.data, .data], laidTests := true, laidLooks := .later }
def HmacChecksCardSaid : Prop := Claim7.holds Tryd.pinned (.plain (OpenSpec.ofChange hmacChecksSpec)) hmacChecksCard

/-- THE TIED CARD OF 'carillonlaw03.HmacTurned'. -/
def hmacTurnedCard : Claim7 := { stood := { row := hmacTurnedRow, standIns := [], harness := (true, "1c555a937a4e34a8a5686d1dbb2faed8050b43914aa817cd0b55aa670f715008"), looks := false }, kinds := [], alts := [], laidByText := true, laidKinds := [.data, .data], laidTests := true, laidLooks := .later }
def HmacTurnedCardSaid : Prop := Claim7.holds Tryd.pinned (.plain (OpenSpec.ofChange hmacTurnedSpec)) hmacTurnedCard

/-- THE TIED CARD OF 'carillonlaw03.HmacCuts'. -/
def hmacCutsCard : Claim7 := { stood := { row := hmacCutsRow, standIns := [], harness := (true, "1c555a937a4e34a8a5686d1dbb2faed8050b43914aa817cd0b55aa670f715008"), looks := false }, kinds := [], alts := [], laidByText := true, laidKinds := [.data, .data], laidTests := true, laidLooks := .later }
def HmacCutsCardSaid : Prop := Claim7.holds Tryd.pinned (.plain (OpenSpec.ofChange hmacCutsSpec)) hmacCutsCard

/-- THE TIED CARD OF 'carillonlaw03.HmacFills'. -/
def hmacFillsCard : Claim7 := { stood := { row := hmacFillsRow, standIns := [], harness := (true, "1c555a937a4e34a8a5686d1dbb2faed8050b43914aa817cd0b55aa670f715008"), looks := false }, kinds := [], alts := [], laidByText := true, laidKinds := [.data, .data], laidTests := true, laidLooks := .later }
def HmacFillsCardSaid : Prop := Claim7.holds Tryd.pinned (.plain (OpenSpec.ofChange hmacFillsSpec)) hmacFillsCard

/-- THE TIED CARD OF 'carillonlaw03.HmacZero'. -/
def hmacZeroCard : Claim7 := { stood := { row := hmacZeroRow, standIns := [], harness := (true, "1c555a937a4e34a8a5686d1dbb2faed8050b43914aa817cd0b55aa670f715008"), looks := false }, kinds := [], alts := [], laidByText := true, laidKinds := [.data], laidTests := true, laidLooks := .later }
def HmacZeroCardSaid : Prop := Claim7.holds Tryd.pinned (.plain (OpenSpec.ofChange hmacZeroSpec)) hmacZeroCard

/-- THE SECOND FORM's CARD OF 'carillonlaw03.HmacTags'. -/
def hmacTagsUptoCard : Claim7 := { stood := { row := hmacTagsUptoRow, standIns := [], harness := (true, "1c555a937a4e34a8a5686d1dbb2faed8050b43914aa817cd0b55aa670f715008"), looks := false }, kinds := [], alts := [], laidByText := true, laidKinds := [.data, .data], laidTests := true, laidLooks := .later }
def HmacTagsUptoCardSaid : Prop := Claim7.holds Tryd.pinned (.plain (OpenSpec.upto hmacTagsSpec)) hmacTagsUptoCard

/-- THE SECOND FORM's CARD OF 'carillonlaw03.HmacChecks'. -/
def hmacChecksUptoCard : Claim7 := { stood := { row := hmacChecksUptoRow, standIns := [], harness := (true, "1c555a937a4e34a8a5686d1dbb2faed8050b43914aa817cd0b55aa670f715008"), looks := false }, kinds := [], alts := [], laidByText := true, laidKinds := [.data, .data], laidTests := true, laidLooks := .later }
def HmacChecksUptoCardSaid : Prop := Claim7.holds Tryd.pinned (.plain (OpenSpec.upto hmacChecksSpec)) hmacChecksUptoCard

/-- THE SECOND FORM's CARD OF 'carillonlaw03.HmacTurned'. -/
def hmacTurnedUptoCard : Claim7 := { stood := { row := hmacTurnedUptoRow, standIns := [], harness := (true, "1c555a937a4e34a8a5686d1dbb2faed8050b43914aa817cd0b55aa670f715008"), looks := false }, kinds := [], alts := [], laidByText := true, laidKinds := [.data, .data], laidTests := true, laidLooks := .later }
def HmacTurnedUptoCardSaid : Prop := Claim7.holds Tryd.pinned (.plain (OpenSpec.upto hmacTurnedSpec)) hmacTurnedUptoCard

/-- THE SECOND FORM's CARD OF 'carillonlaw03.HmacCuts'. -/
def hmacCutsUptoCard : Claim7 := { stood := { row := hmacCutsUptoRow, standIns := [], harness := (true, "1c555a937a4e34a8a5686d1dbb2faed8050b43914aa817cd0b55aa670f715008"), looks := false }, kinds := [], alts := [], laidByText := true, laidKinds := [.data, .data], laidTests := true, laidLooks := .later }
def HmacCutsUptoCardSaid : Prop := Claim7.holds Tryd.pinned (.plain (OpenSpec.upto hmacCutsSpec)) hmacCutsUptoCard

/-- THE SECOND FORM's CARD OF 'carillonlaw03.HmacFills'. -/
def hmacFillsUptoCard : Claim7 := { stood := { row := hmacFillsUptoRow, standIns := [], harness := (true, "1c555a937a4e34a8a5686d1dbb2faed8050b43914aa817cd0b55aa670f715008"), looks := false }, kinds := [], alts := [], laidByText := true, laidKinds := [.data, .data], laidTests := true, laidLooks := .later }
def HmacFillsUptoCardSaid : Prop := Claim7.holds Tryd.pinned (.plain (OpenSpec.upto hmacFillsSpec)) hmacFillsUptoCard

/-- THE SECOND FORM's CARD OF 'carillonlaw03.HmacZero'. -/
def hmacZeroUptoCard : Claim7 := { stood := { row := hmacZeroUptoRow, standIns := [], harness := (true, "1c555a937a4e34a8a5686d1dbb2faed8050b43914aa817cd0b55aa670f715008"), looks := false }, kinds := [], alts := [], laidByText := true, laidKinds := [.data], laidTests := true, laidLooks := .later }
def HmacZeroUptoCardSaid : Prop := Claim7.holds Tryd.pinned (.plain (OpenSpec.upto hmacZeroSpec)) hmacZeroUptoCard
end Rows
end Go.Proofs.YtgojemhbkhjffaaDoor
