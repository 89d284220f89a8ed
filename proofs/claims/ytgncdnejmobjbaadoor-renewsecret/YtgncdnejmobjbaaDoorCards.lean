/-
  DERIVED. GIVEN WITH THE SEED: THE CARDS: each row of YtgncdnejmobjbaaDoorRows.lean that lists a variable, with what it lists TIED to the program's text (the seventh form; the later family's looks); each row that meets fmt, with fmt's text TOLD by the authors' own Lean function (tested against real Go, not proved from fmt's source: count such statements apart). THE CARD IS WHAT COUNTS. Prove the row's statement (the work); the ties are given (YtgncdnejmobjbaaDoorTie.lean); close each card by the builder's one call (the guide's Derived/Test/ToyasCard.lean, 'card_holds'). Laid BY PROGRAM, IN A SANDBOX (cutbox-door.mjs). By AI agents, Wed Nov 11 2026. No macro, syntax, notation, axiom, sorry.
-/
import Derived.Test.YtgncdnejmobjbaaDoorRows
import GoSem.ClaimSeven
namespace Go.Proofs.YtgncdnejmobjbaaDoor
namespace Rows

/-- THE TIED CARD OF 'carillonlaw22.RenewLeads'. -/
def renewLeadsCard : Claim7 := { stood := { row := renewLeadsRow, standIns := [], harness := (true, "66a0f5b0e277c6c22dacb253c2f2499d1f4710fd8599eeaca651c5ddd5cfe8c4"), looks := false }, kinds := [], alts := [], laidByText := true, laidKinds := [.data, .data], laidTests := true, laidLooks := .later }
def RenewLeadsCardSaid : Prop := Claim7.holds Tryd.pinned (.plain (OpenSpec.ofChange renewLeadsSpec)) renewLeadsCard

/-- THE TIED CARD OF 'carillonlaw22.RenewSecret'. -/
def renewSecretCard : Claim7 := { stood := { row := renewSecretRow, standIns := [], harness := (true, "66a0f5b0e277c6c22dacb253c2f2499d1f4710fd8599eeaca651c5ddd5cfe8c4"), looks := false }, kinds := [], alts := [], laidByText := true, laidKinds := [.data, .data], laidTests := true, laidLooks := .later }
def RenewSecretCardSaid : Prop := Claim7.holds Tryd.pinned (.plain (OpenSpec.ofChange renewSecretSpec)) renewSecretCard

/-- THE TIED CARD OF 'carillonlaw22.RenewZero'. -/
def renewZeroCard : Claim7 := { stood := { row := renewZeroRow, standIns := [], harness := (true, "66a0f5b0e277c6c22dacb253c2f2499d1f4710fd8599eeaca651c5ddd5cfe8c4"), looks := false }, kinds := [], alts := [], laidByText := true, laidKinds := [.data, .data], laidTests := true, laidLooks := .later }
def RenewZeroCardSaid : Prop := Claim7.holds Tryd.pinned (.plain (OpenSpec.ofChange renewZeroSpec)) renewZeroCard

/-- THE SECOND FORM's CARD OF 'carillonlaw22.RenewLeads'. -/
def renewLeadsUptoCard : Claim7 := { stood := { row := renewLeadsUptoRow, standIns := [], harness := (true, "66a0f5b0e277c6c22dacb253c2f2499d1f4710fd8599eeaca651c5ddd5cfe8c4"), looks := false }, kinds := [], alts := [], laidByText := true, laidKinds := [.data, .data], laidTests := true, laidLooks := .later }
def RenewLeadsUptoCardSaid : Prop := Claim7.holds Tryd.pinned (.plain (OpenSpec.upto renewLeadsSpec)) renewLeadsUptoCard

/-- THE SECOND FORM's CARD OF 'carillonlaw22.RenewSecret'. -/
def renewSecretUptoCard : Claim7 := { stood := { row := renewSecretUptoRow, standIns := [], harness := (true, "66a0f5b0e277c6c22dacb253c2f2499d1f4710fd8599eeaca651c5ddd5cfe8c4"), looks := false }, kinds := [], alts := [], laidByText := true, laidKinds := [.data, .data], laidTests := true, laidLooks := .later }
def RenewSecretUptoCardSaid : Prop := Claim7.holds Tryd.pinned (.plain (OpenSpec.upto renewSecretSpec)) renewSecretUptoCard

/-- THE SECOND FORM's CARD OF 'carillonlaw22.RenewZero'. -/
def renewZeroUptoCard : Claim7 := { stood := { row := renewZeroUptoRow, standIns := [], harness := (true, "66a0f5b0e277c6c22dacb253c2f2499d1f4710fd8599eeaca651c5ddd5cfe8c4"), looks := false }, kinds := [], alts := [], laidByText := true, laidKinds := [.data, .data], laidTests := true, laidLooks := .later }
def RenewZeroUptoCardSaid : Prop := Claim7.holds Tryd.pinned (.plain (OpenSpec.upto renewZeroSpec)) renewZeroUptoCard
end Rows
end Go.Proofs.YtgncdnejmobjbaaDoor
