/-
  DERIVED. GIVEN WITH THE SEED: THE CARDS: each row of YtinecobgogbdjaaDoorRows.lean that lists a variable, with what it lists TIED to the program's text (the seventh form; the later family's looks); each row that meets fmt, with fmt's text TOLD by the authors' own Lean function (tested against real Go, not proved from fmt's source: count such statements apart). THE CARD IS WHAT COUNTS. Prove the row's statement (the work); the ties are given (YtinecobgogbdjaaDoorTie.lean); close each card by the builder's one call (the guide's Derived/Test/ToyasCard.lean, 'card_holds'). Laid BY PROGRAM, IN A SANDBOX (cutbox-door.mjs). By AI agents, Wed Nov 11 2026. No macro, syntax, notation, axiom, sorry.
-/
import Derived.Test.YtinecobgogbdjaaDoorRows
import GoSem.ClaimSeven
namespace Go.Proofs.YtinecobgogbdjaaDoor
namespace Rows

/-- THE TIED CARD OF 'carillonlaw14.ChainKeys'. -/
def chainKeysCard : Claim7 := { stood := { row := chainKeysRow, standIns := [], harness := (true, "4652e3e42b6bd79ed6b57fb039ebb3e2ee5ea082c8513c38e27d469102968191"), looks := false }, kinds := [], alts := [], laidByText := true, laidKinds := [.data, .data], laidTests := true, laidLooks := .later }
def ChainKeysCardSaid : Prop := Claim7.holds Tryd.pinned (.plain (OpenSpec.ofChange chainKeysSpec)) chainKeysCard

/-- THE TIED CARD OF 'carillonlaw14.ChainBacks'. -/
def chainBacksCard : Claim7 := { stood := { row := chainBacksRow, standIns := [], harness := (true, "4652e3e42b6bd79ed6b57fb039ebb3e2ee5ea082c8513c38e27d469102968191"), looks := false }, kinds := [], alts := [], laidByText := true, laidKinds := [.data, .data], laidTests := true, laidLooks := .later }
def ChainBacksCardSaid : Prop := Claim7.holds Tryd.pinned (.plain (OpenSpec.ofChange chainBacksSpec)) chainBacksCard

/-- THE TIED CARD OF 'carillonlaw14.ChainFollows'. -/
def chainFollowsCard : Claim7 := { stood := { row := chainFollowsRow, standIns := [], harness := (true, "4652e3e42b6bd79ed6b57fb039ebb3e2ee5ea082c8513c38e27d469102968191"), looks := false }, kinds := [], alts := [], laidByText := true, laidKinds := [.data, .data], laidTests := true, laidLooks := .later }
def ChainFollowsCardSaid : Prop := Claim7.holds Tryd.pinned (.plain (OpenSpec.ofChange chainFollowsSpec)) chainFollowsCard

/-- THE TIED CARD OF 'carillonlaw14.ChainSteps'. -/
def chainStepsCard : Claim7 := { stood := { row := chainStepsRow, standIns := [], harness := (true, "4652e3e42b6bd79ed6b57fb039ebb3e2ee5ea082c8513c38e27d469102968191"), looks := false }, kinds := [], alts := [], laidByText := true, laidKinds := [.data, .data], laidTests := true, laidLooks := .later }
def ChainStepsCardSaid : Prop := Claim7.holds Tryd.pinned (.plain (OpenSpec.ofChange chainStepsSpec)) chainStepsCard

/-- THE SECOND FORM's CARD OF 'carillonlaw14.ChainKeys'. -/
def chainKeysUptoCard : Claim7 := { stood := { row := chainKeysUptoRow, standIns := [], harness := (true, "4652e3e42b6bd79ed6b57fb039ebb3e2ee5ea082c8513c38e27d469102968191"), looks := false }, kinds := [], alts := [], laidByText := true, laidKinds := [.data, .data], laidTests := true, laidLooks := .later }
def ChainKeysUptoCardSaid : Prop := Claim7.holds Tryd.pinned (.plain (OpenSpec.upto chainKeysSpec)) chainKeysUptoCard

/-- THE SECOND FORM's CARD OF 'carillonlaw14.ChainBacks'. -/
def chainBacksUptoCard : Claim7 := { stood := { row := chainBacksUptoRow, standIns := [], harness := (true, "4652e3e42b6bd79ed6b57fb039ebb3e2ee5ea082c8513c38e27d469102968191"), looks := false }, kinds := [], alts := [], laidByText := true, laidKinds := [.data, .data], laidTests := true, laidLooks := .later }
def ChainBacksUptoCardSaid : Prop := Claim7.holds Tryd.pinned (.plain (OpenSpec.upto chainBacksSpec)) chainBacksUptoCard

/-- THE SECOND FORM's CARD OF 'carillonlaw14.ChainFollows'. -/
def chainFollowsUptoCard : Claim7 := { stood := { row := chainFollowsUptoRow, standIns := [], harness := (true, "4652e3e42b6bd79ed6b57fb039ebb3e2ee5ea082c8513c38e27d469102968191"), looks := false }, kinds := [], alts := [], laidByText := true, laidKinds := [.data, .data], laidTests := true, laidLooks := .later }
def ChainFollowsUptoCardSaid : Prop := Claim7.holds Tryd.pinned (.plain (OpenSpec.upto chainFollowsSpec)) chainFollowsUptoCard

/-- THE SECOND FORM's CARD OF 'carillonlaw14.ChainSteps'. -/
def chainStepsUptoCard : Claim7 := { stood := { row := chainStepsUptoRow, standIns := [], harness := (true, "4652e3e42b6bd79ed6b57fb039ebb3e2ee5ea082c8513c38e27d469102968191"), looks := false }, kinds := [], alts := [], laidByText := true, laidKinds := [.data, .data], laidTests := true, laidLooks := .later }
def ChainStepsUptoCardSaid : Prop := Claim7.holds Tryd.pinned (.plain (OpenSpec.upto chainStepsSpec)) chainStepsUptoCard
end Rows
end Go.Proofs.YtinecobgogbdjaaDoor
