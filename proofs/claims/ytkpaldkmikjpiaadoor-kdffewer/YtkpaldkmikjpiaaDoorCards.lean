/-
  DERIVED. GIVEN WITH THE SEED: THE CARDS: each row of YtkpaldkmikjpiaaDoorRows.lean that lists a variable, with what it lists TIED to the program's text (the seventh form; the later family's looks); each row that meets fmt, with fmt's text TOLD by the authors' own Lean function (tested against real Go, not proved from fmt's source: count such statements apart). THE CARD IS WHAT COUNTS. Prove the row's statement (the work); the ties are given (YtkpaldkmikjpiaaDoorTie.lean); close each card by the builder's one call (the guide's Derived/Test/ToyasCard.lean, 'card_holds'). Laid BY PROGRAM, IN A SANDBOX (cutbox-door.mjs). By AI agents, Wed Nov 11 2026. No macro, syntax, notation, axiom, sorry.
-/
import Derived.Test.YtkpaldkmikjpiaaDoorRows
import GoSem.ClaimSeven
namespace Go.Proofs.YtkpaldkmikjpiaaDoor
namespace Rows

/-- THE TIED CARD OF 'carillonlaw04.KdfExpands'. -/
def kdfExpandsCard : Claim7 := { stood := { row := kdfExpandsRow, standIns := [], harness := (true, "aafcfb68e9879a2887bc8228d45275685ad9aebdec4f5181e064d21d4ed5c39b"), looks := false }, kinds := [], alts := [], laidByText := true, laidKinds := [.data, .data], laidTests := true, laidLooks := .later }
def KdfExpandsCardSaid : Prop := Claim7.holds Tryd.pinned (.plain (OpenSpec.ofChange kdfExpandsSpec)) kdfExpandsCard

/-- THE TIED CARD OF 'carillonlaw04.KdfExtracts'. -/
def kdfExtractsCard : Claim7 := { stood := { row := kdfExtractsRow, standIns := [], harness := (true, "aafcfb68e9879a2887bc8228d45275685ad9aebdec4f5181e064d21d4ed5c39b"), looks := false }, kinds := [], alts := [], laidByText := true, laidKinds := [.data, .data], laidTests := true, laidLooks := .later }
def KdfExtractsCardSaid : Prop := Claim7.holds Tryd.pinned (.plain (OpenSpec.ofChange kdfExtractsSpec)) kdfExtractsCard

/-- THE TIED CARD OF 'carillonlaw04.KdfKeys'. -/
def kdfKeysCard : Claim7 := { stood := { row := kdfKeysRow, standIns := [], harness := (true, "aafcfb68e9879a2887bc8228d45275685ad9aebdec4f5181e064d21d4ed5c39b"), looks := false }, kinds := [], alts := [], laidByText := true, laidKinds := [.data, .data], laidTests := true, laidLooks := .later }
def KdfKeysCardSaid : Prop := Claim7.holds Tryd.pinned (.plain (OpenSpec.ofChange kdfKeysSpec)) kdfKeysCard

/-- THE TIED CARD OF 'carillonlaw04.KdfNodes'. -/
def kdfNodesCard : Claim7 := { stood := { row := kdfNodesRow, standIns := [], harness := (true, "aafcfb68e9879a2887bc8228d45275685ad9aebdec4f5181e064d21d4ed5c39b"), looks := false }, kinds := [], alts := [], laidByText := true, laidKinds := [.data, .data], laidTests := true, laidLooks := .later }
def KdfNodesCardSaid : Prop := Claim7.holds Tryd.pinned (.plain (OpenSpec.ofChange kdfNodesSpec)) kdfNodesCard

/-- THE TIED CARD OF 'carillonlaw04.KdfFewer'. -/
def kdfFewerCard : Claim7 := { stood := { row := kdfFewerRow, standIns := [], harness := (true, "aafcfb68e9879a2887bc8228d45275685ad9aebdec4f5181e064d21d4ed5c39b"), looks := false }, kinds := [], alts := [], laidByText := true, laidKinds := [.data, .data], laidTests := true, laidLooks := .later }
def KdfFewerCardSaid : Prop := Claim7.holds Tryd.pinned (.plain (OpenSpec.ofChange kdfFewerSpec)) kdfFewerCard

/-- THE TIED CARD OF 'carillonlaw04.KdfBoth'. -/
def kdfBothCard : Claim7 := { stood := { row := kdfBothRow, standIns := [], harness := (true, "aafcfb68e9879a2887bc8228d45275685ad9aebdec4f5181e064d21d4ed5c39b"), looks := false }, kinds := [], alts := [], laidByText := true, laidKinds := [.data, .data], laidTests := true, laidLooks := .later }
def KdfBothCardSaid : Prop := Claim7.holds Tryd.pinned (.plain (OpenSpec.ofChange kdfBothSpec)) kdfBothCard

/-- THE SECOND FORM's CARD OF 'carillonlaw04.KdfExpands'. -/
def kdfExpandsUptoCard : Claim7 := { stood := { row := kdfExpandsUptoRow, standIns := [], harness := (true, "aafcfb68e9879a2887bc8228d45275685ad9aebdec4f5181e064d21d4ed5c39b"), looks := false }, kinds := [], alts := [], laidByText := true, laidKinds := [.data, .data], laidTests := true, laidLooks := .later }
def KdfExpandsUptoCardSaid : Prop := Claim7.holds Tryd.pinned (.plain (OpenSpec.upto kdfExpandsSpec)) kdfExpandsUptoCard

/-- THE SECOND FORM's CARD OF 'carillonlaw04.KdfExtracts'. -/
def kdfExtractsUptoCard : Claim7 := { stood := { row := kdfExtractsUptoRow, standIns := [], harness := (true, "aafcfb68e9879a2887bc8228d45275685ad9aebdec4f5181e064d21d4ed5c39b"), looks := false }, kinds := [], alts := [], laidByText := true, laidKinds := [.data, .data], laidTests := true, laidLooks := .later }
def KdfExtractsUptoCardSaid : Prop := Claim7.holds Tryd.pinned (.plain (OpenSpec.upto kdfExtractsSpec)) kdfExtractsUptoCard

/-- THE SECOND FORM's CARD OF 'carillonlaw04.KdfKeys'. -/
def kdfKeysUptoCard : Claim7 := { stood := { row := kdfKeysUptoRow, standIns := [], harness := (true, "aafcfb68e9879a2887bc8228d45275685ad9aebdec4f5181e064d21d4ed5c39b"), looks := false }, kinds := [], alts := [], laidByText := true, laidKinds := [.data, .data], laidTests := true, laidLooks := .later }
def KdfKeysUptoCardSaid : Prop := Claim7.holds Tryd.pinned (.plain (OpenSpec.upto kdfKeysSpec)) kdfKeysUptoCard

/-- THE SECOND FORM's CARD OF 'carillonlaw04.KdfNodes'. -/
def kdfNodesUptoCard : Claim7 := { stood := { row := kdfNodesUptoRow, standIns := [], harness := (true, "aafcfb68e9879a2887bc8228d45275685ad9aebdec4f5181e064d21d4ed5c39b"), looks := false }, kinds := [], alts := [], laidByText := true, laidKinds := [.data, .data], laidTests := true, laidLooks := .later }
def KdfNodesUptoCardSaid : Prop := Claim7.holds Tryd.pinned (.plain (OpenSpec.upto kdfNodesSpec)) kdfNodesUptoCard

/-- THE SECOND FORM's CARD OF 'carillonlaw04.KdfFewer'. -/
def kdfFewerUptoCard : Claim7 := { stood := { row := kdfFewerUptoRow, standIns := [], harness := (true, "aafcfb68e9879a2887bc8228d45275685ad9aebdec4f5181e064d21d4ed5c39b"), looks := false }, kinds := [], alts := [], laidByText := true, laidKinds := [.data, .data], laidTests := true, laidLooks := .later }
def KdfFewerUptoCardSaid : Prop := Claim7.holds Tryd.pinned (.plain (OpenSpec.upto kdfFewerSpec)) kdfFewerUptoCard

/-- THE SECOND FORM's CARD OF 'carillonlaw04.KdfBoth'. -/
def kdfBothUptoCard : Claim7 := { stood := { row := kdfBothUptoRow, standIns := [], harness := (true, "aafcfb68e9879a2887bc8228d45275685ad9aebdec4f5181e064d21d4ed5c39b"), looks := false }, kinds := [], alts := [], laidByText := true, laidKinds := [.data, .data], laidTests := true, laidLooks := .later }
def KdfBothUptoCardSaid : Prop := Claim7.holds Tryd.pinned (.plain (OpenSpec.upto kdfBothSpec)) kdfBothUptoCard
end Rows
end Go.Proofs.YtkpaldkmikjpiaaDoor
