/-
  No cell of these rows narrows 'for every input' (looked for: loops, veiled, ifaces, maps, wideKeys, modest, calm, conditions, laid).
  DERIVED. THE GIVEN ROWS OF THIS SEAT. 4 by the template 'for every input the law returns true; each argument reads behind the call as it read before'; 0 by the template 'total and deterministic' (their statements: YtiolkbdjphhajaaTotals.lean).
  GIVEN WITH THE SEED: the statements are not yours to turn. If you find one false, say at which input.
  Laid BY PROGRAM, IN A SANDBOX (cutbox-rows.mjs): the forced cells as the released guide's own fill.sh prints them over the translation 3b89bfb422164d9e… (all of the seat's roots in one cut). By AI agents, Wed Nov 11 2026. No macro, syntax, notation, axiom, sorry.
-/
import Derived.Test.YtiolkbdjphhajaaChecked
import GoSem.Claim
import GoSem.ClaimJoined
import GoSem.ClaimMapViews
import Derived.JoinedTies
import Derived.KernelRfl
namespace Go.Proofs.Ytiolkbdjphhajaa
/- THE CELL 'sum', in the pinned program and in every row, IS THE sha256 OF THE DUMP (.gsa) THAT YtiolkbdjphhajaaProg.lean LOADS. Nothing in Lean hashes anything: it is a label: what it is worth is what the hold of that sum in a sandbox is worth. -/
noncomputable def Try.pinned : Pinned := { name := "ytiolkbdjphhajaa", sum := "3b89bfb422164d9e99aedd8e647955aaf8d43a2de08d773374f022d4d71f772b", checked := Try.checked }
namespace Rows
def none {H : Type} : Left H := { results := [], args := [] }

/-- 'carillonlaw17.DiscloseAll': WHATEVER THE INPUT: true; the input reads as it did. -/
def discloseAllSpec : ChangeSpec := { name := "discloseAll", fn := fun _ => fun
  | [d1, d2, d3, d4, d5] => { results := [.lit (.bool true)], args := [d1, d2, d3, d4, d5] }
  | _ => none }
def discloseAllRow : OpenClaim := { program := "ytiolkbdjphhajaa", sum := "3b89bfb422164d9e99aedd8e647955aaf8d43a2de08d773374f022d4d71f772b", func := "carillon/carillonlaw17.DiscloseAll", spec := "discloseAll", unfollowed := true, recurses := true, apart := false }
def DiscloseAllSaid : Prop := discloseAllRow.holds Try.pinned (OpenSpec.ofChange discloseAllSpec)

/-- ITS FALSE NEIGHBOUR: 'it returns false'. Refute it at one input. -/
def discloseAllWrong : ChangeSpec := { name := "discloseAll", fn := fun _ => fun
  | [d1, d2, d3, d4, d5] => { results := [.lit (.bool false)], args := [d1, d2, d3, d4, d5] }
  | _ => none }
def DiscloseAllWrongFalsely : Prop := discloseAllRow.holds Try.pinned (OpenSpec.ofChange discloseAllWrong)

/-- 'carillonlaw17.DiscloseApart': WHATEVER THE INPUT: true; the input reads as it did. -/
def discloseApartSpec : ChangeSpec := { name := "discloseApart", fn := fun _ => fun
  | [d1, d2, d3, d4, d5] => { results := [.lit (.bool true)], args := [d1, d2, d3, d4, d5] }
  | _ => none }
def discloseApartRow : OpenClaim := { program := "ytiolkbdjphhajaa", sum := "3b89bfb422164d9e99aedd8e647955aaf8d43a2de08d773374f022d4d71f772b", func := "carillon/carillonlaw17.DiscloseApart", spec := "discloseApart", unfollowed := true, recurses := true, apart := false }
def DiscloseApartSaid : Prop := discloseApartRow.holds Try.pinned (OpenSpec.ofChange discloseApartSpec)

/-- ITS FALSE NEIGHBOUR: 'it returns false'. Refute it at one input. -/
def discloseApartWrong : ChangeSpec := { name := "discloseApart", fn := fun _ => fun
  | [d1, d2, d3, d4, d5] => { results := [.lit (.bool false)], args := [d1, d2, d3, d4, d5] }
  | _ => none }
def DiscloseApartWrongFalsely : Prop := discloseApartRow.holds Try.pinned (OpenSpec.ofChange discloseApartWrong)

/-- 'carillonlaw17.DiscloseTold': WHATEVER THE INPUT: true; the input reads as it did. -/
def discloseToldSpec : ChangeSpec := { name := "discloseTold", fn := fun _ => fun
  | [d1, d2, d3, d4] => { results := [.lit (.bool true)], args := [d1, d2, d3, d4] }
  | _ => none }
def discloseToldRow : OpenClaim := { program := "ytiolkbdjphhajaa", sum := "3b89bfb422164d9e99aedd8e647955aaf8d43a2de08d773374f022d4d71f772b", func := "carillon/carillonlaw17.DiscloseTold", spec := "discloseTold", unfollowed := true, recurses := true, apart := false }
def DiscloseToldSaid : Prop := discloseToldRow.holds Try.pinned (OpenSpec.ofChange discloseToldSpec)

/-- ITS FALSE NEIGHBOUR: 'it returns false'. Refute it at one input. -/
def discloseToldWrong : ChangeSpec := { name := "discloseTold", fn := fun _ => fun
  | [d1, d2, d3, d4] => { results := [.lit (.bool false)], args := [d1, d2, d3, d4] }
  | _ => none }
def DiscloseToldWrongFalsely : Prop := discloseToldRow.holds Try.pinned (OpenSpec.ofChange discloseToldWrong)

/-- 'carillonlaw17.DiscloseOver': WHATEVER THE INPUT: true; the input reads as it did. -/
def discloseOverSpec : ChangeSpec := { name := "discloseOver", fn := fun _ => fun
  | [d1, d2, d3] => { results := [.lit (.bool true)], args := [d1, d2, d3] }
  | _ => none }
def discloseOverRow : OpenClaim := { program := "ytiolkbdjphhajaa", sum := "3b89bfb422164d9e99aedd8e647955aaf8d43a2de08d773374f022d4d71f772b", func := "carillon/carillonlaw17.DiscloseOver", spec := "discloseOver", apart := false }
def DiscloseOverSaid : Prop := discloseOverRow.holds Try.pinned (OpenSpec.ofChange discloseOverSpec)

/-- ITS FALSE NEIGHBOUR: 'it returns false'. Refute it at one input. -/
def discloseOverWrong : ChangeSpec := { name := "discloseOver", fn := fun _ => fun
  | [d1, d2, d3] => { results := [.lit (.bool false)], args := [d1, d2, d3] }
  | _ => none }
def DiscloseOverWrongFalsely : Prop := discloseOverRow.holds Try.pinned (OpenSpec.ofChange discloseOverWrong)

/- THE SECOND FORM. 'bulk': how many values and letters a reading holds, each counted each time it is reached (what is shared counts as often as it is met; a slice's spare places count too). A statement '..UptoSaid' is the law's where the arguments, and the package variables that the reading takes, are together of bulk at most 1048576: NARROWER than '..Said'. Prove '..Said' where nothing that the law and all that it calls make is longer than what came in: it says more and counts as full. Else prove '..UptoSaid'. A law counts once. -/
mutual
def uptoBulk {H : Type} : DataW H → Nat
  | .lit (.string bytes) => bytes.length + 1
  | .lit _ => 1
  | .nil => 1
  | .ptr d => uptoBulk d + 1
  | .slice elems spare => uptoBulkAll elems + uptoBulkAll spare + 1
  | .agg parts => uptoBulkAll parts + 1
  | .iface _ d => uptoBulk d + 1
  | .map entries => uptoBulkEntries entries + 1
  | .held _ => 1
def uptoBulkAll {H : Type} : List (DataW H) → Nat
  | [] => 0
  | d :: r => uptoBulk d + uptoBulkAll r
def uptoBulkEntries {H : Type} : List (Lit × DataW H) → Nat
  | [] => 0
  | x :: r => uptoBulkEntry x + uptoBulkEntries r
def uptoBulkEntry {H : Type} : Lit × DataW H → Nat
  | (.string bytes, d) => bytes.length + uptoBulk d + 1
  | (_, d) => uptoBulk d + 1
 end
def uptoSmall : (H : Type) → List (DataW H) → Bool := fun _ ds => decide (uptoBulkAll ds ≤ 1048576)
def OpenSpec.upto (s : _root_.Go.ChangeSpec) : _root_.Go.OpenSpec := { _root_.Go.OpenSpec.ofChange s with cond := some uptoSmall }

/-- 'carillonlaw17.DiscloseAll', WHERE WHAT IT READS IS OF BULK AT MOST 1048576: true; the input reads as it did. -/
def discloseAllUptoRow : OpenClaim := { program := "ytiolkbdjphhajaa", sum := "3b89bfb422164d9e99aedd8e647955aaf8d43a2de08d773374f022d4d71f772b", func := "carillon/carillonlaw17.DiscloseAll", spec := "discloseAll", unfollowed := true, recurses := true, apart := false, narrowed := true }
def DiscloseAllUptoSaid : Prop := discloseAllUptoRow.holds Try.pinned (OpenSpec.upto discloseAllSpec)

/-- 'carillonlaw17.DiscloseApart', WHERE WHAT IT READS IS OF BULK AT MOST 1048576: true; the input reads as it did. -/
def discloseApartUptoRow : OpenClaim := { program := "ytiolkbdjphhajaa", sum := "3b89bfb422164d9e99aedd8e647955aaf8d43a2de08d773374f022d4d71f772b", func := "carillon/carillonlaw17.DiscloseApart", spec := "discloseApart", unfollowed := true, recurses := true, apart := false, narrowed := true }
def DiscloseApartUptoSaid : Prop := discloseApartUptoRow.holds Try.pinned (OpenSpec.upto discloseApartSpec)

/-- 'carillonlaw17.DiscloseTold', WHERE WHAT IT READS IS OF BULK AT MOST 1048576: true; the input reads as it did. -/
def discloseToldUptoRow : OpenClaim := { program := "ytiolkbdjphhajaa", sum := "3b89bfb422164d9e99aedd8e647955aaf8d43a2de08d773374f022d4d71f772b", func := "carillon/carillonlaw17.DiscloseTold", spec := "discloseTold", unfollowed := true, recurses := true, apart := false, narrowed := true }
def DiscloseToldUptoSaid : Prop := discloseToldUptoRow.holds Try.pinned (OpenSpec.upto discloseToldSpec)

/-- 'carillonlaw17.DiscloseOver', WHERE WHAT IT READS IS OF BULK AT MOST 1048576: true; the input reads as it did. -/
def discloseOverUptoRow : OpenClaim := { program := "ytiolkbdjphhajaa", sum := "3b89bfb422164d9e99aedd8e647955aaf8d43a2de08d773374f022d4d71f772b", func := "carillon/carillonlaw17.DiscloseOver", spec := "discloseOver", apart := false, narrowed := true }
def DiscloseOverUptoSaid : Prop := discloseOverUptoRow.holds Try.pinned (OpenSpec.upto discloseOverSpec)

end Rows
end Go.Proofs.Ytiolkbdjphhajaa
