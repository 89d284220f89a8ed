/-
  NARROWER THAN 'FOR EVERY INPUT', by the rows' own cells (each row's printed sentence says how): PebblePlays: laid · PebbleRoom: laid · PebbleChain: laid · PebbleZero: laid.
  DERIVED. THE GIVEN ROWS OF THIS SEAT. 4 by the template 'for every input the law returns true; each argument reads behind the call as it read before'; 0 by the template 'total and deterministic' (their statements: YtleedppcandbkaaDoorTotals.lean).
  GIVEN WITH THE SEED: the statements are not yours to turn. If you find one false, say at which input.
  Laid BY PROGRAM, IN A SANDBOX (cutbox-rows.mjs): the forced cells as the released guide's own fill.sh prints them over the translation 41a55da628861f75… (all of the seat's roots in one cut). By AI agents, Wed Nov 11 2026. No macro, syntax, notation, axiom, sorry.
-/
import Derived.Test.YtleedppcandbkaaDoorChecked
import GoSem.Claim
import GoSem.ClaimJoined
import GoSem.ClaimMapViews
import Derived.JoinedTies
import Derived.KernelRfl
namespace Go.Proofs.YtleedppcandbkaaDoor
/- THE CELL 'sum', in the pinned program and in every row, IS THE sha256 OF THE DUMP (.gsa) THAT YtleedppcandbkaaDoorProg.lean LOADS. Nothing in Lean hashes anything: it is a label: what it is worth is what the hold of that sum in a sandbox is worth. -/
noncomputable def Tryd.pinned : Pinned := { name := "ytleedppcandbkaadoor", sum := "41a55da628861f7512e31a5a43e66be763692e08352490c5831272db2cf28cb0", checked := Tryd.checked }
namespace Rows
def none {H : Type} : Left H := { results := [], args := [] }

/- WHAT THE LISTED PACKAGE-LEVEL VARIABLES READ AS WHEN THE CALL BEGINS. Each datum BY PROGRAM (the guide's laid-datum.mjs) off the statement by which the dump's own 'gosem.cut.vars' lays the variable. In a bare row this is a premise. The card (YtleedppcandbkaaDoorCards.lean) ties it to the program's text. -/
def laid_carillon_sha_first {H : Type} : DataW H := .agg [.lit (.int .u32 1779033703), .lit (.int .u32 3144134277), .lit (.int .u32 1013904242), .lit (.int .u32 2773480762), .lit (.int .u32 1359893119), .lit (.int .u32 2600822924), .lit (.int .u32 528734635), .lit (.int .u32 1541459225)]
def laid_carillon_sha_roundWords {H : Type} : DataW H := .agg [.lit (.int .u32 1116352408), .lit (.int .u32 1899447441), .lit (.int .u32 3049323471), .lit (.int .u32 3921009573), .lit (.int .u32 961987163), .lit (.int .u32 1508970993), .lit (.int .u32 2453635748), .lit (.int .u32 2870763221), .lit (.int .u32 3624381080), .lit (.int .u32 310598401), .lit (.int .u32 607225278), .lit (.int .u32 1426881987), .lit (.int .u32 1925078388), .lit (.int .u32 2162078206), .lit (.int .u32 2614888103), .lit (.int .u32 3248222580), .lit (.int .u32 3835390401), .lit (.int .u32 4022224774), .lit (.int .u32 264347078), .lit (.int .u32 604807628), .lit (.int .u32 770255983), .lit (.int .u32 1249150122), .lit (.int .u32 1555081692), .lit (.int .u32 1996064986), .lit (.int .u32 2554220882), .lit (.int .u32 2821834349), .lit (.int .u32 2952996808), .lit (.int .u32 3210313671), .lit (.int .u32 3336571891), .lit (.int .u32 3584528711), .lit (.int .u32 113926993), .lit (.int .u32 338241895), .lit (.int .u32 666307205), .lit (.int .u32 773529912), .lit (.int .u32 1294757372), .lit (.int .u32 1396182291), .lit (.int .u32 1695183700), .lit (.int .u32 1986661051), .lit (.int .u32 2177026350), .lit (.int .u32 2456956037), .lit (.int .u32 2730485921), .lit (.int .u32 2820302411), .lit (.int .u32 3259730800), .lit (.int .u32 3345764771), .lit (.int .u32 3516065817), .lit (.int .u32 3600352804), .lit (.int .u32 4094571909), .lit (.int .u32 275423344), .lit (.int .u32 430227734), .lit (.int .u32 506948616), .lit (.int .u32 659060556), .lit (.int .u32 883997877), .lit (.int .u32 958139571), .lit (.int .u32 1322822218), .lit (.int .u32 1537002063), .lit (.int .u32 1747873779), .lit (.int .u32 1955562222), .lit (.int .u32 2024104815), .lit (.int .u32 2227730452), .lit (.int .u32 2361852424), .lit (.int .u32 2428436474), .lit (.int .u32 2756734187), .lit (.int .u32 3204031479), .lit (.int .u32 3329325298)]

/-- 'carillonlaw15.PebblePlays': WHATEVER THE INPUT: true; the input reads as it did. -/
def pebblePlaysSpec : ChangeSpec := { name := "pebblePlays", fn := fun _ => fun
  | [d1, d2, d3] => { results := [.lit (.bool true)], args := [d1, d2, d3] }
  | _ => none }
def pebblePlaysRow : OpenClaim := { program := "ytleedppcandbkaadoor", sum := "41a55da628861f7512e31a5a43e66be763692e08352490c5831272db2cf28cb0", func := "carillon/carillonlaw15.PebblePlays", spec := "pebblePlays", unfollowed := true, recurses := true, named := ["carillon/sha.first", "carillon/sha.roundWords"], apart := false, laid := [("carillon/sha.first", laid_carillon_sha_first), ("carillon/sha.roundWords", laid_carillon_sha_roundWords)] }
def PebblePlaysSaid : Prop := pebblePlaysRow.holds Tryd.pinned (OpenSpec.ofChange pebblePlaysSpec)

/-- ITS FALSE NEIGHBOUR: 'it returns false'. Refute it at one input. -/
def pebblePlaysWrong : ChangeSpec := { name := "pebblePlays", fn := fun _ => fun
  | [d1, d2, d3] => { results := [.lit (.bool false)], args := [d1, d2, d3] }
  | _ => none }
def PebblePlaysWrongFalsely : Prop := pebblePlaysRow.holds Tryd.pinned (OpenSpec.ofChange pebblePlaysWrong)

/-- 'carillonlaw15.PebbleRoom': WHATEVER THE INPUT: true; the input reads as it did. -/
def pebbleRoomSpec : ChangeSpec := { name := "pebbleRoom", fn := fun _ => fun
  | [d1, d2, d3] => { results := [.lit (.bool true)], args := [d1, d2, d3] }
  | _ => none }
def pebbleRoomRow : OpenClaim := { program := "ytleedppcandbkaadoor", sum := "41a55da628861f7512e31a5a43e66be763692e08352490c5831272db2cf28cb0", func := "carillon/carillonlaw15.PebbleRoom", spec := "pebbleRoom", unfollowed := true, recurses := true, named := ["carillon/sha.first", "carillon/sha.roundWords"], apart := false, laid := [("carillon/sha.first", laid_carillon_sha_first), ("carillon/sha.roundWords", laid_carillon_sha_roundWords)] }
def PebbleRoomSaid : Prop := pebbleRoomRow.holds Tryd.pinned (OpenSpec.ofChange pebbleRoomSpec)

/-- ITS FALSE NEIGHBOUR: 'it returns false'. Refute it at one input. -/
def pebbleRoomWrong : ChangeSpec := { name := "pebbleRoom", fn := fun _ => fun
  | [d1, d2, d3] => { results := [.lit (.bool false)], args := [d1, d2, d3] }
  | _ => none }
def PebbleRoomWrongFalsely : Prop := pebbleRoomRow.holds Tryd.pinned (OpenSpec.ofChange pebbleRoomWrong)

/-- 'carillonlaw15.PebbleChain': WHATEVER THE INPUT: true; the input reads as it did. -/
def pebbleChainSpec : ChangeSpec := { name := "pebbleChain", fn := fun _ => fun
  | [d1, d2, d3] => { results := [.lit (.bool true)], args := [d1, d2, d3] }
  | _ => none }
def pebbleChainRow : OpenClaim := { program := "ytleedppcandbkaadoor", sum := "41a55da628861f7512e31a5a43e66be763692e08352490c5831272db2cf28cb0", func := "carillon/carillonlaw15.PebbleChain", spec := "pebbleChain", unfollowed := true, recurses := true, named := ["carillon/sha.first", "carillon/sha.roundWords"], apart := false, laid := [("carillon/sha.first", laid_carillon_sha_first), ("carillon/sha.roundWords", laid_carillon_sha_roundWords)] }
def PebbleChainSaid : Prop := pebbleChainRow.holds Tryd.pinned (OpenSpec.ofChange pebbleChainSpec)

/-- ITS FALSE NEIGHBOUR: 'it returns false'. Refute it at one input. -/
def pebbleChainWrong : ChangeSpec := { name := "pebbleChain", fn := fun _ => fun
  | [d1, d2, d3] => { results := [.lit (.bool false)], args := [d1, d2, d3] }
  | _ => none }
def PebbleChainWrongFalsely : Prop := pebbleChainRow.holds Tryd.pinned (OpenSpec.ofChange pebbleChainWrong)

/-- 'carillonlaw15.PebbleZero': WHATEVER THE INPUT: true; the input reads as it did. -/
def pebbleZeroSpec : ChangeSpec := { name := "pebbleZero", fn := fun _ => fun
  | [d] => { results := [.lit (.bool true)], args := [d] }
  | _ => none }
def pebbleZeroRow : OpenClaim := { program := "ytleedppcandbkaadoor", sum := "41a55da628861f7512e31a5a43e66be763692e08352490c5831272db2cf28cb0", func := "carillon/carillonlaw15.PebbleZero", spec := "pebbleZero", unfollowed := true, recurses := true, named := ["carillon/sha.first", "carillon/sha.roundWords"], apart := false, laid := [("carillon/sha.first", laid_carillon_sha_first), ("carillon/sha.roundWords", laid_carillon_sha_roundWords)] }
def PebbleZeroSaid : Prop := pebbleZeroRow.holds Tryd.pinned (OpenSpec.ofChange pebbleZeroSpec)

/-- ITS FALSE NEIGHBOUR: 'it returns false'. Refute it at one input. -/
def pebbleZeroWrong : ChangeSpec := { name := "pebbleZero", fn := fun _ => fun
  | [d] => { results := [.lit (.bool false)], args := [d] }
  | _ => none }
def PebbleZeroWrongFalsely : Prop := pebbleZeroRow.holds Tryd.pinned (OpenSpec.ofChange pebbleZeroWrong)

/- THE SECOND FORM. 'bulk': how many values and letters a reading holds, each counted each time it is reached (what is shared counts as often as it is met; a slice's spare places count too). A statement '..UptoSaid' is the law's where the arguments, and the package variables that the reading takes, are together of bulk at most 1048576: NARROWER than '..Said'. Prove '..Said' where nothing that the law and all that it calls make is longer than what came in: it says more and counts as full. Else prove '..UptoSaid'. A law counts once. -/
mutual
def uptoBulk {H : Type} : DataW H → Nat
  | .lit (.string bytes) => bytes.length + 1
  | .lit _ => 1
  | .nil => 1
  | .ptr d => uptoBulk d + 1
  | .slice elems spare => uptoBulkAll elems + uptoBulkAll spare + 1
  | .agg parts => uptoBulkAll parts + 1
  | .iface _ d => uptoBulk d + 1
  | .map entries => uptoBulkEntries entries + 1
  | .held _ => 1
def uptoBulkAll {H : Type} : List (DataW H) → Nat
  | [] => 0
  | d :: r => uptoBulk d + uptoBulkAll r
def uptoBulkEntries {H : Type} : List (Lit × DataW H) → Nat
  | [] => 0
  | x :: r => uptoBulkEntry x + uptoBulkEntries r
def uptoBulkEntry {H : Type} : Lit × DataW H → Nat
  | (.string bytes, d) => bytes.length + uptoBulk d + 1
  | (_, d) => uptoBulk d + 1
 end
def uptoSmall : (H : Type) → List (DataW H) → Bool := fun _ ds => decide (uptoBulkAll ds ≤ 1048576)
def OpenSpec.upto (s : _root_.Go.ChangeSpec) : _root_.Go.OpenSpec := { _root_.Go.OpenSpec.ofChange s with cond := some uptoSmall }

/-- 'carillonlaw15.PebblePlays', WHERE WHAT IT READS IS OF BULK AT MOST 1048576: true; the input reads as it did. -/
def pebblePlaysUptoRow : OpenClaim := { program := "ytleedppcandbkaadoor", sum := "41a55da628861f7512e31a5a43e66be763692e08352490c5831272db2cf28cb0", func := "carillon/carillonlaw15.PebblePlays", spec := "pebblePlays", unfollowed := true, recurses := true, named := ["carillon/sha.first", "carillon/sha.roundWords"], apart := false, laid := [("carillon/sha.first", laid_carillon_sha_first), ("carillon/sha.roundWords", laid_carillon_sha_roundWords)], narrowed := true }
def PebblePlaysUptoSaid : Prop := pebblePlaysUptoRow.holds Tryd.pinned (OpenSpec.upto pebblePlaysSpec)

/-- 'carillonlaw15.PebbleRoom', WHERE WHAT IT READS IS OF BULK AT MOST 1048576: true; the input reads as it did. -/
def pebbleRoomUptoRow : OpenClaim := { program := "ytleedppcandbkaadoor", sum := "41a55da628861f7512e31a5a43e66be763692e08352490c5831272db2cf28cb0", func := "carillon/carillonlaw15.PebbleRoom", spec := "pebbleRoom", unfollowed := true, recurses := true, named := ["carillon/sha.first", "carillon/sha.roundWords"], apart := false, laid := [("carillon/sha.first", laid_carillon_sha_first), ("carillon/sha.roundWords", laid_carillon_sha_roundWords)], narrowed := true }
def PebbleRoomUptoSaid : Prop := pebbleRoomUptoRow.holds Tryd.pinned (OpenSpec.upto pebbleRoomSpec)

/-- 'carillonlaw15.PebbleChain', WHERE WHAT IT READS IS OF BULK AT MOST 1048576: true; the input reads as it did. -/
def pebbleChainUptoRow : OpenClaim := { program := "ytleedppcandbkaadoor", sum := "41a55da628861f7512e31a5a43e66be763692e08352490c5831272db2cf28cb0", func := "carillon/carillonlaw15.PebbleChain", spec := "pebbleChain", unfollowed := true, recurses := true, named := ["carillon/sha.first", "carillon/sha.roundWords"], apart := false, laid := [("carillon/sha.first", laid_carillon_sha_first), ("carillon/sha.roundWords", laid_carillon_sha_roundWords)], narrowed := true }
def PebbleChainUptoSaid : Prop := pebbleChainUptoRow.holds Tryd.pinned (OpenSpec.upto pebbleChainSpec)

/-- 'carillonlaw15.PebbleZero', WHERE WHAT IT READS IS OF BULK AT MOST 1048576: true; the input reads as it did. -/
def pebbleZeroUptoRow : OpenClaim := { program := "ytleedppcandbkaadoor", sum := "41a55da628861f7512e31a5a43e66be763692e08352490c5831272db2cf28cb0", func := "carillon/carillonlaw15.PebbleZero", spec := "pebbleZero", unfollowed := true, recurses := true, named := ["carillon/sha.first", "carillon/sha.roundWords"], apart := false, laid := [("carillon/sha.first", laid_carillon_sha_first), ("carillon/sha.roundWords", laid_carillon_sha_roundWords)], narrowed := true }
def PebbleZeroUptoSaid : Prop := pebbleZeroUptoRow.holds Tryd.pinned (OpenSpec.upto pebbleZeroSpec)

end Rows
end Go.Proofs.YtleedppcandbkaaDoor
