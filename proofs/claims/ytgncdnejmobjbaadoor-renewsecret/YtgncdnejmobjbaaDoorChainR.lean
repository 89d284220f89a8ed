/-
  The document's chain: the contracts of its Seed, Back, All, Key and Follows.
  The document's Follows.
-/
import Derived.Test.YtgncdnejmobjbaaDoorChainC
namespace Go.Proofs.YtgncdnejmobjbaaDoor
open Go.ChangeShapes Go.WideShapes Go.ChangeAt Go.RowKit
set_option maxRecDepth 20000

/-- What the document's All has written so far. -/
def RAll (W : World) (g n : Nat) (key : List UInt8) (s : List Loc) : Prop := W.heap[g]? = some (.cells (rowL n s).toArray 22 (0, 0)) ∧ Told W key s

end Go.Proofs.YtgncdnejmobjbaaDoor

namespace Go.Proofs.YtgncdnejmobjbaaDoor
open Go.ChangeShapes Go.WideShapes Go.ChangeAt Go.RowKit
set_option maxRecDepth 20000

end Go.Proofs.YtgncdnejmobjbaaDoor
