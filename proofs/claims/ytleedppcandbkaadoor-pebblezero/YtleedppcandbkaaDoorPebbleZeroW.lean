/-
  The walk of PebbleZero, as its row hands it over.
-/
import Derived.Test.YtleedppcandbkaaDoorPebB
namespace Go.Proofs.YtleedppcandbkaaDoor
open Go.ChangeShapes Go.WideShapes Go.ChangeAt Go.RowKit
theorem zero_law (a : Option Addr) (ca : Nat) (seed : List UInt8) (W : World) (hTab : FTab W ∧ KTab W) (hs : Sees W a ca seed) (_hm : ca ≤ 140737488351232) : Calls Tryd.prog 6 #[.slice a seed.length ca] W fun e W' => e = .returned (.bool true) ∧ Below W.heap.size W W' :=
  zero_walk W a ca seed hTab.1 hTab.2 hs
end Go.Proofs.YtleedppcandbkaaDoor
