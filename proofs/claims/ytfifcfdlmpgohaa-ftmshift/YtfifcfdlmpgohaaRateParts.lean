/-
  The contracts of isRight, quotient, fast and slow.
-/
import Derived.Test.YtfifcfdlmpgohaaRateMath
import Derived.Test.YtfifcfdlmpgohaaRows
namespace Go.Proofs.Ytfifcfdlmpgohaa
open Go.ChangeShapes Go.WideShapes Go.ChangeAt Go.RowKit

theorem quo_bound {x y : Int} (hx : 0 ≤ x) (hy : 0 < y) : 0 ≤ x / y ∧ x / y ≤ x := ⟨Int.ediv_nonneg hx (by omega), Int.ediv_le_self _ hx⟩

end Go.Proofs.Ytfifcfdlmpgohaa
