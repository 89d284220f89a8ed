/-
  The contracts of the document's side: may, up, Most, Least, Spread; Beats.
-/
import Derived.Test.YtfifcfdlmpgohaaRateCalls
import Derived.Test.YtfifcfdlmpgohaaDraws
namespace Go.Proofs.Ytfifcfdlmpgohaa
open Go.ChangeShapes Go.WideShapes Go.ChangeAt Go.RowKit

end Go.Proofs.Ytfifcfdlmpgohaa
