/-
  The contracts of Holds, Inside and Grow, of the program and of the document, and of awake.
-/
import Derived.Test.YtfifcfdlmpgohaaIvalCalls
import Derived.Test.YtfifcfdlmpgohaaRateRef
namespace Go.Proofs.Ytfifcfdlmpgohaa
open Go.ChangeShapes Go.WideShapes Go.ChangeAt Go.RowKit

def growV (a b t d : Int) : Value := if mayB t d = true ∧ rightB a b = true then makeV (a - spreadN t d) (b + spreadN t d) else errV 1


end Go.Proofs.Ytfifcfdlmpgohaa
