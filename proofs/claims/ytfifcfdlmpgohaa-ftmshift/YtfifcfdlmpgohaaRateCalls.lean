/-
  The contracts of Most, Least, Spread, Beats, and of awake.
-/
import Derived.Test.YtfifcfdlmpgohaaRateParts
namespace Go.Proofs.Ytfifcfdlmpgohaa
open Go.ChangeShapes Go.WideShapes Go.ChangeAt Go.RowKit

/-- What a call answers: the number and 0, or 0 and 1. -/
def ansN (a d n : Int) : Value := if mayB a d = true then .tuple #[.int .i64 n, .int .i64 0] else .tuple #[.int .i64 0, .int .i64 1]

/-- What Beats answers. -/
def beatsV (a d : Int) : Value := if mayB a d = true then .tuple #[.int .i64 (upN a (100 + d)), .int .i64 (a / (100 - d)), .int .i64 0] else .tuple #[.int .i64 0, .int .i64 0, .int .i64 1]

end Go.Proofs.Ytfifcfdlmpgohaa
