/-
  The contracts of At, Speak and Next.
-/
import Derived.Test.YtmionehafekokaaSchedE
import Derived.Test.YtmionehafekokaaSchedN
namespace Go.Proofs.Ytmionehafekokaa
open Go.ChangeShapes Go.WideShapes Go.ChangeAt Go.RowKit

/-- What At, Speak and Next answer. -/
def atV (c : Cf) (r s : Int) : Value := if cellB c r s = true then .tuple #[.int .i64 (atN c r s), .int .i64 0] else .tuple #[.int .i64 0, .int .i64 1]
def speakV (c : Cf) (r s : Int) : Value := if cellB c r s = true then .tuple #[.int .i64 (atN c r s), .int .i64 (atN c r s + c.s - 1), .int .i64 0] else .tuple #[.int .i64 0, .int .i64 0, .int .i64 1]
def nextV (c : Cf) (i t : Int) : Value := if nextB c i t = true then .tuple #[.int .i64 (nextN c i t), .int .i64 0] else .tuple #[.int .i64 0, .int .i64 1]

end Go.Proofs.Ytmionehafekokaa
