/-
  The document's buffer in memory; New, Count, without.
  The document's without and Take.
  The document's Take and Drop.
-/
import Derived.Test.YtmffplhaclnehaaGreatDoorBufS
namespace Go.Proofs.YtmffplhaclnehaaGreatDoor
open Go.ChangeShapes Go.WideShapes Go.ChangeAt Go.RowKit
set_option maxRecDepth 20000
def RA (w : World) (r most : Nat) (v : Value) (lost : Nat) : Prop := w.heap[r]? = some (.cells #[.int .i64 (most : Int), v, .int .i64 (lost : Int)] 53 (0, 0))
structure BRb (w : World) (r : Nat) (v : Value) (s : Bs) (ss : List BSl) : Prop where
  at' : RA w r s.most v s.lost
  row : Row E59 w v ss
  its : ss.map Prod.fst = s.L
  seen : BSeen w ss
  ok : s.ok
def ROwn (r : Nat) (v : Value) : Nat → Prop := fun k => k = r ∨ v.ownBlock = some k
end Go.Proofs.YtmffplhaclnehaaGreatDoor
