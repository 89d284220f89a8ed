/-
  The walk of FrameGets.
-/
import Derived.Test.YtaihjnaggmmiiaaGreatDoorFrameBackW
import Derived.Test.YtaihjnaggmmiiaaGreatDoorFrameRGet
namespace Go.Proofs.YtaihjnaggmmiiaaGreatDoor
open Go.ChangeShapes Go.WideShapes Go.ChangeAt Go.RowKit

theorem rsame_any (w : World) (F : Fr) (A : At) (G : Fr) (B : At) (hF : Seen w F A) (hG : Seen w G B) (b : Bool) (hb : sameB F G = b) : Calls Tryz.prog 16 #[.agg (frC F A), .agg (frC G B)] w fun e w' => e = .returned (.bool b) ∧ Below w.heap.size w w' := by
  refine (rsame_ok w F A G B hF hG).mono ?_
  rintro e w' ⟨he, hw⟩
  rw [hb] at he
  exact ⟨he, by rw [hw]; exact Go.Joins.below_alloc2 _ _ _⟩

end Go.Proofs.YtaihjnaggmmiiaaGreatDoor
