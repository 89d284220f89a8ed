/-
  The document's reader of frames: num, bytes, read.

  The document's reader of frames: read.

  The contract of the document's Get.
  The walk of FrameGets.
-/
import Derived.Test.YtmffplhaclnehaaGreatDoorFrameA
import Derived.Test.YtmffplhaclnehaaGreatDoorBitsA
import Derived.Deep.DeepCutAuto
import Derived.Test.YtmffplhaclnehaaGreatDoorFrameGetP
import Derived.Test.YtmffplhaclnehaaGreatDoorFrameD
import Derived.Test.YtmffplhaclnehaaGreatDoorCrcA
namespace Go.Proofs.YtmffplhaclnehaaGreatDoor
open Go.ChangeShapes Go.WideShapes Go.ChangeAt Go.RowKit
set_option maxRecDepth 20000
theorem rsame_any (w : World) (F : Fr) (A : At) (G : Fr) (B : At) (hF : Seen w F A) (hG : Seen w G B) (b : Bool) (hb : sameB F G = b) : Calls Tryz.prog 46 #[.agg (frC F A), .agg (frC G B)] w fun e w' => e = .returned (.bool b) ∧ Below w.heap.size w w' := by
  refine (rsame_ok w F A G B hF hG).mono ?_
  rintro e w' ⟨he, hw⟩
  rw [hb] at he
  exact ⟨he, by rw [hw]; exact Go.Joins.below_alloc2 _ _ _⟩
end Go.Proofs.YtmffplhaclnehaaGreatDoor
