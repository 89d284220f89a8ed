/-
  The walk of FrameBack.
-/
import Derived.Test.YtaihjnaggmmiiaaGreatDoorFrameE
import Derived.Test.YtaihjnaggmmiiaaGreatDoorFrameGetP
namespace Go.Proofs.YtaihjnaggmmiiaaGreatDoor
open Go.ChangeShapes Go.WideShapes Go.ChangeAt Go.RowKit

/-- A frame that came back, in a block of its own. -/
theorem fr_laid {W : World} {F : Fr} {A : At} (hs : Seen W F A) : ∃ W', (Instr.storeAt 25 (.pointer (some ⟨W.heap.size, 0, none⟩)) (.agg (frC F A))).run Tryz.prog (W.alloc (.cells (frC Fr.zero At.zero) 25)) = .ok () W' ∧ FrAt W' W.heap.size F A ∧ Seen W' F A ∧ Below W.heap.size W W' := by
  have h1 : FrAt (W.alloc (.cells (frC Fr.zero At.zero) 25)) W.heap.size Fr.zero At.zero := FrAt.new W _ _
  have hbb : Below W.heap.size W ((W.alloc (.cells (frC Fr.zero At.zero) 25)).setRow W.heap.size (frC F A)) := below_setRow (Go.Joins.below_alloc1 _ _) (Nat.le_refl _) _
  exact ⟨_, h1.stores F A, h1.stored F A, hs.below hbb, hbb⟩
theorem fsame_any (w : World) (F : Fr) (A : At) (G : Fr) (B : At) (hF : Seen w F A) (hG : Seen w G B) (b : Bool) (hb : sameB F G = b) : Calls Tryz.prog 18 #[.agg (frC F A), .agg (frC G B)] w fun e w' => e = .returned (.bool b) ∧ Below w.heap.size w w' := by
  refine (same_ok w F A G B hF hG).mono ?_
  rintro e w' ⟨he, hw⟩
  rw [hb] at he
  exact ⟨he, by rw [hw]; exact Go.Joins.below_alloc2 _ _ _⟩
/-- Put of what Get told. -/
theorem put_back (l : List UInt8) (h : getE l = 0) : putR (getF l) = l ∧ putE (getF l) = 0 := by
  obtain ⟨h1, h2, _⟩ := put_get l h
  exact ⟨by unfold putR; rw [if_pos h1, h2], by unfold putE; rw [if_pos h1]⟩

end Go.Proofs.YtaihjnaggmmiiaaGreatDoor
