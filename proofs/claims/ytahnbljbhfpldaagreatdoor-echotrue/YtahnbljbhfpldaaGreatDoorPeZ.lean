/-
  What a node that nobody made answers: nil, or its zero value.
-/
import Derived.Test.YtahnbljbhfpldaaGreatDoorPeI
import Derived.Test.YtahnbljbhfpldaaGreatDoorPeF
namespace Go.Proofs.YtahnbljbhfpldaaGreatDoor
open Go.ChangeShapes Go.WideShapes Go.ChangeAt Go.RowKit
set_option maxRecDepth 20000
theorem pn_laid {W : World} {x : An} {a : Option Addr} {c : Nat} (hs : Sees W a c x.key) : ∃ W', (Instr.storeAt 51 (.pointer (some ⟨W.heap.size, 0, none⟩)) (.agg (anC x a c))).run Tryz.prog (W.alloc (.cells (anC An.zero none 0) 51)) = .ok () W' ∧ PnAt W' W.heap.size x a c ∧ Sees W' a c x.key ∧ Below W.heap.size W W' := by
  have hb : Below W.heap.size W (W.alloc (.cells (anC An.zero none 0) 51)) := Go.Joins.below_alloc1 _ _
  obtain ⟨X, hst, hX, hs', aX⟩ := pn_stored (PnAt.new W An.zero none 0) x a c (hs.below hb)
  exact ⟨X, hst, hX, hs', aX.below hb (fun k hk => by omega) hb.size⟩
end Go.Proofs.YtahnbljbhfpldaaGreatDoor
