/-
  What a pebble tells of itself.
-/
import Derived.Test.YtgncdnejmobjbaaGreatDoorPebA
namespace Go.Proofs.YtgncdnejmobjbaaGreatDoor
open Go.ChangeShapes Go.WideShapes Go.ChangeAt Go.RowKit

theorem made_yes (w : World) (o g : Nat) (cd : Option Addr) (cc : Nat) (hc : w.cell? ⟨g, o, none⟩ = some (.slice cd 16 cc)) : Calls Tryz.prog 51 #[.pointer (some ⟨g, o, none⟩)] w fun e w' => e = .returned (.bool true) ∧ w' = w := by
  go_enter Tryz.func51, Tryz.ntmps51
  go_wp2
  go_ret
  exact ⟨rfl, rfl⟩
theorem commit_ok (w : World) (Q : Nest) (o g b cap : Nat) (cd : Option Addr) (cc : Nat) (key com : List UInt8) (n told steps : Nat) (T : List Stone) (h : Peb Q o w g b cap (.slice cd 16 cc) key n told steps T) (hs : Sees w cd cc com) (hl : com.length = 16) :
    Calls Tryz.prog 26 #[.pointer (some ⟨g, o, none⟩)] w fun e w' => ∃ d c, e = .returned (.slice d 16 c) ∧ Sees w' d c com ∧ Below w.heap.size w w' := by
  obtain ⟨c0, _, _, _⟩ := h.cells
  have hm := made_yes w o g cd cc c0
  have hcl := clone_any w cd cc com hs (by omega)
  rw [hl] at hcl
  clear h hs hl
  go_enter Tryz.func26, Tryz.ntmps26
  go_wp2_with fail
  refine hm.mono ?_
  rintro e w1 ⟨rfl, rfl⟩
  go_wp2_with fail
  refine hcl.mono ?_
  rintro e w2 ⟨d1, c1, rfl, hs1, hb1⟩
  clear hcl
  go_wp2
  go_ret
  exact ⟨d1, c1, rfl, hs1, hb1⟩
end Go.Proofs.YtgncdnejmobjbaaGreatDoor
