/-
  A receiver that nobody made: each call, and the walk of its law.
-/
import Derived.Test.YtmffplhaclnehaaGreatDoorRows
import Derived.Test.YtmffplhaclnehaaGreatDoorGround
namespace Go.Proofs.YtmffplhaclnehaaGreatDoor
open Go.ChangeShapes Go.WideShapes Go.ChangeAt Go.RowKit
set_option maxRecDepth 20000

/-- No call made it. -/
def NoT (w : World) (p : Value) : Prop := p = .pointer none ∨ ∃ R, p = .pointer (some ⟨R, 0, none⟩) ∧ w.cell? ⟨R, 16, none⟩ = some (.pointer none)
theorem tmade_no (w : World) (p : Value) (h : NoT w p) : Calls Tryz.prog 33 #[p] w fun e w' => e = .returned (.bool false) ∧ w' = w := by
  rcases h with rfl | ⟨R, rfl, c⟩
  · go_enter Tryz.func33, Tryz.ntmps33
    go_wp2
    go_ret
    exact ⟨rfl, rfl⟩
  · go_enter Tryz.func33, Tryz.ntmps33
    go_wp2
    go_ret
    exact ⟨rfl, rfl⟩
theorem tanchor_no (w : World) (p : Value) (h : NoT w p) (e t i : Int) (a : Option Addr) (n c : Nat) : Calls Tryz.prog 11 #[p, .int .i64 e, .int .i64 t, .int .i64 i, .slice a n c] w fun e w' => e = .returned (.int .i64 7) ∧ w' = w := by
  have hs := tmade_no w p h
  clear h
  go_enter Tryz.func11, Tryz.ntmps11
  go_wp2_with fail
  refine hs.mono ?_
  rintro e w1 ⟨rfl, rfl⟩
  go_wp2
  go_ret
  exact ⟨rfl, rfl⟩
theorem toffer_no (w : World) (p : Value) (h : NoT w p) (a : Option Addr) (n c : Nat) (m : Int) : Calls Tryz.prog 13 #[p, .slice a n c, .int .i64 m] w fun e w' => e = .returned (.int .i64 7) ∧ w' = w := by
  have hs := tmade_no w p h
  clear h
  go_enter Tryz.func13, Tryz.ntmps13
  go_wp2_with fail
  refine hs.mono ?_
  rintro e w1 ⟨rfl, rfl⟩
  go_wp2
  go_ret
  exact ⟨rfl, rfl⟩
theorem ttell_no (w : World) (p : Value) (h : NoT w p) (e i : Int) (a : Option Addr) (n c : Nat) : Calls Tryz.prog 15 #[p, .int .i64 e, .int .i64 i, .slice a n c] w fun e w' => e = .returned (.tuple #[.slice none 0 0, .int .i64 7]) ∧ w' = w := by
  have hs := tmade_no w p h
  clear h
  go_enter Tryz.func15, Tryz.ntmps15
  go_wp2_with fail
  refine hs.mono ?_
  rintro e w1 ⟨rfl, rfl⟩
  go_wp2
  go_ret2
  exact ⟨rfl, rfl⟩
theorem tepoch_no (w : World) (p : Value) (h : NoT w p) : Calls Tryz.prog 18 #[p] w fun e w' => e = .returned (.int .i64 (-1)) ∧ w' = w := by
  have hs := tmade_no w p h
  clear h
  go_enter Tryz.func18, Tryz.ntmps18
  go_wp2_with fail
  refine hs.mono ?_
  rintro e w1 ⟨rfl, rfl⟩
  go_wp2
  go_ret
  exact ⟨rfl, rfl⟩
theorem tindex_no (w : World) (p : Value) (h : NoT w p) : Calls Tryz.prog 19 #[p] w fun e w' => e = .returned (.int .i64 (-1)) ∧ w' = w := by
  have hs := tmade_no w p h
  clear h
  go_enter Tryz.func19, Tryz.ntmps19
  go_wp2_with fail
  refine hs.mono ?_
  rintro e w1 ⟨rfl, rfl⟩
  go_wp2
  go_ret
  exact ⟨rfl, rfl⟩
theorem twaiting_no (w : World) (p : Value) (h : NoT w p) : Calls Tryz.prog 20 #[p] w fun e w' => e = .returned (.int .i64 0) ∧ w' = w := by
  have hs := tmade_no w p h
  clear h
  go_enter Tryz.func20, Tryz.ntmps20
  go_wp2_with fail
  refine hs.mono ?_
  rintro e w1 ⟨rfl, rfl⟩
  go_wp2
  go_ret
  exact ⟨rfl, rfl⟩
theorem tlast_no (w : World) (p : Value) (h : NoT w p) : Calls Tryz.prog 21 #[p] w fun e w' => e = .returned (.int .i64 (-1)) ∧ w' = w := by
  have hs := tmade_no w p h
  clear h
  go_enter Tryz.func21, Tryz.ntmps21
  go_wp2_with fail
  refine hs.mono ?_
  rintro e w1 ⟨rfl, rfl⟩
  go_wp2
  go_ret
  exact ⟨rfl, rfl⟩

set_option maxHeartbeats 1600000 in
theorem zero_walk (a : Option Addr) (cap : Nat) (bs : List UInt8) (w : World) : Calls Tryz.prog 7 #[.slice a bs.length cap] w fun e w' => e = .returned (.bool true) ∧ Below w.heap.size w w' := by
  obtain ⟨W, hW⟩ : ∃ W, W = w.alloc (.cells #[.int .i64 0, .int .i64 0, .int .i64 0, .int .i64 0, .int .i64 0, .int .i64 0, .int .i64 0, .int .i64 0, .int .i64 0, .int .i64 0, .int .i64 0, .int .i64 0, .int .i64 0, .int .i64 0, .slice none 0 0, .int .i64 0, .pointer none] 76) := ⟨_, rfl⟩
  have hb : Below w.heap.size w W := by rw [hW]; exact (Below.refl _ _).alloc (Nat.le_refl _) _
  have hN : NoT W (.pointer none) := .inl rfl
  have hG : NoT W (.pointer (some ⟨w.heap.size, 0, none⟩)) := .inr ⟨_, rfl, by rw [hW]; exact cell_of_row _ _ 16 _ _ _ (heap_alloc_new w _)⟩
  go_enter Tryz.func7, Tryz.ntmps7
  go_wp2_with fail
  rw [← hW]
  clear hW
  refine (ttell_no W _ hN 1 1 _ _ _).mono ?_
  rintro e W ⟨rfl, rfl⟩
  go_wp2_with fail
  refine (ttell_no W _ hG 1 1 _ _ _).mono ?_
  rintro e W ⟨rfl, rfl⟩
  go_wp2_with fail
  refine (tanchor_no W _ hN 1 1 1 _ _ _).mono ?_
  rintro e W ⟨rfl, rfl⟩
  go_wp2_with fail
  refine (tanchor_no W _ hG 1 1 1 _ _ _).mono ?_
  rintro e W ⟨rfl, rfl⟩
  go_wp2_with fail
  refine (toffer_no W _ hN _ _ _ 0).mono ?_
  rintro e W ⟨rfl, rfl⟩
  go_wp2_with fail
  refine (toffer_no W _ hG _ _ _ 0).mono ?_
  rintro e W ⟨rfl, rfl⟩
  go_wp2_with fail
  refine (tepoch_no W _ hN).mono ?_
  rintro e W ⟨rfl, rfl⟩
  go_wp2_with fail
  refine (tindex_no W _ hG).mono ?_
  rintro e W ⟨rfl, rfl⟩
  go_wp2_with fail
  refine (tlast_no W _ hN).mono ?_
  rintro e W ⟨rfl, rfl⟩
  go_wp2_with fail
  refine (twaiting_no W _ hG).mono ?_
  rintro e W ⟨rfl, rfl⟩
  go_wp2
  go_ret
  exact ⟨rfl, hb⟩
end Go.Proofs.YtmffplhaclnehaaGreatDoor
