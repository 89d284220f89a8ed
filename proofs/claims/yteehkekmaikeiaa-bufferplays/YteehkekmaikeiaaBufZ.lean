/-
  What a buffer answers that no call made; what it is to be made.
-/
import Derived.Test.YteehkekmaikeiaaRows
import Derived.Test.YteehkekmaikeiaaCells
import Derived.Test.YteehkekmaikeiaaFoot
namespace Go.Proofs.Yteehkekmaikeiaa
open Go.ChangeShapes Go.WideShapes Go.ChangeAt Go.RowKit

/-- A nil buffer, or one that no call made. -/
def NoBuf (w : World) (p : Value) : Prop := p = .pointer none ∨ ∃ g, p = .pointer (some ⟨g, 0, none⟩) ∧ w.cell? ⟨g, 3, none⟩ = some (.map none)
theorem neq_nil (w : World) : (binOp .neq 47 (.map none) (.map none)).run Try.prog w = .ok (.bool false) w := by kernel_rfl
theorem neq_some (m : Nat) (w : World) : (binOp .neq 47 (.map (some m)) (.map none)).run Try.prog w = .ok (.bool true) w := by kernel_rfl
theorem made_no (w : World) (p : Value) (h : NoBuf w p) : Calls Try.prog 21 #[p] w fun e w' => e = .returned (.bool false) ∧ w' = w := by
  rcases h with rfl | ⟨g, rfl, hc⟩
  · go_enter Try.func21, Try.ntmps21
    go_wp2
    go_ret
    exact ⟨rfl, rfl⟩
  · have hn := neq_nil
    go_enter Try.func21, Try.ntmps21
    go_wp2
    go_ret
    exact ⟨rfl, rfl⟩
theorem made_ok (w : World) (g m : Nat) (h : w.cell? ⟨g, 3, none⟩ = some (.map (some m))) : Calls Try.prog 21 #[.pointer (some ⟨g, 0, none⟩)] w fun e w' => e = .returned (.bool true) ∧ w' = w := by
  have hn := neq_some m
  go_enter Try.func21, Try.ntmps21
  go_wp2
  go_ret
  exact ⟨rfl, rfl⟩
theorem put_no (w : World) (p : Value) (h : NoBuf w p) (t i : Int) (x : Value) : Calls Try.prog 10 #[p, .int .i64 t, .int .i64 i, x] w fun e w' => e = .returned (.int .i64 7) ∧ w' = w := by
  have hs := made_no w p h
  clear h
  go_enter Try.func10, Try.ntmps10
  go_wp2_with fail
  refine hs.mono ?_
  rintro e w1 ⟨rfl, rfl⟩
  go_wp2
  go_ret
  exact ⟨rfl, rfl⟩
theorem take_no (w : World) (p : Value) (h : NoBuf w p) (t i : Int) : Calls Try.prog 13 #[p, .int .i64 t, .int .i64 i] w fun e w' => e = .returned (.slice none 0 0) ∧ w' = w := by
  have hs := made_no w p h
  clear h
  go_enter Try.func13, Try.ntmps13
  go_wp2_with fail
  refine hs.mono ?_
  rintro e w1 ⟨rfl, rfl⟩
  go_wp2
  go_ret
  exact ⟨rfl, rfl⟩
theorem drop_no (w : World) (p : Value) (h : NoBuf w p) (t i : Int) : Calls Try.prog 15 #[p, .int .i64 t, .int .i64 i] w fun e w' => e = .returned (.int .i64 0) ∧ w' = w := by
  have hs := made_no w p h
  clear h
  go_enter Try.func15, Try.ntmps15
  go_wp2_with fail
  refine hs.mono ?_
  rintro e w1 ⟨rfl, rfl⟩
  go_wp2
  go_ret
  exact ⟨rfl, rfl⟩
theorem len_no (w : World) (p : Value) (h : NoBuf w p) : Calls Try.prog 17 #[p] w fun e w' => e = .returned (.int .i64 0) ∧ w' = w := by
  have hs := made_no w p h
  clear h
  go_enter Try.func17, Try.ntmps17
  go_wp2_with fail
  refine hs.mono ?_
  rintro e w1 ⟨rfl, rfl⟩
  go_wp2
  go_ret
  exact ⟨rfl, rfl⟩
theorem lost_no (w : World) (p : Value) (h : NoBuf w p) : Calls Try.prog 18 #[p] w fun e w' => e = .returned (.int .i64 0) ∧ w' = w := by
  have hs := made_no w p h
  clear h
  go_enter Try.func18, Try.ntmps18
  go_wp2_with fail
  refine hs.mono ?_
  rintro e w1 ⟨rfl, rfl⟩
  go_wp2
  go_ret
  exact ⟨rfl, rfl⟩
theorem count_no (w : World) (p : Value) (h : NoBuf w p) (t i : Int) : Calls Try.prog 19 #[p, .int .i64 t, .int .i64 i] w fun e w' => e = .returned (.int .i64 0) ∧ w' = w := by
  have hs := made_no w p h
  clear h
  go_enter Try.func19, Try.ntmps19
  go_wp2_with fail
  refine hs.mono ?_
  rintro e w1 ⟨rfl, rfl⟩
  go_wp2
  go_ret
  exact ⟨rfl, rfl⟩

set_option maxHeartbeats 1600000 in
set_option maxRecDepth 20000 in
theorem zero_walk (a : Option Addr) (cap : Nat) (bs : List UInt8) (w : World) : Calls Try.prog 6 #[.slice a bs.length cap] w fun e w' => e = .returned (.bool true) ∧ Below w.heap.size w w' := by
  obtain ⟨W, hW⟩ : ∃ W, W = w.alloc (.cells #[.int .i64 0, .int .i64 0, .slice none 0 0, .map none] 49) := ⟨_, rfl⟩
  have hb : Below w.heap.size w W := by rw [hW]; exact (Below.refl _ _).alloc (Nat.le_refl _) _
  have hN : NoBuf W (.pointer none) := .inl rfl
  have hG : NoBuf W (.pointer (some ⟨w.heap.size, 0, none⟩)) := .inr ⟨_, rfl, by rw [hW]; exact cell_of_row _ _ 3 _ _ _ (heap_alloc_new w _)⟩
  go_enter Try.func6, Try.ntmps6
  go_wp2_with fail
  rw [← hW]
  clear hW
  refine (put_no W _ hN 1 1 _).mono ?_
  rintro e W ⟨rfl, rfl⟩
  go_wp2_with fail
  refine (put_no W _ hG 1 1 _).mono ?_
  rintro e W ⟨rfl, rfl⟩
  go_wp2_with fail
  refine (take_no W _ hN 1 1).mono ?_
  rintro e W ⟨rfl, rfl⟩
  go_wp2_with fail
  refine (drop_no W _ hG 1 1).mono ?_
  rintro e W ⟨rfl, rfl⟩
  go_wp2_with fail
  refine (len_no W _ hN).mono ?_
  rintro e W ⟨rfl, rfl⟩
  go_wp2_with fail
  refine (lost_no W _ hG).mono ?_
  rintro e W ⟨rfl, rfl⟩
  go_wp2_with fail
  refine (count_no W _ hN 1 1).mono ?_
  rintro e W ⟨rfl, rfl⟩
  go_wp2
  go_ret
  exact ⟨rfl, hb⟩
end Go.Proofs.Yteehkekmaikeiaa
