/-
  A clock in memory, the program's and the document's; what it tells; what is clamped; what it answers where no call made it.
-/
import Derived.Test.YtddapnceehmgcaaOscM
namespace Go.Proofs.Ytddapnceehmgcaa
open Go.ChangeShapes Go.WideShapes Go.ChangeAt Go.RowKit

/-- Block g holds a clock of the program. -/
def OC (w : World) (g : Nat) (v : Ck) : Prop := w.heap[g]? = some (.cells #[.bool true, .int .i64 v.s, .int .i64 v.h, .int .i64 v.t, .int .i64 v.o] 45 (0, 0))
theorem OC.c0 {w : World} {g : Nat} {v : Ck} (h : OC w g v) : w.cell? ⟨g, 0, none⟩ = some (.bool true) := cell_of_row _ _ 0 _ _ _ h
theorem OC.c1 {w : World} {g : Nat} {v : Ck} (h : OC w g v) : w.cell? ⟨g, 1, none⟩ = some (.int .i64 v.s) := cell_of_row _ _ 1 _ _ _ h
theorem OC.c2 {w : World} {g : Nat} {v : Ck} (h : OC w g v) : w.cell? ⟨g, 2, none⟩ = some (.int .i64 v.h) := cell_of_row _ _ 2 _ _ _ h
theorem OC.c3 {w : World} {g : Nat} {v : Ck} (h : OC w g v) : w.cell? ⟨g, 3, none⟩ = some (.int .i64 v.t) := cell_of_row _ _ 3 _ _ _ h
theorem OC.c4 {w : World} {g : Nat} {v : Ck} (h : OC w g v) : w.cell? ⟨g, 4, none⟩ = some (.int .i64 v.o) := cell_of_row _ _ 4 _ _ _ h
theorem OC.fz {w : World} {g : Nat} {v : Ck} (h : OC w g v) (i : Nat) : w.frozen? ⟨g, i, none⟩ = false := frozen_of_row _ _ i _ _ h
theorem OC.lt {w : World} {g : Nat} {v : Ck} (h : OC w g v) : g < w.heap.size := (Array.getElem?_eq_some_iff.1 h).1
theorem OC.below {w w' : World} {g : Nat} {v : Ck} (h : OC w g v) (hb : Below w.heap.size w w') : OC w' g v := by
  show w'.heap[g]? = _
  rw [hb.block g h.lt]; exact h
theorem OC.drew {w : World} {g : Nat} {v : Ck} (h : OC w g v) : OC w.drew g v := h
theorem OC.set2 {w : World} {g : Nat} {v : Ck} (h : OC w g v) (x : Int) : OC (w.setCell ⟨g, 2, none⟩ (.int .i64 x)) g { v with h := x } := by
  show (w.setCell ⟨g, 2, none⟩ (.int .i64 x)).heap[g]? = _
  rw [heap_setCell_same _ _ _ _ _ _ h]; rfl
theorem OC.set3 {w : World} {g : Nat} {v : Ck} (h : OC w g v) (x : Int) : OC (w.setCell ⟨g, 3, none⟩ (.int .i64 x)) g { v with t := x } := by
  show (w.setCell ⟨g, 3, none⟩ (.int .i64 x)).heap[g]? = _
  rw [heap_setCell_same _ _ _ _ _ _ h]; rfl
theorem OC.set4 {w : World} {g : Nat} {v : Ck} (h : OC w g v) (x : Int) : OC (w.setCell ⟨g, 4, none⟩ (.int .i64 x)) g { v with o := x } := by
  show (w.setCell ⟨g, 4, none⟩ (.int .i64 x)).heap[g]? = _
  rw [heap_setCell_same _ _ _ _ _ _ h]; rfl

/-- Block g holds a clock of the document. -/
def RC (w : World) (g : Nat) (v : Ck) : Prop := w.heap[g]? = some (.cells #[.int .i64 v.s, .int .i64 v.h, .int .i64 v.t, .int .i64 v.o] 36 (0, 0))
theorem RC.c0 {w : World} {g : Nat} {v : Ck} (h : RC w g v) : w.cell? ⟨g, 0, none⟩ = some (.int .i64 v.s) := cell_of_row _ _ 0 _ _ _ h
theorem RC.c1 {w : World} {g : Nat} {v : Ck} (h : RC w g v) : w.cell? ⟨g, 1, none⟩ = some (.int .i64 v.h) := cell_of_row _ _ 1 _ _ _ h
theorem RC.c2 {w : World} {g : Nat} {v : Ck} (h : RC w g v) : w.cell? ⟨g, 2, none⟩ = some (.int .i64 v.t) := cell_of_row _ _ 2 _ _ _ h
theorem RC.c3 {w : World} {g : Nat} {v : Ck} (h : RC w g v) : w.cell? ⟨g, 3, none⟩ = some (.int .i64 v.o) := cell_of_row _ _ 3 _ _ _ h
theorem RC.fz {w : World} {g : Nat} {v : Ck} (h : RC w g v) (i : Nat) : w.frozen? ⟨g, i, none⟩ = false := frozen_of_row _ _ i _ _ h
theorem RC.lt {w : World} {g : Nat} {v : Ck} (h : RC w g v) : g < w.heap.size := (Array.getElem?_eq_some_iff.1 h).1
theorem RC.drew {w : World} {g : Nat} {v : Ck} (h : RC w g v) : RC w.drew g v := h
theorem RC.set1 {w : World} {g : Nat} {v : Ck} (h : RC w g v) (x : Int) : RC (w.setCell ⟨g, 1, none⟩ (.int .i64 x)) g { v with h := x } := by
  show (w.setCell ⟨g, 1, none⟩ (.int .i64 x)).heap[g]? = _
  rw [heap_setCell_same _ _ _ _ _ _ h]; rfl
theorem RC.set2 {w : World} {g : Nat} {v : Ck} (h : RC w g v) (x : Int) : RC (w.setCell ⟨g, 2, none⟩ (.int .i64 x)) g { v with t := x } := by
  show (w.setCell ⟨g, 2, none⟩ (.int .i64 x)).heap[g]? = _
  rw [heap_setCell_same _ _ _ _ _ _ h]; rfl
theorem RC.set3 {w : World} {g : Nat} {v : Ck} (h : RC w g v) (x : Int) : RC (w.setCell ⟨g, 3, none⟩ (.int .i64 x)) g { v with o := x } := by
  show (w.setCell ⟨g, 3, none⟩ (.int .i64 x)).heap[g]? = _
  rw [heap_setCell_same _ _ _ _ _ _ h]; rfl

/-- A nil clock, or one that no call made. -/
def NoC (w : World) (p : Value) : Prop := p = .pointer none ∨ ∃ g, p = .pointer (some ⟨g, 0, none⟩) ∧ w.cell? ⟨g, 0, none⟩ = some (.bool false)

theorem stands_ok (w : World) (g : Nat) (v : Ck) (h : OC w g v) : Calls Try.prog 19 #[.pointer (some ⟨g, 0, none⟩)] w fun e w' => e = .returned (.bool true) ∧ w' = w := by
  have c0 := h.c0
  clear h
  go_enter Try.func19, Try.ntmps19
  go_wp2
  go_ret
  exact ⟨rfl, rfl⟩
theorem stands_no (w : World) (p : Value) (h : NoC w p) : Calls Try.prog 19 #[p] w fun e w' => e = .returned (.bool false) ∧ w' = w := by
  rcases h with rfl | ⟨g, rfl, hc⟩
  · go_enter Try.func19, Try.ntmps19
    go_wp2
    go_ret
    exact ⟨rfl, rfl⟩
  · go_enter Try.func19, Try.ntmps19
    go_wp2
    go_ret
    exact ⟨rfl, rfl⟩
theorem now_ok (w : World) (g : Nat) (v : Ck) (h : OC w g v) : Calls Try.prog 16 #[.pointer (some ⟨g, 0, none⟩)] w fun e w' => e = .returned (.int .i64 v.t) ∧ w' = w := by
  have hs := stands_ok w g v h
  have c3 := h.c3
  clear h
  generalize v.t = m at *
  go_enter Try.func16, Try.ntmps16
  go_wp2_with fail
  refine hs.mono ?_
  rintro e w1 ⟨rfl, rfl⟩
  go_wp2
  go_ret
  exact ⟨rfl, rfl⟩
theorem hard_ok (w : World) (g : Nat) (v : Ck) (h : OC w g v) : Calls Try.prog 17 #[.pointer (some ⟨g, 0, none⟩)] w fun e w' => e = .returned (.int .i64 v.h) ∧ w' = w := by
  have hs := stands_ok w g v h
  have c3 := h.c2
  clear h
  generalize v.h = m at *
  go_enter Try.func17, Try.ntmps17
  go_wp2_with fail
  refine hs.mono ?_
  rintro e w1 ⟨rfl, rfl⟩
  go_wp2
  go_ret
  exact ⟨rfl, rfl⟩
theorem owed_ok (w : World) (g : Nat) (v : Ck) (h : OC w g v) : Calls Try.prog 18 #[.pointer (some ⟨g, 0, none⟩)] w fun e w' => e = .returned (.int .i64 v.o) ∧ w' = w := by
  have hs := stands_ok w g v h
  have c3 := h.c4
  clear h
  generalize v.o = m at *
  go_enter Try.func18, Try.ntmps18
  go_wp2_with fail
  refine hs.mono ?_
  rintro e w1 ⟨rfl, rfl⟩
  go_wp2
  go_ret
  exact ⟨rfl, rfl⟩
theorem now_no (w : World) (p : Value) (h : NoC w p) : Calls Try.prog 16 #[p] w fun e w' => e = .returned (.int .i64 0) ∧ w' = w := by
  have hs := stands_no w p h
  clear h
  go_enter Try.func16, Try.ntmps16
  go_wp2_with fail
  refine hs.mono ?_
  rintro e w1 ⟨rfl, rfl⟩
  go_wp2
  go_ret
  exact ⟨rfl, rfl⟩
theorem hard_no (w : World) (p : Value) (h : NoC w p) : Calls Try.prog 17 #[p] w fun e w' => e = .returned (.int .i64 0) ∧ w' = w := by
  have hs := stands_no w p h
  clear h
  go_enter Try.func17, Try.ntmps17
  go_wp2_with fail
  refine hs.mono ?_
  rintro e w1 ⟨rfl, rfl⟩
  go_wp2
  go_ret
  exact ⟨rfl, rfl⟩
theorem owed_no (w : World) (p : Value) (h : NoC w p) : Calls Try.prog 18 #[p] w fun e w' => e = .returned (.int .i64 0) ∧ w' = w := by
  have hs := stands_no w p h
  clear h
  go_enter Try.func18, Try.ntmps18
  go_wp2_with fail
  refine hs.mono ?_
  rintro e w1 ⟨rfl, rfl⟩
  go_wp2
  go_ret
  exact ⟨rfl, rfl⟩
theorem step_no (w : World) (p : Value) (h : NoC w p) (n : Int) : Calls Try.prog 10 #[p, .int .i64 n] w fun e w' => e = .returned (.int .i64 7) ∧ w' = w := by
  have hs := stands_no w p h
  clear h
  go_enter Try.func10, Try.ntmps10
  go_wp2_with fail
  refine hs.mono ?_
  rintro e w1 ⟨rfl, rfl⟩
  go_wp2
  go_ret
  exact ⟨rfl, rfl⟩
theorem adjust_no (w : World) (p : Value) (h : NoC w p) (n : Int) : Calls Try.prog 12 #[p, .int .i64 n] w fun e w' => e = .returned (.int .i64 7) ∧ w' = w := by
  have hs := stands_no w p h
  clear h
  go_enter Try.func12, Try.ntmps12
  go_wp2_with fail
  refine hs.mono ?_
  rintro e w1 ⟨rfl, rfl⟩
  go_wp2
  go_ret
  exact ⟨rfl, rfl⟩
theorem set_no (w : World) (p : Value) (h : NoC w p) (n : Int) : Calls Try.prog 14 #[p, .int .i64 n] w fun e w' => e = .returned (.int .i64 7) ∧ w' = w := by
  have hs := stands_no w p h
  clear h
  go_enter Try.func14, Try.ntmps14
  go_wp2_with fail
  refine hs.mono ?_
  rintro e w1 ⟨rfl, rfl⟩
  go_wp2
  go_ret
  exact ⟨rfl, rfl⟩

set_option maxHeartbeats 1600000 in
set_option maxRecDepth 20000 in
theorem zero_walk (n : Int) (w : World) (_hn : (Lit.int .i64 n).wf = true) : Calls Try.prog 6 #[.int .i64 n] w fun e w' => e = .returned (.bool true) ∧ Below w.heap.size w w' := by
  obtain ⟨W, hW⟩ : ∃ W, W = w.alloc (.cells #[.bool false, .int .i64 0, .int .i64 0, .int .i64 0, .int .i64 0] 45) := ⟨_, rfl⟩
  have hb : Below w.heap.size w W := by rw [hW]; exact (Below.refl _ _).alloc (Nat.le_refl _) _
  have hN : NoC W (.pointer none) := .inl rfl
  have hG : NoC W (.pointer (some ⟨w.heap.size, 0, none⟩)) := .inr ⟨_, rfl, by rw [hW]; exact cell_of_row _ _ 0 _ _ _ (heap_alloc_new w _)⟩
  go_enter Try.func6, Try.ntmps6
  go_wp2_with fail
  rw [← hW]
  clear hW
  refine (step_no W _ hN n).mono ?_
  rintro e w1 ⟨rfl, rfl⟩
  go_wp2_with fail
  refine (step_no w1 _ hG n).mono ?_
  rintro e w2 ⟨rfl, rfl⟩
  go_wp2_with fail
  refine (adjust_no w2 _ hN n).mono ?_
  rintro e w3 ⟨rfl, rfl⟩
  go_wp2_with fail
  refine (set_no w3 _ hG n).mono ?_
  rintro e w4 ⟨rfl, rfl⟩
  go_wp2_with fail
  refine (now_no w4 _ hN).mono ?_
  rintro e w5 ⟨rfl, rfl⟩
  go_wp2_with fail
  refine (hard_no w5 _ hG).mono ?_
  rintro e w6 ⟨rfl, rfl⟩
  go_wp2_with fail
  refine (owed_no w6 _ hN).mono ?_
  rintro e w7 ⟨rfl, rfl⟩
  go_wp2
  go_ret
  exact ⟨rfl, hb⟩
end Go.Proofs.Ytddapnceehmgcaa
